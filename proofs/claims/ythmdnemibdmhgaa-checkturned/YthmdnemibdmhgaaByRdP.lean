/- What is read of bytes, plainly; that what was written is read. -/
import Derived.Test.YthmdnemibdmhgaaByNum
import Derived.Test.YthmdnemibdmhgaaGLst
import Derived.Laws.Bits64b
namespace Go.Proofs.Ythmdnemibdmhgaa.Fx
open Go.ChangeShapes Go.WideShapes Go.ChangeAt Go.RowKit
set_option linter.unusedVariables false
set_option maxRecDepth 100000

/-- How many bytes the number at the beginning has, or 0. -/
def nlen (l : List Int) : Nat := match l.findIdx? (fun c => decide (c < 128)) with | some k => k + 1 | none => 0
/-- The number of such bytes. -/
def numV : List Int → Int
  | [] => 0
  | x :: r => x % 128 + 128 * numV r

/-- A reader: what is left, and what is wrong. -/
structure Rd where
  l : List Int
  e : Int

def Rd.int (r : Rd) : Int × Rd :=
  if r.e ≠ 0 then (0, r)
  else if nlen r.l = 0 then (0, ⟨[], 5⟩)
  else if 9 < nlen r.l ∨ (1 < nlen r.l ∧ gi r.l (nlen r.l - 1) = 0) then (0, ⟨[], 4⟩)
  else (zag (numV (r.l.take (nlen r.l))), ⟨r.l.drop (nlen r.l), 0⟩)

def Rd.count (r : Rd) (most : Int) : Int × Rd :=
  if r.int.2.e = 0 ∧ (r.int.1 < 0 ∨ most < r.int.1) then (0, ⟨[], 4⟩) else r.int

def Rd.raw (r : Rd) : List Int × Rd :=
  if r.int.2.e ≠ 0 then ([], r.int.2)
  else if r.int.1 < 0 then ([], ⟨[], 4⟩)
  else if (r.int.2.l.length : Int) < r.int.1 then ([], ⟨[], 5⟩)
  else (r.int.2.l.take r.int.1.toNat, ⟨r.int.2.l.drop r.int.1.toNat, 0⟩)

theorem nlen_le (l : List Int) : nlen l ≤ l.length := by
  unfold nlen
  cases h : l.findIdx? (fun c => decide (c < 128)) with
  | none => simp
  | some k =>
    have := (List.findIdx?_eq_some_iff_findIdx_eq.1 h).1
    show k + 1 ≤ _
    omega

theorem nlen_lt {x : Int} {r : List Int} (h : x < 128) : nlen (x :: r) = 1 := by simp [nlen, List.findIdx?_cons, h]
theorem nlen_ge {x : Int} {r : List Int} (h : ¬ x < 128) (hr : nlen r ≠ 0) : nlen (x :: r) = nlen r + 1 := by
  unfold nlen at *
  rw [List.findIdx?_cons, if_neg (by simpa using h)]
  cases h : r.findIdx? (fun c => decide (c < 128)) with
  | none => rw [h] at hr; simp at hr
  | some k => simp

theorem nlen_num (u : Nat) (r : List Int) : nlen (num u ++ r) = (num u).length := by
  induction u using Nat.strongRecOn with
  | _ u ih =>
    by_cases h : u < 128
    · rw [num_lt h, List.singleton_append, nlen_lt (by omega)]; rfl
    · rw [num_ge (by omega), List.cons_append, nlen_ge (by omega) (by rw [ih _ (by omega)]; have := num_pos (u / 128); omega), ih _ (by omega), List.length_cons]

theorem numV_num (u : Nat) : numV (num u) = u := by
  induction u using Nat.strongRecOn with
  | _ u ih =>
    by_cases h : u < 128
    · rw [num_lt h]; simp only [numV]; omega
    · rw [num_ge (by omega)]; simp only [numV]; rw [ih _ (by omega)]; omega

/-- The last byte of a number that has several is not 0. -/
theorem num_last (u : Nat) (h : 128 ≤ u) (r : List Int) : gi (num u ++ r) ((num u).length - 1) ≠ 0 := by
  induction u using Nat.strongRecOn with
  | _ u ih =>
    rw [num_ge h, List.cons_append, List.length_cons, Nat.add_sub_cancel]
    have hp := num_pos (u / 128)
    rw [show (num (u / 128)).length = ((num (u / 128)).length - 1) + 1 by omega]
    show gi _ _ ≠ 0
    rw [show gi (((u % 128 + 128 : Nat) : Int) :: (num (u / 128) ++ r)) ((num (u / 128)).length - 1 + 1) = gi (num (u / 128) ++ r) ((num (u / 128)).length - 1) from by simp [gi]]
    by_cases h2 : 128 ≤ u / 128
    · exact ih _ (by omega) h2
    · rw [num_lt (by omega)]
      simp [gi]
      omega

theorem num_one {u : Nat} (h : 1 < (num u).length) : 128 ≤ u := by
  apply Nat.le_of_not_lt
  intro hu
  rw [num_lt hu] at h
  simp at h

/-- What was written is read. -/
theorem int_nums (v : Int) (r : List Int) : (Rd.mk (nums v ++ r) 0).int = (hold v, ⟨r, 0⟩) := by
  have h9 := nums_len v
  have hz := zig_bd (hold_bd v)
  unfold nums at h9 ⊢
  unfold Rd.int
  simp only [nlen_num]
  rw [if_neg (by simp), if_neg (by omega), if_neg, List.take_left' rfl, List.drop_left' rfl, numV_num, Int.toNat_of_nonneg hz.1, zag_zig]
  rintro (h | ⟨h1, h2⟩)
  · omega
  · exact num_last _ (num_one h1) r h2

theorem raw_nums (b r : List Int) (hb : b.length ≤ 1000000) : (Rd.mk (nums b.length ++ b ++ r) 0).raw = (b, ⟨r, 0⟩) := by
  unfold Rd.raw
  rw [List.append_assoc, int_nums, hold_in (by omega)]
  simp only []
  rw [if_neg (by simp), if_neg (by omega), if_neg (by rw [List.length_append]; omega), Int.toNat_natCast, List.take_left' rfl, List.drop_left' rfl]

theorem numV_snoc (l : List Int) (x : Int) : numV (l ++ [x]) = numV l + 128 ^ l.length * (x % 128) := by
  induction l with
  | nil => simp [numV]
  | cons y l ih => rw [List.cons_append]; simp only [numV]; rw [ih, List.length_cons, Int.pow_succ]; grind

theorem numV_bd (l : List Int) : 0 ≤ numV l ∧ numV l < 128 ^ l.length := by
  induction l with
  | nil => simp [numV]
  | cons x l ih => simp only [numV]; rw [List.length_cons, Int.pow_succ]; omega

theorem or_i64_nat (a b : Nat) (ha : a < 9223372036854775808) (hb : b < 9223372036854775808) : bits .or .i64 (a : Int) (b : Int) = ((a ||| b : Nat) : Int) := by
  have hx : a ||| b < 2 ^ 63 := Nat.or_lt_two_pow (by omega) (by omega)
  have h1 : (BitVec.ofInt 64 (a : Int)).toNat = a := by
    rw [BitVec.ofInt_natCast, BitVec.toNat_ofNat]; exact Nat.mod_eq_of_lt (by omega)
  have h2 : (BitVec.ofInt 64 (b : Int)).toNat = b := by
    rw [BitVec.ofInt_natCast, BitVec.toNat_ofNat]; exact Nat.mod_eq_of_lt (by omega)
  show IntKind.i64.wrap ((BitVec.ofInt 64 (a : Int) ||| BitVec.ofInt 64 (b : Int)).toNat : Int) = _
  rw [BitVec.toNat_or, h1, h2, IntKind.wrap_i64]
  omega

/-- Seven bits more. -/
theorem or_seven (k : Nat) (hk : k ≤ 8) (s d : Int) (hs : 0 ≤ s ∧ s < 128 ^ k) (hd : 0 ≤ d ∧ d < 128) : bits .or .i64 s (wrap64 (d * 2 ^ (7 * k))) = s + 128 ^ k * d := by
  obtain ⟨a, rfl⟩ := Int.eq_ofNat_of_zero_le hs.1
  obtain ⟨e, rfl⟩ := Int.eq_ofNat_of_zero_le hd.1
  have hp : (128 : Nat) ^ k = 2 ^ (7 * k) := by rw [Nat.pow_mul]
  have hpi : (128 : Int) ^ k = ((2 ^ (7 * k) : Nat) : Int) := by rw [← hp]; simp
  have hpj : (2 : Int) ^ (7 * k) = ((2 ^ (7 * k) : Nat) : Int) := by simp
  rw [hpi] at hs ⊢
  rw [hpj]
  have hle : 2 ^ (7 * k) ≤ 2 ^ 56 := Nat.pow_le_pow_right (by omega) (by omega)
  generalize hP : 2 ^ (7 * k) = p at *
  have he : e * p < 9223372036854775808 := by
    have : e * p ≤ 127 * 2 ^ 56 := Nat.mul_le_mul (by omega) hle
    omega
  have ha : a < p := by omega
  have hw : wrap64 ((e : Int) * (p : Int)) = ((e * p : Nat) : Int) := by
    rw [show (e : Int) * (p : Int) = ((e * p : Nat) : Int) by simp]
    exact IntWalk.wrap64_in _ (by omega)
  rw [hw, or_i64_nat a (e * p) (by omega) he, Nat.or_comm, show e * p = e <<< (7 * k) by rw [Nat.shiftLeft_eq, hP], ← Nat.shiftLeft_add_eq_or_of_lt (by rw [hP]; exact ha), Nat.shiftLeft_eq, hP]
  simp
  grind

end Go.Proofs.Ythmdnemibdmhgaa.Fx
