/- Numbers in bytes: what a number's bytes are, plainly; contracts of folded, unfolded, withNumber. Small laws of lists: an element, what stands ahead, and behind. What is read of bytes, plainly; that what was written is read. -/
import Derived.Test.YtlpkaljepaclpaaM02
import Derived.Lib.MinMax
import Derived.LoopTactic
import Derived.Maps.AppendAt
import Derived.Deep.DeepMust
import Derived.Laws.Bits64b
namespace Go.Proofs.Ytlpkaljepaclpaa.Fx
open Go.ChangeShapes Go.WideShapes Go.ChangeAt Go.RowKit
set_option linter.unusedVariables false
set_option maxRecDepth 100000

/-- A number, held. -/
def hold (v : Int) : Int := max (-4611686018427387904) (min v 4611686018427387903)
/-- As a number from 0 on. -/
def zig (v : Int) : Int := if v < 0 then 2 * (-v - 1) + 1 else 2 * v
def zag (u : Int) : Int := if u % 2 = 1 then -(u / 2) - 1 else u / 2
/-- The bytes of a number from 0 on. -/
def num (u : Nat) : List Int := if u < 128 then [(u : Int)] else ((u % 128 + 128 : Nat) : Int) :: num (u / 128)
/-- The bytes of any number. -/
def nums (v : Int) : List Int := num (zig (hold v)).toNat
def numsL (l : List Int) : List Int := l.flatMap nums

def byC (x : Int) : List Value := [.int .u8 x]
/-- Bytes, each within its bounds. -/
def ByOk (l : List Int) : Prop := ∀ x ∈ l, 0 ≤ x ∧ x < 256

theorem byC_map (l : List Int) : l.flatMap byC = l.map (Value.int .u8) := by
  induction l with
  | nil => rfl
  | cons x l ih => rw [List.flatMap_cons, ih]; rfl

theorem hold_bd (v : Int) : -4611686018427387904 ≤ hold v ∧ hold v ≤ 4611686018427387903 := by unfold hold; omega
theorem hold_in {v : Int} (h : -4611686018427387904 ≤ v ∧ v ≤ 4611686018427387903) : hold v = v := by unfold hold; omega
theorem hold_min (v : Int) : min (max v (-4611686018427387904)) 4611686018427387903 = hold v := by unfold hold; omega
theorem zig_bd {v : Int} (h : -4611686018427387904 ≤ v ∧ v ≤ 4611686018427387903) : 0 ≤ zig v ∧ zig v ≤ 9223372036854775807 := by unfold zig; split <;> omega
theorem zag_zig (v : Int) : zag (zig v) = v := by unfold zag zig; split <;> split <;> omega

theorem num_lt {u : Nat} (h : u < 128) : num u = [(u : Int)] := by rw [num, if_pos h]
theorem num_ge {u : Nat} (h : 128 ≤ u) : num u = ((u % 128 + 128 : Nat) : Int) :: num (u / 128) := by rw [num, if_neg (by omega)]

theorem num_ok (u : Nat) : ByOk (num u) := by
  induction u using Nat.strongRecOn with
  | _ u ih =>
    by_cases h : u < 128
    · rw [num_lt h]; intro x hx; simp at hx; omega
    · rw [num_ge (by omega)]
      intro x hx
      rcases List.mem_cons.1 hx with rfl | hx
      · omega
      · exact ih (u / 128) (by omega) x hx

theorem num_le (k : Nat) : ∀ u, u < 128 ^ (k + 1) → (num u).length ≤ k + 1 := by
  induction k with
  | zero => intro u h; rw [num_lt (by simpa using h)]; simp
  | succ k ih =>
    intro u h
    by_cases hu : u < 128
    · rw [num_lt hu]; simp
    · rw [num_ge (by omega), List.length_cons]
      have := ih (u / 128) (by rw [Nat.pow_succ] at h; omega)
      omega

theorem num_pos (u : Nat) : 0 < (num u).length := by
  by_cases h : u < 128
  · rw [num_lt h]; simp
  · rw [num_ge (by omega)]; simp

theorem nums_len (v : Int) : 0 < (nums v).length ∧ (nums v).length ≤ 9 := by
  have h := zig_bd (hold_bd v)
  exact ⟨num_pos _, num_le 8 _ (by omega)⟩
theorem nums_ok (v : Int) : ByOk (nums v) := num_ok _

theorem info_u8 : (Try.prog.info? 5).map (fun i => (i.zero, i.size, i.bytes)) = some (some (.int .u8 0), 1, 1) := by kernel_rfl

theorem folded_by (x : Int) (w : World) (hx : -4611686018427387904 ≤ x ∧ x ≤ 4611686018427387903) :
    Calls Try.prog 88 #[.int .i64 x] w fun e w' => e = .returned (.int .i64 (zig x)) ∧ w = w' := by
  obtain ⟨h0, h1⟩ := hx
  go_enter Try.func88, Try.ntmps88
  by_cases hn : x < 0
  · go_wp2
    go_ret
    exact ⟨ret_int (by unfold zig; split <;> omega), rfl⟩
  · go_wp2
    go_ret
    exact ⟨ret_int (by unfold zig; split <;> omega), rfl⟩

theorem unfolded_by (u : Int) (w : World) (h0 : 0 ≤ u) (h1 : u ≤ 9223372036854775807) :
    Calls Try.prog 91 #[.int .i64 u] w fun e w' => e = .returned (.int .i64 (zag u)) ∧ w = w' := by
  go_enter Try.func91, Try.ntmps91
  by_cases hn : u % 2 = 1
  · go_wp2
    go_ret
    exact ⟨ret_int (by unfold zag; split <;> omega), rfl⟩
  · go_wp2
    go_ret
    exact ⟨ret_int (by unfold zag; split <;> omega), rfl⟩

/-- A row of bytes of the call's own. -/
def ownB (base : Nat) (w : World) (v : Value) (l : List Int) : Prop := w.ownsRow base 5 1 v l.length (l.map (Value.int .u8))
theorem ownB.nil (base : Nat) (w : World) : ownB base w (.slice none 0 0) [] := ⟨by simp, .inl ⟨rfl, rfl⟩⟩
theorem ownB.below {base : Nat} {w w' : World} {v : Value} {l : List Int} (h : ownB base w v l) (hb : Below w.heap.size w w') : ownB base w' v l := own_below h hb
theorem ownB.sl {base : Nat} {w : World} {v : Value} {l : List Int} (h : ownB base w v l) : IsSl byC w v l := owned_sl (enc := byC) (e := 5) (size := 1) (by rw [byC_map]; exact h)

set_option maxHeartbeats 4000000 in
theorem withnum_any (base : Nat) (v : Value) (l : List Int) (x : Int) (w : World) (hown : ownB base w v l) (hbase : base ≤ w.heap.size) (hl : l.length ≤ 100000000) :
    Calls Try.prog 66 #[v, .int .i64 x] w fun e w' => (∃ v', e = .returned v' ∧ ownB base w' v' (l ++ nums x)) ∧ Below base w w' := by
  obtain ⟨i0, Hi, Hz⟩ : ∃ i, Hid (Try.prog.info? 5 = some i) ∧ Hid (i.zero = some (.int .u8 0) ∧ i.size = 1 ∧ i.bytes = 1) := by
    have h := info_u8
    cases hi : Try.prog.info? 5 with
    | none => rw [hi] at h; simp at h
    | some i => rw [hi] at h; simp at h; exact ⟨i, rfl, h⟩
  have hh := hold_bd x
  have hm := hold_min x
  have hz := zig_bd hh
  have Hown := Lib.hid hown
  have Hl9 := Lib.hid (nums_len x).2
  have HN := Lib.hid (show nums x = num (zig (hold x)).toNat from rfl)
  generalize nums x = Nx at *
  clear hown
  go_enter Try.func66, Try.ntmps66
  go_wp2_with fail
  clear hm
  refine (folded_by _ _ hh).mono ?_
  rintro e w' ⟨rfl, rfl⟩
  obtain ⟨u, hu⟩ := Int.eq_ofNat_of_zero_le hz.1
  rw [hu] at HN hz ⊢
  clear hu hh
  have hu := hz.2
  clear hz
  go_wp2
  go_loopw [0, 5] (fun v i wr => ∃ (k : Nat) (r : List Int), k ≤ u ∧ i = .int .i64 k ∧ ownB base wr v (l ++ r) ∧ r ++ num k = Nx ∧ Below base w wr) (fun _ i _ => (intOf i).toNat)
  case atStart => exact ⟨u, [], Nat.le_refl _, rfl, by simpa using Hown.out, by rw [HN.out]; simp, Below.refl _ _⟩
  case round =>
    obtain ⟨k, r, hk, rfl, hown, hr, hbel⟩ := hrel
    have Hown2 := Lib.hid hown
    have Hbel := Lib.hid hbel
    have Hr := Lib.hid hr
    have hbs := hbel.size
    have hrl : r.length ≤ 9 := by have := congrArg List.length hr; simp at this; have := Hl9.out; omega
    clear hown hbel hr
    by_cases hlt : k < 128
    · have e1 : IntKind.u8.wrap (k : Int) = k := by rw [IntKind.wrap_u8]; omega
      have Hf := Lib.hid (num_lt hlt)
      go_wp2_with (at_builtin; go_must (refine append_int (by rfl) (.tmp 21) (.tmp 24) 37 (by rfl) base 5 .u8 i0 1 Try.underlying37 Hi.out Hz.out.1 Hz.out.2.1 Hz.out.2.2 (by omega) _ (l ++ r) Hown2.out k (by rfl) wr.heap.size 1 (by rfl) (by rfl) (by simp; omega) (by omega) ?_); intro v' w5 hown5 hb5)
      have HO5 := Lib.hid hown5
      have HB5 := Lib.hid (Hbel.out.trans hb5)
      clear hown5 hb5
      go_wp2
      go_ret
      refine ⟨⟨_, rfl, ?_⟩, HB5.out⟩
      have h := HO5.out
      rw [List.append_assoc, show r ++ [(k : Int)] = Nx by rw [← Hr.out, Hf.out]] at h
      exact h
    · have e1 : IntKind.u8.wrap ((k : Int) % 128 + 128) = (k : Int) % 128 + 128 := by rw [IntKind.wrap_u8]; omega
      have Hf := Lib.hid (num_ge (Nat.le_of_not_lt hlt))
      go_wp2_with (at_builtin; go_must (refine append_int (by rfl) (.tmp 14) (.tmp 19) 37 (by rfl) base 5 .u8 i0 1 Try.underlying37 Hi.out Hz.out.1 Hz.out.2.1 Hz.out.2.2 (by omega) _ (l ++ r) Hown2.out ((k : Int) % 128 + 128) (by rfl) wr.heap.size 1 (by rfl) (by rfl) (by simp; omega) (by omega) ?_); intro v' w5 hown5 hb5)
      have HO5 := Lib.hid hown5
      have HB5 := Lib.hid (Hbel.out.trans hb5)
      clear hown5 hb5
      go_wp2
      go_roundw
      case rel => exact ⟨k / 128, r ++ [(k : Int) % 128 + 128], by omega, by go_num, by have h := HO5.out; rw [List.append_assoc] at h; exact h, by rw [← Hr.out, Hf.out]; simp, HB5.out⟩
      case measure => simp [intOf]; omega

end Go.Proofs.Ytlpkaljepaclpaa.Fx
namespace Go.Proofs.Ytlpkaljepaclpaa.Fx

theorem drop_at {α : Type} {l : List α} {k : Nat} {x : α} (h : l[k]? = some x) : l.drop k = x :: l.drop (k + 1) := by
  obtain ⟨hk, rfl⟩ := List.getElem?_eq_some_iff.1 h
  exact List.drop_eq_getElem_cons hk

theorem take_at {α : Type} {l : List α} {k : Nat} {x : α} (h : l[k]? = some x) : l.take (k + 1) = l.take k ++ [x] := by
  obtain ⟨hk, rfl⟩ := List.getElem?_eq_some_iff.1 h
  simp

theorem getE {α : Type} (l : List α) (k n : Nat) (hn : l.length = n) (h : k < n) : ∃ x, l[k]? = some x := ⟨_, List.getElem?_eq_getElem (by omega)⟩

end Go.Proofs.Ytlpkaljepaclpaa.Fx
namespace Go.Proofs.Ytlpkaljepaclpaa.Fx
open Go.ChangeShapes Go.WideShapes Go.ChangeAt Go.RowKit
set_option linter.unusedVariables false
set_option maxRecDepth 100000

/-- How many bytes the number at the beginning has, or 0. -/
def nlen (l : List Int) : Nat := match l.findIdx? (fun c => decide (c < 128)) with | some k => k + 1 | none => 0
/-- The number of such bytes. -/
def numV : List Int → Int
  | [] => 0
  | x :: r => x % 128 + 128 * numV r

/-- A reader: what is left, and what is wrong. -/
structure Rd where
  l : List Int
  e : Int

def Rd.int (r : Rd) : Int × Rd :=
  if r.e ≠ 0 then (0, r)
  else if nlen r.l = 0 then (0, ⟨[], 5⟩)
  else if 9 < nlen r.l ∨ (1 < nlen r.l ∧ gi r.l (nlen r.l - 1) = 0) then (0, ⟨[], 4⟩)
  else (zag (numV (r.l.take (nlen r.l))), ⟨r.l.drop (nlen r.l), 0⟩)

def Rd.count (r : Rd) (most : Int) : Int × Rd :=
  if r.int.2.e = 0 ∧ (r.int.1 < 0 ∨ most < r.int.1) then (0, ⟨[], 4⟩) else r.int

def Rd.raw (r : Rd) : List Int × Rd :=
  if r.int.2.e ≠ 0 then ([], r.int.2)
  else if r.int.1 < 0 then ([], ⟨[], 4⟩)
  else if (r.int.2.l.length : Int) < r.int.1 then ([], ⟨[], 5⟩)
  else (r.int.2.l.take r.int.1.toNat, ⟨r.int.2.l.drop r.int.1.toNat, 0⟩)

theorem nlen_le (l : List Int) : nlen l ≤ l.length := by
  unfold nlen
  cases h : l.findIdx? (fun c => decide (c < 128)) with
  | none => simp
  | some k =>
    have := (List.findIdx?_eq_some_iff_findIdx_eq.1 h).1
    show k + 1 ≤ _
    omega

theorem nlen_lt {x : Int} {r : List Int} (h : x < 128) : nlen (x :: r) = 1 := by simp [nlen, List.findIdx?_cons, h]
theorem nlen_ge {x : Int} {r : List Int} (h : ¬ x < 128) (hr : nlen r ≠ 0) : nlen (x :: r) = nlen r + 1 := by
  unfold nlen at *
  rw [List.findIdx?_cons, if_neg (by simpa using h)]
  cases h : r.findIdx? (fun c => decide (c < 128)) with
  | none => rw [h] at hr; simp at hr
  | some k => simp

theorem nlen_num (u : Nat) (r : List Int) : nlen (num u ++ r) = (num u).length := by
  induction u using Nat.strongRecOn with
  | _ u ih =>
    by_cases h : u < 128
    · rw [num_lt h, List.singleton_append, nlen_lt (by omega)]; rfl
    · rw [num_ge (by omega), List.cons_append, nlen_ge (by omega) (by rw [ih _ (by omega)]; have := num_pos (u / 128); omega), ih _ (by omega), List.length_cons]

theorem numV_num (u : Nat) : numV (num u) = u := by
  induction u using Nat.strongRecOn with
  | _ u ih =>
    by_cases h : u < 128
    · rw [num_lt h]; simp only [numV]; omega
    · rw [num_ge (by omega)]; simp only [numV]; rw [ih _ (by omega)]; omega

/-- The last byte of a number that has several is not 0. -/
theorem num_last (u : Nat) (h : 128 ≤ u) (r : List Int) : gi (num u ++ r) ((num u).length - 1) ≠ 0 := by
  induction u using Nat.strongRecOn with
  | _ u ih =>
    rw [num_ge h, List.cons_append, List.length_cons, Nat.add_sub_cancel]
    have hp := num_pos (u / 128)
    rw [show (num (u / 128)).length = ((num (u / 128)).length - 1) + 1 by omega]
    show gi _ _ ≠ 0
    rw [show gi (((u % 128 + 128 : Nat) : Int) :: (num (u / 128) ++ r)) ((num (u / 128)).length - 1 + 1) = gi (num (u / 128) ++ r) ((num (u / 128)).length - 1) from by simp [gi]]
    by_cases h2 : 128 ≤ u / 128
    · exact ih _ (by omega) h2
    · rw [num_lt (by omega)]
      simp [gi]
      omega

theorem num_one {u : Nat} (h : 1 < (num u).length) : 128 ≤ u := by
  apply Nat.le_of_not_lt
  intro hu
  rw [num_lt hu] at h
  simp at h

/-- What was written is read. -/
theorem int_nums (v : Int) (r : List Int) : (Rd.mk (nums v ++ r) 0).int = (hold v, ⟨r, 0⟩) := by
  have h9 := nums_len v
  have hz := zig_bd (hold_bd v)
  unfold nums at h9 ⊢
  unfold Rd.int
  simp only [nlen_num]
  rw [if_neg (by simp), if_neg (by omega), if_neg, List.take_left' rfl, List.drop_left' rfl, numV_num, Int.toNat_of_nonneg hz.1, zag_zig]
  rintro (h | ⟨h1, h2⟩)
  · omega
  · exact num_last _ (num_one h1) r h2

theorem numV_snoc (l : List Int) (x : Int) : numV (l ++ [x]) = numV l + 128 ^ l.length * (x % 128) := by
  induction l with
  | nil => simp [numV]
  | cons y l ih => rw [List.cons_append]; simp only [numV]; rw [ih, List.length_cons, Int.pow_succ]; grind

theorem numV_bd (l : List Int) : 0 ≤ numV l ∧ numV l < 128 ^ l.length := by
  induction l with
  | nil => simp [numV]
  | cons x l ih => simp only [numV]; rw [List.length_cons, Int.pow_succ]; omega

theorem or_i64_nat (a b : Nat) (ha : a < 9223372036854775808) (hb : b < 9223372036854775808) : bits .or .i64 (a : Int) (b : Int) = ((a ||| b : Nat) : Int) := by
  have hx : a ||| b < 2 ^ 63 := Nat.or_lt_two_pow (by omega) (by omega)
  have h1 : (BitVec.ofInt 64 (a : Int)).toNat = a := by
    rw [BitVec.ofInt_natCast, BitVec.toNat_ofNat]; exact Nat.mod_eq_of_lt (by omega)
  have h2 : (BitVec.ofInt 64 (b : Int)).toNat = b := by
    rw [BitVec.ofInt_natCast, BitVec.toNat_ofNat]; exact Nat.mod_eq_of_lt (by omega)
  show IntKind.i64.wrap ((BitVec.ofInt 64 (a : Int) ||| BitVec.ofInt 64 (b : Int)).toNat : Int) = _
  rw [BitVec.toNat_or, h1, h2, IntKind.wrap_i64]
  omega

/-- Seven bits more. -/
theorem or_seven (k : Nat) (hk : k ≤ 8) (s d : Int) (hs : 0 ≤ s ∧ s < 128 ^ k) (hd : 0 ≤ d ∧ d < 128) : bits .or .i64 s (wrap64 (d * 2 ^ (7 * k))) = s + 128 ^ k * d := by
  obtain ⟨a, rfl⟩ := Int.eq_ofNat_of_zero_le hs.1
  obtain ⟨e, rfl⟩ := Int.eq_ofNat_of_zero_le hd.1
  have hp : (128 : Nat) ^ k = 2 ^ (7 * k) := by rw [Nat.pow_mul]
  have hpi : (128 : Int) ^ k = ((2 ^ (7 * k) : Nat) : Int) := by rw [← hp]; simp
  have hpj : (2 : Int) ^ (7 * k) = ((2 ^ (7 * k) : Nat) : Int) := by simp
  rw [hpi] at hs ⊢
  rw [hpj]
  have hle : 2 ^ (7 * k) ≤ 2 ^ 56 := Nat.pow_le_pow_right (by omega) (by omega)
  generalize hP : 2 ^ (7 * k) = p at *
  have he : e * p < 9223372036854775808 := by
    have : e * p ≤ 127 * 2 ^ 56 := Nat.mul_le_mul (by omega) hle
    omega
  have ha : a < p := by omega
  have hw : wrap64 ((e : Int) * (p : Int)) = ((e * p : Nat) : Int) := by
    rw [show (e : Int) * (p : Int) = ((e * p : Nat) : Int) by simp]
    exact IntWalk.wrap64_in _ (by omega)
  rw [hw, or_i64_nat a (e * p) (by omega) he, Nat.or_comm, show e * p = e <<< (7 * k) by rw [Nat.shiftLeft_eq, hP], ← Nat.shiftLeft_add_eq_or_of_lt (by rw [hP]; exact ha), Nat.shiftLeft_eq, hP]
  simp
  grind

end Go.Proofs.Ytlpkaljepaclpaa.Fx
