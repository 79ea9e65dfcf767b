/- Contracts of package grid over regions (Corner, Near, New), and of the document's beside it. -/
import Derived.Deep.Onto
import Derived.Test.YtfpofegfbinalaaGrLeaf
import Derived.Maps.AppendAt
import Derived.Deep.DeepMust
namespace Go.Proofs.Ytfpofegfbinalaa.Fx
open Go.ChangeShapes Go.WideShapes Go.ChangeAt Go.RowKit
set_option linter.unusedVariables false
set_option maxRecDepth 100000

/-- Is there a region r? -/
def hasB (a b p n r : Int) : Bool := decide (0 ≤ r ∧ r < regs a b p n)

theorem has_any (a b p n s r : Int) (w : World) :
    Calls Try.prog 22 #[.agg #[.int .i64 a, .int .i64 b, .int .i64 p, .int .i64 n, .int .u64 s], .int .i64 r] w fun e w' => e = .returned (.bool (hasB a b p n r)) ∧ Below w.heap.size w w' := by
  have HW := Lib.hid (fun w => regions_any a b p n s w)
  have hd : hasB a b p n r = decide (0 ≤ r ∧ r < regs a b p n) := rfl
  have b1 := regs_bd a b p n
  rw [hd]
  clear hd
  generalize regs a b p n = R at *
  by_cases h1 : 0 ≤ r
  · go_enter Try.func22, Try.ntmps22
    go_wp2_with fail
    refine (HW.out _).mono ?_
    rintro e w1 ⟨rfl, hbw1⟩
    obtain ⟨hcw1, hfw1⟩ := bcell hbw1
    have hzw1 : w.heap.size < w1.heap.size := by have := hbw1.size; (try simp at this); omega
    have Hbw1 := Lib.hid hbw1
    clear hbw1
    go_wp2
    go_ret
    exact ⟨ret_bool (by simp <;> omega), unbox Hbw1.out⟩
  · have h4 : decide (0 ≤ r) = false := by simpa using h1
    go_enter Try.func22, Try.ntmps22
    go_wp2
    go_ret
    exact ⟨ret_bool (by simp <;> omega), (Below.refl _ _).alloc (Nat.le_refl _) _⟩

theorem place_any (a b p n s r : Int) (w : World) (h0 : 0 ≤ r) (h1 : r ≤ 1000) (ha : 1 ≤ a) (ha4 : a ≤ 4) :
    Calls Try.prog 23 #[.agg #[.int .i64 a, .int .i64 b, .int .i64 p, .int .i64 n, .int .u64 s], .int .i64 r] w fun e w' => e = .returned (.tuple #[.int .i64 (r % a), .int .i64 (r / a)]) ∧ Below w.heap.size w w' := by
  have hz : (a == 0) = false := beq_eq_false_iff_ne.2 (by omega)
  have hz2 : ¬ a = 0 := by omega
  go_enter Try.func23, Try.ntmps23
  go_wp2_with fail
  go_quiet (fail)
  go_wp2
  go_ret2
  exact ⟨rfl, below_drewN ((Below.refl _ _).alloc (Nat.le_refl _) _) _⟩

theorem hasB_rt {a b p n r : Int} (h : hasB a b p n r = true) : rt a b p n = true ∧ 0 ≤ r ∧ r < a * b ∧ 1 ≤ a ∧ a ≤ 4 ∧ 1 ≤ b ∧ b ≤ 4 ∧ 0 ≤ r % a ∧ r % a ≤ 3 ∧ 0 ≤ r / a ∧ r / a ≤ 3 ∧ r ≤ 15 := by
  have h' : 0 ≤ r ∧ r < regs a b p n := by simpa [hasB] using h
  unfold regs at h'
  by_cases hr : rt a b p n = true
  · rw [if_pos hr] at h'
    have hb := rt_bd hr
    have hm := mul_le4 hb.1 hb.2.1 hb.2.2.1 hb.2.2.2.1
    refine ⟨hr, h'.1, h'.2, hb.1, hb.2.1, hb.2.2.1, hb.2.2.2.1, ?_⟩
    have : a = 1 ∨ a = 2 ∨ a = 3 ∨ a = 4 := by omega
    rcases this with rfl | rfl | rfl | rfl <;> omega
  · rw [if_neg hr] at h'
    omega

/-- Corner's plain meaning. -/
def crx (a b p n r : Int) : Int := if hasB a b p n r then r % a * 1024 else 0

def cry (a b p n r : Int) : Int := if hasB a b p n r then r / a * 1024 else 0

theorem corner_any (a b p n s r : Int) (w : World) :
    Calls Try.prog 18 #[.agg #[.int .i64 a, .int .i64 b, .int .i64 p, .int .i64 n, .int .u64 s], .int .i64 r] w fun e w' => e = .returned (.tuple #[.int .i64 (crx a b p n r), .int .i64 (cry a b p n r)]) ∧ Below w.heap.size w w' := by
  have HT := Lib.hid (fun w => has_any a b p n s r w)
  by_cases h : hasB a b p n r = true
  · have hx : crx a b p n r = r % a * 1024 := by unfold crx; rw [if_pos h]
    have hy : cry a b p n r = r / a * 1024 := by unfold cry; rw [if_pos h]
    rw [hx, hy]
    obtain ⟨-, h0, h1, ha, ha4, hb, hb4, m0, m3, d0, d3, h15⟩ := hasB_rt h
    rw [h] at HT
    clear h hx hy
    have HP := Lib.hid (fun w => place_any a b p n s r w h0 (by omega) ha ha4)
    generalize r % a = x at *
    generalize r / a = y at *
    go_enter Try.func18, Try.ntmps18
    go_wp2_with fail
    refine (HT.out _).mono ?_
    rintro e w1 ⟨rfl, hbw1⟩
    obtain ⟨hcw1, hfw1⟩ := bcell hbw1
    have hzw1 : w.heap.size < w1.heap.size := by have := hbw1.size; (try simp at this); omega
    have Hbw1 := Lib.hid hbw1
    clear hbw1
    go_wp2_with fail
    refine (HP.out _).mono ?_
    rintro e w2 ⟨rfl, hbw2⟩
    obtain ⟨hcw2, hfw2⟩ := bcell hbw2
    have hzw2 : w.heap.size < w2.heap.size := by have := hbw2.size; (try simp at this); omega
    have Hbw2 := Lib.hid hbw2
    clear hbw2
    go_wp2
    go_ret2
    exact ⟨rfl, unbox (Hbw1.out.trans (Hbw2.out.mono Hbw1.out.size))⟩
  · have hx : crx a b p n r = 0 := by unfold crx; rw [if_neg h]
    have hy : cry a b p n r = 0 := by unfold cry; rw [if_neg h]
    rw [hx, hy]
    rw [Bool.not_eq_true] at h
    rw [h] at HT
    clear h hx hy
    go_enter Try.func18, Try.ntmps18
    go_wp2_with fail
    refine (HT.out _).mono ?_
    rintro e w1 ⟨rfl, hbw1⟩
    obtain ⟨hcw1, hfw1⟩ := bcell hbw1
    have hzw1 : w.heap.size < w1.heap.size := by have := hbw1.size; (try simp at this); omega
    have Hbw1 := Lib.hid hbw1
    clear hbw1
    go_wp2
    go_ret2
    exact ⟨rfl, unbox Hbw1.out⟩

/-- Are two regions near? -/
def nearB (a r o : Int) : Bool := decide (-1 ≤ o % a - r % a ∧ o % a - r % a ≤ 1 ∧ -1 ≤ o / a - r / a ∧ o / a - r / a ≤ 1)

/-- The near ones among the first k. -/
def nrTo (a r : Int) : Nat → List Int
  | 0 => []
  | k + 1 => nrTo a r k ++ if nearB a r k then [(k : Int)] else []

theorem nrTo_len (a r : Int) (k : Nat) : (nrTo a r k).length ≤ k := by
  induction k with
  | zero => exact Nat.le_refl _
  | succ k ih => unfold nrTo; split <;> simp <;> omega

/-- Near's plain meaning. -/
def nr (a b p n r : Int) : List Int := if hasB a b p n r then nrTo a r (a * b).toNat else []

/-- A slice of integers comes back. -/
def RetInts (l : List Int) (w : World) (e : Ending) (w' : World) : Prop := ∃ A c, e = .returned (.slice A l.length c) ∧ IntsAt w' A l.length l ∧ Below w.heap.size w w'

theorem far_near (x y u v : Int) (hx : 0 ≤ x ∧ x ≤ 3) (hy : 0 ≤ y ∧ y ≤ 3) (hu : 0 ≤ u ∧ u ≤ 3) (hv : 0 ≤ v ∧ v ≤ 3) : far x y u v ≤ 1 ↔ (-1 ≤ u - x ∧ u - x ≤ 1 ∧ -1 ≤ v - y ∧ v - y ≤ 1) := by
  simp only [far, sub, held]; omega

theorem far_bd (x y u v : Int) : 0 ≤ far x y u v ∧ far x y u v ≤ 2147483647 := by
  have h1 : -2147483647 ≤ sub x u ∧ sub x u ≤ 2147483647 := held_bd _
  have h2 : -2147483647 ≤ sub y v ∧ sub y v ≤ 2147483647 := held_bd _
  unfold far; omega

end Go.Proofs.Ytfpofegfbinalaa.Fx
