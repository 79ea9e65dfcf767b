/- Contracts of package grid and of the document's answers beside it: what each returns, for every config, place and region; old memory stays. -/
import Derived.Test.YtfpofegfbinalaaFxLeaf
import Derived.Test.YtfpofegfbinalaaGBase
import Derived.Below
import Derived.OwnWalk
import Derived.Deep.QuietTactic
import Derived.BigQuiet
import Derived.Deep.RegionWith
namespace Go.Proofs.Ytfpofegfbinalaa.Fx
open Go.ChangeShapes Go.WideShapes Go.ChangeAt Go.RowKit
set_option linter.unusedVariables false
set_option maxRecDepth 100000

/-- May a config be? -/
def rt (a b p n : Int) : Bool := decide (1 ≤ a ∧ a ≤ 4 ∧ 1 ≤ b ∧ b ≤ 4 ∧ 1 ≤ p ∧ p ≤ 6 ∧ 1 ≤ n ∧ n ≤ 16)

theorem rt_bd {a b p n : Int} (h : rt a b p n = true) : 1 ≤ a ∧ a ≤ 4 ∧ 1 ≤ b ∧ b ≤ 4 ∧ 1 ≤ p ∧ p ≤ 6 ∧ 1 ≤ n ∧ n ≤ 16 := by
  simpa [rt] using h

theorem rt_no {a b p n : Int} (h : rt a b p n = false) : ¬ (1 ≤ a ∧ a ≤ 4 ∧ 1 ≤ b ∧ b ≤ 4 ∧ 1 ≤ p ∧ p ≤ 6 ∧ 1 ≤ n ∧ n ≤ 16) := by
  simpa [rt] using h

def ut (v m : Int) : Bool := decide (1 ≤ v) && decide (v ≤ m)

theorem upTo_any (v m : Int) (w : World) :
    Calls Try.prog 21 #[.int .i64 v, .int .i64 m] w fun e w' => e = .returned (.bool (ut v m)) ∧ w = w' := by
  by_cases h1 : 1 ≤ v
  · by_cases h2 : v ≤ m
    · go_enter Try.func21, Try.ntmps21
      go_wp2
      go_ret
      exact ⟨by simp [ut, h1, h2], rfl⟩
    · have h3 : decide (v ≤ m) = false := by simpa using h2
      go_enter Try.func21, Try.ntmps21
      go_wp2
      go_ret
      exact ⟨by simp [ut, h1, h2], rfl⟩
  · have h3 : decide (1 ≤ v) = false := by simpa using h1
    go_enter Try.func21, Try.ntmps21
    go_wp2
    go_ret
    exact ⟨by simp [ut]; omega, rfl⟩

theorem rt_ut (a b p n : Int) : rt a b p n = (ut a 4 && (ut b 4 && (ut p 6 && ut n 16))) := by
  rw [Bool.eq_iff_iff]; simp [rt, ut]; omega

theorem told_any (a b p n s : Int) (w : World) :
    Calls Try.prog 17 #[.agg #[.int .i64 a, .int .i64 b, .int .i64 p, .int .i64 n, .int .u64 s]] w fun e w' => e = .returned (.bool (rt a b p n)) ∧ Below w.heap.size w w' := by
  have HR := Lib.hid (rt_ut a b p n)
  have H1 := Lib.hid (fun w => upTo_any a 4 w)
  have H2 := Lib.hid (fun w => upTo_any b 4 w)
  have H3 := Lib.hid (fun w => upTo_any p 6 w)
  have H4 := Lib.hid (fun w => upTo_any n 16 w)
  generalize rt a b p n = r at HR ⊢
  generalize ut a 4 = x1 at HR H1
  generalize ut b 4 = x2 at HR H2
  generalize ut p 6 = x3 at HR H3
  generalize ut n 16 = x4 at HR H4
  obtain rfl := HR.out
  clear HR
  cases x1
  · go_enter Try.func17, Try.ntmps17
    go_wp2_with fail
    refine (H1.out _).mono ?_
    rintro e w' ⟨rfl, rfl⟩
    go_wp2
    go_ret
    exact ⟨rfl, (Below.refl _ _).alloc (Nat.le_refl _) _⟩
  cases x2
  · go_enter Try.func17, Try.ntmps17
    go_wp2_with fail
    refine (H1.out _).mono ?_
    rintro e w' ⟨rfl, rfl⟩
    go_wp2_with fail
    refine (H2.out _).mono ?_
    rintro e w' ⟨rfl, rfl⟩
    go_wp2
    go_ret
    exact ⟨rfl, (Below.refl _ _).alloc (Nat.le_refl _) _⟩
  cases x3
  · go_enter Try.func17, Try.ntmps17
    go_wp2_with fail
    refine (H1.out _).mono ?_
    rintro e w' ⟨rfl, rfl⟩
    go_wp2_with fail
    refine (H2.out _).mono ?_
    rintro e w' ⟨rfl, rfl⟩
    go_wp2_with fail
    refine (H3.out _).mono ?_
    rintro e w' ⟨rfl, rfl⟩
    go_wp2
    go_ret
    exact ⟨rfl, (Below.refl _ _).alloc (Nat.le_refl _) _⟩
  · go_enter Try.func17, Try.ntmps17
    go_wp2_with fail
    refine (H1.out _).mono ?_
    rintro e w' ⟨rfl, rfl⟩
    go_wp2_with fail
    refine (H2.out _).mono ?_
    rintro e w' ⟨rfl, rfl⟩
    go_wp2_with fail
    refine (H3.out _).mono ?_
    rintro e w' ⟨rfl, rfl⟩
    go_wp2_with fail
    refine (H4.out _).mono ?_
    rintro e w' ⟨rfl, rfl⟩
    cases x4
    · go_wp2
      go_ret
      exact ⟨rfl, (Below.refl _ _).alloc (Nat.le_refl _) _⟩
    · go_wp2
      go_ret
      exact ⟨rfl, (Below.refl _ _).alloc (Nat.le_refl _) _⟩

/-- Regions' plain meaning. -/
def regs (a b p n : Int) : Int := if rt a b p n then a * b else 0

def wid (a b p n : Int) : Int := if rt a b p n then a * 1024 else 0

def hei (a b p n : Int) : Int := if rt a b p n then b * 1024 else 0

theorem mul_le4 {a b : Int} (h1 : 1 ≤ a) (h2 : a ≤ 4) (h3 : 1 ≤ b) (h4 : b ≤ 4) : 1 ≤ a * b ∧ a * b ≤ 16 := by
  have : a = 1 ∨ a = 2 ∨ a = 3 ∨ a = 4 := by omega
  rcases this with rfl | rfl | rfl | rfl <;> omega

theorem regions_any (a b p n s : Int) (w : World) :
    Calls Try.prog 11 #[.agg #[.int .i64 a, .int .i64 b, .int .i64 p, .int .i64 n, .int .u64 s]] w fun e w' => e = .returned (.int .i64 (regs a b p n)) ∧ Below w.heap.size w w' := by
  have HT := Lib.hid (fun w => told_any a b p n s w)
  by_cases h : rt a b p n = true
  · have hr : regs a b p n = a * b := by unfold regs; rw [if_pos h]
    rw [hr]
    have hb := rt_bd h
    rw [h] at HT
    have hm := mul_le4 hb.1 hb.2.1 hb.2.2.1 hb.2.2.2.1
    clear h hr
    go_enter Try.func11, Try.ntmps11
    go_wp2_with fail
    refine (HT.out _).mono ?_
    rintro e w1 ⟨rfl, hbw1⟩
    obtain ⟨hcw1, hfw1⟩ := bcell hbw1
    have hzw1 : w.heap.size < w1.heap.size := by have := hbw1.size; (try simp at this); omega
    have Hbw1 := Lib.hid hbw1
    clear hbw1
    go_wp2
    go_ret
    exact ⟨rfl, ((Below.refl _ _).alloc (Nat.le_refl _) _).trans (Hbw1.out.mono (by simp))⟩
  · have hr : regs a b p n = 0 := by unfold regs; rw [if_neg h]
    rw [hr]
    rw [Bool.not_eq_true] at h
    rw [h] at HT
    clear h hr
    go_enter Try.func11, Try.ntmps11
    go_wp2_with fail
    refine (HT.out _).mono ?_
    rintro e w1 ⟨rfl, hbw1⟩
    obtain ⟨hcw1, hfw1⟩ := bcell hbw1
    have hzw1 : w.heap.size < w1.heap.size := by have := hbw1.size; (try simp at this); omega
    have Hbw1 := Lib.hid hbw1
    clear hbw1
    go_wp2
    go_ret
    exact ⟨rfl, ((Below.refl _ _).alloc (Nat.le_refl _) _).trans (Hbw1.out.mono (by simp))⟩

theorem right_any (a b p n s : Int) (w : World) :
    Calls Try.prog 8 #[.agg #[.int .i64 a, .int .i64 b, .int .i64 p, .int .i64 n, .int .u64 s]] w fun e w' => e = .returned (.bool (rt a b p n)) ∧ Below w.heap.size w w' := by
  go_enter Try.func8, Try.ntmps8
  go_wp2
  all_goals go_ret
  all_goals refine ⟨?_, (Below.refl _ _).alloc (Nat.le_refl _) _⟩
  all_goals (refine ret_bool ?_; simp [rt]; omega)

theorem wid_bd (a b p n : Int) : 0 ≤ wid a b p n ∧ wid a b p n ≤ 4096 := by
  unfold wid; split
  · have := rt_bd (by assumption); omega
  · omega

theorem hei_bd (a b p n : Int) : 0 ≤ hei a b p n ∧ hei a b p n ≤ 4096 := by
  unfold hei; split
  · have := rt_bd (by assumption); omega
  · omega

theorem regs_bd (a b p n : Int) : 0 ≤ regs a b p n ∧ regs a b p n ≤ 16 := by
  unfold regs; split
  · have hb := rt_bd (by assumption)
    have := mul_le4 hb.1 hb.2.1 hb.2.2.1 hb.2.2.2.1; omega
  · omega

/-- Inside's plain meaning. -/
def ins (a b p n x y : Int) : Bool := decide (0 ≤ x ∧ x < wid a b p n ∧ 0 ≤ y ∧ y < hei a b p n)

theorem clamp_bd (v hi : Int) (h : 0 ≤ hi) : 0 ≤ clamp v 0 hi ∧ clamp v 0 hi ≤ hi := by unfold clamp; omega

/-- Of's plain meaning. -/
def ofr (a b p n x y : Int) : Int := if rt a b p n then clamp y 0 (b * 1024 - 1) / 1024 * a + clamp x 0 (a * 1024 - 1) / 1024 else 0

theorem mul_le3 {a v : Int} (h1 : 1 ≤ a) (h2 : a ≤ 4) (h3 : 0 ≤ v) (h4 : v ≤ 3) : 0 ≤ v * a ∧ v * a ≤ 12 := by
  have : v = 0 ∨ v = 1 ∨ v = 2 ∨ v = 3 := by omega
  rcases this with rfl | rfl | rfl | rfl <;> omega

end Go.Proofs.Ytfpofegfbinalaa.Fx
