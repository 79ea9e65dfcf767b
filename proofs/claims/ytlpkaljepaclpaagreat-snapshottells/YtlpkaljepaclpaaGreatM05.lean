/- Contracts of package grid and of the document's answers beside it: what each returns, for every config, place and region; old memory stays. -/
import Derived.Test.YtlpkaljepaclpaaGreatM04
import Derived.Test.YtlpkaljepaclpaaGreatM01
import Derived.Below
import Derived.OwnWalk
import Derived.Deep.QuietTactic
import Derived.BigQuiet
import Derived.Deep.RegionWith
namespace Go.Proofs.YtlpkaljepaclpaaGreat.Fx
open Go.ChangeShapes Go.WideShapes Go.ChangeAt Go.RowKit
set_option linter.unusedVariables false
set_option maxRecDepth 100000

/-- May a config be? -/
def rt (a b p n : Int) : Bool := decide (1 ≤ a ∧ a ≤ 4 ∧ 1 ≤ b ∧ b ≤ 4 ∧ 1 ≤ p ∧ p ≤ 6 ∧ 1 ≤ n ∧ n ≤ 16)

theorem rt_bd {a b p n : Int} (h : rt a b p n = true) : 1 ≤ a ∧ a ≤ 4 ∧ 1 ≤ b ∧ b ≤ 4 ∧ 1 ≤ p ∧ p ≤ 6 ∧ 1 ≤ n ∧ n ≤ 16 := by
  simpa [rt] using h

def ut (v m : Int) : Bool := decide (1 ≤ v) && decide (v ≤ m)

theorem upTo_any (v m : Int) (w : World) :
    Calls Tryz.prog 94 #[.int .i64 v, .int .i64 m] w fun e w' => e = .returned (.bool (ut v m)) ∧ w = w' := by
  by_cases h1 : 1 ≤ v
  · by_cases h2 : v ≤ m
    · go_enter Tryz.func94, Tryz.ntmps94
      go_wp2
      go_ret
      exact ⟨by simp [ut, h1, h2], rfl⟩
    · have h3 : decide (v ≤ m) = false := by simpa using h2
      go_enter Tryz.func94, Tryz.ntmps94
      go_wp2
      go_ret
      exact ⟨by simp [ut, h1, h2], rfl⟩
  · have h3 : decide (1 ≤ v) = false := by simpa using h1
    go_enter Tryz.func94, Tryz.ntmps94
    go_wp2
    go_ret
    exact ⟨by simp [ut]; omega, rfl⟩

theorem rt_ut (a b p n : Int) : rt a b p n = (ut a 4 && (ut b 4 && (ut p 6 && ut n 16))) := by
  rw [Bool.eq_iff_iff]; simp [rt, ut]; omega

theorem told_any (a b p n s : Int) (w : World) :
    Calls Tryz.prog 48 #[.agg #[.int .i64 a, .int .i64 b, .int .i64 p, .int .i64 n, .int .u64 s]] w fun e w' => e = .returned (.bool (rt a b p n)) ∧ Below w.heap.size w w' := by
  have HR := Lib.hid (rt_ut a b p n)
  have H1 := Lib.hid (fun w => upTo_any a 4 w)
  have H2 := Lib.hid (fun w => upTo_any b 4 w)
  have H3 := Lib.hid (fun w => upTo_any p 6 w)
  have H4 := Lib.hid (fun w => upTo_any n 16 w)
  generalize rt a b p n = r at HR ⊢
  generalize ut a 4 = x1 at HR H1
  generalize ut b 4 = x2 at HR H2
  generalize ut p 6 = x3 at HR H3
  generalize ut n 16 = x4 at HR H4
  obtain rfl := HR.out
  clear HR
  cases x1
  · go_enter Tryz.func48, Tryz.ntmps48
    go_wp2_with fail
    refine (H1.out _).mono ?_
    rintro e w' ⟨rfl, rfl⟩
    go_wp2
    go_ret
    exact ⟨rfl, (Below.refl _ _).alloc (Nat.le_refl _) _⟩
  cases x2
  · go_enter Tryz.func48, Tryz.ntmps48
    go_wp2_with fail
    refine (H1.out _).mono ?_
    rintro e w' ⟨rfl, rfl⟩
    go_wp2_with fail
    refine (H2.out _).mono ?_
    rintro e w' ⟨rfl, rfl⟩
    go_wp2
    go_ret
    exact ⟨rfl, (Below.refl _ _).alloc (Nat.le_refl _) _⟩
  cases x3
  · go_enter Tryz.func48, Tryz.ntmps48
    go_wp2_with fail
    refine (H1.out _).mono ?_
    rintro e w' ⟨rfl, rfl⟩
    go_wp2_with fail
    refine (H2.out _).mono ?_
    rintro e w' ⟨rfl, rfl⟩
    go_wp2_with fail
    refine (H3.out _).mono ?_
    rintro e w' ⟨rfl, rfl⟩
    go_wp2
    go_ret
    exact ⟨rfl, (Below.refl _ _).alloc (Nat.le_refl _) _⟩
  · go_enter Tryz.func48, Tryz.ntmps48
    go_wp2_with fail
    refine (H1.out _).mono ?_
    rintro e w' ⟨rfl, rfl⟩
    go_wp2_with fail
    refine (H2.out _).mono ?_
    rintro e w' ⟨rfl, rfl⟩
    go_wp2_with fail
    refine (H3.out _).mono ?_
    rintro e w' ⟨rfl, rfl⟩
    go_wp2_with fail
    refine (H4.out _).mono ?_
    rintro e w' ⟨rfl, rfl⟩
    cases x4
    · go_wp2
      go_ret
      exact ⟨rfl, (Below.refl _ _).alloc (Nat.le_refl _) _⟩
    · go_wp2
      go_ret
      exact ⟨rfl, (Below.refl _ _).alloc (Nat.le_refl _) _⟩

/-- Regions' plain meaning. -/
def regs (a b p n : Int) : Int := if rt a b p n then a * b else 0

def wid (a b p n : Int) : Int := if rt a b p n then a * 1024 else 0

def hei (a b p n : Int) : Int := if rt a b p n then b * 1024 else 0

theorem mul_le4 {a b : Int} (h1 : 1 ≤ a) (h2 : a ≤ 4) (h3 : 1 ≤ b) (h4 : b ≤ 4) : 1 ≤ a * b ∧ a * b ≤ 16 := by
  have : a = 1 ∨ a = 2 ∨ a = 3 ∨ a = 4 := by omega
  rcases this with rfl | rfl | rfl | rfl <;> omega

theorem regions_any (a b p n s : Int) (w : World) :
    Calls Tryz.prog 41 #[.agg #[.int .i64 a, .int .i64 b, .int .i64 p, .int .i64 n, .int .u64 s]] w fun e w' => e = .returned (.int .i64 (regs a b p n)) ∧ Below w.heap.size w w' := by
  have HT := Lib.hid (fun w => told_any a b p n s w)
  by_cases h : rt a b p n = true
  · have hr : regs a b p n = a * b := by unfold regs; rw [if_pos h]
    rw [hr]
    have hb := rt_bd h
    rw [h] at HT
    have hm := mul_le4 hb.1 hb.2.1 hb.2.2.1 hb.2.2.2.1
    clear h hr
    go_enter Tryz.func41, Tryz.ntmps41
    go_wp2_with fail
    refine (HT.out _).mono ?_
    rintro e w1 ⟨rfl, hbw1⟩
    obtain ⟨hcw1, hfw1⟩ := bcell hbw1
    have hzw1 : w.heap.size < w1.heap.size := by have := hbw1.size; (try simp at this); omega
    have Hbw1 := Lib.hid hbw1
    clear hbw1
    go_wp2
    go_ret
    exact ⟨rfl, ((Below.refl _ _).alloc (Nat.le_refl _) _).trans (Hbw1.out.mono (by simp))⟩
  · have hr : regs a b p n = 0 := by unfold regs; rw [if_neg h]
    rw [hr]
    rw [Bool.not_eq_true] at h
    rw [h] at HT
    clear h hr
    go_enter Tryz.func41, Tryz.ntmps41
    go_wp2_with fail
    refine (HT.out _).mono ?_
    rintro e w1 ⟨rfl, hbw1⟩
    obtain ⟨hcw1, hfw1⟩ := bcell hbw1
    have hzw1 : w.heap.size < w1.heap.size := by have := hbw1.size; (try simp at this); omega
    have Hbw1 := Lib.hid hbw1
    clear hbw1
    go_wp2
    go_ret
    exact ⟨rfl, ((Below.refl _ _).alloc (Nat.le_refl _) _).trans (Hbw1.out.mono (by simp))⟩

theorem right_any (a b p n s : Int) (w : World) :
    Calls Tryz.prog 42 #[.agg #[.int .i64 a, .int .i64 b, .int .i64 p, .int .i64 n, .int .u64 s]] w fun e w' => e = .returned (.bool (rt a b p n)) ∧ Below w.heap.size w w' := by
  go_enter Tryz.func42, Tryz.ntmps42
  go_wp2
  all_goals go_ret
  all_goals refine ⟨?_, (Below.refl _ _).alloc (Nat.le_refl _) _⟩
  all_goals (refine ret_bool ?_; simp [rt]; omega)

theorem width_any (a b p n s : Int) (w : World) :
    Calls Tryz.prog 208 #[.agg #[.int .i64 a, .int .i64 b, .int .i64 p, .int .i64 n, .int .u64 s]] w fun e w' => e = .returned (.int .i64 (wid a b p n)) ∧ Below w.heap.size w w' := by
  have HT := Lib.hid (fun w => told_any a b p n s w)
  by_cases h : rt a b p n = true
  · have hr : wid a b p n = a * 1024 := by unfold wid; rw [if_pos h]
    rw [hr]
    have hb := rt_bd h
    rw [h] at HT
    have hm := mul_le4 hb.1 hb.2.1 hb.2.2.1 hb.2.2.2.1
    clear h hr
    go_enter Tryz.func208, Tryz.ntmps208
    go_wp2_with fail
    refine (HT.out _).mono ?_
    rintro e w1 ⟨rfl, hbw1⟩
    obtain ⟨hcw1, hfw1⟩ := bcell hbw1
    have hzw1 : w.heap.size < w1.heap.size := by have := hbw1.size; (try simp at this); omega
    have Hbw1 := Lib.hid hbw1
    clear hbw1
    go_wp2
    go_ret
    exact ⟨rfl, unbox Hbw1.out⟩
  · have hr : wid a b p n = 0 := by unfold wid; rw [if_neg h]
    rw [hr]
    rw [Bool.not_eq_true] at h
    rw [h] at HT
    clear h hr
    go_enter Tryz.func208, Tryz.ntmps208
    go_wp2_with fail
    refine (HT.out _).mono ?_
    rintro e w1 ⟨rfl, hbw1⟩
    obtain ⟨hcw1, hfw1⟩ := bcell hbw1
    have hzw1 : w.heap.size < w1.heap.size := by have := hbw1.size; (try simp at this); omega
    have Hbw1 := Lib.hid hbw1
    clear hbw1
    go_wp2
    go_ret
    exact ⟨rfl, unbox Hbw1.out⟩

theorem height_any (a b p n s : Int) (w : World) :
    Calls Tryz.prog 209 #[.agg #[.int .i64 a, .int .i64 b, .int .i64 p, .int .i64 n, .int .u64 s]] w fun e w' => e = .returned (.int .i64 (hei a b p n)) ∧ Below w.heap.size w w' := by
  have HT := Lib.hid (fun w => told_any a b p n s w)
  by_cases h : rt a b p n = true
  · have hr : hei a b p n = b * 1024 := by unfold hei; rw [if_pos h]
    rw [hr]
    have hb := rt_bd h
    rw [h] at HT
    have hm := mul_le4 hb.1 hb.2.1 hb.2.2.1 hb.2.2.2.1
    clear h hr
    go_enter Tryz.func209, Tryz.ntmps209
    go_wp2_with fail
    refine (HT.out _).mono ?_
    rintro e w1 ⟨rfl, hbw1⟩
    obtain ⟨hcw1, hfw1⟩ := bcell hbw1
    have hzw1 : w.heap.size < w1.heap.size := by have := hbw1.size; (try simp at this); omega
    have Hbw1 := Lib.hid hbw1
    clear hbw1
    go_wp2
    go_ret
    exact ⟨rfl, unbox Hbw1.out⟩
  · have hr : hei a b p n = 0 := by unfold hei; rw [if_neg h]
    rw [hr]
    rw [Bool.not_eq_true] at h
    rw [h] at HT
    clear h hr
    go_enter Tryz.func209, Tryz.ntmps209
    go_wp2_with fail
    refine (HT.out _).mono ?_
    rintro e w1 ⟨rfl, hbw1⟩
    obtain ⟨hcw1, hfw1⟩ := bcell hbw1
    have hzw1 : w.heap.size < w1.heap.size := by have := hbw1.size; (try simp at this); omega
    have Hbw1 := Lib.hid hbw1
    clear hbw1
    go_wp2
    go_ret
    exact ⟨rfl, unbox Hbw1.out⟩

theorem rregions_any (a b p n s : Int) (w : World) :
    Calls Tryz.prog 46 #[.agg #[.int .i64 a, .int .i64 b, .int .i64 p, .int .i64 n, .int .u64 s]] w fun e w' => e = .returned (.int .i64 (regs a b p n)) ∧ Below w.heap.size w w' := by
  have HT := Lib.hid (fun w => right_any a b p n s w)
  by_cases h : rt a b p n = true
  · have hr : regs a b p n = a * b := by unfold regs; rw [if_pos h]
    rw [hr]
    have hb := rt_bd h
    rw [h] at HT
    have hm := mul_le4 hb.1 hb.2.1 hb.2.2.1 hb.2.2.2.1
    clear h hr
    go_enter Tryz.func46, Tryz.ntmps46
    go_wp2_with fail
    refine (HT.out _).mono ?_
    rintro e w1 ⟨rfl, hbw1⟩
    obtain ⟨hcw1, hfw1⟩ := bcell hbw1
    have hzw1 : w.heap.size < w1.heap.size := by have := hbw1.size; (try simp at this); omega
    have Hbw1 := Lib.hid hbw1
    clear hbw1
    go_wp2
    go_ret
    exact ⟨rfl, unbox Hbw1.out⟩
  · have hr : regs a b p n = 0 := by unfold regs; rw [if_neg h]
    rw [hr]
    rw [Bool.not_eq_true] at h
    rw [h] at HT
    clear h hr
    go_enter Tryz.func46, Tryz.ntmps46
    go_wp2_with fail
    refine (HT.out _).mono ?_
    rintro e w1 ⟨rfl, hbw1⟩
    obtain ⟨hcw1, hfw1⟩ := bcell hbw1
    have hzw1 : w.heap.size < w1.heap.size := by have := hbw1.size; (try simp at this); omega
    have Hbw1 := Lib.hid hbw1
    clear hbw1
    go_wp2
    go_ret
    exact ⟨rfl, unbox Hbw1.out⟩

theorem wid_bd (a b p n : Int) : 0 ≤ wid a b p n ∧ wid a b p n ≤ 4096 := by
  unfold wid; split
  · have := rt_bd (by assumption); omega
  · omega

theorem hei_bd (a b p n : Int) : 0 ≤ hei a b p n ∧ hei a b p n ≤ 4096 := by
  unfold hei; split
  · have := rt_bd (by assumption); omega
  · omega

theorem regs_bd (a b p n : Int) : 0 ≤ regs a b p n ∧ regs a b p n ≤ 16 := by
  unfold regs; split
  · have hb := rt_bd (by assumption)
    have := mul_le4 hb.1 hb.2.1 hb.2.2.1 hb.2.2.2.1; omega
  · omega

/-- Inside's plain meaning. -/
def ins (a b p n x y : Int) : Bool := decide (0 ≤ x ∧ x < wid a b p n ∧ 0 ≤ y ∧ y < hei a b p n)

theorem inside_any (a b p n s x y : Int) (w : World) :
    Calls Tryz.prog 203 #[.agg #[.int .i64 a, .int .i64 b, .int .i64 p, .int .i64 n, .int .u64 s], .int .i64 x, .int .i64 y] w fun e w' => e = .returned (.bool (ins a b p n x y)) ∧ Below w.heap.size w w' := by
  have HW := Lib.hid (fun w => width_any a b p n s w)
  have HH := Lib.hid (fun w => height_any a b p n s w)
  have hd : ins a b p n x y = decide (0 ≤ x ∧ x < wid a b p n ∧ 0 ≤ y ∧ y < hei a b p n) := rfl
  have b1 := wid_bd a b p n
  have b2 := hei_bd a b p n
  rw [hd]
  clear hd
  generalize wid a b p n = W at *
  generalize hei a b p n = H at *
  by_cases h1 : 0 ≤ x
  · by_cases h2 : x < W
    · by_cases h3 : 0 ≤ y
      · go_enter Tryz.func203, Tryz.ntmps203
        go_wp2_with fail
        refine (HW.out _).mono ?_
        rintro e w1 ⟨rfl, hbw1⟩
        obtain ⟨hcw1, hfw1⟩ := bcell hbw1
        have hzw1 : w.heap.size < w1.heap.size := by have := hbw1.size; (try simp at this); omega
        have Hbw1 := Lib.hid hbw1
        clear hbw1
        go_wp2_with fail
        refine (HH.out _).mono ?_
        rintro e w2 ⟨rfl, hbw2⟩
        obtain ⟨hcw2, hfw2⟩ := bcell hbw2
        have hzw2 : w.heap.size < w2.heap.size := by have := hbw2.size; (try simp at this); omega
        have Hbw2 := Lib.hid hbw2
        clear hbw2
        go_wp2
        go_ret
        exact ⟨ret_bool (by simp <;> omega), unbox (Hbw1.out.trans (Hbw2.out.mono Hbw1.out.size))⟩
      · have h4 : decide (0 ≤ y) = false := by simpa using h3
        go_enter Tryz.func203, Tryz.ntmps203
        go_wp2_with fail
        refine (HW.out _).mono ?_
        rintro e w1 ⟨rfl, hbw1⟩
        obtain ⟨hcw1, hfw1⟩ := bcell hbw1
        have hzw1 : w.heap.size < w1.heap.size := by have := hbw1.size; (try simp at this); omega
        have Hbw1 := Lib.hid hbw1
        clear hbw1
        go_wp2
        go_ret
        exact ⟨ret_bool (by simp <;> omega), unbox Hbw1.out⟩
    · have h4 : decide (x < W) = false := by simpa using h2
      go_enter Tryz.func203, Tryz.ntmps203
      go_wp2_with fail
      refine (HW.out _).mono ?_
      rintro e w1 ⟨rfl, hbw1⟩
      obtain ⟨hcw1, hfw1⟩ := bcell hbw1
      have hzw1 : w.heap.size < w1.heap.size := by have := hbw1.size; (try simp at this); omega
      have Hbw1 := Lib.hid hbw1
      clear hbw1
      go_wp2
      go_ret
      exact ⟨ret_bool (by simp <;> omega), unbox Hbw1.out⟩
  · have h4 : decide (0 ≤ x) = false := by simpa using h1
    go_enter Tryz.func203, Tryz.ntmps203
    go_wp2
    go_ret
    exact ⟨ret_bool (by simp <;> omega), (Below.refl _ _).alloc (Nat.le_refl _) _⟩

theorem rinside_any (a b p n s x y : Int) (w : World) :
    Calls Tryz.prog 135 #[.agg #[.int .i64 a, .int .i64 b, .int .i64 p, .int .i64 n, .int .u64 s], .int .i64 x, .int .i64 y] w fun e w' => e = .returned (.bool (ins a b p n x y)) ∧ Below w.heap.size w w' := by
  have HT := Lib.hid (fun w => right_any a b p n s w)
  by_cases h : rt a b p n = true
  · have hr : ins a b p n x y = decide (0 ≤ x ∧ x < a * 1024 ∧ 0 ≤ y ∧ y < b * 1024) := by unfold ins wid hei; rw [if_pos h, if_pos h]
    rw [hr]
    have hb := rt_bd h
    rw [h] at HT
    clear h hr
    go_enter Tryz.func135, Tryz.ntmps135
    go_wp2_with fail
    refine (HT.out _).mono ?_
    rintro e w1 ⟨rfl, hbw1⟩
    obtain ⟨hcw1, hfw1⟩ := bcell hbw1
    have hzw1 : w.heap.size < w1.heap.size := by have := hbw1.size; (try simp at this); omega
    have Hbw1 := Lib.hid hbw1
    clear hbw1
    go_wp2
    all_goals go_ret
    all_goals exact ⟨ret_bool (by simp <;> omega), unbox Hbw1.out⟩
  · have hr : ins a b p n x y = false := by unfold ins wid hei; rw [if_neg h, if_neg h, decide_eq_false_iff_not]; omega
    rw [hr]
    rw [Bool.not_eq_true] at h
    rw [h] at HT
    clear h hr
    go_enter Tryz.func135, Tryz.ntmps135
    go_wp2_with fail
    refine (HT.out _).mono ?_
    rintro e w1 ⟨rfl, hbw1⟩
    obtain ⟨hcw1, hfw1⟩ := bcell hbw1
    have hzw1 : w.heap.size < w1.heap.size := by have := hbw1.size; (try simp at this); omega
    have Hbw1 := Lib.hid hbw1
    clear hbw1
    go_wp2
    go_ret
    exact ⟨rfl, unbox Hbw1.out⟩

theorem clamp_bd (v hi : Int) (h : 0 ≤ hi) : 0 ≤ clamp v 0 hi ∧ clamp v 0 hi ≤ hi := by unfold clamp; omega

/-- Of's plain meaning. -/
def ofr (a b p n x y : Int) : Int := if rt a b p n then clamp y 0 (b * 1024 - 1) / 1024 * a + clamp x 0 (a * 1024 - 1) / 1024 else 0

theorem mul_le3 {a v : Int} (h1 : 1 ≤ a) (h2 : a ≤ 4) (h3 : 0 ≤ v) (h4 : v ≤ 3) : 0 ≤ v * a ∧ v * a ≤ 12 := by
  have : v = 0 ∨ v = 1 ∨ v = 2 ∨ v = 3 := by omega
  rcases this with rfl | rfl | rfl | rfl <;> omega

theorem of_any (a b p n s x y : Int) (w : World) :
    Calls Tryz.prog 153 #[.agg #[.int .i64 a, .int .i64 b, .int .i64 p, .int .i64 n, .int .u64 s], .int .i64 x, .int .i64 y] w fun e w' => e = .returned (.int .i64 (ofr a b p n x y)) ∧ Below w.heap.size w w' := by
  have HT := Lib.hid (fun w => told_any a b p n s w)
  have HW := Lib.hid (fun w => width_any a b p n s w)
  have HH := Lib.hid (fun w => height_any a b p n s w)
  by_cases h : rt a b p n = true
  · have hr : ofr a b p n x y = clamp y 0 (b * 1024 - 1) / 1024 * a + clamp x 0 (a * 1024 - 1) / 1024 := by unfold ofr; rw [if_pos h]
    rw [hr]
    have hb := rt_bd h
    have hw : wid a b p n = a * 1024 := by unfold wid; rw [if_pos h]
    have hh : hei a b p n = b * 1024 := by unfold hei; rw [if_pos h]
    rw [h] at HT
    rw [hw] at HW
    rw [hh] at HH
    clear h hr hw hh
    have c1 := clamp_bd x (a * 1024 - 1) (by omega)
    have c2 := clamp_bd y (b * 1024 - 1) (by omega)
    have m := mul_le3 (a := a) (v := clamp y 0 (b * 1024 - 1) / 1024) hb.1 hb.2.1 (by omega) (by omega)
    have H1 := Lib.hid (fun w => clamp_any x 0 (a * 1024 - 1) w)
    have H2 := Lib.hid (fun w => clamp_any y 0 (b * 1024 - 1) w)
    generalize clamp x 0 (a * 1024 - 1) = cx at *
    generalize clamp y 0 (b * 1024 - 1) = cy at *
    go_enter Tryz.func153, Tryz.ntmps153
    go_wp2_with fail
    refine (HT.out _).mono ?_
    rintro e w1 ⟨rfl, hbw1⟩
    obtain ⟨hcw1, hfw1⟩ := bcell hbw1
    have hzw1 : w.heap.size < w1.heap.size := by have := hbw1.size; (try simp at this); omega
    have Hbw1 := Lib.hid hbw1
    clear hbw1
    go_wp2_with fail
    refine (HW.out _).mono ?_
    rintro e w2 ⟨rfl, hbw2⟩
    obtain ⟨hcw2, hfw2⟩ := bcell hbw2
    have hzw2 : w.heap.size < w2.heap.size := by have := hbw2.size; (try simp at this); omega
    have Hbw2 := Lib.hid hbw2
    clear hbw2
    go_wp2_with fail
    refine (H1.out _).mono ?_
    rintro e w' ⟨rfl, rfl⟩
    go_wp2_with fail
    refine (HH.out _).mono ?_
    rintro e w3 ⟨rfl, hbw3⟩
    obtain ⟨hcw3, hfw3⟩ := bcell hbw3
    have hzw3 : w.heap.size < w3.heap.size := by have := hbw3.size; (try simp at this); omega
    have Hbw3 := Lib.hid hbw3
    clear hbw3
    go_wp2_with fail
    refine (H2.out _).mono ?_
    rintro e w' ⟨rfl, rfl⟩
    go_wp2
    go_ret
    exact ⟨rfl, unbox ((Hbw1.out.trans (Hbw2.out.mono Hbw1.out.size)).trans (Hbw3.out.mono (Nat.le_trans Hbw1.out.size Hbw2.out.size)))⟩
  · have hr : ofr a b p n x y = 0 := by unfold ofr; rw [if_neg h]
    rw [hr]
    rw [Bool.not_eq_true] at h
    rw [h] at HT
    clear h hr
    go_enter Tryz.func153, Tryz.ntmps153
    go_wp2_with fail
    refine (HT.out _).mono ?_
    rintro e w1 ⟨rfl, hbw1⟩
    obtain ⟨hcw1, hfw1⟩ := bcell hbw1
    have hzw1 : w.heap.size < w1.heap.size := by have := hbw1.size; (try simp at this); omega
    have Hbw1 := Lib.hid hbw1
    clear hbw1
    go_wp2
    go_ret
    exact ⟨rfl, unbox Hbw1.out⟩

theorem rof_any (a b p n s x y : Int) (w : World) :
    Calls Tryz.prog 125 #[.agg #[.int .i64 a, .int .i64 b, .int .i64 p, .int .i64 n, .int .u64 s], .int .i64 x, .int .i64 y] w fun e w' => e = .returned (.int .i64 (ofr a b p n x y)) ∧ Below w.heap.size w w' := by
  have HT := Lib.hid (fun w => right_any a b p n s w)
  by_cases h : rt a b p n = true
  · have hr : ofr a b p n x y = clamp y 0 (b * 1024 - 1) / 1024 * a + clamp x 0 (a * 1024 - 1) / 1024 := by unfold ofr; rw [if_pos h]
    rw [hr]
    have hb := rt_bd h
    rw [h] at HT
    clear h hr
    have c1 := clamp_bd x (a * 1024 - 1) (by omega)
    have c2 := clamp_bd y (b * 1024 - 1) (by omega)
    have m := mul_le3 (a := a) (v := clamp y 0 (b * 1024 - 1) / 1024) hb.1 hb.2.1 (by omega) (by omega)
    have H1 := Lib.hid (fun w => rclamp_any x 0 (a * 1024 - 1) w)
    have H2 := Lib.hid (fun w => rclamp_any y 0 (b * 1024 - 1) w)
    generalize clamp x 0 (a * 1024 - 1) = cx at *
    generalize clamp y 0 (b * 1024 - 1) = cy at *
    go_enter Tryz.func125, Tryz.ntmps125
    go_wp2_with fail
    refine (HT.out _).mono ?_
    rintro e w1 ⟨rfl, hbw1⟩
    obtain ⟨hcw1, hfw1⟩ := bcell hbw1
    have hzw1 : w.heap.size < w1.heap.size := by have := hbw1.size; (try simp at this); omega
    have Hbw1 := Lib.hid hbw1
    clear hbw1
    have e1 : IntKind.i64.wrap (a * 1024) = a * 1024 := IntWalk.i64_in _ (by omega)
    have e2 : IntKind.i64.wrap (a * 1024 - 1) = a * 1024 - 1 := IntWalk.i64_in _ (by omega)
    have e3 : IntKind.i64.wrap (b * 1024) = b * 1024 := IntWalk.i64_in _ (by omega)
    have e4 : IntKind.i64.wrap (b * 1024 - 1) = b * 1024 - 1 := IntWalk.i64_in _ (by omega)
    go_wp2_with fail
    go_quiet (first | (go_at_call_of 186 (Value.int IntKind.i64 x); exact quiet_left (H1.out _)) | (go_at_call_of 186 (Value.int IntKind.i64 y); exact quiet_left (H2.out _)))
    clear e1 e2 e3 e4
    go_wp2
    go_ret
    exact ⟨rfl, below_drewN (unbox Hbw1.out) _⟩
  · have hr : ofr a b p n x y = 0 := by unfold ofr; rw [if_neg h]
    rw [hr]
    rw [Bool.not_eq_true] at h
    rw [h] at HT
    clear h hr
    go_enter Tryz.func125, Tryz.ntmps125
    go_wp2_with fail
    refine (HT.out _).mono ?_
    rintro e w1 ⟨rfl, hbw1⟩
    obtain ⟨hcw1, hfw1⟩ := bcell hbw1
    have hzw1 : w.heap.size < w1.heap.size := by have := hbw1.size; (try simp at this); omega
    have Hbw1 := Lib.hid hbw1
    clear hbw1
    go_wp2
    go_ret
    exact ⟨rfl, unbox Hbw1.out⟩

end Go.Proofs.YtlpkaljepaclpaaGreat.Fx
