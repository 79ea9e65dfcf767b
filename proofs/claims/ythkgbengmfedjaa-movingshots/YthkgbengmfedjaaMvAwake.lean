/- awake of joustlaw07, and joustplay.Input: what they return; old memory stays. -/
import Derived.Test.YthkgbengmfedjaaMvSteer
import Derived.Test.YthkgbengmfedjaaMvShoot
import Derived.Test.YthkgbengmfedjaaGNum
import Derived.Test.YthkgbengmfedjaaGFldEntity
namespace Go.Proofs.Ythkgbengmfedjaa.Fx
open Go.ChangeShapes Go.WideShapes Go.ChangeAt Go.RowKit
set_option linter.unusedVariables false

theorem awake_mv (w : World) :
    Calls Try.prog 13 #[] w fun e w' => e = .returned (.bool true) ∧ Below w.heap.size w w' := by
  have H1 := Lib.hid (fun w => steer_any ⟨1, 1, 0, 0, 0, 0, 0, 0, 0⟩ 1 0 true w (by decide))
  rw [show steerE ⟨1, 1, 0, 0, 0, 0, 0, 0, 0⟩ 1 0 true = ⟨1, 1, 0, 0, 32, 0, 0, 6, 0⟩ by decide +kernel, show steerB ⟨1, 1, 0, 0, 0, 0, 0, 0, 0⟩ 1 0 true = true by decide +kernel] at H1
  have H2 := Lib.hid (fun w => shoot_any ⟨1, 1, 0, 0, 32, 0, 0, 6, 0⟩ 0 0 false 5 w)
  rw [show shootE ⟨1, 1, 0, 0, 32, 0, 0, 6, 0⟩ 0 0 5 = ⟨5, 2, 0, 0, 160, 0, 1, 0, 1⟩ by decide +kernel] at H2
  dsimp only at H1 H2
  go_enter Try.func13, Try.ntmps13
  go_wp2_with fail
  refine (H1.out _).mono ?_
  rintro e w1 ⟨rfl, hb1⟩
  have Hb1 := Lib.hid hb1
  clear hb1 H1
  go_wp2_with fail
  refine (H2.out _).mono ?_
  rintro e w2 ⟨rfl, hb2⟩
  have Hb2 := Lib.hid (nextW Hb1.out (unbox hb2))
  clear hb2 Hb1 H2
  go_wp2
  go_ret
  exact ⟨rfl, Hb2.out⟩

/-- An input that is right comes back. -/
def RetInp (f : Bool) (w : World) (e : Ending) (w' : World) : Prop := ∃ x y, e = .returned (.agg #[.int .i64 x, .int .i64 y, .bool f]) ∧ irt x y = true ∧ Below w.heap.size w w'

theorem umod5 (x : Int) : ∃ r : Int, wrap64 (wrap64 ((IntKind.u64.wrap x).tmod 5) - 2) = r ∧ -2 ≤ r ∧ r ≤ 2 := by
  refine ⟨_, rfl, ?_⟩
  obtain ⟨h1, h2, h3⟩ := umod x 5 (by decide) (by decide)
  rw [h1, IntWalk.wrap64_in _ (by omega)]
  omega

theorem pinput_any (x y : Int) (f : Bool) (w : World) :
    Calls Try.prog 18 #[.agg #[.int .i64 x, .int .i64 y, .bool f]] w (RetInp f w) := by
  have HT := Lib.hid (fun w => rinput_in x y f w)
  by_cases h : irt x y = true
  · have HS := Lib.hid h
    rw [h] at HT
    clear h
    go_enter Try.func18, Try.ntmps18
    go_wp2_with fail
    refine (HT.out _).mono ?_
    rintro e w1 ⟨rfl, hbw1⟩
    obtain ⟨hcw1, hfw1⟩ := bcell hbw1
    have hzw1 : w.heap.size < w1.heap.size := by have := hbw1.size; (try simp at this); omega
    have hzw1_1 : w.heap.size + 1 < w1.heap.size := by have := hbw1.size; (try simp at this); omega
    have Hbw1 := Lib.hid hbw1
    clear hbw1
    go_wp2
    refine bodyPost_ret (v := .agg #[.int .i64 x, .int .i64 y, .bool f]) (by simp [results, Try.results18, go_sem, hcw1]) rfl ⟨x, y, rfl, HS.out, ?_⟩
    exact (((unbox (unbox Hbw1.out)).setCell (Nat.le_succ _) _).setCell (Nat.le_succ _) _).setCell (Nat.le_succ _) _
  · rw [Bool.not_eq_true] at h
    rw [h] at HT
    clear h
    obtain ⟨r, e1, r1⟩ := umod5 x
    obtain ⟨q, e2, q1⟩ := umod5 y
    have HS := Lib.hid (show irt r q = true from decide_eq_true (by omega))
    have E1 := Lib.hid e1
    have E2 := Lib.hid e2
    clear e1 e2 r1 q1
    go_enter Try.func18, Try.ntmps18
    go_wp2_with fail
    refine (HT.out _).mono ?_
    rintro e w1 ⟨rfl, hbw1⟩
    obtain ⟨hcw1, hfw1⟩ := bcell hbw1
    have hzw1 : w.heap.size < w1.heap.size := by have := hbw1.size; (try simp at this); omega
    have hzw1_1 : w.heap.size + 1 < w1.heap.size := by have := hbw1.size; (try simp at this); omega
    have Hbw1 := Lib.hid hbw1
    clear hbw1
    go_wp2
    rw [E1.out, E2.out]
    refine bodyPost_ret (v := .agg #[.int .i64 r, .int .i64 q, .bool f]) (by simp [results, Try.results18, go_sem, hcw1]) rfl ⟨r, q, rfl, HS.out, ?_⟩
    exact (((unbox (unbox Hbw1.out)).setCell (Nat.le_succ _) _).setCell (Nat.le_succ _) _).setCell (Nat.le_succ _) _

end Go.Proofs.Ythkgbengmfedjaa.Fx
