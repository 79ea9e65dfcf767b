/- Contracts of grid.New and of the statements' Config: what each returns; old memory stays. -/
import Derived.Test.YtfpofegfbinalaaGreatM06
import Derived.Test.YtfpofegfbinalaaGreatM01
import Derived.Deep.RegionHeld3
namespace Go.Proofs.YtfpofegfbinalaaGreat.Fx
open Go.ChangeShapes Go.WideShapes Go.ChangeAt Go.RowKit
set_option linter.unusedVariables false
set_option maxRecDepth 100000

theorem new_yes (a b p n s : Int) (w : World) (h : rt a b p n = true) :
    Calls Tryz.prog 15 #[.agg #[.int .i64 a, .int .i64 b, .int .i64 p, .int .i64 n, .int .u64 s]] w fun e w' => e = .returned (.tuple #[.agg #[.int .i64 a, .int .i64 b, .int .i64 p, .int .i64 n, .int .u64 s], .int .i64 0]) ∧ Below w.heap.size w w' := by
  have HT := Lib.hid (fun w => told_any a b p n s w)
  rw [h] at HT
  clear h
  go_enter Tryz.func15, Tryz.ntmps15
  go_wp2_with fail
  refine (HT.out _).mono ?_
  rintro e w1 ⟨rfl, hbw1⟩
  obtain ⟨hcw1, hfw1⟩ := bcell hbw1
  have hzw1 : w.heap.size < w1.heap.size := by have := hbw1.size; (try simp at this); omega
  have hzw1_1 : w.heap.size + 1 < w1.heap.size := by have := hbw1.size; (try simp at this); omega
  have hzw1_2 : w.heap.size + 2 < w1.heap.size := by have := hbw1.size; (try simp at this); omega
  have Hbw1 := Lib.hid hbw1
  clear hbw1
  go_wp2
  refine bodyPost_ret (v := .tuple #[.agg #[.int .i64 a, .int .i64 b, .int .i64 p, .int .i64 n, .int .u64 s], .int .i64 0]) (by simp [results, Tryz.results15, go_sem, hcw1]) rfl ⟨rfl, ?_⟩
  exact (((((unbox (unbox (unbox Hbw1.out))).setCell (Nat.le_succ _) _).setCell (Nat.le_succ _) _).setCell (Nat.le_succ _) _).setCell (Nat.le_succ _) _).setCell (Nat.le_succ _) _

/-- A config that is right and not too great. -/
def Small (a b p n : Int) : Prop := rt a b p n = true ∧ a ≤ 3 ∧ b ≤ 3 ∧ p ≤ 4

/-- A config that is right and not too great comes back. -/
def RetSmall (s : Int) (w : World) (e : Ending) (w' : World) : Prop := ∃ a b p n, e = .returned (.agg #[.int .i64 a, .int .i64 b, .int .i64 p, .int .i64 n, .int .u64 s]) ∧ Small a b p n ∧ Below w.heap.size w w'

set_option maxHeartbeats 1000000 in
theorem config_any (a b p n s : Int) (w : World) :
    Calls Tryz.prog 8 #[.agg #[.int .i64 a, .int .i64 b, .int .i64 p, .int .i64 n, .int .u64 s]] w (RetSmall s w) := by
  have HT := Lib.hid (fun w => right_any a b p n s w)
  by_cases h : rt a b p n = true ∧ a ≤ 3 ∧ b ≤ 3 ∧ p ≤ 4
  · have HS := Lib.hid (show Small a b p n from h)
    obtain ⟨h, h1, h2, h3⟩ := h
    rw [h] at HT
    clear h
    go_enter Tryz.func8, Tryz.ntmps8
    go_wp2_with fail
    refine (HT.out _).mono ?_
    rintro e w1 ⟨rfl, hbw1⟩
    obtain ⟨hcw1, hfw1⟩ := bcell hbw1
    have hzw1 : w.heap.size < w1.heap.size := by have := hbw1.size; (try simp at this); omega
    have hzw1_1 : w.heap.size + 1 < w1.heap.size := by have := hbw1.size; (try simp at this); omega
    have Hbw1 := Lib.hid hbw1
    clear hbw1
    go_wp2
    refine bodyPost_ret (v := .agg #[.int .i64 a, .int .i64 b, .int .i64 p, .int .i64 n, .int .u64 s]) (by simp [results, Tryz.results8, go_sem, hcw1]) rfl ⟨a, b, p, n, rfl, HS.out, ?_⟩
    exact (((((unbox (unbox Hbw1.out)).setCell (Nat.le_succ _) _).setCell (Nat.le_succ _) _).setCell (Nat.le_succ _) _).setCell (Nat.le_succ _) _).setCell (Nat.le_succ _) _
  · have HS : ∃ a' b' p' n', wrap64 (1 + wrap64 ((IntKind.u64.wrap a).tmod 3)) = a' ∧ wrap64 (1 + wrap64 ((IntKind.u64.wrap b).tmod 3)) = b' ∧ wrap64 (1 + wrap64 ((IntKind.u64.wrap p).tmod 4)) = p' ∧ wrap64 (1 + wrap64 ((IntKind.u64.wrap n).tmod 8)) = n' ∧ Small a' b' p' n' := by
      refine ⟨_, _, _, _, rfl, rfl, rfl, rfl, ?_⟩
      have m1 := umod1 a 3 (by decide) (by decide)
      have m2 := umod1 b 3 (by decide) (by decide)
      have m3 := umod1 p 4 (by decide) (by decide)
      have m4 := umod1 n 8 (by decide) (by decide)
      refine ⟨by unfold rt; exact decide_eq_true (by omega), by omega, by omega, by omega⟩
    obtain ⟨a', b', p', n', e1, e2, e3, e4, hs⟩ := HS
    have HS := Lib.hid hs
    have E1 := Lib.hid e1
    have E2 := Lib.hid e2
    have E3 := Lib.hid e3
    have E4 := Lib.hid e4
    clear hs e1 e2 e3 e4
    cases hrt : rt a b p n
    · rw [hrt] at HT
      clear hrt h
      go_enter Tryz.func8, Tryz.ntmps8
      go_wp2_with fail
      refine (HT.out _).mono ?_
      rintro e w1 ⟨rfl, hbw1⟩
      obtain ⟨hcw1, hfw1⟩ := bcell hbw1
      have hzw1 : w.heap.size < w1.heap.size := by have := hbw1.size; (try simp at this); omega
      have hzw1_1 : w.heap.size + 1 < w1.heap.size := by have := hbw1.size; (try simp at this); omega
      have Hbw1 := Lib.hid hbw1
      clear hbw1
      go_wp2
      rw [E1.out, E2.out, E3.out, E4.out]
      refine bodyPost_ret (v := .agg #[.int .i64 a', .int .i64 b', .int .i64 p', .int .i64 n', .int .u64 s]) (by simp [results, Tryz.results8, go_sem, hcw1]) rfl ⟨a', b', p', n', rfl, HS.out, ?_⟩
      exact (((((unbox (unbox Hbw1.out)).setCell (Nat.le_succ _) _).setCell (Nat.le_succ _) _).setCell (Nat.le_succ _) _).setCell (Nat.le_succ _) _).setCell (Nat.le_succ _) _
    · rw [hrt] at HT
      have H := Lib.hid (fun h' : a ≤ 3 ∧ b ≤ 3 ∧ p ≤ 4 => h ⟨hrt, h'⟩)
      clear hrt h
      go_enter Tryz.func8, Tryz.ntmps8
      go_wp2_with fail
      refine (HT.out _).mono ?_
      rintro e w1 ⟨rfl, hbw1⟩
      obtain ⟨hcw1, hfw1⟩ := bcell hbw1
      have hzw1 : w.heap.size < w1.heap.size := by have := hbw1.size; (try simp at this); omega
      have hzw1_1 : w.heap.size + 1 < w1.heap.size := by have := hbw1.size; (try simp at this); omega
      have Hbw1 := Lib.hid hbw1
      clear hbw1
      go_wp2
      all_goals first | (exfalso; exact H.out ⟨by omega, by omega, by omega⟩) | skip
      all_goals
        rw [E1.out, E2.out, E3.out, E4.out]
        refine bodyPost_ret (v := .agg #[.int .i64 a', .int .i64 b', .int .i64 p', .int .i64 n', .int .u64 s]) (by simp [results, Tryz.results8, go_sem, hcw1]) rfl ⟨a', b', p', n', rfl, HS.out, ?_⟩
        exact (((((unbox (unbox Hbw1.out)).setCell (Nat.le_succ _) _).setCell (Nat.le_succ _) _).setCell (Nat.le_succ _) _).setCell (Nat.le_succ _) _).setCell (Nat.le_succ _) _

end Go.Proofs.YtfpofegfbinalaaGreat.Fx
