/- Contracts of the small functions of package fixed, and of the document's answers beside it: what each returns, for every input; none of them turns the world. -/
import Derived.Test.YtmibaimgapchjaaRows
import Derived.WalkKit
import Derived.ProofKit
import Derived.OpenShut
import Derived.Lib.Hide
namespace Go.Proofs.Ytmibaimgapchjaa.Fx
open Go.ChangeShapes Go.WideShapes Go.ChangeAt Go.RowKit

theorem ret_int {k : IntKind} {a b : Int} (h : a = b) : Ending.returned (.int k a) = .returned (.int k b) := by rw [h]

/-- Clamp's plain meaning. -/
def clamp (v lo hi : Int) : Int := if v < lo then lo else if hi < v then hi else v
/-- Held's plain meaning. -/
def held (v : Int) : Int := if v < -2147483647 then -2147483647 else if 2147483647 < v then 2147483647 else v
theorem held_bd (v : Int) : -2147483647 ≤ held v ∧ held v ≤ 2147483647 := by unfold held; omega
theorem held_id (v : Int) (h1 : -2147483647 ≤ v) (h2 : v ≤ 2147483647) : held v = v := by unfold held; omega
def sub (a b : Int) : Int := held (held a - held b)
def scale (v n d : Int) : Int := held ((held v * held n).tdiv (held d))
def far (ax ay bx b_y : Int) : Int := max (max (sub ax bx) (-(sub ax bx))) (max (sub ay b_y) (-(sub ay b_y)))

theorem clamp_any (v lo hi : Int) (w : World) :
    Calls Try.prog 19 #[.int .i64 v, .int .i64 lo, .int .i64 hi] w fun e w' => e = .returned (.int .i64 (clamp v lo hi)) ∧ w = w' := by
  by_cases h1 : v < lo
  · go_enter Try.func19, Try.ntmps19
    go_wp2
    go_ret
    exact ⟨ret_int (by unfold clamp; omega), rfl⟩
  · by_cases h2 : hi < v
    · go_enter Try.func19, Try.ntmps19
      go_wp2
      go_ret
      exact ⟨ret_int (by unfold clamp; omega), rfl⟩
    · go_enter Try.func19, Try.ntmps19
      go_wp2
      go_ret
      exact ⟨ret_int (by unfold clamp; omega), rfl⟩

theorem held_any (v : Int) (w : World) :
    Calls Try.prog 13 #[.int .i64 v] w fun e w' => e = .returned (.int .i64 (held v)) ∧ w = w' := by
  go_enter Try.func13, Try.ntmps13
  go_wp2_with (go_at_call 19; refine (clamp_any _ _ _ _).mono ?_; rintro e w' ⟨rfl, rfl⟩)
  go_ret
  exact ⟨rfl, rfl⟩

theorem sub_any (a b : Int) (w : World) :
    Calls Try.prog 17 #[.int .i64 a, .int .i64 b] w fun e w' => e = .returned (.int .i64 (sub a b)) ∧ w = w' := by
  have ha := held_bd a
  have hb := held_bd b
  go_enter Try.func17, Try.ntmps17
  go_wp2_with (go_at_call 13; refine (held_any _ _).mono ?_; rintro e w' ⟨rfl, rfl⟩)
  go_ret
  exact ⟨rfl, rfl⟩

theorem apart_any (a b : Int) (w : World) :
    Calls Try.prog 25 #[.int .i64 a, .int .i64 b] w fun e w' => e = .returned (.int .i64 (max (sub a b) (-(sub a b)))) ∧ w = w' := by
  have ha : -2147483647 ≤ sub a b ∧ sub a b ≤ 2147483647 := held_bd _
  by_cases h : sub a b < 0
  · go_enter Try.func25, Try.ntmps25
    go_wp2_with (go_at_call 17; refine (sub_any _ _ _).mono ?_; rintro e w' ⟨rfl, rfl⟩)
    go_ret
    exact ⟨ret_int (by omega), rfl⟩
  · go_enter Try.func25, Try.ntmps25
    go_wp2_with (go_at_call 17; refine (sub_any _ _ _).mono ?_; rintro e w' ⟨rfl, rfl⟩)
    go_ret
    exact ⟨ret_int (by omega), rfl⟩

theorem far_any (ax ay bx b_y : Int) (w : World) :
    Calls Try.prog 21 #[.int .i64 ax, .int .i64 ay, .int .i64 bx, .int .i64 b_y] w fun e w' => e = .returned (.int .i64 (far ax ay bx b_y)) ∧ w = w' := by
  go_enter Try.func21, Try.ntmps21
  go_wp2_with (go_at_call 25; refine (apart_any _ _ _).mono ?_; rintro e w' ⟨rfl, rfl⟩)
  all_goals go_ret
  all_goals exact ⟨ret_int (by unfold far; omega), rfl⟩

theorem scale_zero (v n : Int) (w : World) :
    Calls Try.prog 11 #[.int .i64 v, .int .i64 n, .int .i64 0] w fun e w' => e = .returned (.tuple #[.int .i64 0, .int .i64 1]) ∧ w = w' := by
  go_enter Try.func11, Try.ntmps11
  go_wp2
  go_ret2
  exact ⟨rfl, rfl⟩

theorem mul_bd (a b : Int) (ha : -2147483647 ≤ a ∧ a ≤ 2147483647) (hb : -2147483647 ≤ b ∧ b ≤ 2147483647) :
    -4611686014132420609 ≤ a * b ∧ a * b ≤ 4611686014132420609 := by
  have hm : (a * b).natAbs ≤ 2147483647 * 2147483647 := by
    rw [Int.natAbs_mul]; exact Nat.mul_le_mul (by omega) (by omega)
  omega

theorem tdiv_bd (a d : Int) (ha : -4611686014132420609 ≤ a ∧ a ≤ 4611686014132420609) :
    -4611686014132420609 ≤ a.tdiv d ∧ a.tdiv d ≤ 4611686014132420609 := by
  have h : (a.tdiv d).natAbs ≤ a.natAbs := by rw [Int.natAbs_tdiv]; exact Nat.div_le_self _ _
  omega

theorem ret_two {k l : IntKind} {a b c d : Int} (h : a = b) (h2 : c = d) : Ending.returned (.tuple #[.int k a, .int l c]) = .returned (.tuple #[.int k b, .int l d]) := by rw [h, h2]

theorem scale_some (v n d : Int) (hd : d ≠ 0) (w : World) :
    Calls Try.prog 11 #[.int .i64 v, .int .i64 n, .int .i64 d] w fun e w' => e = .returned (.tuple #[.int .i64 (scale v n d), .int .i64 0]) ∧ w = w' := by
  have hd0 : (d == 0) = false := beq_eq_false_iff_ne.2 hd
  have hv := held_bd v
  have hn := held_bd n
  have hdd := held_bd d
  have hm := mul_bd _ _ hv hn
  have hdn : held d ≠ 0 := by unfold held; omega
  go_enter Try.func11, Try.ntmps11
  go_wp2_with (go_at_call 13; refine (held_any _ _).mono ?_; rintro e w' ⟨rfl, rfl⟩)
  go_ret2
  exact ⟨ret_two (by unfold scale; rw [IntWalk.wrap64_in _ (by have := tdiv_bd _ (held d) hm; omega)]) rfl, rfl⟩

-- the document's answers

theorem rclamp_any (v lo hi : Int) (w : World) :
    Calls Try.prog 20 #[.int .i64 v, .int .i64 lo, .int .i64 hi] w fun e w' => e = .returned (.int .i64 (clamp v lo hi)) ∧ w = w' := by
  by_cases h1 : v < lo
  · go_enter Try.func20, Try.ntmps20
    go_wp2
    go_ret
    exact ⟨ret_int (by unfold clamp; omega), rfl⟩
  · by_cases h2 : hi < v
    · go_enter Try.func20, Try.ntmps20
      go_wp2
      go_ret
      exact ⟨ret_int (by unfold clamp; omega), rfl⟩
    · go_enter Try.func20, Try.ntmps20
      go_wp2
      go_ret
      exact ⟨ret_int (by unfold clamp; omega), rfl⟩

theorem rheld_any (v : Int) (w : World) :
    Calls Try.prog 14 #[.int .i64 v] w fun e w' => e = .returned (.int .i64 (held v)) ∧ w = w' := by
  go_enter Try.func14, Try.ntmps14
  go_wp2
  all_goals go_ret
  all_goals exact ⟨ret_int (by unfold held; omega), rfl⟩

theorem rsub_any (a b : Int) (w : World) :
    Calls Try.prog 18 #[.int .i64 a, .int .i64 b] w fun e w' => e = .returned (.int .i64 (sub a b)) ∧ w = w' := by
  have ha := held_bd a
  have hb := held_bd b
  go_enter Try.func18, Try.ntmps18
  go_wp2_with (go_at_call 14; refine (rheld_any _ _).mono ?_; rintro e w' ⟨rfl, rfl⟩)
  go_ret
  exact ⟨rfl, rfl⟩

theorem rsize_any (v : Int) (h : -9223372036854775807 ≤ v) (h2 : v ≤ 9223372036854775807) (w : World) :
    Calls Try.prog 26 #[.int .i64 v] w fun e w' => e = .returned (.int .i64 (max v (-v))) ∧ w = w' := by
  go_enter Try.func26, Try.ntmps26
  go_wp2
  all_goals go_ret
  all_goals exact ⟨ret_int (by omega), rfl⟩

theorem rfar_any (ax ay bx b_y : Int) (w : World) :
    Calls Try.prog 22 #[.int .i64 ax, .int .i64 ay, .int .i64 bx, .int .i64 b_y] w fun e w' => e = .returned (.int .i64 (far ax ay bx b_y)) ∧ w = w' := by
  have h1 : -2147483647 ≤ sub ax bx ∧ sub ax bx ≤ 2147483647 := held_bd _
  have h2 : -2147483647 ≤ sub ay b_y ∧ sub ay b_y ≤ 2147483647 := held_bd _
  go_enter Try.func22, Try.ntmps22
  go_wp2_with (first | (go_at_call 18; refine (rsub_any _ _ _).mono ?_; rintro e w' ⟨rfl, rfl⟩) | (go_at_call 26; refine (rsize_any _ (by omega) (by omega) _).mono ?_; rintro e w' ⟨rfl, rfl⟩))
  all_goals go_ret
  all_goals exact ⟨ret_int (by unfold far; omega), rfl⟩

theorem rscale_zero (v n : Int) (w : World) :
    Calls Try.prog 12 #[.int .i64 v, .int .i64 n, .int .i64 0] w fun e w' => e = .returned (.tuple #[.int .i64 0, .int .i64 1]) ∧ w = w' := by
  go_enter Try.func12, Try.ntmps12
  go_wp2
  go_ret2
  exact ⟨rfl, rfl⟩

theorem rscale_some (v n d : Int) (hd : d ≠ 0) (w : World) :
    Calls Try.prog 12 #[.int .i64 v, .int .i64 n, .int .i64 d] w fun e w' => e = .returned (.tuple #[.int .i64 (scale v n d), .int .i64 0]) ∧ w = w' := by
  have hd0 : (d == 0) = false := beq_eq_false_iff_ne.2 hd
  have hv := held_bd v
  have hn := held_bd n
  have hdd := held_bd d
  have hm := mul_bd _ _ hv hn
  have hdn : held d ≠ 0 := by unfold held; omega
  go_enter Try.func12, Try.ntmps12
  go_wp2_with (go_at_call 14; refine (rheld_any _ _).mono ?_; rintro e w' ⟨rfl, rfl⟩)
  go_ret2
  exact ⟨ret_two (by unfold scale; rw [IntWalk.wrap64_in _ (by have := tdiv_bd _ (held d) hm; omega)]) rfl, rfl⟩

end Go.Proofs.Ytmibaimgapchjaa.Fx
