/- Contracts of the small functions of package fixed, and of the document's answers beside it: what each returns, for every input; none of them turns the world. -/
import Derived.Test.YtlpkaljepaclpaaM01
import Derived.WalkKit
import Derived.ProofKit
import Derived.OpenShut
import Derived.Lib.Hide
namespace Go.Proofs.Ytlpkaljepaclpaa.Fx
open Go.ChangeShapes Go.WideShapes Go.ChangeAt Go.RowKit

/-- Clamp's plain meaning. -/
def clamp (v lo hi : Int) : Int := if v < lo then lo else if hi < v then hi else v
/-- Held's plain meaning. -/
def held (v : Int) : Int := if v < -2147483647 then -2147483647 else if 2147483647 < v then 2147483647 else v
theorem held_bd (v : Int) : -2147483647 ≤ held v ∧ held v ≤ 2147483647 := by unfold held; omega
def sub (a b : Int) : Int := held (held a - held b)
def scale (v n d : Int) : Int := held ((held v * held n).tdiv (held d))
def far (ax ay bx b_y : Int) : Int := max (max (sub ax bx) (-(sub ax bx))) (max (sub ay b_y) (-(sub ay b_y)))

theorem clamp_any (v lo hi : Int) (w : World) :
    Calls Try.prog 80 #[.int .i64 v, .int .i64 lo, .int .i64 hi] w fun e w' => e = .returned (.int .i64 (clamp v lo hi)) ∧ w = w' := by
  by_cases h1 : v < lo
  · go_enter Try.func80, Try.ntmps80
    go_wp2
    go_ret
    exact ⟨ret_int (by unfold clamp; omega), rfl⟩
  · by_cases h2 : hi < v
    · go_enter Try.func80, Try.ntmps80
      go_wp2
      go_ret
      exact ⟨ret_int (by unfold clamp; omega), rfl⟩
    · go_enter Try.func80, Try.ntmps80
      go_wp2
      go_ret
      exact ⟨ret_int (by unfold clamp; omega), rfl⟩

theorem held_any (v : Int) (w : World) :
    Calls Try.prog 98 #[.int .i64 v] w fun e w' => e = .returned (.int .i64 (held v)) ∧ w = w' := by
  go_enter Try.func98, Try.ntmps98
  go_wp2_with (go_at_call 80; refine (clamp_any _ _ _ _).mono ?_; rintro e w' ⟨rfl, rfl⟩)
  go_ret
  exact ⟨rfl, rfl⟩

theorem sub_any (a b : Int) (w : World) :
    Calls Try.prog 97 #[.int .i64 a, .int .i64 b] w fun e w' => e = .returned (.int .i64 (sub a b)) ∧ w = w' := by
  have ha := held_bd a
  have hb := held_bd b
  go_enter Try.func97, Try.ntmps97
  go_wp2_with (go_at_call 98; refine (held_any _ _).mono ?_; rintro e w' ⟨rfl, rfl⟩)
  go_ret
  exact ⟨rfl, rfl⟩

theorem apart_any (a b : Int) (w : World) :
    Calls Try.prog 96 #[.int .i64 a, .int .i64 b] w fun e w' => e = .returned (.int .i64 (max (sub a b) (-(sub a b)))) ∧ w = w' := by
  have ha : -2147483647 ≤ sub a b ∧ sub a b ≤ 2147483647 := held_bd _
  by_cases h : sub a b < 0
  · go_enter Try.func96, Try.ntmps96
    go_wp2_with (go_at_call 97; refine (sub_any _ _ _).mono ?_; rintro e w' ⟨rfl, rfl⟩)
    go_ret
    exact ⟨ret_int (by omega), rfl⟩
  · go_enter Try.func96, Try.ntmps96
    go_wp2_with (go_at_call 97; refine (sub_any _ _ _).mono ?_; rintro e w' ⟨rfl, rfl⟩)
    go_ret
    exact ⟨ret_int (by omega), rfl⟩

theorem far_any (ax ay bx b_y : Int) (w : World) :
    Calls Try.prog 87 #[.int .i64 ax, .int .i64 ay, .int .i64 bx, .int .i64 b_y] w fun e w' => e = .returned (.int .i64 (far ax ay bx b_y)) ∧ w = w' := by
  go_enter Try.func87, Try.ntmps87
  go_wp2_with (go_at_call 96; refine (apart_any _ _ _).mono ?_; rintro e w' ⟨rfl, rfl⟩)
  all_goals go_ret
  all_goals exact ⟨ret_int (by unfold far; omega), rfl⟩

theorem rclamp_any (v lo hi : Int) (w : World) :
    Calls Try.prog 61 #[.int .i64 v, .int .i64 lo, .int .i64 hi] w fun e w' => e = .returned (.int .i64 (clamp v lo hi)) ∧ w = w' := by
  by_cases h1 : v < lo
  · go_enter Try.func61, Try.ntmps61
    go_wp2
    go_ret
    exact ⟨ret_int (by unfold clamp; omega), rfl⟩
  · by_cases h2 : hi < v
    · go_enter Try.func61, Try.ntmps61
      go_wp2
      go_ret
      exact ⟨ret_int (by unfold clamp; omega), rfl⟩
    · go_enter Try.func61, Try.ntmps61
      go_wp2
      go_ret
      exact ⟨ret_int (by unfold clamp; omega), rfl⟩

end Go.Proofs.Ytlpkaljepaclpaa.Fx
