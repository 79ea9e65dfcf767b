/- Contracts of the small functions of package fixed, and of the document's answers beside it: what each returns, for every input; none of them turns the world. -/
import Derived.Test.YtdhahlghldgggaaGMem
import Derived.WalkKit
import Derived.ProofKit
import Derived.OpenShut
import Derived.Lib.Hide
namespace Go.Proofs.Ytdhahlghldgggaa.Fx
open Go.ChangeShapes Go.WideShapes Go.ChangeAt Go.RowKit

/-- Clamp's plain meaning. -/
def clamp (v lo hi : Int) : Int := if v < lo then lo else if hi < v then hi else v
/-- Held's plain meaning. -/
def held (v : Int) : Int := if v < -2147483647 then -2147483647 else if 2147483647 < v then 2147483647 else v
theorem held_bd (v : Int) : -2147483647 ≤ held v ∧ held v ≤ 2147483647 := by unfold held; omega
theorem held_id (v : Int) (h1 : -2147483647 ≤ v) (h2 : v ≤ 2147483647) : held v = v := by unfold held; omega
def sub (a b : Int) : Int := held (held a - held b)
def scale (v n d : Int) : Int := held ((held v * held n).tdiv (held d))
def far (ax ay bx b_y : Int) : Int := max (max (sub ax bx) (-(sub ax bx))) (max (sub ay b_y) (-(sub ay b_y)))

theorem clamp_any (v lo hi : Int) (w : World) :
    Calls Try.prog 31 #[.int .i64 v, .int .i64 lo, .int .i64 hi] w fun e w' => e = .returned (.int .i64 (clamp v lo hi)) ∧ w = w' := by
  by_cases h1 : v < lo
  · go_enter Try.func31, Try.ntmps31
    go_wp2
    go_ret
    exact ⟨ret_int (by unfold clamp; omega), rfl⟩
  · by_cases h2 : hi < v
    · go_enter Try.func31, Try.ntmps31
      go_wp2
      go_ret
      exact ⟨ret_int (by unfold clamp; omega), rfl⟩
    · go_enter Try.func31, Try.ntmps31
      go_wp2
      go_ret
      exact ⟨ret_int (by unfold clamp; omega), rfl⟩

theorem held_any (v : Int) (w : World) :
    Calls Try.prog 26 #[.int .i64 v] w fun e w' => e = .returned (.int .i64 (held v)) ∧ w = w' := by
  go_enter Try.func26, Try.ntmps26
  go_wp2_with (go_at_call 31; refine (clamp_any _ _ _ _).mono ?_; rintro e w' ⟨rfl, rfl⟩)
  go_ret
  exact ⟨rfl, rfl⟩

theorem sub_any (a b : Int) (w : World) :
    Calls Try.prog 22 #[.int .i64 a, .int .i64 b] w fun e w' => e = .returned (.int .i64 (sub a b)) ∧ w = w' := by
  have ha := held_bd a
  have hb := held_bd b
  go_enter Try.func22, Try.ntmps22
  go_wp2_with (go_at_call 26; refine (held_any _ _).mono ?_; rintro e w' ⟨rfl, rfl⟩)
  go_ret
  exact ⟨rfl, rfl⟩

theorem apart_any (a b : Int) (w : World) :
    Calls Try.prog 30 #[.int .i64 a, .int .i64 b] w fun e w' => e = .returned (.int .i64 (max (sub a b) (-(sub a b)))) ∧ w = w' := by
  have ha : -2147483647 ≤ sub a b ∧ sub a b ≤ 2147483647 := held_bd _
  by_cases h : sub a b < 0
  · go_enter Try.func30, Try.ntmps30
    go_wp2_with (go_at_call 22; refine (sub_any _ _ _).mono ?_; rintro e w' ⟨rfl, rfl⟩)
    go_ret
    exact ⟨ret_int (by omega), rfl⟩
  · go_enter Try.func30, Try.ntmps30
    go_wp2_with (go_at_call 22; refine (sub_any _ _ _).mono ?_; rintro e w' ⟨rfl, rfl⟩)
    go_ret
    exact ⟨ret_int (by omega), rfl⟩

theorem far_any (ax ay bx b_y : Int) (w : World) :
    Calls Try.prog 25 #[.int .i64 ax, .int .i64 ay, .int .i64 bx, .int .i64 b_y] w fun e w' => e = .returned (.int .i64 (far ax ay bx b_y)) ∧ w = w' := by
  go_enter Try.func25, Try.ntmps25
  go_wp2_with (go_at_call 30; refine (apart_any _ _ _).mono ?_; rintro e w' ⟨rfl, rfl⟩)
  all_goals go_ret
  all_goals exact ⟨ret_int (by unfold far; omega), rfl⟩

theorem mul_bd (a b : Int) (ha : -2147483647 ≤ a ∧ a ≤ 2147483647) (hb : -2147483647 ≤ b ∧ b ≤ 2147483647) :
    -4611686014132420609 ≤ a * b ∧ a * b ≤ 4611686014132420609 := by
  have hm : (a * b).natAbs ≤ 2147483647 * 2147483647 := by
    rw [Int.natAbs_mul]; exact Nat.mul_le_mul (by omega) (by omega)
  omega

theorem tdiv_bd (a d : Int) (ha : -4611686014132420609 ≤ a ∧ a ≤ 4611686014132420609) :
    -4611686014132420609 ≤ a.tdiv d ∧ a.tdiv d ≤ 4611686014132420609 := by
  have h : (a.tdiv d).natAbs ≤ a.natAbs := by rw [Int.natAbs_tdiv]; exact Nat.div_le_self _ _
  omega

theorem ret_two {k l : IntKind} {a b c d : Int} (h : a = b) (h2 : c = d) : Ending.returned (.tuple #[.int k a, .int l c]) = .returned (.tuple #[.int k b, .int l d]) := by rw [h, h2]

-- the document's answers

end Go.Proofs.Ytdhahlghldgggaa.Fx
