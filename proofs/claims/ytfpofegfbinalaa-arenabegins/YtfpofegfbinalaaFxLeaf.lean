/- Contracts of the small functions of package fixed, and of the document's answers beside it: what each returns, for every input; none of them turns the world. -/
import Derived.Test.YtfpofegfbinalaaGMem
import Derived.WalkKit
import Derived.ProofKit
import Derived.OpenShut
import Derived.Lib.Hide
namespace Go.Proofs.Ytfpofegfbinalaa.Fx
open Go.ChangeShapes Go.WideShapes Go.ChangeAt Go.RowKit

/-- Clamp's plain meaning. -/
def clamp (v lo hi : Int) : Int := if v < lo then lo else if hi < v then hi else v
/-- Held's plain meaning. -/
def held (v : Int) : Int := if v < -2147483647 then -2147483647 else if 2147483647 < v then 2147483647 else v
theorem held_bd (v : Int) : -2147483647 ≤ held v ∧ held v ≤ 2147483647 := by unfold held; omega
theorem held_id (v : Int) (h1 : -2147483647 ≤ v) (h2 : v ≤ 2147483647) : held v = v := by unfold held; omega
def sub (a b : Int) : Int := held (held a - held b)
def scale (v n d : Int) : Int := held ((held v * held n).tdiv (held d))
def far (ax ay bx b_y : Int) : Int := max (max (sub ax bx) (-(sub ax bx))) (max (sub ay b_y) (-(sub ay b_y)))

theorem mul_bd (a b : Int) (ha : -2147483647 ≤ a ∧ a ≤ 2147483647) (hb : -2147483647 ≤ b ∧ b ≤ 2147483647) :
    -4611686014132420609 ≤ a * b ∧ a * b ≤ 4611686014132420609 := by
  have hm : (a * b).natAbs ≤ 2147483647 * 2147483647 := by
    rw [Int.natAbs_mul]; exact Nat.mul_le_mul (by omega) (by omega)
  omega

theorem tdiv_bd (a d : Int) (ha : -4611686014132420609 ≤ a ∧ a ≤ 4611686014132420609) :
    -4611686014132420609 ≤ a.tdiv d ∧ a.tdiv d ≤ 4611686014132420609 := by
  have h : (a.tdiv d).natAbs ≤ a.natAbs := by rw [Int.natAbs_tdiv]; exact Nat.div_le_self _ _
  omega

theorem ret_two {k l : IntKind} {a b c d : Int} (h : a = b) (h2 : c = d) : Ending.returned (.tuple #[.int k a, .int l c]) = .returned (.tuple #[.int k b, .int l d]) := by rw [h, h2]

-- the document's answers

end Go.Proofs.Ytfpofegfbinalaa.Fx
