/- Is one among some (jousthelp.In of integers)? -/
import Derived.Test.YthkgbengmfedjaaGBase
namespace Go.Proofs.Ythkgbengmfedjaa.Fx
open Go.ChangeShapes Go.WideShapes Go.ChangeAt Go.RowKit
set_option linter.unusedVariables false

/-- In's plain meaning. -/
def inB (l : List Int) (x : Int) : Bool := decide (x ∈ l)

end Go.Proofs.Ythkgbengmfedjaa.Fx
