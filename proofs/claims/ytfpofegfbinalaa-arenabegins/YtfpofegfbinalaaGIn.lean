/- Is one among some (jousthelp.In of integers)? -/
import Derived.Test.YtfpofegfbinalaaGBase
namespace Go.Proofs.Ytfpofegfbinalaa.Fx
open Go.ChangeShapes Go.WideShapes Go.ChangeAt Go.RowKit
set_option linter.unusedVariables false
set_option maxRecDepth 100000

/-- In's plain meaning. -/
def inB (l : List Int) (x : Int) : Bool := decide (x ∈ l)

end Go.Proofs.Ytfpofegfbinalaa.Fx
