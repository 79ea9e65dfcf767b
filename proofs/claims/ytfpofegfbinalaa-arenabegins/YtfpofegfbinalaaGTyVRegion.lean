/- Region: its values, its cells (one of them a slice). -/
import Derived.Test.YtfpofegfbinalaaGRows
namespace Go.Proofs.Ytfpofegfbinalaa.Fx
open Go.ChangeShapes Go.WideShapes Go.ChangeAt Go.RowKit
set_option linter.unusedVariables false
set_option maxRecDepth 100000

structure Reg where
  frame : Int
  list : Value

/-- Its cells. -/
def regC (e : Reg) : List Value := [.int .i64 e.frame, e.list]

instance : Inhabited Reg := ⟨⟨0, .slice none 0 0⟩⟩

theorem regC_len (e : Reg) : (regC e).length = 2 := rfl

end Go.Proofs.Ytfpofegfbinalaa.Fx
