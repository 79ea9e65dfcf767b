/- Item: its values, its cells (one of them a slice). -/
import Derived.Test.YtigcpgkiankjpaaGRows
namespace Go.Proofs.Ytigcpgkiankjpaa.Fx
open Go.ChangeShapes Go.WideShapes Go.ChangeAt Go.RowKit
set_option linter.unusedVariables false
set_option maxRecDepth 100000

structure Itm where
  raw : Bool
  v : Int
  b : Value

/-- Its cells. -/
def itmC (e : Itm) : List Value := [.bool e.raw, .int .i64 e.v, e.b]

instance : Inhabited Itm := ⟨⟨false, 0, .slice none 0 0⟩⟩

theorem itmC_len (e : Itm) : (itmC e).length = 3 := rfl

end Go.Proofs.Ytigcpgkiankjpaa.Fx
