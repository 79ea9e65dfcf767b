/- Package bytes' statements: jousthelp.Bytes, the document's Put and Raw, awake. -/
import Derived.Test.YthmdnemibdmhgaaByRdR
import Derived.Test.YthmdnemibdmhgaaByStr
import Derived.Laws.Concat
namespace Go.Proofs.Ythmdnemibdmhgaa.Fx
open Go.ChangeShapes Go.WideShapes Go.ChangeAt Go.RowKit
set_option linter.unusedVariables false
set_option maxRecDepth 100000

end Go.Proofs.Ythmdnemibdmhgaa.Fx
