/- What package entity answers, said once: the contracts that the statements' walks lean on. -/
import Derived.Test.YtbmboidmgdpnoaaEnRight
import Derived.Test.YtbmboidmgdpnoaaEnList
namespace Go.Proofs.Ytbmboidmgdpnoaa.Fx
open Go.ChangeShapes Go.WideShapes Go.ChangeAt Go.RowKit

end Go.Proofs.Ytbmboidmgdpnoaa.Fx
