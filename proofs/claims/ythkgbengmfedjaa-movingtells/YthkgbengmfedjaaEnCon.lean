/- What package entity answers, said once: the contracts that the statements' walks lean on. -/
import Derived.Test.YthkgbengmfedjaaEnRight
import Derived.Test.YthkgbengmfedjaaEnList
namespace Go.Proofs.Ythkgbengmfedjaa.Fx
open Go.ChangeShapes Go.WideShapes Go.ChangeAt Go.RowKit

end Go.Proofs.Ythkgbengmfedjaa.Fx
