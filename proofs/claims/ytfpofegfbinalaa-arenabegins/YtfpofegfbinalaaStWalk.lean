/- slices.SortStableFunc's helpers at elements of k cells, over whatever program bears their bodies: what each leaves in the row. -/
import Derived.Test.YtfpofegfbinalaaStPure
import Derived.Test.YtfpofegfbinalaaProg
import Derived.Deep.LoopGhost
import Derived.Lib.Hide
namespace Go.Proofs.Ytfpofegfbinalaa.Fx
open Go.Shelf Go.RowKit Go.Lib Go.Sort
set_option linter.unusedVariables false
set_option maxRecDepth 100000

variable {P : Program} {α : Type}

theorem len_of {d : Array α} {l : List α} (h : d.toList = l) : d.size = l.length := by rw [← h, Array.length_toList]

variable [Inhabited α]

end Go.Proofs.Ytfpofegfbinalaa.Fx
