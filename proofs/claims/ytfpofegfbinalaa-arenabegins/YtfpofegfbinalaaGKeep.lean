/- What is older than a world's end reads as in it. -/
import Derived.Test.YtfpofegfbinalaaGBase
namespace Go.Proofs.Ytfpofegfbinalaa.Fx
open Go.ChangeShapes Go.WideShapes Go.ChangeAt Go.RowKit

theorem keepOf {W w : World} (h3 : Below W.heap.size W w) :
    (∀ c p, c < W.heap.size → w.cell? ⟨c, p, none⟩ = W.cell? ⟨c, p, none⟩) ∧ (∀ c p, c < W.heap.size → w.frozen? ⟨c, p, none⟩ = W.frozen? ⟨c, p, none⟩) ∧ Below W.heap.size W w :=
  ⟨fun b o hlt => h3.cell (p := ⟨b, o, none⟩) hlt, fun b o hlt => h3.frozen (p := ⟨b, o, none⟩) hlt, h3⟩

end Go.Proofs.Ytfpofegfbinalaa.Fx
