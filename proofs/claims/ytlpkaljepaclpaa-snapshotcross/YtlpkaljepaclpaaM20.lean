/- Which bases may be, plainly. What is older than a world's end reads as in it. -/
import Derived.Test.YtlpkaljepaclpaaM12
import Derived.Test.YtlpkaljepaclpaaM13
import Derived.Test.YtlpkaljepaclpaaM19
import Derived.Test.YtlpkaljepaclpaaM01
namespace Go.Proofs.Ytlpkaljepaclpaa.Fx
open Go.ChangeShapes Go.WideShapes Go.ChangeAt Go.RowKit
set_option linter.unusedVariables false
set_option maxRecDepth 100000

def ordB (x y : Crs) : Bool := !(decide (y.src < x.src) || (decide (x.src = y.src) && lessB y x))
def inOrd : List Crs → Bool
  | [] => true
  | [_] => true
  | x :: y :: l => ordB x y && inOrd (y :: l)
def mayB (a b p n r f : Int) (es : List Ent) (l : List Crs) : Bool := rgB a b p n r f es && (l.all (crightB a b p n) && (l.all (fun c => decide (c.dst = r ∧ c.frame = f - 1)) && inOrd l))

def tkB (a b p n r : Int) (x : List Int) : Rb × Int :=
  if (Rd.base ⟨x, 0⟩).2.e ≠ 0 then (⟨0, [], []⟩, (Rd.base ⟨x, 0⟩).2.e)
  else if (Rd.base ⟨x, 0⟩).2.l ≠ [] then (⟨0, [], []⟩, 4)
  else if mayB a b p n r (Rd.base ⟨x, 0⟩).1.f (Rd.base ⟨x, 0⟩).1.es (Rd.base ⟨x, 0⟩).1.l then ((Rd.base ⟨x, 0⟩).1, 0) else (⟨0, [], []⟩, 4)

end Go.Proofs.Ytlpkaljepaclpaa.Fx
namespace Go.Proofs.Ytlpkaljepaclpaa.Fx
open Go.ChangeShapes Go.WideShapes Go.ChangeAt Go.RowKit

theorem keepOf {W w : World} (h3 : Below W.heap.size W w) :
    (∀ c p, c < W.heap.size → w.cell? ⟨c, p, none⟩ = W.cell? ⟨c, p, none⟩) ∧ (∀ c p, c < W.heap.size → w.frozen? ⟨c, p, none⟩ = W.frozen? ⟨c, p, none⟩) ∧ Below W.heap.size W w :=
  ⟨fun b o hlt => h3.cell (p := ⟨b, o, none⟩) hlt, fun b o hlt => h3.frozen (p := ⟨b, o, none⟩) hlt, h3⟩

end Go.Proofs.Ytlpkaljepaclpaa.Fx
