/- Package cross's Sort and To, and the document's To: what they return; old memory stays. -/
import Derived.Test.YtfpofegfbinalaaCrLeaf
import Derived.Test.YtfpofegfbinalaaGCopy
import Derived.Test.YtfpofegfbinalaaGSeq
import Derived.Test.YtfpofegfbinalaaEnRef
import Derived.Lib.AppendZerosOnto
namespace Go.Proofs.Ytfpofegfbinalaa.Fx
open Go.ChangeShapes Go.WideShapes Go.ChangeAt Go.RowKit
set_option linter.unusedVariables false
set_option maxRecDepth 100000

/-- A value as a cell. -/
def oneV (v : Value) : List Value := [v]

theorem oneV_len (v : Value) : (oneV v).length = 1 := rfl

theorem flat_oneV (vs : List Value) : vs.flatMap oneV = vs := by
  induction vs with
  | nil => rfl
  | cons v vs ih => rw [List.flatMap_cons, ih]; rfl

/-- Values that read as lists. -/
def AllSl (w : World) (vs : List Value) (ls : List (List Crs)) : Prop := vs.length = ls.length ∧ ∀ (i : Nat) v l, vs[i]? = some v → ls[i]? = some l → IsSl crsC w v l

theorem AllSl.below {w w' : World} {vs : List Value} {ls : List (List Crs)} (h : AllSl w vs ls) (hb : Below w.heap.size w w') : AllSl w' vs ls := ⟨h.1, fun i v l h1 h2 => (h.2 i v l h1 h2).below hb⟩

theorem AllSl.nil (w : World) : AllSl w [] [] := ⟨rfl, fun i v l h => by simp at h⟩

theorem AllSl.cons {w : World} {v : Value} {l : List Crs} {vs : List Value} {ls : List (List Crs)} (hv : IsSl crsC w v l) (h : AllSl w vs ls) : AllSl w (v :: vs) (l :: ls) := by
  refine ⟨by simp [h.1], fun i u m h1 h2 => ?_⟩
  cases i with
  | zero => simp at h1 h2; subst h1 h2; exact hv
  | succ i => exact h.2 i u m (by simpa using h1) (by simpa using h2)

/-- A list of messages that comes back in memory of the call's own. -/
def RetCrs (l : List Crs) (w : World) (e : Ending) (w' : World) : Prop := ∃ v, e = .returned v ∧ w'.ownsRow w.heap.size 57 15 v l.length (l.flatMap crsC) ∧ Below w.heap.size w w'

/-- Those that go to a region. -/
def toL (l : List Crs) (r : Int) : List Crs := l.filter fun c => decide (c.dst = r)

end Go.Proofs.Ytfpofegfbinalaa.Fx
