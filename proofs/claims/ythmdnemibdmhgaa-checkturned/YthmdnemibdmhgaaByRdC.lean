/- Package bytes' Reader: the contracts of Read, Int, Count and Raw (of a nil one, too). -/
import Derived.Test.YthmdnemibdmhgaaByRd
import Derived.Test.YthmdnemibdmhgaaByCl
namespace Go.Proofs.Ythmdnemibdmhgaa.Fx
open Go.ChangeShapes Go.WideShapes Go.ChangeAt Go.RowKit
set_option linter.unusedVariables false
set_option maxRecDepth 100000

theorem Rd.int_eq (r : Rd) : r.int = if r.e ≠ 0 then (0, r)
  else if nlen r.l = 0 then (0, ⟨[], 5⟩)
  else if 9 < nlen r.l ∨ (1 < nlen r.l ∧ gi r.l (nlen r.l - 1) = 0) then (0, ⟨[], 4⟩)
  else (zag (numV (r.l.take (nlen r.l))), ⟨r.l.drop (nlen r.l), 0⟩) := rfl

/-- What a call of a Reader's leaves. -/
def RdEnd (S : Nat → Prop) (w : World) (b : Nat) (q : Int × Rd) (e : Ending) (w' : World) : Prop := e = .returned (.int .i64 q.1) ∧ RdAt S w' b q.2 ∧ w.grownBy w' (some b)

theorem ByOk.take {l : List Int} (h : ByOk l) (n : Nat) : ByOk (l.take n) := fun x hx => h x (List.mem_of_mem_take hx)
theorem ByOk.drop {l : List Int} (h : ByOk l) (n : Nat) : ByOk (l.drop n) := fun x hx => h x (List.mem_of_mem_drop hx)

end Go.Proofs.Ythmdnemibdmhgaa.Fx
