/- Package bytes' Reader: the contracts of Count and Raw (of a nil one, too). -/
import Derived.Test.YthmdnemibdmhgaaByRdC
namespace Go.Proofs.Ythmdnemibdmhgaa.Fx
open Go.ChangeShapes Go.WideShapes Go.ChangeAt Go.RowKit
set_option linter.unusedVariables false
set_option maxRecDepth 100000

theorem Rd.int_ok {r : Rd} (h : ByOk r.l) : ByOk r.int.2.l := by
  rw [Rd.int_eq]
  split
  · exact h
  · split
    · intro x hx; simp at hx
    · split
      · intro x hx; simp at hx
      · exact h.drop _

theorem Rd.int_len (r : Rd) : r.int.2.l.length ≤ r.l.length := by
  rw [Rd.int_eq]
  split
  · exact Nat.le_refl _
  · split
    · simp
    · split
      · simp
      · simp

/-- What Raw leaves: the bytes lie in new memory. -/
def RawFar (S : Nat → Prop) (w : World) (b : Nat) (q : List Int × Rd) (e : Ending) (w' : World) : Prop := (∃ v, e = .returned v ∧ FarSl w.heap.size w' v q.1) ∧ RdAt S w' b q.2 ∧ w.grownBy w' (some b)

/-- What Raw leaves. -/
def RawEnd (S : Nat → Prop) (w : World) (b : Nat) (q : List Int × Rd) (e : Ending) (w' : World) : Prop := (∃ v, e = .returned v ∧ IsSl byC w' v q.1) ∧ RdAt S w' b q.2 ∧ w.grownBy w' (some b)

theorem FarSl.nil (B : Nat) (w : World) : FarSl B w (.slice none 0 0) [] := ⟨IsSl.nil _ _, fun a n c h => by cases h⟩

end Go.Proofs.Ythmdnemibdmhgaa.Fx
