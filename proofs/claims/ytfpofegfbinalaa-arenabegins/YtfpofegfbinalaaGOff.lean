/- One world is as another one but for a block. -/
import Derived.Test.YtfpofegfbinalaaGBase
namespace Go.Proofs.Ytfpofegfbinalaa.Fx
open Go.ChangeShapes Go.WideShapes Go.ChangeAt Go.RowKit
set_option linter.unusedVariables false
set_option maxRecDepth 100000

/-- W is as w but for the block p. -/
structure Off (p : Nat) (w W : World) : Prop where
  cell : ∀ b o, p ≠ b → W.cell? ⟨b, o, none⟩ = w.cell? ⟨b, o, none⟩
  frozen : ∀ b o, W.frozen? ⟨b, o, none⟩ = w.frozen? ⟨b, o, none⟩
  size : W.heap.size = w.heap.size

theorem Off.refl (p : Nat) (w : World) : Off p w w := ⟨fun _ _ _ => rfl, fun _ _ => rfl, rfl⟩

theorem Off.set {p : Nat} {w W : World} (h : Off p w W) (o : Nat) (v : Value) : Off p w (W.setCell ⟨p, o, none⟩ v) :=
  ⟨fun b q hb => by rw [World.cell?_setCell_other _ _ _ _ (by intro hh; exact hb (congrArg Addr.block hh))]; exact h.cell b q hb, fun b q => by rw [World.frozen?_setCell]; exact h.frozen b q, by simp [h.size]⟩

end Go.Proofs.Ytfpofegfbinalaa.Fx
