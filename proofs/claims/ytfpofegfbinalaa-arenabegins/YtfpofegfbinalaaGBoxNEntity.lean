/- Entity in a box, call by call. -/
import Derived.Test.YtfpofegfbinalaaGBoxEntity
import Derived.Test.YtfpofegfbinalaaGOff
namespace Go.Proofs.Ytfpofegfbinalaa.Fx
open Go.ChangeShapes Go.WideShapes Go.ChangeAt Go.RowKit
set_option linter.unusedVariables false
set_option maxRecDepth 100000

namespace EntBox
variable {w w' W : World} {b : Nat} {y : Ent} {o : Obj}

/-- Behind a call. -/
theorem nx (h : EntBox w b y) (hb : Below w.heap.size w w') : EntBox w' b y := h.below hb h.has

/-- Behind a call, and a new box. -/
theorem nxa (h : EntBox w b y) (hb : Below w.heap.size w w') (hW : w'.alloc o = W) : EntBox W b y := by
  subst hW
  exact (h.nx hb).alloc (h.nx hb).has o

/-- The new box itself. -/
theorem nb {A : Array Value} {t : TypeId} (hW : w'.alloc (.cells A t) = W) (y : Ent) (hA : A = #[.int .i64 y.id, .int .i64 y.kind, .int .i64 y.x, .int .i64 y.y, .int .i64 y.vx, .int .i64 y.vy, .int .i64 y.health, .int .i64 y.age, .int .i64 y.owner]) : EntBox W w'.heap.size y := by
  subst hW
  exact n1 _ _ _ hA

/-- Behind a call, and a store of the whole into the box. -/
theorem nxs (h : EntBox w b y) (hb : Below w.heap.size w w') (z : Ent) (hW : (((((((((w').setCell ⟨b, 0, none⟩ (.int .i64 z.id)).setCell ⟨b, 1, none⟩ (.int .i64 z.kind)).setCell ⟨b, 2, none⟩ (.int .i64 z.x)).setCell ⟨b, 3, none⟩ (.int .i64 z.y)).setCell ⟨b, 4, none⟩ (.int .i64 z.vx)).setCell ⟨b, 5, none⟩ (.int .i64 z.vy)).setCell ⟨b, 6, none⟩ (.int .i64 z.health)).setCell ⟨b, 7, none⟩ (.int .i64 z.age)).setCell ⟨b, 8, none⟩ (.int .i64 z.owner) = W) : EntBox W b z := by
  subst hW
  exact (h.nx hb).put z

theorem off {w' W : World} {b : Nat} (z : Ent) (hW : (((((((((w').setCell ⟨b, 0, none⟩ (.int .i64 z.id)).setCell ⟨b, 1, none⟩ (.int .i64 z.kind)).setCell ⟨b, 2, none⟩ (.int .i64 z.x)).setCell ⟨b, 3, none⟩ (.int .i64 z.y)).setCell ⟨b, 4, none⟩ (.int .i64 z.vx)).setCell ⟨b, 5, none⟩ (.int .i64 z.vy)).setCell ⟨b, 6, none⟩ (.int .i64 z.health)).setCell ⟨b, 7, none⟩ (.int .i64 z.age)).setCell ⟨b, 8, none⟩ (.int .i64 z.owner) = W) : Off b w' W := by
  subst hW
  exact ((((((((((Off.refl _ _).set _ _).set _ _).set _ _).set _ _).set _ _).set _ _).set _ _).set _ _).set _ _)

theorem bel {w0 w' W : World} {b B : Nat} (h : Below B w0 w') (z : Ent) (hle : B ≤ b) (hW : (((((((((w').setCell ⟨b, 0, none⟩ (.int .i64 z.id)).setCell ⟨b, 1, none⟩ (.int .i64 z.kind)).setCell ⟨b, 2, none⟩ (.int .i64 z.x)).setCell ⟨b, 3, none⟩ (.int .i64 z.y)).setCell ⟨b, 4, none⟩ (.int .i64 z.vx)).setCell ⟨b, 5, none⟩ (.int .i64 z.vy)).setCell ⟨b, 6, none⟩ (.int .i64 z.health)).setCell ⟨b, 7, none⟩ (.int .i64 z.age)).setCell ⟨b, 8, none⟩ (.int .i64 z.owner) = W) : Below B w0 W := by
  subst hW
  exact (((((((((h.setCell hle _).setCell hle _).setCell hle _).setCell hle _).setCell hle _).setCell hle _).setCell hle _).setCell hle _).setCell hle _)

/-- Behind a call, and stores into another box. -/
theorem nxf {p : Nat} (h : EntBox w b y) (hb : Below w.heap.size w w') (hO : Off p w' W) (hp : p ≠ b) : EntBox W b y :=
  of (fun q => hO.cell b q hp) (fun q => hO.frozen b q) (h.nx hb)

/-- Behind stores into another box. -/
theorem nf {p : Nat} (h : EntBox w b y) (hO : Off p w W) (hp : p ≠ b) : EntBox W b y :=
  of (fun q => hO.cell b q hp) (fun q => hO.frozen b q) h

end EntBox

end Go.Proofs.Ytfpofegfbinalaa.Fx
