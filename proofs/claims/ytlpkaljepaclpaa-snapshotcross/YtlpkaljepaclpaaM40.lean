/- Cross in a box, call by call. -/
import Derived.Test.YtlpkaljepaclpaaM21
import Derived.Test.YtlpkaljepaclpaaM15
namespace Go.Proofs.Ytlpkaljepaclpaa.Fx
open Go.ChangeShapes Go.WideShapes Go.ChangeAt Go.RowKit
set_option linter.unusedVariables false
set_option maxRecDepth 100000

namespace CrsBox
variable {w w' W : World} {b : Nat} {y : Crs} {o : Obj}

/-- Behind a call. -/
theorem nx (h : CrsBox w b y) (hb : Below w.heap.size w w') : CrsBox w' b y := h.below hb h.has

/-- Behind a call, and a new box. -/
theorem nxa (h : CrsBox w b y) (hb : Below w.heap.size w w') (hW : w'.alloc o = W) : CrsBox W b y := by
  subst hW
  exact (h.nx hb).alloc (h.nx hb).has o

/-- The new box itself. -/
theorem nb {A : Array Value} {t : TypeId} (hW : w'.alloc (.cells A t) = W) (y : Crs) (hA : A = #[.int .i64 y.kind, .int .i64 y.src, .int .i64 y.dst, .int .i64 y.frame, .int .i64 y.e.id, .int .i64 y.e.kind, .int .i64 y.e.x, .int .i64 y.e.y, .int .i64 y.e.vx, .int .i64 y.e.vy, .int .i64 y.e.health, .int .i64 y.e.age, .int .i64 y.e.owner, .int .i64 y.x, .int .i64 y.y]) : CrsBox W w'.heap.size y := by
  subst hW
  exact n1 _ _ _ hA

/-- Behind a call, and a store of the whole into the box. -/
theorem nxs (h : CrsBox w b y) (hb : Below w.heap.size w w') (z : Crs) (hW : (((((((((((((((w').setCell ⟨b, 0, none⟩ (.int .i64 z.kind)).setCell ⟨b, 1, none⟩ (.int .i64 z.src)).setCell ⟨b, 2, none⟩ (.int .i64 z.dst)).setCell ⟨b, 3, none⟩ (.int .i64 z.frame)).setCell ⟨b, 4, none⟩ (.int .i64 z.e.id)).setCell ⟨b, 5, none⟩ (.int .i64 z.e.kind)).setCell ⟨b, 6, none⟩ (.int .i64 z.e.x)).setCell ⟨b, 7, none⟩ (.int .i64 z.e.y)).setCell ⟨b, 8, none⟩ (.int .i64 z.e.vx)).setCell ⟨b, 9, none⟩ (.int .i64 z.e.vy)).setCell ⟨b, 10, none⟩ (.int .i64 z.e.health)).setCell ⟨b, 11, none⟩ (.int .i64 z.e.age)).setCell ⟨b, 12, none⟩ (.int .i64 z.e.owner)).setCell ⟨b, 13, none⟩ (.int .i64 z.x)).setCell ⟨b, 14, none⟩ (.int .i64 z.y) = W) : CrsBox W b z := by
  subst hW
  exact (h.nx hb).put z

theorem off {w' W : World} {b : Nat} (z : Crs) (hW : (((((((((((((((w').setCell ⟨b, 0, none⟩ (.int .i64 z.kind)).setCell ⟨b, 1, none⟩ (.int .i64 z.src)).setCell ⟨b, 2, none⟩ (.int .i64 z.dst)).setCell ⟨b, 3, none⟩ (.int .i64 z.frame)).setCell ⟨b, 4, none⟩ (.int .i64 z.e.id)).setCell ⟨b, 5, none⟩ (.int .i64 z.e.kind)).setCell ⟨b, 6, none⟩ (.int .i64 z.e.x)).setCell ⟨b, 7, none⟩ (.int .i64 z.e.y)).setCell ⟨b, 8, none⟩ (.int .i64 z.e.vx)).setCell ⟨b, 9, none⟩ (.int .i64 z.e.vy)).setCell ⟨b, 10, none⟩ (.int .i64 z.e.health)).setCell ⟨b, 11, none⟩ (.int .i64 z.e.age)).setCell ⟨b, 12, none⟩ (.int .i64 z.e.owner)).setCell ⟨b, 13, none⟩ (.int .i64 z.x)).setCell ⟨b, 14, none⟩ (.int .i64 z.y) = W) : Off b w' W := by
  subst hW
  exact ((((((((((((((((Off.refl _ _).set _ _).set _ _).set _ _).set _ _).set _ _).set _ _).set _ _).set _ _).set _ _).set _ _).set _ _).set _ _).set _ _).set _ _).set _ _)

theorem bel {w0 w' W : World} {b B : Nat} (h : Below B w0 w') (z : Crs) (hle : B ≤ b) (hW : (((((((((((((((w').setCell ⟨b, 0, none⟩ (.int .i64 z.kind)).setCell ⟨b, 1, none⟩ (.int .i64 z.src)).setCell ⟨b, 2, none⟩ (.int .i64 z.dst)).setCell ⟨b, 3, none⟩ (.int .i64 z.frame)).setCell ⟨b, 4, none⟩ (.int .i64 z.e.id)).setCell ⟨b, 5, none⟩ (.int .i64 z.e.kind)).setCell ⟨b, 6, none⟩ (.int .i64 z.e.x)).setCell ⟨b, 7, none⟩ (.int .i64 z.e.y)).setCell ⟨b, 8, none⟩ (.int .i64 z.e.vx)).setCell ⟨b, 9, none⟩ (.int .i64 z.e.vy)).setCell ⟨b, 10, none⟩ (.int .i64 z.e.health)).setCell ⟨b, 11, none⟩ (.int .i64 z.e.age)).setCell ⟨b, 12, none⟩ (.int .i64 z.e.owner)).setCell ⟨b, 13, none⟩ (.int .i64 z.x)).setCell ⟨b, 14, none⟩ (.int .i64 z.y) = W) : Below B w0 W := by
  subst hW
  exact (((((((((((((((h.setCell hle _).setCell hle _).setCell hle _).setCell hle _).setCell hle _).setCell hle _).setCell hle _).setCell hle _).setCell hle _).setCell hle _).setCell hle _).setCell hle _).setCell hle _).setCell hle _).setCell hle _)

/-- Behind a call, and stores into another box. -/
theorem nxf {p : Nat} (h : CrsBox w b y) (hb : Below w.heap.size w w') (hO : Off p w' W) (hp : p ≠ b) : CrsBox W b y :=
  of (fun q => hO.cell b q hp) (fun q => hO.frozen b q) (h.nx hb)

/-- Behind stores into another box. -/
theorem nf {p : Nat} (h : CrsBox w b y) (hO : Off p w W) (hp : p ≠ b) : CrsBox W b y :=
  of (fun q => hO.cell b q hp) (fun q => hO.frozen b q) h

end CrsBox

end Go.Proofs.Ytlpkaljepaclpaa.Fx
