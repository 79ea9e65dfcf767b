/- Input in a box, call by call. -/
import Derived.Test.YthkgbengmfedjaaGBoxInput
import Derived.Test.YthkgbengmfedjaaGOff
namespace Go.Proofs.Ythkgbengmfedjaa.Fx
open Go.ChangeShapes Go.WideShapes Go.ChangeAt Go.RowKit
set_option linter.unusedVariables false

namespace InpBox
variable {w w' W : World} {b : Nat} {y : Inp} {o : Obj}

/-- Behind a call. -/
theorem nx (h : InpBox w b y) (hb : Below w.heap.size w w') : InpBox w' b y := h.below hb h.has

/-- Behind a call, and a new box. -/
theorem nxa (h : InpBox w b y) (hb : Below w.heap.size w w') (hW : w'.alloc o = W) : InpBox W b y := by
  subst hW
  exact (h.nx hb).alloc (h.nx hb).has o

/-- The new box itself. -/
theorem nb {A : Array Value} {t : TypeId} (hW : w'.alloc (.cells A t) = W) (y : Inp) (hA : A = #[.int .i64 y.dx, .int .i64 y.dy, .bool y.fire]) : InpBox W w'.heap.size y := by
  subst hW
  exact n1 _ _ _ hA

/-- Behind a call, and a store of the whole into the box. -/
theorem nxs (h : InpBox w b y) (hb : Below w.heap.size w w') (z : Inp) (hW : (((w').setCell ⟨b, 0, none⟩ (.int .i64 z.dx)).setCell ⟨b, 1, none⟩ (.int .i64 z.dy)).setCell ⟨b, 2, none⟩ (.bool z.fire) = W) : InpBox W b z := by
  subst hW
  exact (h.nx hb).put z

theorem off {w' W : World} {b : Nat} (z : Inp) (hW : (((w').setCell ⟨b, 0, none⟩ (.int .i64 z.dx)).setCell ⟨b, 1, none⟩ (.int .i64 z.dy)).setCell ⟨b, 2, none⟩ (.bool z.fire) = W) : Off b w' W := by
  subst hW
  exact ((((Off.refl _ _).set _ _).set _ _).set _ _)

theorem bel {w0 w' W : World} {b B : Nat} (h : Below B w0 w') (z : Inp) (hle : B ≤ b) (hW : (((w').setCell ⟨b, 0, none⟩ (.int .i64 z.dx)).setCell ⟨b, 1, none⟩ (.int .i64 z.dy)).setCell ⟨b, 2, none⟩ (.bool z.fire) = W) : Below B w0 W := by
  subst hW
  exact (((h.setCell hle _).setCell hle _).setCell hle _)

/-- Behind a call, and stores into another box. -/
theorem nxf {p : Nat} (h : InpBox w b y) (hb : Below w.heap.size w w') (hO : Off p w' W) (hp : p ≠ b) : InpBox W b y :=
  of (fun q => hO.cell b q hp) (fun q => hO.frozen b q) (h.nx hb)

/-- Behind stores into another box. -/
theorem nf {p : Nat} (h : InpBox w b y) (hO : Off p w W) (hp : p ≠ b) : InpBox W b y :=
  of (fun q => hO.cell b q hp) (fun q => hO.frozen b q) h

end InpBox

end Go.Proofs.Ythkgbengmfedjaa.Fx
