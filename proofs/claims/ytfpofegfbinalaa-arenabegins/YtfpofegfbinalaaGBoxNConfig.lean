/- Config in a box, call by call. -/
import Derived.Test.YtfpofegfbinalaaGBoxConfig
import Derived.Test.YtfpofegfbinalaaGOff
namespace Go.Proofs.Ytfpofegfbinalaa.Fx
open Go.ChangeShapes Go.WideShapes Go.ChangeAt Go.RowKit
set_option linter.unusedVariables false
set_option maxRecDepth 100000

namespace CfgBox
variable {w w' W : World} {b : Nat} {y : Cfg} {o : Obj}

/-- Behind a call. -/
theorem nx (h : CfgBox w b y) (hb : Below w.heap.size w w') : CfgBox w' b y := h.below hb h.has

/-- Behind a call, and a new box. -/
theorem nxa (h : CfgBox w b y) (hb : Below w.heap.size w w') (hW : w'.alloc o = W) : CfgBox W b y := by
  subst hW
  exact (h.nx hb).alloc (h.nx hb).has o

/-- The new box itself. -/
theorem nb {A : Array Value} {t : TypeId} (hW : w'.alloc (.cells A t) = W) (y : Cfg) (hA : A = #[.int .i64 y.cols, .int .i64 y.rows, .int .i64 y.players, .int .i64 y.window, .int .u64 y.seed]) : CfgBox W w'.heap.size y := by
  subst hW
  exact n1 _ _ _ hA

/-- Behind a call, and a store of the whole into the box. -/
theorem nxs (h : CfgBox w b y) (hb : Below w.heap.size w w') (z : Cfg) (hW : (((((w').setCell ⟨b, 0, none⟩ (.int .i64 z.cols)).setCell ⟨b, 1, none⟩ (.int .i64 z.rows)).setCell ⟨b, 2, none⟩ (.int .i64 z.players)).setCell ⟨b, 3, none⟩ (.int .i64 z.window)).setCell ⟨b, 4, none⟩ (.int .u64 z.seed) = W) : CfgBox W b z := by
  subst hW
  exact (h.nx hb).put z

theorem off {w' W : World} {b : Nat} (z : Cfg) (hW : (((((w').setCell ⟨b, 0, none⟩ (.int .i64 z.cols)).setCell ⟨b, 1, none⟩ (.int .i64 z.rows)).setCell ⟨b, 2, none⟩ (.int .i64 z.players)).setCell ⟨b, 3, none⟩ (.int .i64 z.window)).setCell ⟨b, 4, none⟩ (.int .u64 z.seed) = W) : Off b w' W := by
  subst hW
  exact ((((((Off.refl _ _).set _ _).set _ _).set _ _).set _ _).set _ _)

theorem bel {w0 w' W : World} {b B : Nat} (h : Below B w0 w') (z : Cfg) (hle : B ≤ b) (hW : (((((w').setCell ⟨b, 0, none⟩ (.int .i64 z.cols)).setCell ⟨b, 1, none⟩ (.int .i64 z.rows)).setCell ⟨b, 2, none⟩ (.int .i64 z.players)).setCell ⟨b, 3, none⟩ (.int .i64 z.window)).setCell ⟨b, 4, none⟩ (.int .u64 z.seed) = W) : Below B w0 W := by
  subst hW
  exact (((((h.setCell hle _).setCell hle _).setCell hle _).setCell hle _).setCell hle _)

/-- Behind a call, and stores into another box. -/
theorem nxf {p : Nat} (h : CfgBox w b y) (hb : Below w.heap.size w w') (hO : Off p w' W) (hp : p ≠ b) : CfgBox W b y :=
  of (fun q => hO.cell b q hp) (fun q => hO.frozen b q) (h.nx hb)

/-- Behind stores into another box. -/
theorem nf {p : Nat} (h : CfgBox w b y) (hO : Off p w W) (hp : p ≠ b) : CfgBox W b y :=
  of (fun q => hO.cell b q hp) (fun q => hO.frozen b q) h

end CfgBox

end Go.Proofs.Ytfpofegfbinalaa.Fx
