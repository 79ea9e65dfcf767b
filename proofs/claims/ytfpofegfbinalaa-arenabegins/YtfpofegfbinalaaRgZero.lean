/- A region that nothing was put into, in a new box. -/
import Derived.Test.YtfpofegfbinalaaGBoxNRegion
namespace Go.Proofs.Ytfpofegfbinalaa.Fx
open Go.ChangeShapes Go.WideShapes Go.ChangeAt Go.RowKit
set_option linter.unusedVariables false
set_option maxRecDepth 100000

theorem Blk.nx {w w' : World} {g : Nat} {t : TypeId} {cur : Array Value} (h : Blk w g t cur) (hb : Below w.heap.size w w') : Blk w' g t cur := h.below hb h.lt

theorem Blk.drew {w : World} {g : Nat} {t : TypeId} {cur : Array Value} (h : Blk w g t cur) : Blk w.drew g t cur := h

theorem Blk.new (w : World) (cur : Array Value) (t : TypeId) : Blk (w.alloc (.cells cur t)) w.heap.size t cur := heap_alloc_new w _

theorem Blk.new' (w : World) (cur : Array Value) (t : TypeId) {g : Nat} (hg : g = w.heap.size) : Blk (w.alloc (.cells cur t)) g t cur := hg ▸ Blk.new w cur t

/-- A region that nothing was put into. -/
def r0 : Reg := ⟨0, .slice none 0 0⟩

theorem zrA (X : World) {g : Nat} (hg : g = X.heap.size) : RegBox (X.alloc (.cells #[.int .i64 0, .slice none 0 0] 47)) g r0 := hg ▸ RegBox.n1 X r0 _ rfl

theorem zrB (X : World) {g : Nat} (hg : g = X.heap.size) : RegBox (X.alloc (.cells #[.int .i64 0, .slice none 0 0] 47)).drew g r0 := (zrA X hg).drew

theorem zrC (X : World) (o : Obj) {g : Nat} (hg : g = X.heap.size) : RegBox ((X.alloc (.cells #[.int .i64 0, .slice none 0 0] 47)).alloc o) g r0 := (zrA X hg).alloc (zrA X hg).has o

theorem zrD (X : World) (o : Obj) {g : Nat} (hg : g = X.heap.size) : RegBox ((X.alloc (.cells #[.int .i64 0, .slice none 0 0] 47)).alloc o).drew g r0 := (zrC X o hg).drew

end Go.Proofs.Ytfpofegfbinalaa.Fx
