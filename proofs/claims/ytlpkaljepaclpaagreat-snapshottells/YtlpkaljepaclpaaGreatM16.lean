/- Config in a box of its own: its cells, and that it may be written; what turns of the world make of it. Config in a box, call by call. Region: its values, its cells (one of them a slice). Region in a box of its own: its cells, and that it may be written; what turns of the world make of it. Region in a box, call by call. Contracts of package input's small functions and of the document's answers beside them: what each returns, for every input; old memory stays. -/
import Derived.Test.YtlpkaljepaclpaaGreatM15
import Derived.Lib.Hide
import Derived.Test.YtlpkaljepaclpaaGreatM02
import Derived.Test.YtlpkaljepaclpaaGreatM01
import Derived.Laws.StructEq
namespace Go.Proofs.YtlpkaljepaclpaaGreat.Fx
open Go.ChangeShapes Go.WideShapes Go.ChangeAt Go.RowKit
set_option linter.unusedVariables false
set_option maxRecDepth 100000

/-- The block b holds y, and may be written. -/
structure CfgBox (w : World) (b : Nat) (y : Cfg) : Prop where
  c0 : w.cell? ⟨b, 0, none⟩ = some (.int .i64 y.cols)
  c1 : w.cell? ⟨b, 1, none⟩ = some (.int .i64 y.rows)
  c2 : w.cell? ⟨b, 2, none⟩ = some (.int .i64 y.players)
  c3 : w.cell? ⟨b, 3, none⟩ = some (.int .i64 y.window)
  c4 : w.cell? ⟨b, 4, none⟩ = some (.int .u64 y.seed)
  f0 : w.frozen? ⟨b, 0, none⟩ = false
  f1 : w.frozen? ⟨b, 1, none⟩ = false
  f2 : w.frozen? ⟨b, 2, none⟩ = false
  f3 : w.frozen? ⟨b, 3, none⟩ = false
  f4 : w.frozen? ⟨b, 4, none⟩ = false

namespace CfgBox
variable {w w' : World} {b : Nat} {y : Cfg}

theorem of (hc : ∀ q, w'.cell? ⟨b, q, none⟩ = w.cell? ⟨b, q, none⟩) (hf : ∀ q, w'.frozen? ⟨b, q, none⟩ = w.frozen? ⟨b, q, none⟩) (h : CfgBox w b y) : CfgBox w' b y := by
  constructor
  · rw [hc]; exact h.c0
  · rw [hc]; exact h.c1
  · rw [hc]; exact h.c2
  · rw [hc]; exact h.c3
  · rw [hc]; exact h.c4
  · rw [hf]; exact h.f0
  · rw [hf]; exact h.f1
  · rw [hf]; exact h.f2
  · rw [hf]; exact h.f3
  · rw [hf]; exact h.f4

theorem below {B : Nat} (h : CfgBox w b y) (hb : Below B w w') (hlt : b < B) : CfgBox w' b y := of (fun q => hb.cell (p := ⟨b, q, none⟩) hlt) (fun q => hb.frozen (p := ⟨b, q, none⟩) hlt) h

theorem drew (h : CfgBox w b y) : CfgBox w.drew b y := of (w := w) (fun _ => rfl) (fun _ => rfl) h

theorem undrew (h : CfgBox w.drew b y) : CfgBox w b y := of (w := w.drew) (fun _ => rfl) (fun _ => rfl) h

theorem drewN (h : CfgBox w b y) (n : Nat) : CfgBox (w.drewN n) b y := of (w := w) (fun _ => rfl) (fun _ => rfl) h

theorem alloc (h : CfgBox w b y) (hlt : b < w.heap.size) (o : Obj) : CfgBox (w.alloc o) b y :=
  of (fun q => World.cell?_alloc_lt _ _ _ hlt) (fun q => World.frozen?_alloc_old _ _ _ (by simp only; omega)) h

theorem far (h : CfgBox w b y) {p : Nat} (hp : p ≠ b) (o : Nat) (v : Value) : CfgBox (w.setCell ⟨p, o, none⟩ v) b y :=
  of (w := w) (fun q => World.cell?_setCell_other _ _ _ _ (by intro hh; exact hp (congrArg Addr.block hh))) (fun q => World.frozen?_setCell _ _ _ _) h

theorem new (w : World) (y : Cfg) (t : TypeId) {g : Nat} (hg : g = w.heap.size) {A : Array Value} (hA : A = #[.int .i64 y.cols, .int .i64 y.rows, .int .i64 y.players, .int .i64 y.window, .int .u64 y.seed]) : CfgBox (w.alloc (.cells A t)) g y := by
  subst hg hA
  constructor
  · rw [World.cell?_alloc_new]; rfl
  · rw [World.cell?_alloc_new]; rfl
  · rw [World.cell?_alloc_new]; rfl
  · rw [World.cell?_alloc_new]; rfl
  · rw [World.cell?_alloc_new]; rfl
  · exact World.frozen?_alloc_new _ _ _ 0
  · exact World.frozen?_alloc_new _ _ _ 1
  · exact World.frozen?_alloc_new _ _ _ 2
  · exact World.frozen?_alloc_new _ _ _ 3
  · exact World.frozen?_alloc_new _ _ _ 4

/-- The first, second, third of boxes laid one behind the other. -/
theorem n1 (w : World) (y : Cfg) (t : TypeId) {A : Array Value} (hA : A = #[.int .i64 y.cols, .int .i64 y.rows, .int .i64 y.players, .int .i64 y.window, .int .u64 y.seed]) : CfgBox (w.alloc (.cells A t)) w.heap.size y := new _ _ _ rfl hA

theorem n2a (w : World) (y : Cfg) (t : TypeId) (B : Obj) {A : Array Value} (hA : A = #[.int .i64 y.cols, .int .i64 y.rows, .int .i64 y.players, .int .i64 y.window, .int .u64 y.seed]) : CfgBox ((w.alloc (.cells A t)).alloc B) w.heap.size y := (new _ _ _ rfl hA).alloc (by simp) _

theorem n2b (w : World) (y : Cfg) (t : TypeId) (B : Obj) {A : Array Value} (hA : A = #[.int .i64 y.cols, .int .i64 y.rows, .int .i64 y.players, .int .i64 y.window, .int .u64 y.seed]) : CfgBox ((w.alloc B).alloc (.cells A t)) (w.heap.size + 1) y := new _ _ _ (by simp) hA

theorem n3a (w : World) (y : Cfg) (t : TypeId) (B C : Obj) {A : Array Value} (hA : A = #[.int .i64 y.cols, .int .i64 y.rows, .int .i64 y.players, .int .i64 y.window, .int .u64 y.seed]) : CfgBox (((w.alloc (.cells A t)).alloc B).alloc C) w.heap.size y := (n2a _ _ _ _ hA).alloc (by simp; omega) _

theorem n3b (w : World) (y : Cfg) (t : TypeId) (B C : Obj) {A : Array Value} (hA : A = #[.int .i64 y.cols, .int .i64 y.rows, .int .i64 y.players, .int .i64 y.window, .int .u64 y.seed]) : CfgBox (((w.alloc B).alloc (.cells A t)).alloc C) (w.heap.size + 1) y := (n2b _ _ _ _ hA).alloc (by simp) _

theorem n3c (w : World) (y : Cfg) (t : TypeId) (B C : Obj) {A : Array Value} (hA : A = #[.int .i64 y.cols, .int .i64 y.rows, .int .i64 y.players, .int .i64 y.window, .int .u64 y.seed]) : CfgBox (((w.alloc B).alloc C).alloc (.cells A t)) (w.heap.size + 1 + 1) y := new _ _ _ (by simp) hA

theorem has (h : CfgBox w b y) : b < w.heap.size := by
  have := h.c0
  rcases Nat.lt_or_ge b w.heap.size with h' | h'
  · exact h'
  · rw [show w.cell? ⟨b, 0, none⟩ = none by unfold World.cell?; simp [h']] at this
    cases this

theorem set0 (h : CfgBox w b y) (v : Int) : CfgBox (w.setCell ⟨b, 0, none⟩ (.int .i64 v)) b ⟨v, y.rows, y.players, y.window, y.seed⟩ := by
  obtain ⟨c0, c1, c2, c3, c4, f0, f1, f2, f3, f4⟩ := h
  constructor
  all_goals first | (rw [World.frozen?_setCell]; assumption) | exact World.cell?_setCell_same _ _ _ c0 | (rw [World.cell?_setCell_other _ _ _ _ (by simp)]; assumption)

theorem set1 (h : CfgBox w b y) (v : Int) : CfgBox (w.setCell ⟨b, 1, none⟩ (.int .i64 v)) b ⟨y.cols, v, y.players, y.window, y.seed⟩ := by
  obtain ⟨c0, c1, c2, c3, c4, f0, f1, f2, f3, f4⟩ := h
  constructor
  all_goals first | (rw [World.frozen?_setCell]; assumption) | exact World.cell?_setCell_same _ _ _ c1 | (rw [World.cell?_setCell_other _ _ _ _ (by simp)]; assumption)

theorem set2 (h : CfgBox w b y) (v : Int) : CfgBox (w.setCell ⟨b, 2, none⟩ (.int .i64 v)) b ⟨y.cols, y.rows, v, y.window, y.seed⟩ := by
  obtain ⟨c0, c1, c2, c3, c4, f0, f1, f2, f3, f4⟩ := h
  constructor
  all_goals first | (rw [World.frozen?_setCell]; assumption) | exact World.cell?_setCell_same _ _ _ c2 | (rw [World.cell?_setCell_other _ _ _ _ (by simp)]; assumption)

theorem set3 (h : CfgBox w b y) (v : Int) : CfgBox (w.setCell ⟨b, 3, none⟩ (.int .i64 v)) b ⟨y.cols, y.rows, y.players, v, y.seed⟩ := by
  obtain ⟨c0, c1, c2, c3, c4, f0, f1, f2, f3, f4⟩ := h
  constructor
  all_goals first | (rw [World.frozen?_setCell]; assumption) | exact World.cell?_setCell_same _ _ _ c3 | (rw [World.cell?_setCell_other _ _ _ _ (by simp)]; assumption)

theorem set4 (h : CfgBox w b y) (v : Int) : CfgBox (w.setCell ⟨b, 4, none⟩ (.int .u64 v)) b ⟨y.cols, y.rows, y.players, y.window, v⟩ := by
  obtain ⟨c0, c1, c2, c3, c4, f0, f1, f2, f3, f4⟩ := h
  constructor
  all_goals first | (rw [World.frozen?_setCell]; assumption) | exact World.cell?_setCell_same _ _ _ c4 | (rw [World.cell?_setCell_other _ _ _ _ (by simp)]; assumption)

/-- All cells written, one behind the other. -/
theorem put (h : CfgBox w b y) (z : Cfg) : CfgBox ((((((w).setCell ⟨b, 0, none⟩ (.int .i64 z.cols)).setCell ⟨b, 1, none⟩ (.int .i64 z.rows)).setCell ⟨b, 2, none⟩ (.int .i64 z.players)).setCell ⟨b, 3, none⟩ (.int .i64 z.window)).setCell ⟨b, 4, none⟩ (.int .u64 z.seed)) b z := by
  obtain ⟨z0, z1, z2, z3, z4⟩ := z
  exact (((((h).set0 _).set1 _).set2 _).set3 _).set4 _

end CfgBox

end Go.Proofs.YtlpkaljepaclpaaGreat.Fx
namespace Go.Proofs.YtlpkaljepaclpaaGreat.Fx
open Go.ChangeShapes Go.WideShapes Go.ChangeAt Go.RowKit
set_option linter.unusedVariables false
set_option maxRecDepth 100000

namespace CfgBox
variable {w w' W : World} {b : Nat} {y : Cfg} {o : Obj}

/-- Behind a call. -/
theorem nx (h : CfgBox w b y) (hb : Below w.heap.size w w') : CfgBox w' b y := h.below hb h.has

/-- Behind a call, and a new box. -/
theorem nxa (h : CfgBox w b y) (hb : Below w.heap.size w w') (hW : w'.alloc o = W) : CfgBox W b y := by
  subst hW
  exact (h.nx hb).alloc (h.nx hb).has o

/-- The new box itself. -/
theorem nb {A : Array Value} {t : TypeId} (hW : w'.alloc (.cells A t) = W) (y : Cfg) (hA : A = #[.int .i64 y.cols, .int .i64 y.rows, .int .i64 y.players, .int .i64 y.window, .int .u64 y.seed]) : CfgBox W w'.heap.size y := by
  subst hW
  exact n1 _ _ _ hA

/-- Behind a call, and a store of the whole into the box. -/
theorem nxs (h : CfgBox w b y) (hb : Below w.heap.size w w') (z : Cfg) (hW : (((((w').setCell ⟨b, 0, none⟩ (.int .i64 z.cols)).setCell ⟨b, 1, none⟩ (.int .i64 z.rows)).setCell ⟨b, 2, none⟩ (.int .i64 z.players)).setCell ⟨b, 3, none⟩ (.int .i64 z.window)).setCell ⟨b, 4, none⟩ (.int .u64 z.seed) = W) : CfgBox W b z := by
  subst hW
  exact (h.nx hb).put z

theorem off {w' W : World} {b : Nat} (z : Cfg) (hW : (((((w').setCell ⟨b, 0, none⟩ (.int .i64 z.cols)).setCell ⟨b, 1, none⟩ (.int .i64 z.rows)).setCell ⟨b, 2, none⟩ (.int .i64 z.players)).setCell ⟨b, 3, none⟩ (.int .i64 z.window)).setCell ⟨b, 4, none⟩ (.int .u64 z.seed) = W) : Off b w' W := by
  subst hW
  exact ((((((Off.refl _ _).set _ _).set _ _).set _ _).set _ _).set _ _)

theorem bel {w0 w' W : World} {b B : Nat} (h : Below B w0 w') (z : Cfg) (hle : B ≤ b) (hW : (((((w').setCell ⟨b, 0, none⟩ (.int .i64 z.cols)).setCell ⟨b, 1, none⟩ (.int .i64 z.rows)).setCell ⟨b, 2, none⟩ (.int .i64 z.players)).setCell ⟨b, 3, none⟩ (.int .i64 z.window)).setCell ⟨b, 4, none⟩ (.int .u64 z.seed) = W) : Below B w0 W := by
  subst hW
  exact (((((h.setCell hle _).setCell hle _).setCell hle _).setCell hle _).setCell hle _)

/-- Behind a call, and stores into another box. -/
theorem nxf {p : Nat} (h : CfgBox w b y) (hb : Below w.heap.size w w') (hO : Off p w' W) (hp : p ≠ b) : CfgBox W b y :=
  of (fun q => hO.cell b q hp) (fun q => hO.frozen b q) (h.nx hb)

/-- Behind stores into another box. -/
theorem nf {p : Nat} (h : CfgBox w b y) (hO : Off p w W) (hp : p ≠ b) : CfgBox W b y :=
  of (fun q => hO.cell b q hp) (fun q => hO.frozen b q) h

end CfgBox

end Go.Proofs.YtlpkaljepaclpaaGreat.Fx
namespace Go.Proofs.YtlpkaljepaclpaaGreat.Fx
open Go.ChangeShapes Go.WideShapes Go.ChangeAt Go.RowKit
set_option linter.unusedVariables false
set_option maxRecDepth 100000

structure Reg where
  frame : Int
  list : Value

/-- Its cells. -/
def regC (e : Reg) : List Value := [.int .i64 e.frame, e.list]

instance : Inhabited Reg := ⟨⟨0, .slice none 0 0⟩⟩

end Go.Proofs.YtlpkaljepaclpaaGreat.Fx
namespace Go.Proofs.YtlpkaljepaclpaaGreat.Fx
open Go.ChangeShapes Go.WideShapes Go.ChangeAt Go.RowKit
set_option linter.unusedVariables false
set_option maxRecDepth 100000

/-- The block b holds y, and may be written. -/
structure RegBox (w : World) (b : Nat) (y : Reg) : Prop where
  c0 : w.cell? ⟨b, 0, none⟩ = some (.int .i64 y.frame)
  c1 : w.cell? ⟨b, 1, none⟩ = some (y.list)
  f0 : w.frozen? ⟨b, 0, none⟩ = false
  f1 : w.frozen? ⟨b, 1, none⟩ = false

namespace RegBox
variable {w w' : World} {b : Nat} {y : Reg}

theorem of (hc : ∀ q, w'.cell? ⟨b, q, none⟩ = w.cell? ⟨b, q, none⟩) (hf : ∀ q, w'.frozen? ⟨b, q, none⟩ = w.frozen? ⟨b, q, none⟩) (h : RegBox w b y) : RegBox w' b y := by
  constructor
  · rw [hc]; exact h.c0
  · rw [hc]; exact h.c1
  · rw [hf]; exact h.f0
  · rw [hf]; exact h.f1

theorem below {B : Nat} (h : RegBox w b y) (hb : Below B w w') (hlt : b < B) : RegBox w' b y := of (fun q => hb.cell (p := ⟨b, q, none⟩) hlt) (fun q => hb.frozen (p := ⟨b, q, none⟩) hlt) h

theorem drew (h : RegBox w b y) : RegBox w.drew b y := of (w := w) (fun _ => rfl) (fun _ => rfl) h

theorem undrew (h : RegBox w.drew b y) : RegBox w b y := of (w := w.drew) (fun _ => rfl) (fun _ => rfl) h

theorem drewN (h : RegBox w b y) (n : Nat) : RegBox (w.drewN n) b y := of (w := w) (fun _ => rfl) (fun _ => rfl) h

theorem alloc (h : RegBox w b y) (hlt : b < w.heap.size) (o : Obj) : RegBox (w.alloc o) b y :=
  of (fun q => World.cell?_alloc_lt _ _ _ hlt) (fun q => World.frozen?_alloc_old _ _ _ (by simp only; omega)) h

theorem far (h : RegBox w b y) {p : Nat} (hp : p ≠ b) (o : Nat) (v : Value) : RegBox (w.setCell ⟨p, o, none⟩ v) b y :=
  of (w := w) (fun q => World.cell?_setCell_other _ _ _ _ (by intro hh; exact hp (congrArg Addr.block hh))) (fun q => World.frozen?_setCell _ _ _ _) h

theorem new (w : World) (y : Reg) (t : TypeId) {g : Nat} (hg : g = w.heap.size) {A : Array Value} (hA : A = #[.int .i64 y.frame, y.list]) : RegBox (w.alloc (.cells A t)) g y := by
  subst hg hA
  constructor
  · rw [World.cell?_alloc_new]; rfl
  · rw [World.cell?_alloc_new]; rfl
  · exact World.frozen?_alloc_new _ _ _ 0
  · exact World.frozen?_alloc_new _ _ _ 1

/-- The first, second, third of boxes laid one behind the other. -/
theorem n1 (w : World) (y : Reg) (t : TypeId) {A : Array Value} (hA : A = #[.int .i64 y.frame, y.list]) : RegBox (w.alloc (.cells A t)) w.heap.size y := new _ _ _ rfl hA

theorem n2a (w : World) (y : Reg) (t : TypeId) (B : Obj) {A : Array Value} (hA : A = #[.int .i64 y.frame, y.list]) : RegBox ((w.alloc (.cells A t)).alloc B) w.heap.size y := (new _ _ _ rfl hA).alloc (by simp) _

theorem n2b (w : World) (y : Reg) (t : TypeId) (B : Obj) {A : Array Value} (hA : A = #[.int .i64 y.frame, y.list]) : RegBox ((w.alloc B).alloc (.cells A t)) (w.heap.size + 1) y := new _ _ _ (by simp) hA

theorem n3a (w : World) (y : Reg) (t : TypeId) (B C : Obj) {A : Array Value} (hA : A = #[.int .i64 y.frame, y.list]) : RegBox (((w.alloc (.cells A t)).alloc B).alloc C) w.heap.size y := (n2a _ _ _ _ hA).alloc (by simp; omega) _

theorem n3b (w : World) (y : Reg) (t : TypeId) (B C : Obj) {A : Array Value} (hA : A = #[.int .i64 y.frame, y.list]) : RegBox (((w.alloc B).alloc (.cells A t)).alloc C) (w.heap.size + 1) y := (n2b _ _ _ _ hA).alloc (by simp) _

theorem n3c (w : World) (y : Reg) (t : TypeId) (B C : Obj) {A : Array Value} (hA : A = #[.int .i64 y.frame, y.list]) : RegBox (((w.alloc B).alloc C).alloc (.cells A t)) (w.heap.size + 1 + 1) y := new _ _ _ (by simp) hA

theorem has (h : RegBox w b y) : b < w.heap.size := by
  have := h.c0
  rcases Nat.lt_or_ge b w.heap.size with h' | h'
  · exact h'
  · rw [show w.cell? ⟨b, 0, none⟩ = none by unfold World.cell?; simp [h']] at this
    cases this

theorem set0 (h : RegBox w b y) (v : Int) : RegBox (w.setCell ⟨b, 0, none⟩ (.int .i64 v)) b ⟨v, y.list⟩ := by
  obtain ⟨c0, c1, f0, f1⟩ := h
  constructor
  all_goals first | (rw [World.frozen?_setCell]; assumption) | exact World.cell?_setCell_same _ _ _ c0 | (rw [World.cell?_setCell_other _ _ _ _ (by simp)]; assumption)

theorem set1 (h : RegBox w b y) (v : Value) : RegBox (w.setCell ⟨b, 1, none⟩ (v)) b ⟨y.frame, v⟩ := by
  obtain ⟨c0, c1, f0, f1⟩ := h
  constructor
  all_goals first | (rw [World.frozen?_setCell]; assumption) | exact World.cell?_setCell_same _ _ _ c1 | (rw [World.cell?_setCell_other _ _ _ _ (by simp)]; assumption)

/-- All cells written, one behind the other. -/
theorem put (h : RegBox w b y) (z : Reg) : RegBox (((w).setCell ⟨b, 0, none⟩ (.int .i64 z.frame)).setCell ⟨b, 1, none⟩ (z.list)) b z := by
  obtain ⟨z0, z1⟩ := z
  exact ((h).set0 _).set1 _

end RegBox

end Go.Proofs.YtlpkaljepaclpaaGreat.Fx
namespace Go.Proofs.YtlpkaljepaclpaaGreat.Fx
open Go.ChangeShapes Go.WideShapes Go.ChangeAt Go.RowKit
set_option linter.unusedVariables false
set_option maxRecDepth 100000

namespace RegBox
variable {w w' W : World} {b : Nat} {y : Reg} {o : Obj}

/-- Behind a call. -/
theorem nx (h : RegBox w b y) (hb : Below w.heap.size w w') : RegBox w' b y := h.below hb h.has

/-- Behind a call, and a new box. -/
theorem nxa (h : RegBox w b y) (hb : Below w.heap.size w w') (hW : w'.alloc o = W) : RegBox W b y := by
  subst hW
  exact (h.nx hb).alloc (h.nx hb).has o

/-- The new box itself. -/
theorem nb {A : Array Value} {t : TypeId} (hW : w'.alloc (.cells A t) = W) (y : Reg) (hA : A = #[.int .i64 y.frame, y.list]) : RegBox W w'.heap.size y := by
  subst hW
  exact n1 _ _ _ hA

/-- Behind a call, and a store of the whole into the box. -/
theorem nxs (h : RegBox w b y) (hb : Below w.heap.size w w') (z : Reg) (hW : ((w').setCell ⟨b, 0, none⟩ (.int .i64 z.frame)).setCell ⟨b, 1, none⟩ (z.list) = W) : RegBox W b z := by
  subst hW
  exact (h.nx hb).put z

theorem off {w' W : World} {b : Nat} (z : Reg) (hW : ((w').setCell ⟨b, 0, none⟩ (.int .i64 z.frame)).setCell ⟨b, 1, none⟩ (z.list) = W) : Off b w' W := by
  subst hW
  exact (((Off.refl _ _).set _ _).set _ _)

theorem bel {w0 w' W : World} {b B : Nat} (h : Below B w0 w') (z : Reg) (hle : B ≤ b) (hW : ((w').setCell ⟨b, 0, none⟩ (.int .i64 z.frame)).setCell ⟨b, 1, none⟩ (z.list) = W) : Below B w0 W := by
  subst hW
  exact ((h.setCell hle _).setCell hle _)

/-- Behind a call, and stores into another box. -/
theorem nxf {p : Nat} (h : RegBox w b y) (hb : Below w.heap.size w w') (hO : Off p w' W) (hp : p ≠ b) : RegBox W b y :=
  of (fun q => hO.cell b q hp) (fun q => hO.frozen b q) (h.nx hb)

/-- Behind stores into another box. -/
theorem nf {p : Nat} (h : RegBox w b y) (hO : Off p w W) (hp : p ≠ b) : RegBox W b y :=
  of (fun q => hO.cell b q hp) (fun q => hO.frozen b q) h

end RegBox

end Go.Proofs.YtlpkaljepaclpaaGreat.Fx
namespace Go.Proofs.YtlpkaljepaclpaaGreat.Fx
open Go.ChangeShapes Go.WideShapes Go.ChangeAt Go.RowKit
set_option linter.unusedVariables false
set_option maxRecDepth 100000

/-- Are two inputs the same? -/
def same (a b : Int) (f : Bool) (c d : Int) (g : Bool) : Bool := decide (a = c ∧ b = d ∧ f = g)

@[go_sem] theorem same_self (a b : Int) (f : Bool) : same a b f a b f = true := by simp [same]

theorem eq_input (a b c d : Int) (f g : Bool) (w : World) : (Op.equalIn 10000 88 (.agg #[.int .i64 a, .int .i64 b, .bool f]) (.agg #[.int .i64 c, .int .i64 d, .bool g])).run Tryz.prog w = .ok (same a b f c d g) w := by
  have hS : Tryz.prog.underlying 88 = some (.struct (Tryz.prog.fieldsOf 88)) := by kernel_rfl
  have hp : Tryz.prog.stoodInHeld 88 = false := by kernel_rfl
  rw [show (10000 : Nat) = 9999 + 1 from rfl, run_equalIn_agg w 9999 88 _ _ hS hp]
  simp only [Program.fieldsOf, Tryz.underlying88]
  go_simp
  by_cases h1 : a = c <;> by_cases h2 : b = d <;> cases f <;> cases g <;> simp [h1, h2, same]

@[go_sem high] theorem eql_input (a b c d : Int) (f g : Bool) (w : World) : (binOp .eql 88 (.agg #[.int .i64 a, .int .i64 b, .bool f]) (.agg #[.int .i64 c, .int .i64 d, .bool g])).run Tryz.prog w = .ok (.bool (same a b f c d g)) w := by
  rw [run_eql_struct, eq_input]; rfl

@[go_sem high] theorem neq_input (a b c d : Int) (f g : Bool) (w : World) : (binOp .neq 88 (.agg #[.int .i64 a, .int .i64 b, .bool f]) (.agg #[.int .i64 c, .int .i64 d, .bool g])).run Tryz.prog w = .ok (.bool (!same a b f c d g)) w := by
  rw [run_neq_struct, eq_input]; rfl

def nr2 (v : Int) : Bool := decide (-2 ≤ v ∧ v ≤ 2)

/-- Is an input right? -/
def irt (x y : Int) : Bool := decide (-2 ≤ x ∧ x ≤ 2 ∧ -2 ≤ y ∧ y ≤ 2)

/-- A step that is guessed. -/
def gs (x y : Int) (k : Bool) (v : Int) : Int := if k && irt x y then v else 0

/-- The code of an input. -/
def cod (x y : Int) (f : Bool) : Int := if irt x y then (x + 2) * 10 + (y + 2) * 2 + (if f then 1 else 0) else 0

/-- The input of a code. -/
def fcx (b : Int) : Int := if b ≤ 49 then b / 10 - 2 else 0

def fcy (b : Int) : Int := if b ≤ 49 then b % 10 / 2 - 2 else 0

def fcf (b : Int) : Bool := decide (b ≤ 49 ∧ b % 2 = 1)

end Go.Proofs.YtlpkaljepaclpaaGreat.Fx
