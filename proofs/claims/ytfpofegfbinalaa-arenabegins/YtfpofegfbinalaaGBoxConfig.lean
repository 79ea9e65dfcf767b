/- Config in a box of its own: its cells, and that it may be written; what turns of the world make of it. -/
import Derived.Test.YtfpofegfbinalaaGTypConfig
import Derived.Lib.Hide
namespace Go.Proofs.Ytfpofegfbinalaa.Fx
open Go.ChangeShapes Go.WideShapes Go.ChangeAt Go.RowKit
set_option linter.unusedVariables false
set_option maxRecDepth 100000

/-- The block b holds y, and may be written. -/
structure CfgBox (w : World) (b : Nat) (y : Cfg) : Prop where
  c0 : w.cell? ⟨b, 0, none⟩ = some (.int .i64 y.cols)
  c1 : w.cell? ⟨b, 1, none⟩ = some (.int .i64 y.rows)
  c2 : w.cell? ⟨b, 2, none⟩ = some (.int .i64 y.players)
  c3 : w.cell? ⟨b, 3, none⟩ = some (.int .i64 y.window)
  c4 : w.cell? ⟨b, 4, none⟩ = some (.int .u64 y.seed)
  f0 : w.frozen? ⟨b, 0, none⟩ = false
  f1 : w.frozen? ⟨b, 1, none⟩ = false
  f2 : w.frozen? ⟨b, 2, none⟩ = false
  f3 : w.frozen? ⟨b, 3, none⟩ = false
  f4 : w.frozen? ⟨b, 4, none⟩ = false

namespace CfgBox
variable {w w' : World} {b : Nat} {y : Cfg}

theorem of (hc : ∀ q, w'.cell? ⟨b, q, none⟩ = w.cell? ⟨b, q, none⟩) (hf : ∀ q, w'.frozen? ⟨b, q, none⟩ = w.frozen? ⟨b, q, none⟩) (h : CfgBox w b y) : CfgBox w' b y := by
  constructor
  · rw [hc]; exact h.c0
  · rw [hc]; exact h.c1
  · rw [hc]; exact h.c2
  · rw [hc]; exact h.c3
  · rw [hc]; exact h.c4
  · rw [hf]; exact h.f0
  · rw [hf]; exact h.f1
  · rw [hf]; exact h.f2
  · rw [hf]; exact h.f3
  · rw [hf]; exact h.f4

theorem below {B : Nat} (h : CfgBox w b y) (hb : Below B w w') (hlt : b < B) : CfgBox w' b y := of (fun q => hb.cell (p := ⟨b, q, none⟩) hlt) (fun q => hb.frozen (p := ⟨b, q, none⟩) hlt) h

theorem drew (h : CfgBox w b y) : CfgBox w.drew b y := of (w := w) (fun _ => rfl) (fun _ => rfl) h

theorem undrew (h : CfgBox w.drew b y) : CfgBox w b y := of (w := w.drew) (fun _ => rfl) (fun _ => rfl) h

theorem drewN (h : CfgBox w b y) (n : Nat) : CfgBox (w.drewN n) b y := of (w := w) (fun _ => rfl) (fun _ => rfl) h

theorem alloc (h : CfgBox w b y) (hlt : b < w.heap.size) (o : Obj) : CfgBox (w.alloc o) b y :=
  of (fun q => World.cell?_alloc_lt _ _ _ hlt) (fun q => World.frozen?_alloc_old _ _ _ (by simp only; omega)) h

theorem far (h : CfgBox w b y) {p : Nat} (hp : p ≠ b) (o : Nat) (v : Value) : CfgBox (w.setCell ⟨p, o, none⟩ v) b y :=
  of (w := w) (fun q => World.cell?_setCell_other _ _ _ _ (by intro hh; exact hp (congrArg Addr.block hh))) (fun q => World.frozen?_setCell _ _ _ _) h

theorem new (w : World) (y : Cfg) (t : TypeId) {g : Nat} (hg : g = w.heap.size) {A : Array Value} (hA : A = #[.int .i64 y.cols, .int .i64 y.rows, .int .i64 y.players, .int .i64 y.window, .int .u64 y.seed]) : CfgBox (w.alloc (.cells A t)) g y := by
  subst hg hA
  constructor
  · rw [World.cell?_alloc_new]; rfl
  · rw [World.cell?_alloc_new]; rfl
  · rw [World.cell?_alloc_new]; rfl
  · rw [World.cell?_alloc_new]; rfl
  · rw [World.cell?_alloc_new]; rfl
  · exact World.frozen?_alloc_new _ _ _ 0
  · exact World.frozen?_alloc_new _ _ _ 1
  · exact World.frozen?_alloc_new _ _ _ 2
  · exact World.frozen?_alloc_new _ _ _ 3
  · exact World.frozen?_alloc_new _ _ _ 4

/-- The first, second, third of boxes laid one behind the other. -/
theorem n1 (w : World) (y : Cfg) (t : TypeId) {A : Array Value} (hA : A = #[.int .i64 y.cols, .int .i64 y.rows, .int .i64 y.players, .int .i64 y.window, .int .u64 y.seed]) : CfgBox (w.alloc (.cells A t)) w.heap.size y := new _ _ _ rfl hA

theorem n2a (w : World) (y : Cfg) (t : TypeId) (B : Obj) {A : Array Value} (hA : A = #[.int .i64 y.cols, .int .i64 y.rows, .int .i64 y.players, .int .i64 y.window, .int .u64 y.seed]) : CfgBox ((w.alloc (.cells A t)).alloc B) w.heap.size y := (new _ _ _ rfl hA).alloc (by simp) _

theorem n2b (w : World) (y : Cfg) (t : TypeId) (B : Obj) {A : Array Value} (hA : A = #[.int .i64 y.cols, .int .i64 y.rows, .int .i64 y.players, .int .i64 y.window, .int .u64 y.seed]) : CfgBox ((w.alloc B).alloc (.cells A t)) (w.heap.size + 1) y := new _ _ _ (by simp) hA

theorem n3a (w : World) (y : Cfg) (t : TypeId) (B C : Obj) {A : Array Value} (hA : A = #[.int .i64 y.cols, .int .i64 y.rows, .int .i64 y.players, .int .i64 y.window, .int .u64 y.seed]) : CfgBox (((w.alloc (.cells A t)).alloc B).alloc C) w.heap.size y := (n2a _ _ _ _ hA).alloc (by simp; omega) _

theorem n3b (w : World) (y : Cfg) (t : TypeId) (B C : Obj) {A : Array Value} (hA : A = #[.int .i64 y.cols, .int .i64 y.rows, .int .i64 y.players, .int .i64 y.window, .int .u64 y.seed]) : CfgBox (((w.alloc B).alloc (.cells A t)).alloc C) (w.heap.size + 1) y := (n2b _ _ _ _ hA).alloc (by simp) _

theorem n3c (w : World) (y : Cfg) (t : TypeId) (B C : Obj) {A : Array Value} (hA : A = #[.int .i64 y.cols, .int .i64 y.rows, .int .i64 y.players, .int .i64 y.window, .int .u64 y.seed]) : CfgBox (((w.alloc B).alloc C).alloc (.cells A t)) (w.heap.size + 1 + 1) y := new _ _ _ (by simp) hA

theorem has (h : CfgBox w b y) : b < w.heap.size := by
  have := h.c0
  rcases Nat.lt_or_ge b w.heap.size with h' | h'
  · exact h'
  · rw [show w.cell? ⟨b, 0, none⟩ = none by unfold World.cell?; simp [h']] at this
    cases this

theorem set0 (h : CfgBox w b y) (v : Int) : CfgBox (w.setCell ⟨b, 0, none⟩ (.int .i64 v)) b ⟨v, y.rows, y.players, y.window, y.seed⟩ := by
  constructor
  · exact World.cell?_setCell_same _ _ _ h.c0
  · rw [World.cell?_setCell_other _ _ _ _ (by simp)]; exact h.c1
  · rw [World.cell?_setCell_other _ _ _ _ (by simp)]; exact h.c2
  · rw [World.cell?_setCell_other _ _ _ _ (by simp)]; exact h.c3
  · rw [World.cell?_setCell_other _ _ _ _ (by simp)]; exact h.c4
  · rw [World.frozen?_setCell]; exact h.f0
  · rw [World.frozen?_setCell]; exact h.f1
  · rw [World.frozen?_setCell]; exact h.f2
  · rw [World.frozen?_setCell]; exact h.f3
  · rw [World.frozen?_setCell]; exact h.f4

theorem set1 (h : CfgBox w b y) (v : Int) : CfgBox (w.setCell ⟨b, 1, none⟩ (.int .i64 v)) b ⟨y.cols, v, y.players, y.window, y.seed⟩ := by
  constructor
  · rw [World.cell?_setCell_other _ _ _ _ (by simp)]; exact h.c0
  · exact World.cell?_setCell_same _ _ _ h.c1
  · rw [World.cell?_setCell_other _ _ _ _ (by simp)]; exact h.c2
  · rw [World.cell?_setCell_other _ _ _ _ (by simp)]; exact h.c3
  · rw [World.cell?_setCell_other _ _ _ _ (by simp)]; exact h.c4
  · rw [World.frozen?_setCell]; exact h.f0
  · rw [World.frozen?_setCell]; exact h.f1
  · rw [World.frozen?_setCell]; exact h.f2
  · rw [World.frozen?_setCell]; exact h.f3
  · rw [World.frozen?_setCell]; exact h.f4

theorem set2 (h : CfgBox w b y) (v : Int) : CfgBox (w.setCell ⟨b, 2, none⟩ (.int .i64 v)) b ⟨y.cols, y.rows, v, y.window, y.seed⟩ := by
  constructor
  · rw [World.cell?_setCell_other _ _ _ _ (by simp)]; exact h.c0
  · rw [World.cell?_setCell_other _ _ _ _ (by simp)]; exact h.c1
  · exact World.cell?_setCell_same _ _ _ h.c2
  · rw [World.cell?_setCell_other _ _ _ _ (by simp)]; exact h.c3
  · rw [World.cell?_setCell_other _ _ _ _ (by simp)]; exact h.c4
  · rw [World.frozen?_setCell]; exact h.f0
  · rw [World.frozen?_setCell]; exact h.f1
  · rw [World.frozen?_setCell]; exact h.f2
  · rw [World.frozen?_setCell]; exact h.f3
  · rw [World.frozen?_setCell]; exact h.f4

theorem set3 (h : CfgBox w b y) (v : Int) : CfgBox (w.setCell ⟨b, 3, none⟩ (.int .i64 v)) b ⟨y.cols, y.rows, y.players, v, y.seed⟩ := by
  constructor
  · rw [World.cell?_setCell_other _ _ _ _ (by simp)]; exact h.c0
  · rw [World.cell?_setCell_other _ _ _ _ (by simp)]; exact h.c1
  · rw [World.cell?_setCell_other _ _ _ _ (by simp)]; exact h.c2
  · exact World.cell?_setCell_same _ _ _ h.c3
  · rw [World.cell?_setCell_other _ _ _ _ (by simp)]; exact h.c4
  · rw [World.frozen?_setCell]; exact h.f0
  · rw [World.frozen?_setCell]; exact h.f1
  · rw [World.frozen?_setCell]; exact h.f2
  · rw [World.frozen?_setCell]; exact h.f3
  · rw [World.frozen?_setCell]; exact h.f4

theorem set4 (h : CfgBox w b y) (v : Int) : CfgBox (w.setCell ⟨b, 4, none⟩ (.int .u64 v)) b ⟨y.cols, y.rows, y.players, y.window, v⟩ := by
  constructor
  · rw [World.cell?_setCell_other _ _ _ _ (by simp)]; exact h.c0
  · rw [World.cell?_setCell_other _ _ _ _ (by simp)]; exact h.c1
  · rw [World.cell?_setCell_other _ _ _ _ (by simp)]; exact h.c2
  · rw [World.cell?_setCell_other _ _ _ _ (by simp)]; exact h.c3
  · exact World.cell?_setCell_same _ _ _ h.c4
  · rw [World.frozen?_setCell]; exact h.f0
  · rw [World.frozen?_setCell]; exact h.f1
  · rw [World.frozen?_setCell]; exact h.f2
  · rw [World.frozen?_setCell]; exact h.f3
  · rw [World.frozen?_setCell]; exact h.f4

/-- All cells written, one behind the other. -/
theorem put (h : CfgBox w b y) (z : Cfg) : CfgBox ((((((w).setCell ⟨b, 0, none⟩ (.int .i64 z.cols)).setCell ⟨b, 1, none⟩ (.int .i64 z.rows)).setCell ⟨b, 2, none⟩ (.int .i64 z.players)).setCell ⟨b, 3, none⟩ (.int .i64 z.window)).setCell ⟨b, 4, none⟩ (.int .u64 z.seed)) b z := by
  obtain ⟨z0, z1, z2, z3, z4⟩ := z
  exact (((((h).set0 _).set1 _).set2 _).set3 _).set4 _

end CfgBox

end Go.Proofs.Ytfpofegfbinalaa.Fx
