/- Region in a box of its own: its cells, and that it may be written; what turns of the world make of it. -/
import Derived.Test.YtfpofegfbinalaaGTyVRegion
import Derived.Lib.Hide
namespace Go.Proofs.Ytfpofegfbinalaa.Fx
open Go.ChangeShapes Go.WideShapes Go.ChangeAt Go.RowKit
set_option linter.unusedVariables false
set_option maxRecDepth 100000

/-- The block b holds y, and may be written. -/
structure RegBox (w : World) (b : Nat) (y : Reg) : Prop where
  c0 : w.cell? ⟨b, 0, none⟩ = some (.int .i64 y.frame)
  c1 : w.cell? ⟨b, 1, none⟩ = some (y.list)
  f0 : w.frozen? ⟨b, 0, none⟩ = false
  f1 : w.frozen? ⟨b, 1, none⟩ = false

namespace RegBox
variable {w w' : World} {b : Nat} {y : Reg}

theorem of (hc : ∀ q, w'.cell? ⟨b, q, none⟩ = w.cell? ⟨b, q, none⟩) (hf : ∀ q, w'.frozen? ⟨b, q, none⟩ = w.frozen? ⟨b, q, none⟩) (h : RegBox w b y) : RegBox w' b y := by
  constructor
  · rw [hc]; exact h.c0
  · rw [hc]; exact h.c1
  · rw [hf]; exact h.f0
  · rw [hf]; exact h.f1

theorem below {B : Nat} (h : RegBox w b y) (hb : Below B w w') (hlt : b < B) : RegBox w' b y := of (fun q => hb.cell (p := ⟨b, q, none⟩) hlt) (fun q => hb.frozen (p := ⟨b, q, none⟩) hlt) h

theorem drew (h : RegBox w b y) : RegBox w.drew b y := of (w := w) (fun _ => rfl) (fun _ => rfl) h

theorem undrew (h : RegBox w.drew b y) : RegBox w b y := of (w := w.drew) (fun _ => rfl) (fun _ => rfl) h

theorem drewN (h : RegBox w b y) (n : Nat) : RegBox (w.drewN n) b y := of (w := w) (fun _ => rfl) (fun _ => rfl) h

theorem alloc (h : RegBox w b y) (hlt : b < w.heap.size) (o : Obj) : RegBox (w.alloc o) b y :=
  of (fun q => World.cell?_alloc_lt _ _ _ hlt) (fun q => World.frozen?_alloc_old _ _ _ (by simp only; omega)) h

theorem far (h : RegBox w b y) {p : Nat} (hp : p ≠ b) (o : Nat) (v : Value) : RegBox (w.setCell ⟨p, o, none⟩ v) b y :=
  of (w := w) (fun q => World.cell?_setCell_other _ _ _ _ (by intro hh; exact hp (congrArg Addr.block hh))) (fun q => World.frozen?_setCell _ _ _ _) h

theorem new (w : World) (y : Reg) (t : TypeId) {g : Nat} (hg : g = w.heap.size) {A : Array Value} (hA : A = #[.int .i64 y.frame, y.list]) : RegBox (w.alloc (.cells A t)) g y := by
  subst hg hA
  constructor
  · rw [World.cell?_alloc_new]; rfl
  · rw [World.cell?_alloc_new]; rfl
  · exact World.frozen?_alloc_new _ _ _ 0
  · exact World.frozen?_alloc_new _ _ _ 1

/-- The first, second, third of boxes laid one behind the other. -/
theorem n1 (w : World) (y : Reg) (t : TypeId) {A : Array Value} (hA : A = #[.int .i64 y.frame, y.list]) : RegBox (w.alloc (.cells A t)) w.heap.size y := new _ _ _ rfl hA

theorem n2a (w : World) (y : Reg) (t : TypeId) (B : Obj) {A : Array Value} (hA : A = #[.int .i64 y.frame, y.list]) : RegBox ((w.alloc (.cells A t)).alloc B) w.heap.size y := (new _ _ _ rfl hA).alloc (by simp) _

theorem n2b (w : World) (y : Reg) (t : TypeId) (B : Obj) {A : Array Value} (hA : A = #[.int .i64 y.frame, y.list]) : RegBox ((w.alloc B).alloc (.cells A t)) (w.heap.size + 1) y := new _ _ _ (by simp) hA

theorem n3a (w : World) (y : Reg) (t : TypeId) (B C : Obj) {A : Array Value} (hA : A = #[.int .i64 y.frame, y.list]) : RegBox (((w.alloc (.cells A t)).alloc B).alloc C) w.heap.size y := (n2a _ _ _ _ hA).alloc (by simp; omega) _

theorem n3b (w : World) (y : Reg) (t : TypeId) (B C : Obj) {A : Array Value} (hA : A = #[.int .i64 y.frame, y.list]) : RegBox (((w.alloc B).alloc (.cells A t)).alloc C) (w.heap.size + 1) y := (n2b _ _ _ _ hA).alloc (by simp) _

theorem n3c (w : World) (y : Reg) (t : TypeId) (B C : Obj) {A : Array Value} (hA : A = #[.int .i64 y.frame, y.list]) : RegBox (((w.alloc B).alloc C).alloc (.cells A t)) (w.heap.size + 1 + 1) y := new _ _ _ (by simp) hA

theorem has (h : RegBox w b y) : b < w.heap.size := by
  have := h.c0
  rcases Nat.lt_or_ge b w.heap.size with h' | h'
  · exact h'
  · rw [show w.cell? ⟨b, 0, none⟩ = none by unfold World.cell?; simp [h']] at this
    cases this

theorem set0 (h : RegBox w b y) (v : Int) : RegBox (w.setCell ⟨b, 0, none⟩ (.int .i64 v)) b ⟨v, y.list⟩ := by
  constructor
  · exact World.cell?_setCell_same _ _ _ h.c0
  · rw [World.cell?_setCell_other _ _ _ _ (by simp)]; exact h.c1
  · rw [World.frozen?_setCell]; exact h.f0
  · rw [World.frozen?_setCell]; exact h.f1

theorem set1 (h : RegBox w b y) (v : Value) : RegBox (w.setCell ⟨b, 1, none⟩ (v)) b ⟨y.frame, v⟩ := by
  constructor
  · rw [World.cell?_setCell_other _ _ _ _ (by simp)]; exact h.c0
  · exact World.cell?_setCell_same _ _ _ h.c1
  · rw [World.frozen?_setCell]; exact h.f0
  · rw [World.frozen?_setCell]; exact h.f1

/-- All cells written, one behind the other. -/
theorem put (h : RegBox w b y) (z : Reg) : RegBox (((w).setCell ⟨b, 0, none⟩ (.int .i64 z.frame)).setCell ⟨b, 1, none⟩ (z.list)) b z := by
  obtain ⟨z0, z1⟩ := z
  exact ((h).set0 _).set1 _

end RegBox

end Go.Proofs.Ytfpofegfbinalaa.Fx
