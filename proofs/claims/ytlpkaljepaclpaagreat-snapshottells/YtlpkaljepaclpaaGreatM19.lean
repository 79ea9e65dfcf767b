/- Cross in a box of its own: its cells, and that it may be written; what turns of the world make of it. -/
import Derived.Test.YtlpkaljepaclpaaGreatM03
import Derived.Lib.Hide
namespace Go.Proofs.YtlpkaljepaclpaaGreat.Fx
open Go.ChangeShapes Go.WideShapes Go.ChangeAt Go.RowKit
set_option linter.unusedVariables false
set_option maxRecDepth 100000

/-- The block b holds y, and may be written. -/
structure CrsBox (w : World) (b : Nat) (y : Crs) : Prop where
  c0 : w.cell? ⟨b, 0, none⟩ = some (.int .i64 y.kind)
  c1 : w.cell? ⟨b, 1, none⟩ = some (.int .i64 y.src)
  c2 : w.cell? ⟨b, 2, none⟩ = some (.int .i64 y.dst)
  c3 : w.cell? ⟨b, 3, none⟩ = some (.int .i64 y.frame)
  c4 : w.cell? ⟨b, 4, none⟩ = some (.int .i64 y.e.id)
  c5 : w.cell? ⟨b, 5, none⟩ = some (.int .i64 y.e.kind)
  c6 : w.cell? ⟨b, 6, none⟩ = some (.int .i64 y.e.x)
  c7 : w.cell? ⟨b, 7, none⟩ = some (.int .i64 y.e.y)
  c8 : w.cell? ⟨b, 8, none⟩ = some (.int .i64 y.e.vx)
  c9 : w.cell? ⟨b, 9, none⟩ = some (.int .i64 y.e.vy)
  c10 : w.cell? ⟨b, 10, none⟩ = some (.int .i64 y.e.health)
  c11 : w.cell? ⟨b, 11, none⟩ = some (.int .i64 y.e.age)
  c12 : w.cell? ⟨b, 12, none⟩ = some (.int .i64 y.e.owner)
  c13 : w.cell? ⟨b, 13, none⟩ = some (.int .i64 y.x)
  c14 : w.cell? ⟨b, 14, none⟩ = some (.int .i64 y.y)
  f0 : w.frozen? ⟨b, 0, none⟩ = false
  f1 : w.frozen? ⟨b, 1, none⟩ = false
  f2 : w.frozen? ⟨b, 2, none⟩ = false
  f3 : w.frozen? ⟨b, 3, none⟩ = false
  f4 : w.frozen? ⟨b, 4, none⟩ = false
  f5 : w.frozen? ⟨b, 5, none⟩ = false
  f6 : w.frozen? ⟨b, 6, none⟩ = false
  f7 : w.frozen? ⟨b, 7, none⟩ = false
  f8 : w.frozen? ⟨b, 8, none⟩ = false
  f9 : w.frozen? ⟨b, 9, none⟩ = false
  f10 : w.frozen? ⟨b, 10, none⟩ = false
  f11 : w.frozen? ⟨b, 11, none⟩ = false
  f12 : w.frozen? ⟨b, 12, none⟩ = false
  f13 : w.frozen? ⟨b, 13, none⟩ = false
  f14 : w.frozen? ⟨b, 14, none⟩ = false

namespace CrsBox
variable {w w' : World} {b : Nat} {y : Crs}

theorem of (hc : ∀ q, w'.cell? ⟨b, q, none⟩ = w.cell? ⟨b, q, none⟩) (hf : ∀ q, w'.frozen? ⟨b, q, none⟩ = w.frozen? ⟨b, q, none⟩) (h : CrsBox w b y) : CrsBox w' b y := by
  constructor
  · rw [hc]; exact h.c0
  · rw [hc]; exact h.c1
  · rw [hc]; exact h.c2
  · rw [hc]; exact h.c3
  · rw [hc]; exact h.c4
  · rw [hc]; exact h.c5
  · rw [hc]; exact h.c6
  · rw [hc]; exact h.c7
  · rw [hc]; exact h.c8
  · rw [hc]; exact h.c9
  · rw [hc]; exact h.c10
  · rw [hc]; exact h.c11
  · rw [hc]; exact h.c12
  · rw [hc]; exact h.c13
  · rw [hc]; exact h.c14
  · rw [hf]; exact h.f0
  · rw [hf]; exact h.f1
  · rw [hf]; exact h.f2
  · rw [hf]; exact h.f3
  · rw [hf]; exact h.f4
  · rw [hf]; exact h.f5
  · rw [hf]; exact h.f6
  · rw [hf]; exact h.f7
  · rw [hf]; exact h.f8
  · rw [hf]; exact h.f9
  · rw [hf]; exact h.f10
  · rw [hf]; exact h.f11
  · rw [hf]; exact h.f12
  · rw [hf]; exact h.f13
  · rw [hf]; exact h.f14

theorem below {B : Nat} (h : CrsBox w b y) (hb : Below B w w') (hlt : b < B) : CrsBox w' b y := of (fun q => hb.cell (p := ⟨b, q, none⟩) hlt) (fun q => hb.frozen (p := ⟨b, q, none⟩) hlt) h

theorem drew (h : CrsBox w b y) : CrsBox w.drew b y := of (w := w) (fun _ => rfl) (fun _ => rfl) h

theorem undrew (h : CrsBox w.drew b y) : CrsBox w b y := of (w := w.drew) (fun _ => rfl) (fun _ => rfl) h

theorem drewN (h : CrsBox w b y) (n : Nat) : CrsBox (w.drewN n) b y := of (w := w) (fun _ => rfl) (fun _ => rfl) h

theorem alloc (h : CrsBox w b y) (hlt : b < w.heap.size) (o : Obj) : CrsBox (w.alloc o) b y :=
  of (fun q => World.cell?_alloc_lt _ _ _ hlt) (fun q => World.frozen?_alloc_old _ _ _ (by simp only; omega)) h

theorem far (h : CrsBox w b y) {p : Nat} (hp : p ≠ b) (o : Nat) (v : Value) : CrsBox (w.setCell ⟨p, o, none⟩ v) b y :=
  of (w := w) (fun q => World.cell?_setCell_other _ _ _ _ (by intro hh; exact hp (congrArg Addr.block hh))) (fun q => World.frozen?_setCell _ _ _ _) h

theorem new (w : World) (y : Crs) (t : TypeId) {g : Nat} (hg : g = w.heap.size) {A : Array Value} (hA : A = #[.int .i64 y.kind, .int .i64 y.src, .int .i64 y.dst, .int .i64 y.frame, .int .i64 y.e.id, .int .i64 y.e.kind, .int .i64 y.e.x, .int .i64 y.e.y, .int .i64 y.e.vx, .int .i64 y.e.vy, .int .i64 y.e.health, .int .i64 y.e.age, .int .i64 y.e.owner, .int .i64 y.x, .int .i64 y.y]) : CrsBox (w.alloc (.cells A t)) g y := by
  subst hg hA
  constructor
  · rw [World.cell?_alloc_new]; rfl
  · rw [World.cell?_alloc_new]; rfl
  · rw [World.cell?_alloc_new]; rfl
  · rw [World.cell?_alloc_new]; rfl
  · rw [World.cell?_alloc_new]; rfl
  · rw [World.cell?_alloc_new]; rfl
  · rw [World.cell?_alloc_new]; rfl
  · rw [World.cell?_alloc_new]; rfl
  · rw [World.cell?_alloc_new]; rfl
  · rw [World.cell?_alloc_new]; rfl
  · rw [World.cell?_alloc_new]; rfl
  · rw [World.cell?_alloc_new]; rfl
  · rw [World.cell?_alloc_new]; rfl
  · rw [World.cell?_alloc_new]; rfl
  · rw [World.cell?_alloc_new]; rfl
  · exact World.frozen?_alloc_new _ _ _ 0
  · exact World.frozen?_alloc_new _ _ _ 1
  · exact World.frozen?_alloc_new _ _ _ 2
  · exact World.frozen?_alloc_new _ _ _ 3
  · exact World.frozen?_alloc_new _ _ _ 4
  · exact World.frozen?_alloc_new _ _ _ 5
  · exact World.frozen?_alloc_new _ _ _ 6
  · exact World.frozen?_alloc_new _ _ _ 7
  · exact World.frozen?_alloc_new _ _ _ 8
  · exact World.frozen?_alloc_new _ _ _ 9
  · exact World.frozen?_alloc_new _ _ _ 10
  · exact World.frozen?_alloc_new _ _ _ 11
  · exact World.frozen?_alloc_new _ _ _ 12
  · exact World.frozen?_alloc_new _ _ _ 13
  · exact World.frozen?_alloc_new _ _ _ 14

/-- The first, second, third of boxes laid one behind the other. -/
theorem n1 (w : World) (y : Crs) (t : TypeId) {A : Array Value} (hA : A = #[.int .i64 y.kind, .int .i64 y.src, .int .i64 y.dst, .int .i64 y.frame, .int .i64 y.e.id, .int .i64 y.e.kind, .int .i64 y.e.x, .int .i64 y.e.y, .int .i64 y.e.vx, .int .i64 y.e.vy, .int .i64 y.e.health, .int .i64 y.e.age, .int .i64 y.e.owner, .int .i64 y.x, .int .i64 y.y]) : CrsBox (w.alloc (.cells A t)) w.heap.size y := new _ _ _ rfl hA

theorem n2a (w : World) (y : Crs) (t : TypeId) (B : Obj) {A : Array Value} (hA : A = #[.int .i64 y.kind, .int .i64 y.src, .int .i64 y.dst, .int .i64 y.frame, .int .i64 y.e.id, .int .i64 y.e.kind, .int .i64 y.e.x, .int .i64 y.e.y, .int .i64 y.e.vx, .int .i64 y.e.vy, .int .i64 y.e.health, .int .i64 y.e.age, .int .i64 y.e.owner, .int .i64 y.x, .int .i64 y.y]) : CrsBox ((w.alloc (.cells A t)).alloc B) w.heap.size y := (new _ _ _ rfl hA).alloc (by simp) _

theorem n2b (w : World) (y : Crs) (t : TypeId) (B : Obj) {A : Array Value} (hA : A = #[.int .i64 y.kind, .int .i64 y.src, .int .i64 y.dst, .int .i64 y.frame, .int .i64 y.e.id, .int .i64 y.e.kind, .int .i64 y.e.x, .int .i64 y.e.y, .int .i64 y.e.vx, .int .i64 y.e.vy, .int .i64 y.e.health, .int .i64 y.e.age, .int .i64 y.e.owner, .int .i64 y.x, .int .i64 y.y]) : CrsBox ((w.alloc B).alloc (.cells A t)) (w.heap.size + 1) y := new _ _ _ (by simp) hA

theorem n3a (w : World) (y : Crs) (t : TypeId) (B C : Obj) {A : Array Value} (hA : A = #[.int .i64 y.kind, .int .i64 y.src, .int .i64 y.dst, .int .i64 y.frame, .int .i64 y.e.id, .int .i64 y.e.kind, .int .i64 y.e.x, .int .i64 y.e.y, .int .i64 y.e.vx, .int .i64 y.e.vy, .int .i64 y.e.health, .int .i64 y.e.age, .int .i64 y.e.owner, .int .i64 y.x, .int .i64 y.y]) : CrsBox (((w.alloc (.cells A t)).alloc B).alloc C) w.heap.size y := (n2a _ _ _ _ hA).alloc (by simp; omega) _

theorem n3b (w : World) (y : Crs) (t : TypeId) (B C : Obj) {A : Array Value} (hA : A = #[.int .i64 y.kind, .int .i64 y.src, .int .i64 y.dst, .int .i64 y.frame, .int .i64 y.e.id, .int .i64 y.e.kind, .int .i64 y.e.x, .int .i64 y.e.y, .int .i64 y.e.vx, .int .i64 y.e.vy, .int .i64 y.e.health, .int .i64 y.e.age, .int .i64 y.e.owner, .int .i64 y.x, .int .i64 y.y]) : CrsBox (((w.alloc B).alloc (.cells A t)).alloc C) (w.heap.size + 1) y := (n2b _ _ _ _ hA).alloc (by simp) _

theorem n3c (w : World) (y : Crs) (t : TypeId) (B C : Obj) {A : Array Value} (hA : A = #[.int .i64 y.kind, .int .i64 y.src, .int .i64 y.dst, .int .i64 y.frame, .int .i64 y.e.id, .int .i64 y.e.kind, .int .i64 y.e.x, .int .i64 y.e.y, .int .i64 y.e.vx, .int .i64 y.e.vy, .int .i64 y.e.health, .int .i64 y.e.age, .int .i64 y.e.owner, .int .i64 y.x, .int .i64 y.y]) : CrsBox (((w.alloc B).alloc C).alloc (.cells A t)) (w.heap.size + 1 + 1) y := new _ _ _ (by simp) hA

theorem has (h : CrsBox w b y) : b < w.heap.size := by
  have := h.c0
  rcases Nat.lt_or_ge b w.heap.size with h' | h'
  · exact h'
  · rw [show w.cell? ⟨b, 0, none⟩ = none by unfold World.cell?; simp [h']] at this
    cases this

theorem set0 (h : CrsBox w b y) (v : Int) : CrsBox (w.setCell ⟨b, 0, none⟩ (.int .i64 v)) b ⟨v, y.src, y.dst, y.frame, ⟨y.e.id, y.e.kind, y.e.x, y.e.y, y.e.vx, y.e.vy, y.e.health, y.e.age, y.e.owner⟩, y.x, y.y⟩ := by
  obtain ⟨c0, c1, c2, c3, c4, c5, c6, c7, c8, c9, c10, c11, c12, c13, c14, f0, f1, f2, f3, f4, f5, f6, f7, f8, f9, f10, f11, f12, f13, f14⟩ := h
  constructor
  all_goals first | (rw [World.frozen?_setCell]; assumption) | exact World.cell?_setCell_same _ _ _ c0 | (rw [World.cell?_setCell_other _ _ _ _ (by simp)]; assumption)

theorem set1 (h : CrsBox w b y) (v : Int) : CrsBox (w.setCell ⟨b, 1, none⟩ (.int .i64 v)) b ⟨y.kind, v, y.dst, y.frame, ⟨y.e.id, y.e.kind, y.e.x, y.e.y, y.e.vx, y.e.vy, y.e.health, y.e.age, y.e.owner⟩, y.x, y.y⟩ := by
  obtain ⟨c0, c1, c2, c3, c4, c5, c6, c7, c8, c9, c10, c11, c12, c13, c14, f0, f1, f2, f3, f4, f5, f6, f7, f8, f9, f10, f11, f12, f13, f14⟩ := h
  constructor
  all_goals first | (rw [World.frozen?_setCell]; assumption) | exact World.cell?_setCell_same _ _ _ c1 | (rw [World.cell?_setCell_other _ _ _ _ (by simp)]; assumption)

theorem set2 (h : CrsBox w b y) (v : Int) : CrsBox (w.setCell ⟨b, 2, none⟩ (.int .i64 v)) b ⟨y.kind, y.src, v, y.frame, ⟨y.e.id, y.e.kind, y.e.x, y.e.y, y.e.vx, y.e.vy, y.e.health, y.e.age, y.e.owner⟩, y.x, y.y⟩ := by
  obtain ⟨c0, c1, c2, c3, c4, c5, c6, c7, c8, c9, c10, c11, c12, c13, c14, f0, f1, f2, f3, f4, f5, f6, f7, f8, f9, f10, f11, f12, f13, f14⟩ := h
  constructor
  all_goals first | (rw [World.frozen?_setCell]; assumption) | exact World.cell?_setCell_same _ _ _ c2 | (rw [World.cell?_setCell_other _ _ _ _ (by simp)]; assumption)

theorem set3 (h : CrsBox w b y) (v : Int) : CrsBox (w.setCell ⟨b, 3, none⟩ (.int .i64 v)) b ⟨y.kind, y.src, y.dst, v, ⟨y.e.id, y.e.kind, y.e.x, y.e.y, y.e.vx, y.e.vy, y.e.health, y.e.age, y.e.owner⟩, y.x, y.y⟩ := by
  obtain ⟨c0, c1, c2, c3, c4, c5, c6, c7, c8, c9, c10, c11, c12, c13, c14, f0, f1, f2, f3, f4, f5, f6, f7, f8, f9, f10, f11, f12, f13, f14⟩ := h
  constructor
  all_goals first | (rw [World.frozen?_setCell]; assumption) | exact World.cell?_setCell_same _ _ _ c3 | (rw [World.cell?_setCell_other _ _ _ _ (by simp)]; assumption)

theorem set4 (h : CrsBox w b y) (v : Int) : CrsBox (w.setCell ⟨b, 4, none⟩ (.int .i64 v)) b ⟨y.kind, y.src, y.dst, y.frame, ⟨v, y.e.kind, y.e.x, y.e.y, y.e.vx, y.e.vy, y.e.health, y.e.age, y.e.owner⟩, y.x, y.y⟩ := by
  obtain ⟨c0, c1, c2, c3, c4, c5, c6, c7, c8, c9, c10, c11, c12, c13, c14, f0, f1, f2, f3, f4, f5, f6, f7, f8, f9, f10, f11, f12, f13, f14⟩ := h
  constructor
  all_goals first | (rw [World.frozen?_setCell]; assumption) | exact World.cell?_setCell_same _ _ _ c4 | (rw [World.cell?_setCell_other _ _ _ _ (by simp)]; assumption)

theorem set5 (h : CrsBox w b y) (v : Int) : CrsBox (w.setCell ⟨b, 5, none⟩ (.int .i64 v)) b ⟨y.kind, y.src, y.dst, y.frame, ⟨y.e.id, v, y.e.x, y.e.y, y.e.vx, y.e.vy, y.e.health, y.e.age, y.e.owner⟩, y.x, y.y⟩ := by
  obtain ⟨c0, c1, c2, c3, c4, c5, c6, c7, c8, c9, c10, c11, c12, c13, c14, f0, f1, f2, f3, f4, f5, f6, f7, f8, f9, f10, f11, f12, f13, f14⟩ := h
  constructor
  all_goals first | (rw [World.frozen?_setCell]; assumption) | exact World.cell?_setCell_same _ _ _ c5 | (rw [World.cell?_setCell_other _ _ _ _ (by simp)]; assumption)

theorem set6 (h : CrsBox w b y) (v : Int) : CrsBox (w.setCell ⟨b, 6, none⟩ (.int .i64 v)) b ⟨y.kind, y.src, y.dst, y.frame, ⟨y.e.id, y.e.kind, v, y.e.y, y.e.vx, y.e.vy, y.e.health, y.e.age, y.e.owner⟩, y.x, y.y⟩ := by
  obtain ⟨c0, c1, c2, c3, c4, c5, c6, c7, c8, c9, c10, c11, c12, c13, c14, f0, f1, f2, f3, f4, f5, f6, f7, f8, f9, f10, f11, f12, f13, f14⟩ := h
  constructor
  all_goals first | (rw [World.frozen?_setCell]; assumption) | exact World.cell?_setCell_same _ _ _ c6 | (rw [World.cell?_setCell_other _ _ _ _ (by simp)]; assumption)

theorem set7 (h : CrsBox w b y) (v : Int) : CrsBox (w.setCell ⟨b, 7, none⟩ (.int .i64 v)) b ⟨y.kind, y.src, y.dst, y.frame, ⟨y.e.id, y.e.kind, y.e.x, v, y.e.vx, y.e.vy, y.e.health, y.e.age, y.e.owner⟩, y.x, y.y⟩ := by
  obtain ⟨c0, c1, c2, c3, c4, c5, c6, c7, c8, c9, c10, c11, c12, c13, c14, f0, f1, f2, f3, f4, f5, f6, f7, f8, f9, f10, f11, f12, f13, f14⟩ := h
  constructor
  all_goals first | (rw [World.frozen?_setCell]; assumption) | exact World.cell?_setCell_same _ _ _ c7 | (rw [World.cell?_setCell_other _ _ _ _ (by simp)]; assumption)

theorem set8 (h : CrsBox w b y) (v : Int) : CrsBox (w.setCell ⟨b, 8, none⟩ (.int .i64 v)) b ⟨y.kind, y.src, y.dst, y.frame, ⟨y.e.id, y.e.kind, y.e.x, y.e.y, v, y.e.vy, y.e.health, y.e.age, y.e.owner⟩, y.x, y.y⟩ := by
  obtain ⟨c0, c1, c2, c3, c4, c5, c6, c7, c8, c9, c10, c11, c12, c13, c14, f0, f1, f2, f3, f4, f5, f6, f7, f8, f9, f10, f11, f12, f13, f14⟩ := h
  constructor
  all_goals first | (rw [World.frozen?_setCell]; assumption) | exact World.cell?_setCell_same _ _ _ c8 | (rw [World.cell?_setCell_other _ _ _ _ (by simp)]; assumption)

theorem set9 (h : CrsBox w b y) (v : Int) : CrsBox (w.setCell ⟨b, 9, none⟩ (.int .i64 v)) b ⟨y.kind, y.src, y.dst, y.frame, ⟨y.e.id, y.e.kind, y.e.x, y.e.y, y.e.vx, v, y.e.health, y.e.age, y.e.owner⟩, y.x, y.y⟩ := by
  obtain ⟨c0, c1, c2, c3, c4, c5, c6, c7, c8, c9, c10, c11, c12, c13, c14, f0, f1, f2, f3, f4, f5, f6, f7, f8, f9, f10, f11, f12, f13, f14⟩ := h
  constructor
  all_goals first | (rw [World.frozen?_setCell]; assumption) | exact World.cell?_setCell_same _ _ _ c9 | (rw [World.cell?_setCell_other _ _ _ _ (by simp)]; assumption)

theorem set10 (h : CrsBox w b y) (v : Int) : CrsBox (w.setCell ⟨b, 10, none⟩ (.int .i64 v)) b ⟨y.kind, y.src, y.dst, y.frame, ⟨y.e.id, y.e.kind, y.e.x, y.e.y, y.e.vx, y.e.vy, v, y.e.age, y.e.owner⟩, y.x, y.y⟩ := by
  obtain ⟨c0, c1, c2, c3, c4, c5, c6, c7, c8, c9, c10, c11, c12, c13, c14, f0, f1, f2, f3, f4, f5, f6, f7, f8, f9, f10, f11, f12, f13, f14⟩ := h
  constructor
  all_goals first | (rw [World.frozen?_setCell]; assumption) | exact World.cell?_setCell_same _ _ _ c10 | (rw [World.cell?_setCell_other _ _ _ _ (by simp)]; assumption)

theorem set11 (h : CrsBox w b y) (v : Int) : CrsBox (w.setCell ⟨b, 11, none⟩ (.int .i64 v)) b ⟨y.kind, y.src, y.dst, y.frame, ⟨y.e.id, y.e.kind, y.e.x, y.e.y, y.e.vx, y.e.vy, y.e.health, v, y.e.owner⟩, y.x, y.y⟩ := by
  obtain ⟨c0, c1, c2, c3, c4, c5, c6, c7, c8, c9, c10, c11, c12, c13, c14, f0, f1, f2, f3, f4, f5, f6, f7, f8, f9, f10, f11, f12, f13, f14⟩ := h
  constructor
  all_goals first | (rw [World.frozen?_setCell]; assumption) | exact World.cell?_setCell_same _ _ _ c11 | (rw [World.cell?_setCell_other _ _ _ _ (by simp)]; assumption)

theorem set12 (h : CrsBox w b y) (v : Int) : CrsBox (w.setCell ⟨b, 12, none⟩ (.int .i64 v)) b ⟨y.kind, y.src, y.dst, y.frame, ⟨y.e.id, y.e.kind, y.e.x, y.e.y, y.e.vx, y.e.vy, y.e.health, y.e.age, v⟩, y.x, y.y⟩ := by
  obtain ⟨c0, c1, c2, c3, c4, c5, c6, c7, c8, c9, c10, c11, c12, c13, c14, f0, f1, f2, f3, f4, f5, f6, f7, f8, f9, f10, f11, f12, f13, f14⟩ := h
  constructor
  all_goals first | (rw [World.frozen?_setCell]; assumption) | exact World.cell?_setCell_same _ _ _ c12 | (rw [World.cell?_setCell_other _ _ _ _ (by simp)]; assumption)

theorem set13 (h : CrsBox w b y) (v : Int) : CrsBox (w.setCell ⟨b, 13, none⟩ (.int .i64 v)) b ⟨y.kind, y.src, y.dst, y.frame, ⟨y.e.id, y.e.kind, y.e.x, y.e.y, y.e.vx, y.e.vy, y.e.health, y.e.age, y.e.owner⟩, v, y.y⟩ := by
  obtain ⟨c0, c1, c2, c3, c4, c5, c6, c7, c8, c9, c10, c11, c12, c13, c14, f0, f1, f2, f3, f4, f5, f6, f7, f8, f9, f10, f11, f12, f13, f14⟩ := h
  constructor
  all_goals first | (rw [World.frozen?_setCell]; assumption) | exact World.cell?_setCell_same _ _ _ c13 | (rw [World.cell?_setCell_other _ _ _ _ (by simp)]; assumption)

theorem set14 (h : CrsBox w b y) (v : Int) : CrsBox (w.setCell ⟨b, 14, none⟩ (.int .i64 v)) b ⟨y.kind, y.src, y.dst, y.frame, ⟨y.e.id, y.e.kind, y.e.x, y.e.y, y.e.vx, y.e.vy, y.e.health, y.e.age, y.e.owner⟩, y.x, v⟩ := by
  obtain ⟨c0, c1, c2, c3, c4, c5, c6, c7, c8, c9, c10, c11, c12, c13, c14, f0, f1, f2, f3, f4, f5, f6, f7, f8, f9, f10, f11, f12, f13, f14⟩ := h
  constructor
  all_goals first | (rw [World.frozen?_setCell]; assumption) | exact World.cell?_setCell_same _ _ _ c14 | (rw [World.cell?_setCell_other _ _ _ _ (by simp)]; assumption)

/-- All cells written, one behind the other. -/
theorem put (h : CrsBox w b y) (z : Crs) : CrsBox ((((((((((((((((w).setCell ⟨b, 0, none⟩ (.int .i64 z.kind)).setCell ⟨b, 1, none⟩ (.int .i64 z.src)).setCell ⟨b, 2, none⟩ (.int .i64 z.dst)).setCell ⟨b, 3, none⟩ (.int .i64 z.frame)).setCell ⟨b, 4, none⟩ (.int .i64 z.e.id)).setCell ⟨b, 5, none⟩ (.int .i64 z.e.kind)).setCell ⟨b, 6, none⟩ (.int .i64 z.e.x)).setCell ⟨b, 7, none⟩ (.int .i64 z.e.y)).setCell ⟨b, 8, none⟩ (.int .i64 z.e.vx)).setCell ⟨b, 9, none⟩ (.int .i64 z.e.vy)).setCell ⟨b, 10, none⟩ (.int .i64 z.e.health)).setCell ⟨b, 11, none⟩ (.int .i64 z.e.age)).setCell ⟨b, 12, none⟩ (.int .i64 z.e.owner)).setCell ⟨b, 13, none⟩ (.int .i64 z.x)).setCell ⟨b, 14, none⟩ (.int .i64 z.y)) b z := by
  obtain ⟨z0, z1, z2, z3, ⟨z4, z5, z6, z7, z8, z9, z10, z11, z12⟩, z13, z14⟩ := z
  exact (((((((((((((((h).set0 _).set1 _).set2 _).set3 _).set4 _).set5 _).set6 _).set7 _).set8 _).set9 _).set10 _).set11 _).set12 _).set13 _).set14 _

end CrsBox

end Go.Proofs.YtlpkaljepaclpaaGreat.Fx
