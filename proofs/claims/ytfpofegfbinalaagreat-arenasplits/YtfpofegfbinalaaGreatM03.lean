/- Entity in a box of its own: its cells, and that it may be written; what turns of the world make of it. Entity in a box, call by call. Cross in a box of its own: its cells, and that it may be written; what turns of the world make of it. Cross in a box, call by call. Config in a box of its own: its cells, and that it may be written; what turns of the world make of it. Config in a box, call by call. Region in a box of its own: its cells, and that it may be written; what turns of the world make of it. Region in a box, call by call. Turn in a box of its own: its cells, and that it may be written; what turns of the world make of it. Turn in a box, call by call. Input in a box of its own: its cells, and that it may be written; what turns of the world make of it. Input in a box, call by call. -/
import Derived.Test.YtfpofegfbinalaaGreatM02
import Derived.Lib.Hide
import Derived.Test.YtfpofegfbinalaaGreatM01
namespace Go.Proofs.YtfpofegfbinalaaGreat.Fx
open Go.ChangeShapes Go.WideShapes Go.ChangeAt Go.RowKit
set_option linter.unusedVariables false
set_option maxRecDepth 100000

/-- The block b holds y, and may be written. -/
structure EntBox (w : World) (b : Nat) (y : Ent) : Prop where
  c0 : w.cell? ⟨b, 0, none⟩ = some (.int .i64 y.id)
  c1 : w.cell? ⟨b, 1, none⟩ = some (.int .i64 y.kind)
  c2 : w.cell? ⟨b, 2, none⟩ = some (.int .i64 y.x)
  c3 : w.cell? ⟨b, 3, none⟩ = some (.int .i64 y.y)
  c4 : w.cell? ⟨b, 4, none⟩ = some (.int .i64 y.vx)
  c5 : w.cell? ⟨b, 5, none⟩ = some (.int .i64 y.vy)
  c6 : w.cell? ⟨b, 6, none⟩ = some (.int .i64 y.health)
  c7 : w.cell? ⟨b, 7, none⟩ = some (.int .i64 y.age)
  c8 : w.cell? ⟨b, 8, none⟩ = some (.int .i64 y.owner)
  f0 : w.frozen? ⟨b, 0, none⟩ = false
  f1 : w.frozen? ⟨b, 1, none⟩ = false
  f2 : w.frozen? ⟨b, 2, none⟩ = false
  f3 : w.frozen? ⟨b, 3, none⟩ = false
  f4 : w.frozen? ⟨b, 4, none⟩ = false
  f5 : w.frozen? ⟨b, 5, none⟩ = false
  f6 : w.frozen? ⟨b, 6, none⟩ = false
  f7 : w.frozen? ⟨b, 7, none⟩ = false
  f8 : w.frozen? ⟨b, 8, none⟩ = false

namespace EntBox
variable {w w' : World} {b : Nat} {y : Ent}

theorem of (hc : ∀ q, w'.cell? ⟨b, q, none⟩ = w.cell? ⟨b, q, none⟩) (hf : ∀ q, w'.frozen? ⟨b, q, none⟩ = w.frozen? ⟨b, q, none⟩) (h : EntBox w b y) : EntBox w' b y := by
  constructor
  · rw [hc]; exact h.c0
  · rw [hc]; exact h.c1
  · rw [hc]; exact h.c2
  · rw [hc]; exact h.c3
  · rw [hc]; exact h.c4
  · rw [hc]; exact h.c5
  · rw [hc]; exact h.c6
  · rw [hc]; exact h.c7
  · rw [hc]; exact h.c8
  · rw [hf]; exact h.f0
  · rw [hf]; exact h.f1
  · rw [hf]; exact h.f2
  · rw [hf]; exact h.f3
  · rw [hf]; exact h.f4
  · rw [hf]; exact h.f5
  · rw [hf]; exact h.f6
  · rw [hf]; exact h.f7
  · rw [hf]; exact h.f8

theorem below {B : Nat} (h : EntBox w b y) (hb : Below B w w') (hlt : b < B) : EntBox w' b y := of (fun q => hb.cell (p := ⟨b, q, none⟩) hlt) (fun q => hb.frozen (p := ⟨b, q, none⟩) hlt) h

theorem drew (h : EntBox w b y) : EntBox w.drew b y := of (w := w) (fun _ => rfl) (fun _ => rfl) h

theorem undrew (h : EntBox w.drew b y) : EntBox w b y := of (w := w.drew) (fun _ => rfl) (fun _ => rfl) h

theorem drewN (h : EntBox w b y) (n : Nat) : EntBox (w.drewN n) b y := of (w := w) (fun _ => rfl) (fun _ => rfl) h

theorem alloc (h : EntBox w b y) (hlt : b < w.heap.size) (o : Obj) : EntBox (w.alloc o) b y :=
  of (fun q => World.cell?_alloc_lt _ _ _ hlt) (fun q => World.frozen?_alloc_old _ _ _ (by simp only; omega)) h

theorem far (h : EntBox w b y) {p : Nat} (hp : p ≠ b) (o : Nat) (v : Value) : EntBox (w.setCell ⟨p, o, none⟩ v) b y :=
  of (w := w) (fun q => World.cell?_setCell_other _ _ _ _ (by intro hh; exact hp (congrArg Addr.block hh))) (fun q => World.frozen?_setCell _ _ _ _) h

theorem new (w : World) (y : Ent) (t : TypeId) {g : Nat} (hg : g = w.heap.size) {A : Array Value} (hA : A = #[.int .i64 y.id, .int .i64 y.kind, .int .i64 y.x, .int .i64 y.y, .int .i64 y.vx, .int .i64 y.vy, .int .i64 y.health, .int .i64 y.age, .int .i64 y.owner]) : EntBox (w.alloc (.cells A t)) g y := by
  subst hg hA
  constructor
  · rw [World.cell?_alloc_new]; rfl
  · rw [World.cell?_alloc_new]; rfl
  · rw [World.cell?_alloc_new]; rfl
  · rw [World.cell?_alloc_new]; rfl
  · rw [World.cell?_alloc_new]; rfl
  · rw [World.cell?_alloc_new]; rfl
  · rw [World.cell?_alloc_new]; rfl
  · rw [World.cell?_alloc_new]; rfl
  · rw [World.cell?_alloc_new]; rfl
  · exact World.frozen?_alloc_new _ _ _ 0
  · exact World.frozen?_alloc_new _ _ _ 1
  · exact World.frozen?_alloc_new _ _ _ 2
  · exact World.frozen?_alloc_new _ _ _ 3
  · exact World.frozen?_alloc_new _ _ _ 4
  · exact World.frozen?_alloc_new _ _ _ 5
  · exact World.frozen?_alloc_new _ _ _ 6
  · exact World.frozen?_alloc_new _ _ _ 7
  · exact World.frozen?_alloc_new _ _ _ 8

/-- The first, second, third of boxes laid one behind the other. -/
theorem n1 (w : World) (y : Ent) (t : TypeId) {A : Array Value} (hA : A = #[.int .i64 y.id, .int .i64 y.kind, .int .i64 y.x, .int .i64 y.y, .int .i64 y.vx, .int .i64 y.vy, .int .i64 y.health, .int .i64 y.age, .int .i64 y.owner]) : EntBox (w.alloc (.cells A t)) w.heap.size y := new _ _ _ rfl hA

theorem n2a (w : World) (y : Ent) (t : TypeId) (B : Obj) {A : Array Value} (hA : A = #[.int .i64 y.id, .int .i64 y.kind, .int .i64 y.x, .int .i64 y.y, .int .i64 y.vx, .int .i64 y.vy, .int .i64 y.health, .int .i64 y.age, .int .i64 y.owner]) : EntBox ((w.alloc (.cells A t)).alloc B) w.heap.size y := (new _ _ _ rfl hA).alloc (by simp) _

theorem n2b (w : World) (y : Ent) (t : TypeId) (B : Obj) {A : Array Value} (hA : A = #[.int .i64 y.id, .int .i64 y.kind, .int .i64 y.x, .int .i64 y.y, .int .i64 y.vx, .int .i64 y.vy, .int .i64 y.health, .int .i64 y.age, .int .i64 y.owner]) : EntBox ((w.alloc B).alloc (.cells A t)) (w.heap.size + 1) y := new _ _ _ (by simp) hA

theorem n3a (w : World) (y : Ent) (t : TypeId) (B C : Obj) {A : Array Value} (hA : A = #[.int .i64 y.id, .int .i64 y.kind, .int .i64 y.x, .int .i64 y.y, .int .i64 y.vx, .int .i64 y.vy, .int .i64 y.health, .int .i64 y.age, .int .i64 y.owner]) : EntBox (((w.alloc (.cells A t)).alloc B).alloc C) w.heap.size y := (n2a _ _ _ _ hA).alloc (by simp; omega) _

theorem n3b (w : World) (y : Ent) (t : TypeId) (B C : Obj) {A : Array Value} (hA : A = #[.int .i64 y.id, .int .i64 y.kind, .int .i64 y.x, .int .i64 y.y, .int .i64 y.vx, .int .i64 y.vy, .int .i64 y.health, .int .i64 y.age, .int .i64 y.owner]) : EntBox (((w.alloc B).alloc (.cells A t)).alloc C) (w.heap.size + 1) y := (n2b _ _ _ _ hA).alloc (by simp) _

theorem n3c (w : World) (y : Ent) (t : TypeId) (B C : Obj) {A : Array Value} (hA : A = #[.int .i64 y.id, .int .i64 y.kind, .int .i64 y.x, .int .i64 y.y, .int .i64 y.vx, .int .i64 y.vy, .int .i64 y.health, .int .i64 y.age, .int .i64 y.owner]) : EntBox (((w.alloc B).alloc C).alloc (.cells A t)) (w.heap.size + 1 + 1) y := new _ _ _ (by simp) hA

theorem has (h : EntBox w b y) : b < w.heap.size := by
  have := h.c0
  rcases Nat.lt_or_ge b w.heap.size with h' | h'
  · exact h'
  · rw [show w.cell? ⟨b, 0, none⟩ = none by unfold World.cell?; simp [h']] at this
    cases this

theorem set0 (h : EntBox w b y) (v : Int) : EntBox (w.setCell ⟨b, 0, none⟩ (.int .i64 v)) b ⟨v, y.kind, y.x, y.y, y.vx, y.vy, y.health, y.age, y.owner⟩ := by
  obtain ⟨c0, c1, c2, c3, c4, c5, c6, c7, c8, f0, f1, f2, f3, f4, f5, f6, f7, f8⟩ := h
  constructor
  all_goals first | (rw [World.frozen?_setCell]; assumption) | exact World.cell?_setCell_same _ _ _ c0 | (rw [World.cell?_setCell_other _ _ _ _ (by simp)]; assumption)

theorem set1 (h : EntBox w b y) (v : Int) : EntBox (w.setCell ⟨b, 1, none⟩ (.int .i64 v)) b ⟨y.id, v, y.x, y.y, y.vx, y.vy, y.health, y.age, y.owner⟩ := by
  obtain ⟨c0, c1, c2, c3, c4, c5, c6, c7, c8, f0, f1, f2, f3, f4, f5, f6, f7, f8⟩ := h
  constructor
  all_goals first | (rw [World.frozen?_setCell]; assumption) | exact World.cell?_setCell_same _ _ _ c1 | (rw [World.cell?_setCell_other _ _ _ _ (by simp)]; assumption)

theorem set2 (h : EntBox w b y) (v : Int) : EntBox (w.setCell ⟨b, 2, none⟩ (.int .i64 v)) b ⟨y.id, y.kind, v, y.y, y.vx, y.vy, y.health, y.age, y.owner⟩ := by
  obtain ⟨c0, c1, c2, c3, c4, c5, c6, c7, c8, f0, f1, f2, f3, f4, f5, f6, f7, f8⟩ := h
  constructor
  all_goals first | (rw [World.frozen?_setCell]; assumption) | exact World.cell?_setCell_same _ _ _ c2 | (rw [World.cell?_setCell_other _ _ _ _ (by simp)]; assumption)

theorem set3 (h : EntBox w b y) (v : Int) : EntBox (w.setCell ⟨b, 3, none⟩ (.int .i64 v)) b ⟨y.id, y.kind, y.x, v, y.vx, y.vy, y.health, y.age, y.owner⟩ := by
  obtain ⟨c0, c1, c2, c3, c4, c5, c6, c7, c8, f0, f1, f2, f3, f4, f5, f6, f7, f8⟩ := h
  constructor
  all_goals first | (rw [World.frozen?_setCell]; assumption) | exact World.cell?_setCell_same _ _ _ c3 | (rw [World.cell?_setCell_other _ _ _ _ (by simp)]; assumption)

theorem set4 (h : EntBox w b y) (v : Int) : EntBox (w.setCell ⟨b, 4, none⟩ (.int .i64 v)) b ⟨y.id, y.kind, y.x, y.y, v, y.vy, y.health, y.age, y.owner⟩ := by
  obtain ⟨c0, c1, c2, c3, c4, c5, c6, c7, c8, f0, f1, f2, f3, f4, f5, f6, f7, f8⟩ := h
  constructor
  all_goals first | (rw [World.frozen?_setCell]; assumption) | exact World.cell?_setCell_same _ _ _ c4 | (rw [World.cell?_setCell_other _ _ _ _ (by simp)]; assumption)

theorem set5 (h : EntBox w b y) (v : Int) : EntBox (w.setCell ⟨b, 5, none⟩ (.int .i64 v)) b ⟨y.id, y.kind, y.x, y.y, y.vx, v, y.health, y.age, y.owner⟩ := by
  obtain ⟨c0, c1, c2, c3, c4, c5, c6, c7, c8, f0, f1, f2, f3, f4, f5, f6, f7, f8⟩ := h
  constructor
  all_goals first | (rw [World.frozen?_setCell]; assumption) | exact World.cell?_setCell_same _ _ _ c5 | (rw [World.cell?_setCell_other _ _ _ _ (by simp)]; assumption)

theorem set6 (h : EntBox w b y) (v : Int) : EntBox (w.setCell ⟨b, 6, none⟩ (.int .i64 v)) b ⟨y.id, y.kind, y.x, y.y, y.vx, y.vy, v, y.age, y.owner⟩ := by
  obtain ⟨c0, c1, c2, c3, c4, c5, c6, c7, c8, f0, f1, f2, f3, f4, f5, f6, f7, f8⟩ := h
  constructor
  all_goals first | (rw [World.frozen?_setCell]; assumption) | exact World.cell?_setCell_same _ _ _ c6 | (rw [World.cell?_setCell_other _ _ _ _ (by simp)]; assumption)

theorem set7 (h : EntBox w b y) (v : Int) : EntBox (w.setCell ⟨b, 7, none⟩ (.int .i64 v)) b ⟨y.id, y.kind, y.x, y.y, y.vx, y.vy, y.health, v, y.owner⟩ := by
  obtain ⟨c0, c1, c2, c3, c4, c5, c6, c7, c8, f0, f1, f2, f3, f4, f5, f6, f7, f8⟩ := h
  constructor
  all_goals first | (rw [World.frozen?_setCell]; assumption) | exact World.cell?_setCell_same _ _ _ c7 | (rw [World.cell?_setCell_other _ _ _ _ (by simp)]; assumption)

theorem set8 (h : EntBox w b y) (v : Int) : EntBox (w.setCell ⟨b, 8, none⟩ (.int .i64 v)) b ⟨y.id, y.kind, y.x, y.y, y.vx, y.vy, y.health, y.age, v⟩ := by
  obtain ⟨c0, c1, c2, c3, c4, c5, c6, c7, c8, f0, f1, f2, f3, f4, f5, f6, f7, f8⟩ := h
  constructor
  all_goals first | (rw [World.frozen?_setCell]; assumption) | exact World.cell?_setCell_same _ _ _ c8 | (rw [World.cell?_setCell_other _ _ _ _ (by simp)]; assumption)

/-- All cells written, one behind the other. -/
theorem put (h : EntBox w b y) (z : Ent) : EntBox ((((((((((w).setCell ⟨b, 0, none⟩ (.int .i64 z.id)).setCell ⟨b, 1, none⟩ (.int .i64 z.kind)).setCell ⟨b, 2, none⟩ (.int .i64 z.x)).setCell ⟨b, 3, none⟩ (.int .i64 z.y)).setCell ⟨b, 4, none⟩ (.int .i64 z.vx)).setCell ⟨b, 5, none⟩ (.int .i64 z.vy)).setCell ⟨b, 6, none⟩ (.int .i64 z.health)).setCell ⟨b, 7, none⟩ (.int .i64 z.age)).setCell ⟨b, 8, none⟩ (.int .i64 z.owner)) b z := by
  obtain ⟨z0, z1, z2, z3, z4, z5, z6, z7, z8⟩ := z
  exact (((((((((h).set0 _).set1 _).set2 _).set3 _).set4 _).set5 _).set6 _).set7 _).set8 _

end EntBox

end Go.Proofs.YtfpofegfbinalaaGreat.Fx
namespace Go.Proofs.YtfpofegfbinalaaGreat.Fx
open Go.ChangeShapes Go.WideShapes Go.ChangeAt Go.RowKit
set_option linter.unusedVariables false
set_option maxRecDepth 100000

namespace EntBox
variable {w w' W : World} {b : Nat} {y : Ent} {o : Obj}

/-- Behind a call. -/
theorem nx (h : EntBox w b y) (hb : Below w.heap.size w w') : EntBox w' b y := h.below hb h.has

/-- Behind a call, and a new box. -/
theorem nxa (h : EntBox w b y) (hb : Below w.heap.size w w') (hW : w'.alloc o = W) : EntBox W b y := by
  subst hW
  exact (h.nx hb).alloc (h.nx hb).has o

/-- The new box itself. -/
theorem nb {A : Array Value} {t : TypeId} (hW : w'.alloc (.cells A t) = W) (y : Ent) (hA : A = #[.int .i64 y.id, .int .i64 y.kind, .int .i64 y.x, .int .i64 y.y, .int .i64 y.vx, .int .i64 y.vy, .int .i64 y.health, .int .i64 y.age, .int .i64 y.owner]) : EntBox W w'.heap.size y := by
  subst hW
  exact n1 _ _ _ hA

/-- Behind a call, and a store of the whole into the box. -/
theorem nxs (h : EntBox w b y) (hb : Below w.heap.size w w') (z : Ent) (hW : (((((((((w').setCell ⟨b, 0, none⟩ (.int .i64 z.id)).setCell ⟨b, 1, none⟩ (.int .i64 z.kind)).setCell ⟨b, 2, none⟩ (.int .i64 z.x)).setCell ⟨b, 3, none⟩ (.int .i64 z.y)).setCell ⟨b, 4, none⟩ (.int .i64 z.vx)).setCell ⟨b, 5, none⟩ (.int .i64 z.vy)).setCell ⟨b, 6, none⟩ (.int .i64 z.health)).setCell ⟨b, 7, none⟩ (.int .i64 z.age)).setCell ⟨b, 8, none⟩ (.int .i64 z.owner) = W) : EntBox W b z := by
  subst hW
  exact (h.nx hb).put z

theorem off {w' W : World} {b : Nat} (z : Ent) (hW : (((((((((w').setCell ⟨b, 0, none⟩ (.int .i64 z.id)).setCell ⟨b, 1, none⟩ (.int .i64 z.kind)).setCell ⟨b, 2, none⟩ (.int .i64 z.x)).setCell ⟨b, 3, none⟩ (.int .i64 z.y)).setCell ⟨b, 4, none⟩ (.int .i64 z.vx)).setCell ⟨b, 5, none⟩ (.int .i64 z.vy)).setCell ⟨b, 6, none⟩ (.int .i64 z.health)).setCell ⟨b, 7, none⟩ (.int .i64 z.age)).setCell ⟨b, 8, none⟩ (.int .i64 z.owner) = W) : Off b w' W := by
  subst hW
  exact ((((((((((Off.refl _ _).set _ _).set _ _).set _ _).set _ _).set _ _).set _ _).set _ _).set _ _).set _ _)

theorem bel {w0 w' W : World} {b B : Nat} (h : Below B w0 w') (z : Ent) (hle : B ≤ b) (hW : (((((((((w').setCell ⟨b, 0, none⟩ (.int .i64 z.id)).setCell ⟨b, 1, none⟩ (.int .i64 z.kind)).setCell ⟨b, 2, none⟩ (.int .i64 z.x)).setCell ⟨b, 3, none⟩ (.int .i64 z.y)).setCell ⟨b, 4, none⟩ (.int .i64 z.vx)).setCell ⟨b, 5, none⟩ (.int .i64 z.vy)).setCell ⟨b, 6, none⟩ (.int .i64 z.health)).setCell ⟨b, 7, none⟩ (.int .i64 z.age)).setCell ⟨b, 8, none⟩ (.int .i64 z.owner) = W) : Below B w0 W := by
  subst hW
  exact (((((((((h.setCell hle _).setCell hle _).setCell hle _).setCell hle _).setCell hle _).setCell hle _).setCell hle _).setCell hle _).setCell hle _)

/-- Behind a call, and stores into another box. -/
theorem nxf {p : Nat} (h : EntBox w b y) (hb : Below w.heap.size w w') (hO : Off p w' W) (hp : p ≠ b) : EntBox W b y :=
  of (fun q => hO.cell b q hp) (fun q => hO.frozen b q) (h.nx hb)

/-- Behind stores into another box. -/
theorem nf {p : Nat} (h : EntBox w b y) (hO : Off p w W) (hp : p ≠ b) : EntBox W b y :=
  of (fun q => hO.cell b q hp) (fun q => hO.frozen b q) h

end EntBox

end Go.Proofs.YtfpofegfbinalaaGreat.Fx
namespace Go.Proofs.YtfpofegfbinalaaGreat.Fx
open Go.ChangeShapes Go.WideShapes Go.ChangeAt Go.RowKit
set_option linter.unusedVariables false
set_option maxRecDepth 100000

/-- The block b holds y, and may be written. -/
structure CrsBox (w : World) (b : Nat) (y : Crs) : Prop where
  c0 : w.cell? ⟨b, 0, none⟩ = some (.int .i64 y.kind)
  c1 : w.cell? ⟨b, 1, none⟩ = some (.int .i64 y.src)
  c2 : w.cell? ⟨b, 2, none⟩ = some (.int .i64 y.dst)
  c3 : w.cell? ⟨b, 3, none⟩ = some (.int .i64 y.frame)
  c4 : w.cell? ⟨b, 4, none⟩ = some (.int .i64 y.e.id)
  c5 : w.cell? ⟨b, 5, none⟩ = some (.int .i64 y.e.kind)
  c6 : w.cell? ⟨b, 6, none⟩ = some (.int .i64 y.e.x)
  c7 : w.cell? ⟨b, 7, none⟩ = some (.int .i64 y.e.y)
  c8 : w.cell? ⟨b, 8, none⟩ = some (.int .i64 y.e.vx)
  c9 : w.cell? ⟨b, 9, none⟩ = some (.int .i64 y.e.vy)
  c10 : w.cell? ⟨b, 10, none⟩ = some (.int .i64 y.e.health)
  c11 : w.cell? ⟨b, 11, none⟩ = some (.int .i64 y.e.age)
  c12 : w.cell? ⟨b, 12, none⟩ = some (.int .i64 y.e.owner)
  c13 : w.cell? ⟨b, 13, none⟩ = some (.int .i64 y.x)
  c14 : w.cell? ⟨b, 14, none⟩ = some (.int .i64 y.y)
  f0 : w.frozen? ⟨b, 0, none⟩ = false
  f1 : w.frozen? ⟨b, 1, none⟩ = false
  f2 : w.frozen? ⟨b, 2, none⟩ = false
  f3 : w.frozen? ⟨b, 3, none⟩ = false
  f4 : w.frozen? ⟨b, 4, none⟩ = false
  f5 : w.frozen? ⟨b, 5, none⟩ = false
  f6 : w.frozen? ⟨b, 6, none⟩ = false
  f7 : w.frozen? ⟨b, 7, none⟩ = false
  f8 : w.frozen? ⟨b, 8, none⟩ = false
  f9 : w.frozen? ⟨b, 9, none⟩ = false
  f10 : w.frozen? ⟨b, 10, none⟩ = false
  f11 : w.frozen? ⟨b, 11, none⟩ = false
  f12 : w.frozen? ⟨b, 12, none⟩ = false
  f13 : w.frozen? ⟨b, 13, none⟩ = false
  f14 : w.frozen? ⟨b, 14, none⟩ = false

namespace CrsBox
variable {w w' : World} {b : Nat} {y : Crs}

theorem of (hc : ∀ q, w'.cell? ⟨b, q, none⟩ = w.cell? ⟨b, q, none⟩) (hf : ∀ q, w'.frozen? ⟨b, q, none⟩ = w.frozen? ⟨b, q, none⟩) (h : CrsBox w b y) : CrsBox w' b y := by
  constructor
  · rw [hc]; exact h.c0
  · rw [hc]; exact h.c1
  · rw [hc]; exact h.c2
  · rw [hc]; exact h.c3
  · rw [hc]; exact h.c4
  · rw [hc]; exact h.c5
  · rw [hc]; exact h.c6
  · rw [hc]; exact h.c7
  · rw [hc]; exact h.c8
  · rw [hc]; exact h.c9
  · rw [hc]; exact h.c10
  · rw [hc]; exact h.c11
  · rw [hc]; exact h.c12
  · rw [hc]; exact h.c13
  · rw [hc]; exact h.c14
  · rw [hf]; exact h.f0
  · rw [hf]; exact h.f1
  · rw [hf]; exact h.f2
  · rw [hf]; exact h.f3
  · rw [hf]; exact h.f4
  · rw [hf]; exact h.f5
  · rw [hf]; exact h.f6
  · rw [hf]; exact h.f7
  · rw [hf]; exact h.f8
  · rw [hf]; exact h.f9
  · rw [hf]; exact h.f10
  · rw [hf]; exact h.f11
  · rw [hf]; exact h.f12
  · rw [hf]; exact h.f13
  · rw [hf]; exact h.f14

theorem below {B : Nat} (h : CrsBox w b y) (hb : Below B w w') (hlt : b < B) : CrsBox w' b y := of (fun q => hb.cell (p := ⟨b, q, none⟩) hlt) (fun q => hb.frozen (p := ⟨b, q, none⟩) hlt) h

theorem drew (h : CrsBox w b y) : CrsBox w.drew b y := of (w := w) (fun _ => rfl) (fun _ => rfl) h

theorem undrew (h : CrsBox w.drew b y) : CrsBox w b y := of (w := w.drew) (fun _ => rfl) (fun _ => rfl) h

theorem drewN (h : CrsBox w b y) (n : Nat) : CrsBox (w.drewN n) b y := of (w := w) (fun _ => rfl) (fun _ => rfl) h

theorem alloc (h : CrsBox w b y) (hlt : b < w.heap.size) (o : Obj) : CrsBox (w.alloc o) b y :=
  of (fun q => World.cell?_alloc_lt _ _ _ hlt) (fun q => World.frozen?_alloc_old _ _ _ (by simp only; omega)) h

theorem far (h : CrsBox w b y) {p : Nat} (hp : p ≠ b) (o : Nat) (v : Value) : CrsBox (w.setCell ⟨p, o, none⟩ v) b y :=
  of (w := w) (fun q => World.cell?_setCell_other _ _ _ _ (by intro hh; exact hp (congrArg Addr.block hh))) (fun q => World.frozen?_setCell _ _ _ _) h

theorem new (w : World) (y : Crs) (t : TypeId) {g : Nat} (hg : g = w.heap.size) {A : Array Value} (hA : A = #[.int .i64 y.kind, .int .i64 y.src, .int .i64 y.dst, .int .i64 y.frame, .int .i64 y.e.id, .int .i64 y.e.kind, .int .i64 y.e.x, .int .i64 y.e.y, .int .i64 y.e.vx, .int .i64 y.e.vy, .int .i64 y.e.health, .int .i64 y.e.age, .int .i64 y.e.owner, .int .i64 y.x, .int .i64 y.y]) : CrsBox (w.alloc (.cells A t)) g y := by
  subst hg hA
  constructor
  · rw [World.cell?_alloc_new]; rfl
  · rw [World.cell?_alloc_new]; rfl
  · rw [World.cell?_alloc_new]; rfl
  · rw [World.cell?_alloc_new]; rfl
  · rw [World.cell?_alloc_new]; rfl
  · rw [World.cell?_alloc_new]; rfl
  · rw [World.cell?_alloc_new]; rfl
  · rw [World.cell?_alloc_new]; rfl
  · rw [World.cell?_alloc_new]; rfl
  · rw [World.cell?_alloc_new]; rfl
  · rw [World.cell?_alloc_new]; rfl
  · rw [World.cell?_alloc_new]; rfl
  · rw [World.cell?_alloc_new]; rfl
  · rw [World.cell?_alloc_new]; rfl
  · rw [World.cell?_alloc_new]; rfl
  · exact World.frozen?_alloc_new _ _ _ 0
  · exact World.frozen?_alloc_new _ _ _ 1
  · exact World.frozen?_alloc_new _ _ _ 2
  · exact World.frozen?_alloc_new _ _ _ 3
  · exact World.frozen?_alloc_new _ _ _ 4
  · exact World.frozen?_alloc_new _ _ _ 5
  · exact World.frozen?_alloc_new _ _ _ 6
  · exact World.frozen?_alloc_new _ _ _ 7
  · exact World.frozen?_alloc_new _ _ _ 8
  · exact World.frozen?_alloc_new _ _ _ 9
  · exact World.frozen?_alloc_new _ _ _ 10
  · exact World.frozen?_alloc_new _ _ _ 11
  · exact World.frozen?_alloc_new _ _ _ 12
  · exact World.frozen?_alloc_new _ _ _ 13
  · exact World.frozen?_alloc_new _ _ _ 14

/-- The first, second, third of boxes laid one behind the other. -/
theorem n1 (w : World) (y : Crs) (t : TypeId) {A : Array Value} (hA : A = #[.int .i64 y.kind, .int .i64 y.src, .int .i64 y.dst, .int .i64 y.frame, .int .i64 y.e.id, .int .i64 y.e.kind, .int .i64 y.e.x, .int .i64 y.e.y, .int .i64 y.e.vx, .int .i64 y.e.vy, .int .i64 y.e.health, .int .i64 y.e.age, .int .i64 y.e.owner, .int .i64 y.x, .int .i64 y.y]) : CrsBox (w.alloc (.cells A t)) w.heap.size y := new _ _ _ rfl hA

theorem n2a (w : World) (y : Crs) (t : TypeId) (B : Obj) {A : Array Value} (hA : A = #[.int .i64 y.kind, .int .i64 y.src, .int .i64 y.dst, .int .i64 y.frame, .int .i64 y.e.id, .int .i64 y.e.kind, .int .i64 y.e.x, .int .i64 y.e.y, .int .i64 y.e.vx, .int .i64 y.e.vy, .int .i64 y.e.health, .int .i64 y.e.age, .int .i64 y.e.owner, .int .i64 y.x, .int .i64 y.y]) : CrsBox ((w.alloc (.cells A t)).alloc B) w.heap.size y := (new _ _ _ rfl hA).alloc (by simp) _

theorem n2b (w : World) (y : Crs) (t : TypeId) (B : Obj) {A : Array Value} (hA : A = #[.int .i64 y.kind, .int .i64 y.src, .int .i64 y.dst, .int .i64 y.frame, .int .i64 y.e.id, .int .i64 y.e.kind, .int .i64 y.e.x, .int .i64 y.e.y, .int .i64 y.e.vx, .int .i64 y.e.vy, .int .i64 y.e.health, .int .i64 y.e.age, .int .i64 y.e.owner, .int .i64 y.x, .int .i64 y.y]) : CrsBox ((w.alloc B).alloc (.cells A t)) (w.heap.size + 1) y := new _ _ _ (by simp) hA

theorem n3a (w : World) (y : Crs) (t : TypeId) (B C : Obj) {A : Array Value} (hA : A = #[.int .i64 y.kind, .int .i64 y.src, .int .i64 y.dst, .int .i64 y.frame, .int .i64 y.e.id, .int .i64 y.e.kind, .int .i64 y.e.x, .int .i64 y.e.y, .int .i64 y.e.vx, .int .i64 y.e.vy, .int .i64 y.e.health, .int .i64 y.e.age, .int .i64 y.e.owner, .int .i64 y.x, .int .i64 y.y]) : CrsBox (((w.alloc (.cells A t)).alloc B).alloc C) w.heap.size y := (n2a _ _ _ _ hA).alloc (by simp; omega) _

theorem n3b (w : World) (y : Crs) (t : TypeId) (B C : Obj) {A : Array Value} (hA : A = #[.int .i64 y.kind, .int .i64 y.src, .int .i64 y.dst, .int .i64 y.frame, .int .i64 y.e.id, .int .i64 y.e.kind, .int .i64 y.e.x, .int .i64 y.e.y, .int .i64 y.e.vx, .int .i64 y.e.vy, .int .i64 y.e.health, .int .i64 y.e.age, .int .i64 y.e.owner, .int .i64 y.x, .int .i64 y.y]) : CrsBox (((w.alloc B).alloc (.cells A t)).alloc C) (w.heap.size + 1) y := (n2b _ _ _ _ hA).alloc (by simp) _

theorem n3c (w : World) (y : Crs) (t : TypeId) (B C : Obj) {A : Array Value} (hA : A = #[.int .i64 y.kind, .int .i64 y.src, .int .i64 y.dst, .int .i64 y.frame, .int .i64 y.e.id, .int .i64 y.e.kind, .int .i64 y.e.x, .int .i64 y.e.y, .int .i64 y.e.vx, .int .i64 y.e.vy, .int .i64 y.e.health, .int .i64 y.e.age, .int .i64 y.e.owner, .int .i64 y.x, .int .i64 y.y]) : CrsBox (((w.alloc B).alloc C).alloc (.cells A t)) (w.heap.size + 1 + 1) y := new _ _ _ (by simp) hA

theorem has (h : CrsBox w b y) : b < w.heap.size := by
  have := h.c0
  rcases Nat.lt_or_ge b w.heap.size with h' | h'
  · exact h'
  · rw [show w.cell? ⟨b, 0, none⟩ = none by unfold World.cell?; simp [h']] at this
    cases this

theorem set0 (h : CrsBox w b y) (v : Int) : CrsBox (w.setCell ⟨b, 0, none⟩ (.int .i64 v)) b ⟨v, y.src, y.dst, y.frame, ⟨y.e.id, y.e.kind, y.e.x, y.e.y, y.e.vx, y.e.vy, y.e.health, y.e.age, y.e.owner⟩, y.x, y.y⟩ := by
  obtain ⟨c0, c1, c2, c3, c4, c5, c6, c7, c8, c9, c10, c11, c12, c13, c14, f0, f1, f2, f3, f4, f5, f6, f7, f8, f9, f10, f11, f12, f13, f14⟩ := h
  constructor
  all_goals first | (rw [World.frozen?_setCell]; assumption) | exact World.cell?_setCell_same _ _ _ c0 | (rw [World.cell?_setCell_other _ _ _ _ (by simp)]; assumption)

theorem set1 (h : CrsBox w b y) (v : Int) : CrsBox (w.setCell ⟨b, 1, none⟩ (.int .i64 v)) b ⟨y.kind, v, y.dst, y.frame, ⟨y.e.id, y.e.kind, y.e.x, y.e.y, y.e.vx, y.e.vy, y.e.health, y.e.age, y.e.owner⟩, y.x, y.y⟩ := by
  obtain ⟨c0, c1, c2, c3, c4, c5, c6, c7, c8, c9, c10, c11, c12, c13, c14, f0, f1, f2, f3, f4, f5, f6, f7, f8, f9, f10, f11, f12, f13, f14⟩ := h
  constructor
  all_goals first | (rw [World.frozen?_setCell]; assumption) | exact World.cell?_setCell_same _ _ _ c1 | (rw [World.cell?_setCell_other _ _ _ _ (by simp)]; assumption)

theorem set2 (h : CrsBox w b y) (v : Int) : CrsBox (w.setCell ⟨b, 2, none⟩ (.int .i64 v)) b ⟨y.kind, y.src, v, y.frame, ⟨y.e.id, y.e.kind, y.e.x, y.e.y, y.e.vx, y.e.vy, y.e.health, y.e.age, y.e.owner⟩, y.x, y.y⟩ := by
  obtain ⟨c0, c1, c2, c3, c4, c5, c6, c7, c8, c9, c10, c11, c12, c13, c14, f0, f1, f2, f3, f4, f5, f6, f7, f8, f9, f10, f11, f12, f13, f14⟩ := h
  constructor
  all_goals first | (rw [World.frozen?_setCell]; assumption) | exact World.cell?_setCell_same _ _ _ c2 | (rw [World.cell?_setCell_other _ _ _ _ (by simp)]; assumption)

theorem set3 (h : CrsBox w b y) (v : Int) : CrsBox (w.setCell ⟨b, 3, none⟩ (.int .i64 v)) b ⟨y.kind, y.src, y.dst, v, ⟨y.e.id, y.e.kind, y.e.x, y.e.y, y.e.vx, y.e.vy, y.e.health, y.e.age, y.e.owner⟩, y.x, y.y⟩ := by
  obtain ⟨c0, c1, c2, c3, c4, c5, c6, c7, c8, c9, c10, c11, c12, c13, c14, f0, f1, f2, f3, f4, f5, f6, f7, f8, f9, f10, f11, f12, f13, f14⟩ := h
  constructor
  all_goals first | (rw [World.frozen?_setCell]; assumption) | exact World.cell?_setCell_same _ _ _ c3 | (rw [World.cell?_setCell_other _ _ _ _ (by simp)]; assumption)

theorem set4 (h : CrsBox w b y) (v : Int) : CrsBox (w.setCell ⟨b, 4, none⟩ (.int .i64 v)) b ⟨y.kind, y.src, y.dst, y.frame, ⟨v, y.e.kind, y.e.x, y.e.y, y.e.vx, y.e.vy, y.e.health, y.e.age, y.e.owner⟩, y.x, y.y⟩ := by
  obtain ⟨c0, c1, c2, c3, c4, c5, c6, c7, c8, c9, c10, c11, c12, c13, c14, f0, f1, f2, f3, f4, f5, f6, f7, f8, f9, f10, f11, f12, f13, f14⟩ := h
  constructor
  all_goals first | (rw [World.frozen?_setCell]; assumption) | exact World.cell?_setCell_same _ _ _ c4 | (rw [World.cell?_setCell_other _ _ _ _ (by simp)]; assumption)

theorem set5 (h : CrsBox w b y) (v : Int) : CrsBox (w.setCell ⟨b, 5, none⟩ (.int .i64 v)) b ⟨y.kind, y.src, y.dst, y.frame, ⟨y.e.id, v, y.e.x, y.e.y, y.e.vx, y.e.vy, y.e.health, y.e.age, y.e.owner⟩, y.x, y.y⟩ := by
  obtain ⟨c0, c1, c2, c3, c4, c5, c6, c7, c8, c9, c10, c11, c12, c13, c14, f0, f1, f2, f3, f4, f5, f6, f7, f8, f9, f10, f11, f12, f13, f14⟩ := h
  constructor
  all_goals first | (rw [World.frozen?_setCell]; assumption) | exact World.cell?_setCell_same _ _ _ c5 | (rw [World.cell?_setCell_other _ _ _ _ (by simp)]; assumption)

theorem set6 (h : CrsBox w b y) (v : Int) : CrsBox (w.setCell ⟨b, 6, none⟩ (.int .i64 v)) b ⟨y.kind, y.src, y.dst, y.frame, ⟨y.e.id, y.e.kind, v, y.e.y, y.e.vx, y.e.vy, y.e.health, y.e.age, y.e.owner⟩, y.x, y.y⟩ := by
  obtain ⟨c0, c1, c2, c3, c4, c5, c6, c7, c8, c9, c10, c11, c12, c13, c14, f0, f1, f2, f3, f4, f5, f6, f7, f8, f9, f10, f11, f12, f13, f14⟩ := h
  constructor
  all_goals first | (rw [World.frozen?_setCell]; assumption) | exact World.cell?_setCell_same _ _ _ c6 | (rw [World.cell?_setCell_other _ _ _ _ (by simp)]; assumption)

theorem set7 (h : CrsBox w b y) (v : Int) : CrsBox (w.setCell ⟨b, 7, none⟩ (.int .i64 v)) b ⟨y.kind, y.src, y.dst, y.frame, ⟨y.e.id, y.e.kind, y.e.x, v, y.e.vx, y.e.vy, y.e.health, y.e.age, y.e.owner⟩, y.x, y.y⟩ := by
  obtain ⟨c0, c1, c2, c3, c4, c5, c6, c7, c8, c9, c10, c11, c12, c13, c14, f0, f1, f2, f3, f4, f5, f6, f7, f8, f9, f10, f11, f12, f13, f14⟩ := h
  constructor
  all_goals first | (rw [World.frozen?_setCell]; assumption) | exact World.cell?_setCell_same _ _ _ c7 | (rw [World.cell?_setCell_other _ _ _ _ (by simp)]; assumption)

theorem set8 (h : CrsBox w b y) (v : Int) : CrsBox (w.setCell ⟨b, 8, none⟩ (.int .i64 v)) b ⟨y.kind, y.src, y.dst, y.frame, ⟨y.e.id, y.e.kind, y.e.x, y.e.y, v, y.e.vy, y.e.health, y.e.age, y.e.owner⟩, y.x, y.y⟩ := by
  obtain ⟨c0, c1, c2, c3, c4, c5, c6, c7, c8, c9, c10, c11, c12, c13, c14, f0, f1, f2, f3, f4, f5, f6, f7, f8, f9, f10, f11, f12, f13, f14⟩ := h
  constructor
  all_goals first | (rw [World.frozen?_setCell]; assumption) | exact World.cell?_setCell_same _ _ _ c8 | (rw [World.cell?_setCell_other _ _ _ _ (by simp)]; assumption)

theorem set9 (h : CrsBox w b y) (v : Int) : CrsBox (w.setCell ⟨b, 9, none⟩ (.int .i64 v)) b ⟨y.kind, y.src, y.dst, y.frame, ⟨y.e.id, y.e.kind, y.e.x, y.e.y, y.e.vx, v, y.e.health, y.e.age, y.e.owner⟩, y.x, y.y⟩ := by
  obtain ⟨c0, c1, c2, c3, c4, c5, c6, c7, c8, c9, c10, c11, c12, c13, c14, f0, f1, f2, f3, f4, f5, f6, f7, f8, f9, f10, f11, f12, f13, f14⟩ := h
  constructor
  all_goals first | (rw [World.frozen?_setCell]; assumption) | exact World.cell?_setCell_same _ _ _ c9 | (rw [World.cell?_setCell_other _ _ _ _ (by simp)]; assumption)

theorem set10 (h : CrsBox w b y) (v : Int) : CrsBox (w.setCell ⟨b, 10, none⟩ (.int .i64 v)) b ⟨y.kind, y.src, y.dst, y.frame, ⟨y.e.id, y.e.kind, y.e.x, y.e.y, y.e.vx, y.e.vy, v, y.e.age, y.e.owner⟩, y.x, y.y⟩ := by
  obtain ⟨c0, c1, c2, c3, c4, c5, c6, c7, c8, c9, c10, c11, c12, c13, c14, f0, f1, f2, f3, f4, f5, f6, f7, f8, f9, f10, f11, f12, f13, f14⟩ := h
  constructor
  all_goals first | (rw [World.frozen?_setCell]; assumption) | exact World.cell?_setCell_same _ _ _ c10 | (rw [World.cell?_setCell_other _ _ _ _ (by simp)]; assumption)

theorem set11 (h : CrsBox w b y) (v : Int) : CrsBox (w.setCell ⟨b, 11, none⟩ (.int .i64 v)) b ⟨y.kind, y.src, y.dst, y.frame, ⟨y.e.id, y.e.kind, y.e.x, y.e.y, y.e.vx, y.e.vy, y.e.health, v, y.e.owner⟩, y.x, y.y⟩ := by
  obtain ⟨c0, c1, c2, c3, c4, c5, c6, c7, c8, c9, c10, c11, c12, c13, c14, f0, f1, f2, f3, f4, f5, f6, f7, f8, f9, f10, f11, f12, f13, f14⟩ := h
  constructor
  all_goals first | (rw [World.frozen?_setCell]; assumption) | exact World.cell?_setCell_same _ _ _ c11 | (rw [World.cell?_setCell_other _ _ _ _ (by simp)]; assumption)

theorem set12 (h : CrsBox w b y) (v : Int) : CrsBox (w.setCell ⟨b, 12, none⟩ (.int .i64 v)) b ⟨y.kind, y.src, y.dst, y.frame, ⟨y.e.id, y.e.kind, y.e.x, y.e.y, y.e.vx, y.e.vy, y.e.health, y.e.age, v⟩, y.x, y.y⟩ := by
  obtain ⟨c0, c1, c2, c3, c4, c5, c6, c7, c8, c9, c10, c11, c12, c13, c14, f0, f1, f2, f3, f4, f5, f6, f7, f8, f9, f10, f11, f12, f13, f14⟩ := h
  constructor
  all_goals first | (rw [World.frozen?_setCell]; assumption) | exact World.cell?_setCell_same _ _ _ c12 | (rw [World.cell?_setCell_other _ _ _ _ (by simp)]; assumption)

theorem set13 (h : CrsBox w b y) (v : Int) : CrsBox (w.setCell ⟨b, 13, none⟩ (.int .i64 v)) b ⟨y.kind, y.src, y.dst, y.frame, ⟨y.e.id, y.e.kind, y.e.x, y.e.y, y.e.vx, y.e.vy, y.e.health, y.e.age, y.e.owner⟩, v, y.y⟩ := by
  obtain ⟨c0, c1, c2, c3, c4, c5, c6, c7, c8, c9, c10, c11, c12, c13, c14, f0, f1, f2, f3, f4, f5, f6, f7, f8, f9, f10, f11, f12, f13, f14⟩ := h
  constructor
  all_goals first | (rw [World.frozen?_setCell]; assumption) | exact World.cell?_setCell_same _ _ _ c13 | (rw [World.cell?_setCell_other _ _ _ _ (by simp)]; assumption)

theorem set14 (h : CrsBox w b y) (v : Int) : CrsBox (w.setCell ⟨b, 14, none⟩ (.int .i64 v)) b ⟨y.kind, y.src, y.dst, y.frame, ⟨y.e.id, y.e.kind, y.e.x, y.e.y, y.e.vx, y.e.vy, y.e.health, y.e.age, y.e.owner⟩, y.x, v⟩ := by
  obtain ⟨c0, c1, c2, c3, c4, c5, c6, c7, c8, c9, c10, c11, c12, c13, c14, f0, f1, f2, f3, f4, f5, f6, f7, f8, f9, f10, f11, f12, f13, f14⟩ := h
  constructor
  all_goals first | (rw [World.frozen?_setCell]; assumption) | exact World.cell?_setCell_same _ _ _ c14 | (rw [World.cell?_setCell_other _ _ _ _ (by simp)]; assumption)

/-- All cells written, one behind the other. -/
theorem put (h : CrsBox w b y) (z : Crs) : CrsBox ((((((((((((((((w).setCell ⟨b, 0, none⟩ (.int .i64 z.kind)).setCell ⟨b, 1, none⟩ (.int .i64 z.src)).setCell ⟨b, 2, none⟩ (.int .i64 z.dst)).setCell ⟨b, 3, none⟩ (.int .i64 z.frame)).setCell ⟨b, 4, none⟩ (.int .i64 z.e.id)).setCell ⟨b, 5, none⟩ (.int .i64 z.e.kind)).setCell ⟨b, 6, none⟩ (.int .i64 z.e.x)).setCell ⟨b, 7, none⟩ (.int .i64 z.e.y)).setCell ⟨b, 8, none⟩ (.int .i64 z.e.vx)).setCell ⟨b, 9, none⟩ (.int .i64 z.e.vy)).setCell ⟨b, 10, none⟩ (.int .i64 z.e.health)).setCell ⟨b, 11, none⟩ (.int .i64 z.e.age)).setCell ⟨b, 12, none⟩ (.int .i64 z.e.owner)).setCell ⟨b, 13, none⟩ (.int .i64 z.x)).setCell ⟨b, 14, none⟩ (.int .i64 z.y)) b z := by
  obtain ⟨z0, z1, z2, z3, ⟨z4, z5, z6, z7, z8, z9, z10, z11, z12⟩, z13, z14⟩ := z
  exact (((((((((((((((h).set0 _).set1 _).set2 _).set3 _).set4 _).set5 _).set6 _).set7 _).set8 _).set9 _).set10 _).set11 _).set12 _).set13 _).set14 _

end CrsBox

end Go.Proofs.YtfpofegfbinalaaGreat.Fx
namespace Go.Proofs.YtfpofegfbinalaaGreat.Fx
open Go.ChangeShapes Go.WideShapes Go.ChangeAt Go.RowKit
set_option linter.unusedVariables false
set_option maxRecDepth 100000

namespace CrsBox
variable {w w' W : World} {b : Nat} {y : Crs} {o : Obj}

/-- Behind a call. -/
theorem nx (h : CrsBox w b y) (hb : Below w.heap.size w w') : CrsBox w' b y := h.below hb h.has

/-- Behind a call, and a new box. -/
theorem nxa (h : CrsBox w b y) (hb : Below w.heap.size w w') (hW : w'.alloc o = W) : CrsBox W b y := by
  subst hW
  exact (h.nx hb).alloc (h.nx hb).has o

/-- The new box itself. -/
theorem nb {A : Array Value} {t : TypeId} (hW : w'.alloc (.cells A t) = W) (y : Crs) (hA : A = #[.int .i64 y.kind, .int .i64 y.src, .int .i64 y.dst, .int .i64 y.frame, .int .i64 y.e.id, .int .i64 y.e.kind, .int .i64 y.e.x, .int .i64 y.e.y, .int .i64 y.e.vx, .int .i64 y.e.vy, .int .i64 y.e.health, .int .i64 y.e.age, .int .i64 y.e.owner, .int .i64 y.x, .int .i64 y.y]) : CrsBox W w'.heap.size y := by
  subst hW
  exact n1 _ _ _ hA

/-- Behind a call, and a store of the whole into the box. -/
theorem nxs (h : CrsBox w b y) (hb : Below w.heap.size w w') (z : Crs) (hW : (((((((((((((((w').setCell ⟨b, 0, none⟩ (.int .i64 z.kind)).setCell ⟨b, 1, none⟩ (.int .i64 z.src)).setCell ⟨b, 2, none⟩ (.int .i64 z.dst)).setCell ⟨b, 3, none⟩ (.int .i64 z.frame)).setCell ⟨b, 4, none⟩ (.int .i64 z.e.id)).setCell ⟨b, 5, none⟩ (.int .i64 z.e.kind)).setCell ⟨b, 6, none⟩ (.int .i64 z.e.x)).setCell ⟨b, 7, none⟩ (.int .i64 z.e.y)).setCell ⟨b, 8, none⟩ (.int .i64 z.e.vx)).setCell ⟨b, 9, none⟩ (.int .i64 z.e.vy)).setCell ⟨b, 10, none⟩ (.int .i64 z.e.health)).setCell ⟨b, 11, none⟩ (.int .i64 z.e.age)).setCell ⟨b, 12, none⟩ (.int .i64 z.e.owner)).setCell ⟨b, 13, none⟩ (.int .i64 z.x)).setCell ⟨b, 14, none⟩ (.int .i64 z.y) = W) : CrsBox W b z := by
  subst hW
  exact (h.nx hb).put z

theorem off {w' W : World} {b : Nat} (z : Crs) (hW : (((((((((((((((w').setCell ⟨b, 0, none⟩ (.int .i64 z.kind)).setCell ⟨b, 1, none⟩ (.int .i64 z.src)).setCell ⟨b, 2, none⟩ (.int .i64 z.dst)).setCell ⟨b, 3, none⟩ (.int .i64 z.frame)).setCell ⟨b, 4, none⟩ (.int .i64 z.e.id)).setCell ⟨b, 5, none⟩ (.int .i64 z.e.kind)).setCell ⟨b, 6, none⟩ (.int .i64 z.e.x)).setCell ⟨b, 7, none⟩ (.int .i64 z.e.y)).setCell ⟨b, 8, none⟩ (.int .i64 z.e.vx)).setCell ⟨b, 9, none⟩ (.int .i64 z.e.vy)).setCell ⟨b, 10, none⟩ (.int .i64 z.e.health)).setCell ⟨b, 11, none⟩ (.int .i64 z.e.age)).setCell ⟨b, 12, none⟩ (.int .i64 z.e.owner)).setCell ⟨b, 13, none⟩ (.int .i64 z.x)).setCell ⟨b, 14, none⟩ (.int .i64 z.y) = W) : Off b w' W := by
  subst hW
  exact ((((((((((((((((Off.refl _ _).set _ _).set _ _).set _ _).set _ _).set _ _).set _ _).set _ _).set _ _).set _ _).set _ _).set _ _).set _ _).set _ _).set _ _).set _ _)

theorem bel {w0 w' W : World} {b B : Nat} (h : Below B w0 w') (z : Crs) (hle : B ≤ b) (hW : (((((((((((((((w').setCell ⟨b, 0, none⟩ (.int .i64 z.kind)).setCell ⟨b, 1, none⟩ (.int .i64 z.src)).setCell ⟨b, 2, none⟩ (.int .i64 z.dst)).setCell ⟨b, 3, none⟩ (.int .i64 z.frame)).setCell ⟨b, 4, none⟩ (.int .i64 z.e.id)).setCell ⟨b, 5, none⟩ (.int .i64 z.e.kind)).setCell ⟨b, 6, none⟩ (.int .i64 z.e.x)).setCell ⟨b, 7, none⟩ (.int .i64 z.e.y)).setCell ⟨b, 8, none⟩ (.int .i64 z.e.vx)).setCell ⟨b, 9, none⟩ (.int .i64 z.e.vy)).setCell ⟨b, 10, none⟩ (.int .i64 z.e.health)).setCell ⟨b, 11, none⟩ (.int .i64 z.e.age)).setCell ⟨b, 12, none⟩ (.int .i64 z.e.owner)).setCell ⟨b, 13, none⟩ (.int .i64 z.x)).setCell ⟨b, 14, none⟩ (.int .i64 z.y) = W) : Below B w0 W := by
  subst hW
  exact (((((((((((((((h.setCell hle _).setCell hle _).setCell hle _).setCell hle _).setCell hle _).setCell hle _).setCell hle _).setCell hle _).setCell hle _).setCell hle _).setCell hle _).setCell hle _).setCell hle _).setCell hle _).setCell hle _)

/-- Behind a call, and stores into another box. -/
theorem nxf {p : Nat} (h : CrsBox w b y) (hb : Below w.heap.size w w') (hO : Off p w' W) (hp : p ≠ b) : CrsBox W b y :=
  of (fun q => hO.cell b q hp) (fun q => hO.frozen b q) (h.nx hb)

/-- Behind stores into another box. -/
theorem nf {p : Nat} (h : CrsBox w b y) (hO : Off p w W) (hp : p ≠ b) : CrsBox W b y :=
  of (fun q => hO.cell b q hp) (fun q => hO.frozen b q) h

end CrsBox

end Go.Proofs.YtfpofegfbinalaaGreat.Fx
namespace Go.Proofs.YtfpofegfbinalaaGreat.Fx
open Go.ChangeShapes Go.WideShapes Go.ChangeAt Go.RowKit
set_option linter.unusedVariables false
set_option maxRecDepth 100000

/-- The block b holds y, and may be written. -/
structure CfgBox (w : World) (b : Nat) (y : Cfg) : Prop where
  c0 : w.cell? ⟨b, 0, none⟩ = some (.int .i64 y.cols)
  c1 : w.cell? ⟨b, 1, none⟩ = some (.int .i64 y.rows)
  c2 : w.cell? ⟨b, 2, none⟩ = some (.int .i64 y.players)
  c3 : w.cell? ⟨b, 3, none⟩ = some (.int .i64 y.window)
  c4 : w.cell? ⟨b, 4, none⟩ = some (.int .u64 y.seed)
  f0 : w.frozen? ⟨b, 0, none⟩ = false
  f1 : w.frozen? ⟨b, 1, none⟩ = false
  f2 : w.frozen? ⟨b, 2, none⟩ = false
  f3 : w.frozen? ⟨b, 3, none⟩ = false
  f4 : w.frozen? ⟨b, 4, none⟩ = false

namespace CfgBox
variable {w w' : World} {b : Nat} {y : Cfg}

theorem of (hc : ∀ q, w'.cell? ⟨b, q, none⟩ = w.cell? ⟨b, q, none⟩) (hf : ∀ q, w'.frozen? ⟨b, q, none⟩ = w.frozen? ⟨b, q, none⟩) (h : CfgBox w b y) : CfgBox w' b y := by
  constructor
  · rw [hc]; exact h.c0
  · rw [hc]; exact h.c1
  · rw [hc]; exact h.c2
  · rw [hc]; exact h.c3
  · rw [hc]; exact h.c4
  · rw [hf]; exact h.f0
  · rw [hf]; exact h.f1
  · rw [hf]; exact h.f2
  · rw [hf]; exact h.f3
  · rw [hf]; exact h.f4

theorem below {B : Nat} (h : CfgBox w b y) (hb : Below B w w') (hlt : b < B) : CfgBox w' b y := of (fun q => hb.cell (p := ⟨b, q, none⟩) hlt) (fun q => hb.frozen (p := ⟨b, q, none⟩) hlt) h

theorem drew (h : CfgBox w b y) : CfgBox w.drew b y := of (w := w) (fun _ => rfl) (fun _ => rfl) h

theorem undrew (h : CfgBox w.drew b y) : CfgBox w b y := of (w := w.drew) (fun _ => rfl) (fun _ => rfl) h

theorem drewN (h : CfgBox w b y) (n : Nat) : CfgBox (w.drewN n) b y := of (w := w) (fun _ => rfl) (fun _ => rfl) h

theorem alloc (h : CfgBox w b y) (hlt : b < w.heap.size) (o : Obj) : CfgBox (w.alloc o) b y :=
  of (fun q => World.cell?_alloc_lt _ _ _ hlt) (fun q => World.frozen?_alloc_old _ _ _ (by simp only; omega)) h

theorem far (h : CfgBox w b y) {p : Nat} (hp : p ≠ b) (o : Nat) (v : Value) : CfgBox (w.setCell ⟨p, o, none⟩ v) b y :=
  of (w := w) (fun q => World.cell?_setCell_other _ _ _ _ (by intro hh; exact hp (congrArg Addr.block hh))) (fun q => World.frozen?_setCell _ _ _ _) h

theorem new (w : World) (y : Cfg) (t : TypeId) {g : Nat} (hg : g = w.heap.size) {A : Array Value} (hA : A = #[.int .i64 y.cols, .int .i64 y.rows, .int .i64 y.players, .int .i64 y.window, .int .u64 y.seed]) : CfgBox (w.alloc (.cells A t)) g y := by
  subst hg hA
  constructor
  · rw [World.cell?_alloc_new]; rfl
  · rw [World.cell?_alloc_new]; rfl
  · rw [World.cell?_alloc_new]; rfl
  · rw [World.cell?_alloc_new]; rfl
  · rw [World.cell?_alloc_new]; rfl
  · exact World.frozen?_alloc_new _ _ _ 0
  · exact World.frozen?_alloc_new _ _ _ 1
  · exact World.frozen?_alloc_new _ _ _ 2
  · exact World.frozen?_alloc_new _ _ _ 3
  · exact World.frozen?_alloc_new _ _ _ 4

/-- The first, second, third of boxes laid one behind the other. -/
theorem n1 (w : World) (y : Cfg) (t : TypeId) {A : Array Value} (hA : A = #[.int .i64 y.cols, .int .i64 y.rows, .int .i64 y.players, .int .i64 y.window, .int .u64 y.seed]) : CfgBox (w.alloc (.cells A t)) w.heap.size y := new _ _ _ rfl hA

theorem n2a (w : World) (y : Cfg) (t : TypeId) (B : Obj) {A : Array Value} (hA : A = #[.int .i64 y.cols, .int .i64 y.rows, .int .i64 y.players, .int .i64 y.window, .int .u64 y.seed]) : CfgBox ((w.alloc (.cells A t)).alloc B) w.heap.size y := (new _ _ _ rfl hA).alloc (by simp) _

theorem n2b (w : World) (y : Cfg) (t : TypeId) (B : Obj) {A : Array Value} (hA : A = #[.int .i64 y.cols, .int .i64 y.rows, .int .i64 y.players, .int .i64 y.window, .int .u64 y.seed]) : CfgBox ((w.alloc B).alloc (.cells A t)) (w.heap.size + 1) y := new _ _ _ (by simp) hA

theorem n3a (w : World) (y : Cfg) (t : TypeId) (B C : Obj) {A : Array Value} (hA : A = #[.int .i64 y.cols, .int .i64 y.rows, .int .i64 y.players, .int .i64 y.window, .int .u64 y.seed]) : CfgBox (((w.alloc (.cells A t)).alloc B).alloc C) w.heap.size y := (n2a _ _ _ _ hA).alloc (by simp; omega) _

theorem n3b (w : World) (y : Cfg) (t : TypeId) (B C : Obj) {A : Array Value} (hA : A = #[.int .i64 y.cols, .int .i64 y.rows, .int .i64 y.players, .int .i64 y.window, .int .u64 y.seed]) : CfgBox (((w.alloc B).alloc (.cells A t)).alloc C) (w.heap.size + 1) y := (n2b _ _ _ _ hA).alloc (by simp) _

theorem n3c (w : World) (y : Cfg) (t : TypeId) (B C : Obj) {A : Array Value} (hA : A = #[.int .i64 y.cols, .int .i64 y.rows, .int .i64 y.players, .int .i64 y.window, .int .u64 y.seed]) : CfgBox (((w.alloc B).alloc C).alloc (.cells A t)) (w.heap.size + 1 + 1) y := new _ _ _ (by simp) hA

theorem has (h : CfgBox w b y) : b < w.heap.size := by
  have := h.c0
  rcases Nat.lt_or_ge b w.heap.size with h' | h'
  · exact h'
  · rw [show w.cell? ⟨b, 0, none⟩ = none by unfold World.cell?; simp [h']] at this
    cases this

theorem set0 (h : CfgBox w b y) (v : Int) : CfgBox (w.setCell ⟨b, 0, none⟩ (.int .i64 v)) b ⟨v, y.rows, y.players, y.window, y.seed⟩ := by
  obtain ⟨c0, c1, c2, c3, c4, f0, f1, f2, f3, f4⟩ := h
  constructor
  all_goals first | (rw [World.frozen?_setCell]; assumption) | exact World.cell?_setCell_same _ _ _ c0 | (rw [World.cell?_setCell_other _ _ _ _ (by simp)]; assumption)

theorem set1 (h : CfgBox w b y) (v : Int) : CfgBox (w.setCell ⟨b, 1, none⟩ (.int .i64 v)) b ⟨y.cols, v, y.players, y.window, y.seed⟩ := by
  obtain ⟨c0, c1, c2, c3, c4, f0, f1, f2, f3, f4⟩ := h
  constructor
  all_goals first | (rw [World.frozen?_setCell]; assumption) | exact World.cell?_setCell_same _ _ _ c1 | (rw [World.cell?_setCell_other _ _ _ _ (by simp)]; assumption)

theorem set2 (h : CfgBox w b y) (v : Int) : CfgBox (w.setCell ⟨b, 2, none⟩ (.int .i64 v)) b ⟨y.cols, y.rows, v, y.window, y.seed⟩ := by
  obtain ⟨c0, c1, c2, c3, c4, f0, f1, f2, f3, f4⟩ := h
  constructor
  all_goals first | (rw [World.frozen?_setCell]; assumption) | exact World.cell?_setCell_same _ _ _ c2 | (rw [World.cell?_setCell_other _ _ _ _ (by simp)]; assumption)

theorem set3 (h : CfgBox w b y) (v : Int) : CfgBox (w.setCell ⟨b, 3, none⟩ (.int .i64 v)) b ⟨y.cols, y.rows, y.players, v, y.seed⟩ := by
  obtain ⟨c0, c1, c2, c3, c4, f0, f1, f2, f3, f4⟩ := h
  constructor
  all_goals first | (rw [World.frozen?_setCell]; assumption) | exact World.cell?_setCell_same _ _ _ c3 | (rw [World.cell?_setCell_other _ _ _ _ (by simp)]; assumption)

theorem set4 (h : CfgBox w b y) (v : Int) : CfgBox (w.setCell ⟨b, 4, none⟩ (.int .u64 v)) b ⟨y.cols, y.rows, y.players, y.window, v⟩ := by
  obtain ⟨c0, c1, c2, c3, c4, f0, f1, f2, f3, f4⟩ := h
  constructor
  all_goals first | (rw [World.frozen?_setCell]; assumption) | exact World.cell?_setCell_same _ _ _ c4 | (rw [World.cell?_setCell_other _ _ _ _ (by simp)]; assumption)

/-- All cells written, one behind the other. -/
theorem put (h : CfgBox w b y) (z : Cfg) : CfgBox ((((((w).setCell ⟨b, 0, none⟩ (.int .i64 z.cols)).setCell ⟨b, 1, none⟩ (.int .i64 z.rows)).setCell ⟨b, 2, none⟩ (.int .i64 z.players)).setCell ⟨b, 3, none⟩ (.int .i64 z.window)).setCell ⟨b, 4, none⟩ (.int .u64 z.seed)) b z := by
  obtain ⟨z0, z1, z2, z3, z4⟩ := z
  exact (((((h).set0 _).set1 _).set2 _).set3 _).set4 _

end CfgBox

end Go.Proofs.YtfpofegfbinalaaGreat.Fx
namespace Go.Proofs.YtfpofegfbinalaaGreat.Fx
open Go.ChangeShapes Go.WideShapes Go.ChangeAt Go.RowKit
set_option linter.unusedVariables false
set_option maxRecDepth 100000

namespace CfgBox
variable {w w' W : World} {b : Nat} {y : Cfg} {o : Obj}

/-- Behind a call. -/
theorem nx (h : CfgBox w b y) (hb : Below w.heap.size w w') : CfgBox w' b y := h.below hb h.has

/-- Behind a call, and a new box. -/
theorem nxa (h : CfgBox w b y) (hb : Below w.heap.size w w') (hW : w'.alloc o = W) : CfgBox W b y := by
  subst hW
  exact (h.nx hb).alloc (h.nx hb).has o

/-- The new box itself. -/
theorem nb {A : Array Value} {t : TypeId} (hW : w'.alloc (.cells A t) = W) (y : Cfg) (hA : A = #[.int .i64 y.cols, .int .i64 y.rows, .int .i64 y.players, .int .i64 y.window, .int .u64 y.seed]) : CfgBox W w'.heap.size y := by
  subst hW
  exact n1 _ _ _ hA

/-- Behind a call, and a store of the whole into the box. -/
theorem nxs (h : CfgBox w b y) (hb : Below w.heap.size w w') (z : Cfg) (hW : (((((w').setCell ⟨b, 0, none⟩ (.int .i64 z.cols)).setCell ⟨b, 1, none⟩ (.int .i64 z.rows)).setCell ⟨b, 2, none⟩ (.int .i64 z.players)).setCell ⟨b, 3, none⟩ (.int .i64 z.window)).setCell ⟨b, 4, none⟩ (.int .u64 z.seed) = W) : CfgBox W b z := by
  subst hW
  exact (h.nx hb).put z

theorem off {w' W : World} {b : Nat} (z : Cfg) (hW : (((((w').setCell ⟨b, 0, none⟩ (.int .i64 z.cols)).setCell ⟨b, 1, none⟩ (.int .i64 z.rows)).setCell ⟨b, 2, none⟩ (.int .i64 z.players)).setCell ⟨b, 3, none⟩ (.int .i64 z.window)).setCell ⟨b, 4, none⟩ (.int .u64 z.seed) = W) : Off b w' W := by
  subst hW
  exact ((((((Off.refl _ _).set _ _).set _ _).set _ _).set _ _).set _ _)

theorem bel {w0 w' W : World} {b B : Nat} (h : Below B w0 w') (z : Cfg) (hle : B ≤ b) (hW : (((((w').setCell ⟨b, 0, none⟩ (.int .i64 z.cols)).setCell ⟨b, 1, none⟩ (.int .i64 z.rows)).setCell ⟨b, 2, none⟩ (.int .i64 z.players)).setCell ⟨b, 3, none⟩ (.int .i64 z.window)).setCell ⟨b, 4, none⟩ (.int .u64 z.seed) = W) : Below B w0 W := by
  subst hW
  exact (((((h.setCell hle _).setCell hle _).setCell hle _).setCell hle _).setCell hle _)

/-- Behind a call, and stores into another box. -/
theorem nxf {p : Nat} (h : CfgBox w b y) (hb : Below w.heap.size w w') (hO : Off p w' W) (hp : p ≠ b) : CfgBox W b y :=
  of (fun q => hO.cell b q hp) (fun q => hO.frozen b q) (h.nx hb)

/-- Behind stores into another box. -/
theorem nf {p : Nat} (h : CfgBox w b y) (hO : Off p w W) (hp : p ≠ b) : CfgBox W b y :=
  of (fun q => hO.cell b q hp) (fun q => hO.frozen b q) h

end CfgBox

end Go.Proofs.YtfpofegfbinalaaGreat.Fx
namespace Go.Proofs.YtfpofegfbinalaaGreat.Fx
open Go.ChangeShapes Go.WideShapes Go.ChangeAt Go.RowKit
set_option linter.unusedVariables false
set_option maxRecDepth 100000

/-- The block b holds y, and may be written. -/
structure RegBox (w : World) (b : Nat) (y : Reg) : Prop where
  c0 : w.cell? ⟨b, 0, none⟩ = some (.int .i64 y.frame)
  c1 : w.cell? ⟨b, 1, none⟩ = some (y.list)
  f0 : w.frozen? ⟨b, 0, none⟩ = false
  f1 : w.frozen? ⟨b, 1, none⟩ = false

namespace RegBox
variable {w w' : World} {b : Nat} {y : Reg}

theorem of (hc : ∀ q, w'.cell? ⟨b, q, none⟩ = w.cell? ⟨b, q, none⟩) (hf : ∀ q, w'.frozen? ⟨b, q, none⟩ = w.frozen? ⟨b, q, none⟩) (h : RegBox w b y) : RegBox w' b y := by
  constructor
  · rw [hc]; exact h.c0
  · rw [hc]; exact h.c1
  · rw [hf]; exact h.f0
  · rw [hf]; exact h.f1

theorem below {B : Nat} (h : RegBox w b y) (hb : Below B w w') (hlt : b < B) : RegBox w' b y := of (fun q => hb.cell (p := ⟨b, q, none⟩) hlt) (fun q => hb.frozen (p := ⟨b, q, none⟩) hlt) h

theorem drew (h : RegBox w b y) : RegBox w.drew b y := of (w := w) (fun _ => rfl) (fun _ => rfl) h

theorem undrew (h : RegBox w.drew b y) : RegBox w b y := of (w := w.drew) (fun _ => rfl) (fun _ => rfl) h

theorem drewN (h : RegBox w b y) (n : Nat) : RegBox (w.drewN n) b y := of (w := w) (fun _ => rfl) (fun _ => rfl) h

theorem alloc (h : RegBox w b y) (hlt : b < w.heap.size) (o : Obj) : RegBox (w.alloc o) b y :=
  of (fun q => World.cell?_alloc_lt _ _ _ hlt) (fun q => World.frozen?_alloc_old _ _ _ (by simp only; omega)) h

theorem far (h : RegBox w b y) {p : Nat} (hp : p ≠ b) (o : Nat) (v : Value) : RegBox (w.setCell ⟨p, o, none⟩ v) b y :=
  of (w := w) (fun q => World.cell?_setCell_other _ _ _ _ (by intro hh; exact hp (congrArg Addr.block hh))) (fun q => World.frozen?_setCell _ _ _ _) h

theorem new (w : World) (y : Reg) (t : TypeId) {g : Nat} (hg : g = w.heap.size) {A : Array Value} (hA : A = #[.int .i64 y.frame, y.list]) : RegBox (w.alloc (.cells A t)) g y := by
  subst hg hA
  constructor
  · rw [World.cell?_alloc_new]; rfl
  · rw [World.cell?_alloc_new]; rfl
  · exact World.frozen?_alloc_new _ _ _ 0
  · exact World.frozen?_alloc_new _ _ _ 1

/-- The first, second, third of boxes laid one behind the other. -/
theorem n1 (w : World) (y : Reg) (t : TypeId) {A : Array Value} (hA : A = #[.int .i64 y.frame, y.list]) : RegBox (w.alloc (.cells A t)) w.heap.size y := new _ _ _ rfl hA

theorem n2a (w : World) (y : Reg) (t : TypeId) (B : Obj) {A : Array Value} (hA : A = #[.int .i64 y.frame, y.list]) : RegBox ((w.alloc (.cells A t)).alloc B) w.heap.size y := (new _ _ _ rfl hA).alloc (by simp) _

theorem n2b (w : World) (y : Reg) (t : TypeId) (B : Obj) {A : Array Value} (hA : A = #[.int .i64 y.frame, y.list]) : RegBox ((w.alloc B).alloc (.cells A t)) (w.heap.size + 1) y := new _ _ _ (by simp) hA

theorem n3a (w : World) (y : Reg) (t : TypeId) (B C : Obj) {A : Array Value} (hA : A = #[.int .i64 y.frame, y.list]) : RegBox (((w.alloc (.cells A t)).alloc B).alloc C) w.heap.size y := (n2a _ _ _ _ hA).alloc (by simp; omega) _

theorem n3b (w : World) (y : Reg) (t : TypeId) (B C : Obj) {A : Array Value} (hA : A = #[.int .i64 y.frame, y.list]) : RegBox (((w.alloc B).alloc (.cells A t)).alloc C) (w.heap.size + 1) y := (n2b _ _ _ _ hA).alloc (by simp) _

theorem n3c (w : World) (y : Reg) (t : TypeId) (B C : Obj) {A : Array Value} (hA : A = #[.int .i64 y.frame, y.list]) : RegBox (((w.alloc B).alloc C).alloc (.cells A t)) (w.heap.size + 1 + 1) y := new _ _ _ (by simp) hA

theorem has (h : RegBox w b y) : b < w.heap.size := by
  have := h.c0
  rcases Nat.lt_or_ge b w.heap.size with h' | h'
  · exact h'
  · rw [show w.cell? ⟨b, 0, none⟩ = none by unfold World.cell?; simp [h']] at this
    cases this

theorem set0 (h : RegBox w b y) (v : Int) : RegBox (w.setCell ⟨b, 0, none⟩ (.int .i64 v)) b ⟨v, y.list⟩ := by
  obtain ⟨c0, c1, f0, f1⟩ := h
  constructor
  all_goals first | (rw [World.frozen?_setCell]; assumption) | exact World.cell?_setCell_same _ _ _ c0 | (rw [World.cell?_setCell_other _ _ _ _ (by simp)]; assumption)

theorem set1 (h : RegBox w b y) (v : Value) : RegBox (w.setCell ⟨b, 1, none⟩ (v)) b ⟨y.frame, v⟩ := by
  obtain ⟨c0, c1, f0, f1⟩ := h
  constructor
  all_goals first | (rw [World.frozen?_setCell]; assumption) | exact World.cell?_setCell_same _ _ _ c1 | (rw [World.cell?_setCell_other _ _ _ _ (by simp)]; assumption)

/-- All cells written, one behind the other. -/
theorem put (h : RegBox w b y) (z : Reg) : RegBox (((w).setCell ⟨b, 0, none⟩ (.int .i64 z.frame)).setCell ⟨b, 1, none⟩ (z.list)) b z := by
  obtain ⟨z0, z1⟩ := z
  exact ((h).set0 _).set1 _

end RegBox

end Go.Proofs.YtfpofegfbinalaaGreat.Fx
namespace Go.Proofs.YtfpofegfbinalaaGreat.Fx
open Go.ChangeShapes Go.WideShapes Go.ChangeAt Go.RowKit
set_option linter.unusedVariables false
set_option maxRecDepth 100000

namespace RegBox
variable {w w' W : World} {b : Nat} {y : Reg} {o : Obj}

/-- Behind a call. -/
theorem nx (h : RegBox w b y) (hb : Below w.heap.size w w') : RegBox w' b y := h.below hb h.has

/-- Behind a call, and a new box. -/
theorem nxa (h : RegBox w b y) (hb : Below w.heap.size w w') (hW : w'.alloc o = W) : RegBox W b y := by
  subst hW
  exact (h.nx hb).alloc (h.nx hb).has o

/-- The new box itself. -/
theorem nb {A : Array Value} {t : TypeId} (hW : w'.alloc (.cells A t) = W) (y : Reg) (hA : A = #[.int .i64 y.frame, y.list]) : RegBox W w'.heap.size y := by
  subst hW
  exact n1 _ _ _ hA

/-- Behind a call, and a store of the whole into the box. -/
theorem nxs (h : RegBox w b y) (hb : Below w.heap.size w w') (z : Reg) (hW : ((w').setCell ⟨b, 0, none⟩ (.int .i64 z.frame)).setCell ⟨b, 1, none⟩ (z.list) = W) : RegBox W b z := by
  subst hW
  exact (h.nx hb).put z

theorem off {w' W : World} {b : Nat} (z : Reg) (hW : ((w').setCell ⟨b, 0, none⟩ (.int .i64 z.frame)).setCell ⟨b, 1, none⟩ (z.list) = W) : Off b w' W := by
  subst hW
  exact (((Off.refl _ _).set _ _).set _ _)

theorem bel {w0 w' W : World} {b B : Nat} (h : Below B w0 w') (z : Reg) (hle : B ≤ b) (hW : ((w').setCell ⟨b, 0, none⟩ (.int .i64 z.frame)).setCell ⟨b, 1, none⟩ (z.list) = W) : Below B w0 W := by
  subst hW
  exact ((h.setCell hle _).setCell hle _)

/-- Behind a call, and stores into another box. -/
theorem nxf {p : Nat} (h : RegBox w b y) (hb : Below w.heap.size w w') (hO : Off p w' W) (hp : p ≠ b) : RegBox W b y :=
  of (fun q => hO.cell b q hp) (fun q => hO.frozen b q) (h.nx hb)

/-- Behind stores into another box. -/
theorem nf {p : Nat} (h : RegBox w b y) (hO : Off p w W) (hp : p ≠ b) : RegBox W b y :=
  of (fun q => hO.cell b q hp) (fun q => hO.frozen b q) h

end RegBox

end Go.Proofs.YtfpofegfbinalaaGreat.Fx
namespace Go.Proofs.YtfpofegfbinalaaGreat.Fx
open Go.ChangeShapes Go.WideShapes Go.ChangeAt Go.RowKit
set_option linter.unusedVariables false
set_option maxRecDepth 100000

/-- The block b holds y, and may be written. -/
structure TrnBox (w : World) (b : Nat) (y : Trn) : Prop where
  c0 : w.cell? ⟨b, 0, none⟩ = some (.int .i64 y.cols)
  c1 : w.cell? ⟨b, 1, none⟩ = some (.int .i64 y.rows)
  c2 : w.cell? ⟨b, 2, none⟩ = some (.int .i64 y.players)
  c3 : w.cell? ⟨b, 3, none⟩ = some (.int .i64 y.window)
  c4 : w.cell? ⟨b, 4, none⟩ = some (.int .u64 y.seed)
  c5 : w.cell? ⟨b, 5, none⟩ = some (.int .i64 y.reg)
  c6 : w.cell? ⟨b, 6, none⟩ = some (.int .i64 y.frame)
  c7 : w.cell? ⟨b, 7, none⟩ = some (y.list)
  c8 : w.cell? ⟨b, 8, none⟩ = some (.int .i64 y.made)
  c9 : w.cell? ⟨b, 9, none⟩ = some (y.out)
  f0 : w.frozen? ⟨b, 0, none⟩ = false
  f1 : w.frozen? ⟨b, 1, none⟩ = false
  f2 : w.frozen? ⟨b, 2, none⟩ = false
  f3 : w.frozen? ⟨b, 3, none⟩ = false
  f4 : w.frozen? ⟨b, 4, none⟩ = false
  f5 : w.frozen? ⟨b, 5, none⟩ = false
  f6 : w.frozen? ⟨b, 6, none⟩ = false
  f7 : w.frozen? ⟨b, 7, none⟩ = false
  f8 : w.frozen? ⟨b, 8, none⟩ = false
  f9 : w.frozen? ⟨b, 9, none⟩ = false

namespace TrnBox
variable {w w' : World} {b : Nat} {y : Trn}

theorem of (hc : ∀ q, w'.cell? ⟨b, q, none⟩ = w.cell? ⟨b, q, none⟩) (hf : ∀ q, w'.frozen? ⟨b, q, none⟩ = w.frozen? ⟨b, q, none⟩) (h : TrnBox w b y) : TrnBox w' b y := by
  constructor
  · rw [hc]; exact h.c0
  · rw [hc]; exact h.c1
  · rw [hc]; exact h.c2
  · rw [hc]; exact h.c3
  · rw [hc]; exact h.c4
  · rw [hc]; exact h.c5
  · rw [hc]; exact h.c6
  · rw [hc]; exact h.c7
  · rw [hc]; exact h.c8
  · rw [hc]; exact h.c9
  · rw [hf]; exact h.f0
  · rw [hf]; exact h.f1
  · rw [hf]; exact h.f2
  · rw [hf]; exact h.f3
  · rw [hf]; exact h.f4
  · rw [hf]; exact h.f5
  · rw [hf]; exact h.f6
  · rw [hf]; exact h.f7
  · rw [hf]; exact h.f8
  · rw [hf]; exact h.f9

theorem below {B : Nat} (h : TrnBox w b y) (hb : Below B w w') (hlt : b < B) : TrnBox w' b y := of (fun q => hb.cell (p := ⟨b, q, none⟩) hlt) (fun q => hb.frozen (p := ⟨b, q, none⟩) hlt) h

theorem drew (h : TrnBox w b y) : TrnBox w.drew b y := of (w := w) (fun _ => rfl) (fun _ => rfl) h

theorem undrew (h : TrnBox w.drew b y) : TrnBox w b y := of (w := w.drew) (fun _ => rfl) (fun _ => rfl) h

theorem drewN (h : TrnBox w b y) (n : Nat) : TrnBox (w.drewN n) b y := of (w := w) (fun _ => rfl) (fun _ => rfl) h

theorem alloc (h : TrnBox w b y) (hlt : b < w.heap.size) (o : Obj) : TrnBox (w.alloc o) b y :=
  of (fun q => World.cell?_alloc_lt _ _ _ hlt) (fun q => World.frozen?_alloc_old _ _ _ (by simp only; omega)) h

theorem far (h : TrnBox w b y) {p : Nat} (hp : p ≠ b) (o : Nat) (v : Value) : TrnBox (w.setCell ⟨p, o, none⟩ v) b y :=
  of (w := w) (fun q => World.cell?_setCell_other _ _ _ _ (by intro hh; exact hp (congrArg Addr.block hh))) (fun q => World.frozen?_setCell _ _ _ _) h

theorem new (w : World) (y : Trn) (t : TypeId) {g : Nat} (hg : g = w.heap.size) {A : Array Value} (hA : A = #[.int .i64 y.cols, .int .i64 y.rows, .int .i64 y.players, .int .i64 y.window, .int .u64 y.seed, .int .i64 y.reg, .int .i64 y.frame, y.list, .int .i64 y.made, y.out]) : TrnBox (w.alloc (.cells A t)) g y := by
  subst hg hA
  constructor
  · rw [World.cell?_alloc_new]; rfl
  · rw [World.cell?_alloc_new]; rfl
  · rw [World.cell?_alloc_new]; rfl
  · rw [World.cell?_alloc_new]; rfl
  · rw [World.cell?_alloc_new]; rfl
  · rw [World.cell?_alloc_new]; rfl
  · rw [World.cell?_alloc_new]; rfl
  · rw [World.cell?_alloc_new]; rfl
  · rw [World.cell?_alloc_new]; rfl
  · rw [World.cell?_alloc_new]; rfl
  · exact World.frozen?_alloc_new _ _ _ 0
  · exact World.frozen?_alloc_new _ _ _ 1
  · exact World.frozen?_alloc_new _ _ _ 2
  · exact World.frozen?_alloc_new _ _ _ 3
  · exact World.frozen?_alloc_new _ _ _ 4
  · exact World.frozen?_alloc_new _ _ _ 5
  · exact World.frozen?_alloc_new _ _ _ 6
  · exact World.frozen?_alloc_new _ _ _ 7
  · exact World.frozen?_alloc_new _ _ _ 8
  · exact World.frozen?_alloc_new _ _ _ 9

/-- The first, second, third of boxes laid one behind the other. -/
theorem n1 (w : World) (y : Trn) (t : TypeId) {A : Array Value} (hA : A = #[.int .i64 y.cols, .int .i64 y.rows, .int .i64 y.players, .int .i64 y.window, .int .u64 y.seed, .int .i64 y.reg, .int .i64 y.frame, y.list, .int .i64 y.made, y.out]) : TrnBox (w.alloc (.cells A t)) w.heap.size y := new _ _ _ rfl hA

theorem n2a (w : World) (y : Trn) (t : TypeId) (B : Obj) {A : Array Value} (hA : A = #[.int .i64 y.cols, .int .i64 y.rows, .int .i64 y.players, .int .i64 y.window, .int .u64 y.seed, .int .i64 y.reg, .int .i64 y.frame, y.list, .int .i64 y.made, y.out]) : TrnBox ((w.alloc (.cells A t)).alloc B) w.heap.size y := (new _ _ _ rfl hA).alloc (by simp) _

theorem n2b (w : World) (y : Trn) (t : TypeId) (B : Obj) {A : Array Value} (hA : A = #[.int .i64 y.cols, .int .i64 y.rows, .int .i64 y.players, .int .i64 y.window, .int .u64 y.seed, .int .i64 y.reg, .int .i64 y.frame, y.list, .int .i64 y.made, y.out]) : TrnBox ((w.alloc B).alloc (.cells A t)) (w.heap.size + 1) y := new _ _ _ (by simp) hA

theorem n3a (w : World) (y : Trn) (t : TypeId) (B C : Obj) {A : Array Value} (hA : A = #[.int .i64 y.cols, .int .i64 y.rows, .int .i64 y.players, .int .i64 y.window, .int .u64 y.seed, .int .i64 y.reg, .int .i64 y.frame, y.list, .int .i64 y.made, y.out]) : TrnBox (((w.alloc (.cells A t)).alloc B).alloc C) w.heap.size y := (n2a _ _ _ _ hA).alloc (by simp; omega) _

theorem n3b (w : World) (y : Trn) (t : TypeId) (B C : Obj) {A : Array Value} (hA : A = #[.int .i64 y.cols, .int .i64 y.rows, .int .i64 y.players, .int .i64 y.window, .int .u64 y.seed, .int .i64 y.reg, .int .i64 y.frame, y.list, .int .i64 y.made, y.out]) : TrnBox (((w.alloc B).alloc (.cells A t)).alloc C) (w.heap.size + 1) y := (n2b _ _ _ _ hA).alloc (by simp) _

theorem n3c (w : World) (y : Trn) (t : TypeId) (B C : Obj) {A : Array Value} (hA : A = #[.int .i64 y.cols, .int .i64 y.rows, .int .i64 y.players, .int .i64 y.window, .int .u64 y.seed, .int .i64 y.reg, .int .i64 y.frame, y.list, .int .i64 y.made, y.out]) : TrnBox (((w.alloc B).alloc C).alloc (.cells A t)) (w.heap.size + 1 + 1) y := new _ _ _ (by simp) hA

theorem has (h : TrnBox w b y) : b < w.heap.size := by
  have := h.c0
  rcases Nat.lt_or_ge b w.heap.size with h' | h'
  · exact h'
  · rw [show w.cell? ⟨b, 0, none⟩ = none by unfold World.cell?; simp [h']] at this
    cases this

theorem set0 (h : TrnBox w b y) (v : Int) : TrnBox (w.setCell ⟨b, 0, none⟩ (.int .i64 v)) b ⟨v, y.rows, y.players, y.window, y.seed, y.reg, y.frame, y.list, y.made, y.out⟩ := by
  obtain ⟨c0, c1, c2, c3, c4, c5, c6, c7, c8, c9, f0, f1, f2, f3, f4, f5, f6, f7, f8, f9⟩ := h
  constructor
  all_goals first | (rw [World.frozen?_setCell]; assumption) | exact World.cell?_setCell_same _ _ _ c0 | (rw [World.cell?_setCell_other _ _ _ _ (by simp)]; assumption)

theorem set1 (h : TrnBox w b y) (v : Int) : TrnBox (w.setCell ⟨b, 1, none⟩ (.int .i64 v)) b ⟨y.cols, v, y.players, y.window, y.seed, y.reg, y.frame, y.list, y.made, y.out⟩ := by
  obtain ⟨c0, c1, c2, c3, c4, c5, c6, c7, c8, c9, f0, f1, f2, f3, f4, f5, f6, f7, f8, f9⟩ := h
  constructor
  all_goals first | (rw [World.frozen?_setCell]; assumption) | exact World.cell?_setCell_same _ _ _ c1 | (rw [World.cell?_setCell_other _ _ _ _ (by simp)]; assumption)

theorem set2 (h : TrnBox w b y) (v : Int) : TrnBox (w.setCell ⟨b, 2, none⟩ (.int .i64 v)) b ⟨y.cols, y.rows, v, y.window, y.seed, y.reg, y.frame, y.list, y.made, y.out⟩ := by
  obtain ⟨c0, c1, c2, c3, c4, c5, c6, c7, c8, c9, f0, f1, f2, f3, f4, f5, f6, f7, f8, f9⟩ := h
  constructor
  all_goals first | (rw [World.frozen?_setCell]; assumption) | exact World.cell?_setCell_same _ _ _ c2 | (rw [World.cell?_setCell_other _ _ _ _ (by simp)]; assumption)

theorem set3 (h : TrnBox w b y) (v : Int) : TrnBox (w.setCell ⟨b, 3, none⟩ (.int .i64 v)) b ⟨y.cols, y.rows, y.players, v, y.seed, y.reg, y.frame, y.list, y.made, y.out⟩ := by
  obtain ⟨c0, c1, c2, c3, c4, c5, c6, c7, c8, c9, f0, f1, f2, f3, f4, f5, f6, f7, f8, f9⟩ := h
  constructor
  all_goals first | (rw [World.frozen?_setCell]; assumption) | exact World.cell?_setCell_same _ _ _ c3 | (rw [World.cell?_setCell_other _ _ _ _ (by simp)]; assumption)

theorem set4 (h : TrnBox w b y) (v : Int) : TrnBox (w.setCell ⟨b, 4, none⟩ (.int .u64 v)) b ⟨y.cols, y.rows, y.players, y.window, v, y.reg, y.frame, y.list, y.made, y.out⟩ := by
  obtain ⟨c0, c1, c2, c3, c4, c5, c6, c7, c8, c9, f0, f1, f2, f3, f4, f5, f6, f7, f8, f9⟩ := h
  constructor
  all_goals first | (rw [World.frozen?_setCell]; assumption) | exact World.cell?_setCell_same _ _ _ c4 | (rw [World.cell?_setCell_other _ _ _ _ (by simp)]; assumption)

theorem set5 (h : TrnBox w b y) (v : Int) : TrnBox (w.setCell ⟨b, 5, none⟩ (.int .i64 v)) b ⟨y.cols, y.rows, y.players, y.window, y.seed, v, y.frame, y.list, y.made, y.out⟩ := by
  obtain ⟨c0, c1, c2, c3, c4, c5, c6, c7, c8, c9, f0, f1, f2, f3, f4, f5, f6, f7, f8, f9⟩ := h
  constructor
  all_goals first | (rw [World.frozen?_setCell]; assumption) | exact World.cell?_setCell_same _ _ _ c5 | (rw [World.cell?_setCell_other _ _ _ _ (by simp)]; assumption)

theorem set6 (h : TrnBox w b y) (v : Int) : TrnBox (w.setCell ⟨b, 6, none⟩ (.int .i64 v)) b ⟨y.cols, y.rows, y.players, y.window, y.seed, y.reg, v, y.list, y.made, y.out⟩ := by
  obtain ⟨c0, c1, c2, c3, c4, c5, c6, c7, c8, c9, f0, f1, f2, f3, f4, f5, f6, f7, f8, f9⟩ := h
  constructor
  all_goals first | (rw [World.frozen?_setCell]; assumption) | exact World.cell?_setCell_same _ _ _ c6 | (rw [World.cell?_setCell_other _ _ _ _ (by simp)]; assumption)

theorem set7 (h : TrnBox w b y) (v : Value) : TrnBox (w.setCell ⟨b, 7, none⟩ (v)) b ⟨y.cols, y.rows, y.players, y.window, y.seed, y.reg, y.frame, v, y.made, y.out⟩ := by
  obtain ⟨c0, c1, c2, c3, c4, c5, c6, c7, c8, c9, f0, f1, f2, f3, f4, f5, f6, f7, f8, f9⟩ := h
  constructor
  all_goals first | (rw [World.frozen?_setCell]; assumption) | exact World.cell?_setCell_same _ _ _ c7 | (rw [World.cell?_setCell_other _ _ _ _ (by simp)]; assumption)

theorem set8 (h : TrnBox w b y) (v : Int) : TrnBox (w.setCell ⟨b, 8, none⟩ (.int .i64 v)) b ⟨y.cols, y.rows, y.players, y.window, y.seed, y.reg, y.frame, y.list, v, y.out⟩ := by
  obtain ⟨c0, c1, c2, c3, c4, c5, c6, c7, c8, c9, f0, f1, f2, f3, f4, f5, f6, f7, f8, f9⟩ := h
  constructor
  all_goals first | (rw [World.frozen?_setCell]; assumption) | exact World.cell?_setCell_same _ _ _ c8 | (rw [World.cell?_setCell_other _ _ _ _ (by simp)]; assumption)

theorem set9 (h : TrnBox w b y) (v : Value) : TrnBox (w.setCell ⟨b, 9, none⟩ (v)) b ⟨y.cols, y.rows, y.players, y.window, y.seed, y.reg, y.frame, y.list, y.made, v⟩ := by
  obtain ⟨c0, c1, c2, c3, c4, c5, c6, c7, c8, c9, f0, f1, f2, f3, f4, f5, f6, f7, f8, f9⟩ := h
  constructor
  all_goals first | (rw [World.frozen?_setCell]; assumption) | exact World.cell?_setCell_same _ _ _ c9 | (rw [World.cell?_setCell_other _ _ _ _ (by simp)]; assumption)

/-- All cells written, one behind the other. -/
theorem put (h : TrnBox w b y) (z : Trn) : TrnBox (((((((((((w).setCell ⟨b, 0, none⟩ (.int .i64 z.cols)).setCell ⟨b, 1, none⟩ (.int .i64 z.rows)).setCell ⟨b, 2, none⟩ (.int .i64 z.players)).setCell ⟨b, 3, none⟩ (.int .i64 z.window)).setCell ⟨b, 4, none⟩ (.int .u64 z.seed)).setCell ⟨b, 5, none⟩ (.int .i64 z.reg)).setCell ⟨b, 6, none⟩ (.int .i64 z.frame)).setCell ⟨b, 7, none⟩ (z.list)).setCell ⟨b, 8, none⟩ (.int .i64 z.made)).setCell ⟨b, 9, none⟩ (z.out)) b z := by
  obtain ⟨z0, z1, z2, z3, z4, z5, z6, z7, z8, z9⟩ := z
  exact ((((((((((h).set0 _).set1 _).set2 _).set3 _).set4 _).set5 _).set6 _).set7 _).set8 _).set9 _

end TrnBox

end Go.Proofs.YtfpofegfbinalaaGreat.Fx
namespace Go.Proofs.YtfpofegfbinalaaGreat.Fx
open Go.ChangeShapes Go.WideShapes Go.ChangeAt Go.RowKit
set_option linter.unusedVariables false
set_option maxRecDepth 100000

namespace TrnBox
variable {w w' W : World} {b : Nat} {y : Trn} {o : Obj}

/-- Behind a call. -/
theorem nx (h : TrnBox w b y) (hb : Below w.heap.size w w') : TrnBox w' b y := h.below hb h.has

/-- Behind a call, and a new box. -/
theorem nxa (h : TrnBox w b y) (hb : Below w.heap.size w w') (hW : w'.alloc o = W) : TrnBox W b y := by
  subst hW
  exact (h.nx hb).alloc (h.nx hb).has o

/-- The new box itself. -/
theorem nb {A : Array Value} {t : TypeId} (hW : w'.alloc (.cells A t) = W) (y : Trn) (hA : A = #[.int .i64 y.cols, .int .i64 y.rows, .int .i64 y.players, .int .i64 y.window, .int .u64 y.seed, .int .i64 y.reg, .int .i64 y.frame, y.list, .int .i64 y.made, y.out]) : TrnBox W w'.heap.size y := by
  subst hW
  exact n1 _ _ _ hA

/-- Behind a call, and a store of the whole into the box. -/
theorem nxs (h : TrnBox w b y) (hb : Below w.heap.size w w') (z : Trn) (hW : ((((((((((w').setCell ⟨b, 0, none⟩ (.int .i64 z.cols)).setCell ⟨b, 1, none⟩ (.int .i64 z.rows)).setCell ⟨b, 2, none⟩ (.int .i64 z.players)).setCell ⟨b, 3, none⟩ (.int .i64 z.window)).setCell ⟨b, 4, none⟩ (.int .u64 z.seed)).setCell ⟨b, 5, none⟩ (.int .i64 z.reg)).setCell ⟨b, 6, none⟩ (.int .i64 z.frame)).setCell ⟨b, 7, none⟩ (z.list)).setCell ⟨b, 8, none⟩ (.int .i64 z.made)).setCell ⟨b, 9, none⟩ (z.out) = W) : TrnBox W b z := by
  subst hW
  exact (h.nx hb).put z

theorem off {w' W : World} {b : Nat} (z : Trn) (hW : ((((((((((w').setCell ⟨b, 0, none⟩ (.int .i64 z.cols)).setCell ⟨b, 1, none⟩ (.int .i64 z.rows)).setCell ⟨b, 2, none⟩ (.int .i64 z.players)).setCell ⟨b, 3, none⟩ (.int .i64 z.window)).setCell ⟨b, 4, none⟩ (.int .u64 z.seed)).setCell ⟨b, 5, none⟩ (.int .i64 z.reg)).setCell ⟨b, 6, none⟩ (.int .i64 z.frame)).setCell ⟨b, 7, none⟩ (z.list)).setCell ⟨b, 8, none⟩ (.int .i64 z.made)).setCell ⟨b, 9, none⟩ (z.out) = W) : Off b w' W := by
  subst hW
  exact (((((((((((Off.refl _ _).set _ _).set _ _).set _ _).set _ _).set _ _).set _ _).set _ _).set _ _).set _ _).set _ _)

theorem bel {w0 w' W : World} {b B : Nat} (h : Below B w0 w') (z : Trn) (hle : B ≤ b) (hW : ((((((((((w').setCell ⟨b, 0, none⟩ (.int .i64 z.cols)).setCell ⟨b, 1, none⟩ (.int .i64 z.rows)).setCell ⟨b, 2, none⟩ (.int .i64 z.players)).setCell ⟨b, 3, none⟩ (.int .i64 z.window)).setCell ⟨b, 4, none⟩ (.int .u64 z.seed)).setCell ⟨b, 5, none⟩ (.int .i64 z.reg)).setCell ⟨b, 6, none⟩ (.int .i64 z.frame)).setCell ⟨b, 7, none⟩ (z.list)).setCell ⟨b, 8, none⟩ (.int .i64 z.made)).setCell ⟨b, 9, none⟩ (z.out) = W) : Below B w0 W := by
  subst hW
  exact ((((((((((h.setCell hle _).setCell hle _).setCell hle _).setCell hle _).setCell hle _).setCell hle _).setCell hle _).setCell hle _).setCell hle _).setCell hle _)

/-- Behind a call, and stores into another box. -/
theorem nxf {p : Nat} (h : TrnBox w b y) (hb : Below w.heap.size w w') (hO : Off p w' W) (hp : p ≠ b) : TrnBox W b y :=
  of (fun q => hO.cell b q hp) (fun q => hO.frozen b q) (h.nx hb)

/-- Behind stores into another box. -/
theorem nf {p : Nat} (h : TrnBox w b y) (hO : Off p w W) (hp : p ≠ b) : TrnBox W b y :=
  of (fun q => hO.cell b q hp) (fun q => hO.frozen b q) h

end TrnBox

end Go.Proofs.YtfpofegfbinalaaGreat.Fx
namespace Go.Proofs.YtfpofegfbinalaaGreat.Fx
open Go.ChangeShapes Go.WideShapes Go.ChangeAt Go.RowKit
set_option linter.unusedVariables false
set_option maxRecDepth 100000

/-- The block b holds y, and may be written. -/
structure InpBox (w : World) (b : Nat) (y : Inp) : Prop where
  c0 : w.cell? ⟨b, 0, none⟩ = some (.int .i64 y.dx)
  c1 : w.cell? ⟨b, 1, none⟩ = some (.int .i64 y.dy)
  c2 : w.cell? ⟨b, 2, none⟩ = some (.bool y.fire)
  f0 : w.frozen? ⟨b, 0, none⟩ = false
  f1 : w.frozen? ⟨b, 1, none⟩ = false
  f2 : w.frozen? ⟨b, 2, none⟩ = false

namespace InpBox
variable {w w' : World} {b : Nat} {y : Inp}

theorem of (hc : ∀ q, w'.cell? ⟨b, q, none⟩ = w.cell? ⟨b, q, none⟩) (hf : ∀ q, w'.frozen? ⟨b, q, none⟩ = w.frozen? ⟨b, q, none⟩) (h : InpBox w b y) : InpBox w' b y := by
  constructor
  · rw [hc]; exact h.c0
  · rw [hc]; exact h.c1
  · rw [hc]; exact h.c2
  · rw [hf]; exact h.f0
  · rw [hf]; exact h.f1
  · rw [hf]; exact h.f2

theorem below {B : Nat} (h : InpBox w b y) (hb : Below B w w') (hlt : b < B) : InpBox w' b y := of (fun q => hb.cell (p := ⟨b, q, none⟩) hlt) (fun q => hb.frozen (p := ⟨b, q, none⟩) hlt) h

theorem drew (h : InpBox w b y) : InpBox w.drew b y := of (w := w) (fun _ => rfl) (fun _ => rfl) h

theorem undrew (h : InpBox w.drew b y) : InpBox w b y := of (w := w.drew) (fun _ => rfl) (fun _ => rfl) h

theorem drewN (h : InpBox w b y) (n : Nat) : InpBox (w.drewN n) b y := of (w := w) (fun _ => rfl) (fun _ => rfl) h

theorem alloc (h : InpBox w b y) (hlt : b < w.heap.size) (o : Obj) : InpBox (w.alloc o) b y :=
  of (fun q => World.cell?_alloc_lt _ _ _ hlt) (fun q => World.frozen?_alloc_old _ _ _ (by simp only; omega)) h

theorem far (h : InpBox w b y) {p : Nat} (hp : p ≠ b) (o : Nat) (v : Value) : InpBox (w.setCell ⟨p, o, none⟩ v) b y :=
  of (w := w) (fun q => World.cell?_setCell_other _ _ _ _ (by intro hh; exact hp (congrArg Addr.block hh))) (fun q => World.frozen?_setCell _ _ _ _) h

theorem new (w : World) (y : Inp) (t : TypeId) {g : Nat} (hg : g = w.heap.size) {A : Array Value} (hA : A = #[.int .i64 y.dx, .int .i64 y.dy, .bool y.fire]) : InpBox (w.alloc (.cells A t)) g y := by
  subst hg hA
  constructor
  · rw [World.cell?_alloc_new]; rfl
  · rw [World.cell?_alloc_new]; rfl
  · rw [World.cell?_alloc_new]; rfl
  · exact World.frozen?_alloc_new _ _ _ 0
  · exact World.frozen?_alloc_new _ _ _ 1
  · exact World.frozen?_alloc_new _ _ _ 2

/-- The first, second, third of boxes laid one behind the other. -/
theorem n1 (w : World) (y : Inp) (t : TypeId) {A : Array Value} (hA : A = #[.int .i64 y.dx, .int .i64 y.dy, .bool y.fire]) : InpBox (w.alloc (.cells A t)) w.heap.size y := new _ _ _ rfl hA

theorem n2a (w : World) (y : Inp) (t : TypeId) (B : Obj) {A : Array Value} (hA : A = #[.int .i64 y.dx, .int .i64 y.dy, .bool y.fire]) : InpBox ((w.alloc (.cells A t)).alloc B) w.heap.size y := (new _ _ _ rfl hA).alloc (by simp) _

theorem n2b (w : World) (y : Inp) (t : TypeId) (B : Obj) {A : Array Value} (hA : A = #[.int .i64 y.dx, .int .i64 y.dy, .bool y.fire]) : InpBox ((w.alloc B).alloc (.cells A t)) (w.heap.size + 1) y := new _ _ _ (by simp) hA

theorem n3a (w : World) (y : Inp) (t : TypeId) (B C : Obj) {A : Array Value} (hA : A = #[.int .i64 y.dx, .int .i64 y.dy, .bool y.fire]) : InpBox (((w.alloc (.cells A t)).alloc B).alloc C) w.heap.size y := (n2a _ _ _ _ hA).alloc (by simp; omega) _

theorem n3b (w : World) (y : Inp) (t : TypeId) (B C : Obj) {A : Array Value} (hA : A = #[.int .i64 y.dx, .int .i64 y.dy, .bool y.fire]) : InpBox (((w.alloc B).alloc (.cells A t)).alloc C) (w.heap.size + 1) y := (n2b _ _ _ _ hA).alloc (by simp) _

theorem n3c (w : World) (y : Inp) (t : TypeId) (B C : Obj) {A : Array Value} (hA : A = #[.int .i64 y.dx, .int .i64 y.dy, .bool y.fire]) : InpBox (((w.alloc B).alloc C).alloc (.cells A t)) (w.heap.size + 1 + 1) y := new _ _ _ (by simp) hA

theorem has (h : InpBox w b y) : b < w.heap.size := by
  have := h.c0
  rcases Nat.lt_or_ge b w.heap.size with h' | h'
  · exact h'
  · rw [show w.cell? ⟨b, 0, none⟩ = none by unfold World.cell?; simp [h']] at this
    cases this

theorem set0 (h : InpBox w b y) (v : Int) : InpBox (w.setCell ⟨b, 0, none⟩ (.int .i64 v)) b ⟨v, y.dy, y.fire⟩ := by
  obtain ⟨c0, c1, c2, f0, f1, f2⟩ := h
  constructor
  all_goals first | (rw [World.frozen?_setCell]; assumption) | exact World.cell?_setCell_same _ _ _ c0 | (rw [World.cell?_setCell_other _ _ _ _ (by simp)]; assumption)

theorem set1 (h : InpBox w b y) (v : Int) : InpBox (w.setCell ⟨b, 1, none⟩ (.int .i64 v)) b ⟨y.dx, v, y.fire⟩ := by
  obtain ⟨c0, c1, c2, f0, f1, f2⟩ := h
  constructor
  all_goals first | (rw [World.frozen?_setCell]; assumption) | exact World.cell?_setCell_same _ _ _ c1 | (rw [World.cell?_setCell_other _ _ _ _ (by simp)]; assumption)

theorem set2 (h : InpBox w b y) (v : Bool) : InpBox (w.setCell ⟨b, 2, none⟩ (.bool v)) b ⟨y.dx, y.dy, v⟩ := by
  obtain ⟨c0, c1, c2, f0, f1, f2⟩ := h
  constructor
  all_goals first | (rw [World.frozen?_setCell]; assumption) | exact World.cell?_setCell_same _ _ _ c2 | (rw [World.cell?_setCell_other _ _ _ _ (by simp)]; assumption)

/-- All cells written, one behind the other. -/
theorem put (h : InpBox w b y) (z : Inp) : InpBox ((((w).setCell ⟨b, 0, none⟩ (.int .i64 z.dx)).setCell ⟨b, 1, none⟩ (.int .i64 z.dy)).setCell ⟨b, 2, none⟩ (.bool z.fire)) b z := by
  obtain ⟨z0, z1, z2⟩ := z
  exact (((h).set0 _).set1 _).set2 _

end InpBox

end Go.Proofs.YtfpofegfbinalaaGreat.Fx
namespace Go.Proofs.YtfpofegfbinalaaGreat.Fx
open Go.ChangeShapes Go.WideShapes Go.ChangeAt Go.RowKit
set_option linter.unusedVariables false
set_option maxRecDepth 100000

namespace InpBox
variable {w w' W : World} {b : Nat} {y : Inp} {o : Obj}

/-- Behind a call. -/
theorem nx (h : InpBox w b y) (hb : Below w.heap.size w w') : InpBox w' b y := h.below hb h.has

/-- Behind a call, and a new box. -/
theorem nxa (h : InpBox w b y) (hb : Below w.heap.size w w') (hW : w'.alloc o = W) : InpBox W b y := by
  subst hW
  exact (h.nx hb).alloc (h.nx hb).has o

/-- The new box itself. -/
theorem nb {A : Array Value} {t : TypeId} (hW : w'.alloc (.cells A t) = W) (y : Inp) (hA : A = #[.int .i64 y.dx, .int .i64 y.dy, .bool y.fire]) : InpBox W w'.heap.size y := by
  subst hW
  exact n1 _ _ _ hA

/-- Behind a call, and a store of the whole into the box. -/
theorem nxs (h : InpBox w b y) (hb : Below w.heap.size w w') (z : Inp) (hW : (((w').setCell ⟨b, 0, none⟩ (.int .i64 z.dx)).setCell ⟨b, 1, none⟩ (.int .i64 z.dy)).setCell ⟨b, 2, none⟩ (.bool z.fire) = W) : InpBox W b z := by
  subst hW
  exact (h.nx hb).put z

theorem off {w' W : World} {b : Nat} (z : Inp) (hW : (((w').setCell ⟨b, 0, none⟩ (.int .i64 z.dx)).setCell ⟨b, 1, none⟩ (.int .i64 z.dy)).setCell ⟨b, 2, none⟩ (.bool z.fire) = W) : Off b w' W := by
  subst hW
  exact ((((Off.refl _ _).set _ _).set _ _).set _ _)

theorem bel {w0 w' W : World} {b B : Nat} (h : Below B w0 w') (z : Inp) (hle : B ≤ b) (hW : (((w').setCell ⟨b, 0, none⟩ (.int .i64 z.dx)).setCell ⟨b, 1, none⟩ (.int .i64 z.dy)).setCell ⟨b, 2, none⟩ (.bool z.fire) = W) : Below B w0 W := by
  subst hW
  exact (((h.setCell hle _).setCell hle _).setCell hle _)

/-- Behind a call, and stores into another box. -/
theorem nxf {p : Nat} (h : InpBox w b y) (hb : Below w.heap.size w w') (hO : Off p w' W) (hp : p ≠ b) : InpBox W b y :=
  of (fun q => hO.cell b q hp) (fun q => hO.frozen b q) (h.nx hb)

/-- Behind stores into another box. -/
theorem nf {p : Nat} (h : InpBox w b y) (hO : Off p w W) (hp : p ≠ b) : InpBox W b y :=
  of (fun q => hO.cell b q hp) (fun q => hO.frozen b q) h

end InpBox

end Go.Proofs.YtfpofegfbinalaaGreat.Fx
