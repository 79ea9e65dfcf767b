/- Entity in a box of its own: its cells, and that it may be written; what turns of the world make of it. One world is as another one but for a block. Entity in a box, call by call. Config: its values, its cells, when two are equal; slices of them. -/
import Derived.Test.YtlpkaljepaclpaaGreatM03
import Derived.Lib.Hide
import Derived.Test.YtlpkaljepaclpaaGreatM01
import Derived.Test.YtlpkaljepaclpaaGreatM02
import Derived.Laws.StructEq
namespace Go.Proofs.YtlpkaljepaclpaaGreat.Fx
open Go.ChangeShapes Go.WideShapes Go.ChangeAt Go.RowKit
set_option linter.unusedVariables false
set_option maxRecDepth 100000

/-- The block b holds y, and may be written. -/
structure EntBox (w : World) (b : Nat) (y : Ent) : Prop where
  c0 : w.cell? ⟨b, 0, none⟩ = some (.int .i64 y.id)
  c1 : w.cell? ⟨b, 1, none⟩ = some (.int .i64 y.kind)
  c2 : w.cell? ⟨b, 2, none⟩ = some (.int .i64 y.x)
  c3 : w.cell? ⟨b, 3, none⟩ = some (.int .i64 y.y)
  c4 : w.cell? ⟨b, 4, none⟩ = some (.int .i64 y.vx)
  c5 : w.cell? ⟨b, 5, none⟩ = some (.int .i64 y.vy)
  c6 : w.cell? ⟨b, 6, none⟩ = some (.int .i64 y.health)
  c7 : w.cell? ⟨b, 7, none⟩ = some (.int .i64 y.age)
  c8 : w.cell? ⟨b, 8, none⟩ = some (.int .i64 y.owner)
  f0 : w.frozen? ⟨b, 0, none⟩ = false
  f1 : w.frozen? ⟨b, 1, none⟩ = false
  f2 : w.frozen? ⟨b, 2, none⟩ = false
  f3 : w.frozen? ⟨b, 3, none⟩ = false
  f4 : w.frozen? ⟨b, 4, none⟩ = false
  f5 : w.frozen? ⟨b, 5, none⟩ = false
  f6 : w.frozen? ⟨b, 6, none⟩ = false
  f7 : w.frozen? ⟨b, 7, none⟩ = false
  f8 : w.frozen? ⟨b, 8, none⟩ = false

namespace EntBox
variable {w w' : World} {b : Nat} {y : Ent}

theorem of (hc : ∀ q, w'.cell? ⟨b, q, none⟩ = w.cell? ⟨b, q, none⟩) (hf : ∀ q, w'.frozen? ⟨b, q, none⟩ = w.frozen? ⟨b, q, none⟩) (h : EntBox w b y) : EntBox w' b y := by
  constructor
  · rw [hc]; exact h.c0
  · rw [hc]; exact h.c1
  · rw [hc]; exact h.c2
  · rw [hc]; exact h.c3
  · rw [hc]; exact h.c4
  · rw [hc]; exact h.c5
  · rw [hc]; exact h.c6
  · rw [hc]; exact h.c7
  · rw [hc]; exact h.c8
  · rw [hf]; exact h.f0
  · rw [hf]; exact h.f1
  · rw [hf]; exact h.f2
  · rw [hf]; exact h.f3
  · rw [hf]; exact h.f4
  · rw [hf]; exact h.f5
  · rw [hf]; exact h.f6
  · rw [hf]; exact h.f7
  · rw [hf]; exact h.f8

theorem below {B : Nat} (h : EntBox w b y) (hb : Below B w w') (hlt : b < B) : EntBox w' b y := of (fun q => hb.cell (p := ⟨b, q, none⟩) hlt) (fun q => hb.frozen (p := ⟨b, q, none⟩) hlt) h

theorem drew (h : EntBox w b y) : EntBox w.drew b y := of (w := w) (fun _ => rfl) (fun _ => rfl) h

theorem undrew (h : EntBox w.drew b y) : EntBox w b y := of (w := w.drew) (fun _ => rfl) (fun _ => rfl) h

theorem drewN (h : EntBox w b y) (n : Nat) : EntBox (w.drewN n) b y := of (w := w) (fun _ => rfl) (fun _ => rfl) h

theorem alloc (h : EntBox w b y) (hlt : b < w.heap.size) (o : Obj) : EntBox (w.alloc o) b y :=
  of (fun q => World.cell?_alloc_lt _ _ _ hlt) (fun q => World.frozen?_alloc_old _ _ _ (by simp only; omega)) h

theorem far (h : EntBox w b y) {p : Nat} (hp : p ≠ b) (o : Nat) (v : Value) : EntBox (w.setCell ⟨p, o, none⟩ v) b y :=
  of (w := w) (fun q => World.cell?_setCell_other _ _ _ _ (by intro hh; exact hp (congrArg Addr.block hh))) (fun q => World.frozen?_setCell _ _ _ _) h

theorem new (w : World) (y : Ent) (t : TypeId) {g : Nat} (hg : g = w.heap.size) {A : Array Value} (hA : A = #[.int .i64 y.id, .int .i64 y.kind, .int .i64 y.x, .int .i64 y.y, .int .i64 y.vx, .int .i64 y.vy, .int .i64 y.health, .int .i64 y.age, .int .i64 y.owner]) : EntBox (w.alloc (.cells A t)) g y := by
  subst hg hA
  constructor
  · rw [World.cell?_alloc_new]; rfl
  · rw [World.cell?_alloc_new]; rfl
  · rw [World.cell?_alloc_new]; rfl
  · rw [World.cell?_alloc_new]; rfl
  · rw [World.cell?_alloc_new]; rfl
  · rw [World.cell?_alloc_new]; rfl
  · rw [World.cell?_alloc_new]; rfl
  · rw [World.cell?_alloc_new]; rfl
  · rw [World.cell?_alloc_new]; rfl
  · exact World.frozen?_alloc_new _ _ _ 0
  · exact World.frozen?_alloc_new _ _ _ 1
  · exact World.frozen?_alloc_new _ _ _ 2
  · exact World.frozen?_alloc_new _ _ _ 3
  · exact World.frozen?_alloc_new _ _ _ 4
  · exact World.frozen?_alloc_new _ _ _ 5
  · exact World.frozen?_alloc_new _ _ _ 6
  · exact World.frozen?_alloc_new _ _ _ 7
  · exact World.frozen?_alloc_new _ _ _ 8

/-- The first, second, third of boxes laid one behind the other. -/
theorem n1 (w : World) (y : Ent) (t : TypeId) {A : Array Value} (hA : A = #[.int .i64 y.id, .int .i64 y.kind, .int .i64 y.x, .int .i64 y.y, .int .i64 y.vx, .int .i64 y.vy, .int .i64 y.health, .int .i64 y.age, .int .i64 y.owner]) : EntBox (w.alloc (.cells A t)) w.heap.size y := new _ _ _ rfl hA

theorem n2a (w : World) (y : Ent) (t : TypeId) (B : Obj) {A : Array Value} (hA : A = #[.int .i64 y.id, .int .i64 y.kind, .int .i64 y.x, .int .i64 y.y, .int .i64 y.vx, .int .i64 y.vy, .int .i64 y.health, .int .i64 y.age, .int .i64 y.owner]) : EntBox ((w.alloc (.cells A t)).alloc B) w.heap.size y := (new _ _ _ rfl hA).alloc (by simp) _

theorem n2b (w : World) (y : Ent) (t : TypeId) (B : Obj) {A : Array Value} (hA : A = #[.int .i64 y.id, .int .i64 y.kind, .int .i64 y.x, .int .i64 y.y, .int .i64 y.vx, .int .i64 y.vy, .int .i64 y.health, .int .i64 y.age, .int .i64 y.owner]) : EntBox ((w.alloc B).alloc (.cells A t)) (w.heap.size + 1) y := new _ _ _ (by simp) hA

theorem n3a (w : World) (y : Ent) (t : TypeId) (B C : Obj) {A : Array Value} (hA : A = #[.int .i64 y.id, .int .i64 y.kind, .int .i64 y.x, .int .i64 y.y, .int .i64 y.vx, .int .i64 y.vy, .int .i64 y.health, .int .i64 y.age, .int .i64 y.owner]) : EntBox (((w.alloc (.cells A t)).alloc B).alloc C) w.heap.size y := (n2a _ _ _ _ hA).alloc (by simp; omega) _

theorem n3b (w : World) (y : Ent) (t : TypeId) (B C : Obj) {A : Array Value} (hA : A = #[.int .i64 y.id, .int .i64 y.kind, .int .i64 y.x, .int .i64 y.y, .int .i64 y.vx, .int .i64 y.vy, .int .i64 y.health, .int .i64 y.age, .int .i64 y.owner]) : EntBox (((w.alloc B).alloc (.cells A t)).alloc C) (w.heap.size + 1) y := (n2b _ _ _ _ hA).alloc (by simp) _

theorem n3c (w : World) (y : Ent) (t : TypeId) (B C : Obj) {A : Array Value} (hA : A = #[.int .i64 y.id, .int .i64 y.kind, .int .i64 y.x, .int .i64 y.y, .int .i64 y.vx, .int .i64 y.vy, .int .i64 y.health, .int .i64 y.age, .int .i64 y.owner]) : EntBox (((w.alloc B).alloc C).alloc (.cells A t)) (w.heap.size + 1 + 1) y := new _ _ _ (by simp) hA

theorem has (h : EntBox w b y) : b < w.heap.size := by
  have := h.c0
  rcases Nat.lt_or_ge b w.heap.size with h' | h'
  · exact h'
  · rw [show w.cell? ⟨b, 0, none⟩ = none by unfold World.cell?; simp [h']] at this
    cases this

theorem set0 (h : EntBox w b y) (v : Int) : EntBox (w.setCell ⟨b, 0, none⟩ (.int .i64 v)) b ⟨v, y.kind, y.x, y.y, y.vx, y.vy, y.health, y.age, y.owner⟩ := by
  obtain ⟨c0, c1, c2, c3, c4, c5, c6, c7, c8, f0, f1, f2, f3, f4, f5, f6, f7, f8⟩ := h
  constructor
  all_goals first | (rw [World.frozen?_setCell]; assumption) | exact World.cell?_setCell_same _ _ _ c0 | (rw [World.cell?_setCell_other _ _ _ _ (by simp)]; assumption)

theorem set1 (h : EntBox w b y) (v : Int) : EntBox (w.setCell ⟨b, 1, none⟩ (.int .i64 v)) b ⟨y.id, v, y.x, y.y, y.vx, y.vy, y.health, y.age, y.owner⟩ := by
  obtain ⟨c0, c1, c2, c3, c4, c5, c6, c7, c8, f0, f1, f2, f3, f4, f5, f6, f7, f8⟩ := h
  constructor
  all_goals first | (rw [World.frozen?_setCell]; assumption) | exact World.cell?_setCell_same _ _ _ c1 | (rw [World.cell?_setCell_other _ _ _ _ (by simp)]; assumption)

theorem set2 (h : EntBox w b y) (v : Int) : EntBox (w.setCell ⟨b, 2, none⟩ (.int .i64 v)) b ⟨y.id, y.kind, v, y.y, y.vx, y.vy, y.health, y.age, y.owner⟩ := by
  obtain ⟨c0, c1, c2, c3, c4, c5, c6, c7, c8, f0, f1, f2, f3, f4, f5, f6, f7, f8⟩ := h
  constructor
  all_goals first | (rw [World.frozen?_setCell]; assumption) | exact World.cell?_setCell_same _ _ _ c2 | (rw [World.cell?_setCell_other _ _ _ _ (by simp)]; assumption)

theorem set3 (h : EntBox w b y) (v : Int) : EntBox (w.setCell ⟨b, 3, none⟩ (.int .i64 v)) b ⟨y.id, y.kind, y.x, v, y.vx, y.vy, y.health, y.age, y.owner⟩ := by
  obtain ⟨c0, c1, c2, c3, c4, c5, c6, c7, c8, f0, f1, f2, f3, f4, f5, f6, f7, f8⟩ := h
  constructor
  all_goals first | (rw [World.frozen?_setCell]; assumption) | exact World.cell?_setCell_same _ _ _ c3 | (rw [World.cell?_setCell_other _ _ _ _ (by simp)]; assumption)

theorem set4 (h : EntBox w b y) (v : Int) : EntBox (w.setCell ⟨b, 4, none⟩ (.int .i64 v)) b ⟨y.id, y.kind, y.x, y.y, v, y.vy, y.health, y.age, y.owner⟩ := by
  obtain ⟨c0, c1, c2, c3, c4, c5, c6, c7, c8, f0, f1, f2, f3, f4, f5, f6, f7, f8⟩ := h
  constructor
  all_goals first | (rw [World.frozen?_setCell]; assumption) | exact World.cell?_setCell_same _ _ _ c4 | (rw [World.cell?_setCell_other _ _ _ _ (by simp)]; assumption)

theorem set5 (h : EntBox w b y) (v : Int) : EntBox (w.setCell ⟨b, 5, none⟩ (.int .i64 v)) b ⟨y.id, y.kind, y.x, y.y, y.vx, v, y.health, y.age, y.owner⟩ := by
  obtain ⟨c0, c1, c2, c3, c4, c5, c6, c7, c8, f0, f1, f2, f3, f4, f5, f6, f7, f8⟩ := h
  constructor
  all_goals first | (rw [World.frozen?_setCell]; assumption) | exact World.cell?_setCell_same _ _ _ c5 | (rw [World.cell?_setCell_other _ _ _ _ (by simp)]; assumption)

theorem set6 (h : EntBox w b y) (v : Int) : EntBox (w.setCell ⟨b, 6, none⟩ (.int .i64 v)) b ⟨y.id, y.kind, y.x, y.y, y.vx, y.vy, v, y.age, y.owner⟩ := by
  obtain ⟨c0, c1, c2, c3, c4, c5, c6, c7, c8, f0, f1, f2, f3, f4, f5, f6, f7, f8⟩ := h
  constructor
  all_goals first | (rw [World.frozen?_setCell]; assumption) | exact World.cell?_setCell_same _ _ _ c6 | (rw [World.cell?_setCell_other _ _ _ _ (by simp)]; assumption)

theorem set7 (h : EntBox w b y) (v : Int) : EntBox (w.setCell ⟨b, 7, none⟩ (.int .i64 v)) b ⟨y.id, y.kind, y.x, y.y, y.vx, y.vy, y.health, v, y.owner⟩ := by
  obtain ⟨c0, c1, c2, c3, c4, c5, c6, c7, c8, f0, f1, f2, f3, f4, f5, f6, f7, f8⟩ := h
  constructor
  all_goals first | (rw [World.frozen?_setCell]; assumption) | exact World.cell?_setCell_same _ _ _ c7 | (rw [World.cell?_setCell_other _ _ _ _ (by simp)]; assumption)

theorem set8 (h : EntBox w b y) (v : Int) : EntBox (w.setCell ⟨b, 8, none⟩ (.int .i64 v)) b ⟨y.id, y.kind, y.x, y.y, y.vx, y.vy, y.health, y.age, v⟩ := by
  obtain ⟨c0, c1, c2, c3, c4, c5, c6, c7, c8, f0, f1, f2, f3, f4, f5, f6, f7, f8⟩ := h
  constructor
  all_goals first | (rw [World.frozen?_setCell]; assumption) | exact World.cell?_setCell_same _ _ _ c8 | (rw [World.cell?_setCell_other _ _ _ _ (by simp)]; assumption)

/-- All cells written, one behind the other. -/
theorem put (h : EntBox w b y) (z : Ent) : EntBox ((((((((((w).setCell ⟨b, 0, none⟩ (.int .i64 z.id)).setCell ⟨b, 1, none⟩ (.int .i64 z.kind)).setCell ⟨b, 2, none⟩ (.int .i64 z.x)).setCell ⟨b, 3, none⟩ (.int .i64 z.y)).setCell ⟨b, 4, none⟩ (.int .i64 z.vx)).setCell ⟨b, 5, none⟩ (.int .i64 z.vy)).setCell ⟨b, 6, none⟩ (.int .i64 z.health)).setCell ⟨b, 7, none⟩ (.int .i64 z.age)).setCell ⟨b, 8, none⟩ (.int .i64 z.owner)) b z := by
  obtain ⟨z0, z1, z2, z3, z4, z5, z6, z7, z8⟩ := z
  exact (((((((((h).set0 _).set1 _).set2 _).set3 _).set4 _).set5 _).set6 _).set7 _).set8 _

end EntBox

end Go.Proofs.YtlpkaljepaclpaaGreat.Fx
namespace Go.Proofs.YtlpkaljepaclpaaGreat.Fx
open Go.ChangeShapes Go.WideShapes Go.ChangeAt Go.RowKit
set_option linter.unusedVariables false
set_option maxRecDepth 100000

/-- W is as w but for the block p. -/
structure Off (p : Nat) (w W : World) : Prop where
  cell : ∀ b o, p ≠ b → W.cell? ⟨b, o, none⟩ = w.cell? ⟨b, o, none⟩
  frozen : ∀ b o, W.frozen? ⟨b, o, none⟩ = w.frozen? ⟨b, o, none⟩
  size : W.heap.size = w.heap.size

theorem Off.refl (p : Nat) (w : World) : Off p w w := ⟨fun _ _ _ => rfl, fun _ _ => rfl, rfl⟩

theorem Off.set {p : Nat} {w W : World} (h : Off p w W) (o : Nat) (v : Value) : Off p w (W.setCell ⟨p, o, none⟩ v) :=
  ⟨fun b q hb => by rw [World.cell?_setCell_other _ _ _ _ (by intro hh; exact hb (congrArg Addr.block hh))]; exact h.cell b q hb, fun b q => by rw [World.frozen?_setCell]; exact h.frozen b q, by simp [h.size]⟩

end Go.Proofs.YtlpkaljepaclpaaGreat.Fx
namespace Go.Proofs.YtlpkaljepaclpaaGreat.Fx
open Go.ChangeShapes Go.WideShapes Go.ChangeAt Go.RowKit
set_option linter.unusedVariables false
set_option maxRecDepth 100000

namespace EntBox
variable {w w' W : World} {b : Nat} {y : Ent} {o : Obj}

/-- Behind a call. -/
theorem nx (h : EntBox w b y) (hb : Below w.heap.size w w') : EntBox w' b y := h.below hb h.has

/-- Behind a call, and a new box. -/
theorem nxa (h : EntBox w b y) (hb : Below w.heap.size w w') (hW : w'.alloc o = W) : EntBox W b y := by
  subst hW
  exact (h.nx hb).alloc (h.nx hb).has o

/-- The new box itself. -/
theorem nb {A : Array Value} {t : TypeId} (hW : w'.alloc (.cells A t) = W) (y : Ent) (hA : A = #[.int .i64 y.id, .int .i64 y.kind, .int .i64 y.x, .int .i64 y.y, .int .i64 y.vx, .int .i64 y.vy, .int .i64 y.health, .int .i64 y.age, .int .i64 y.owner]) : EntBox W w'.heap.size y := by
  subst hW
  exact n1 _ _ _ hA

/-- Behind a call, and a store of the whole into the box. -/
theorem nxs (h : EntBox w b y) (hb : Below w.heap.size w w') (z : Ent) (hW : (((((((((w').setCell ⟨b, 0, none⟩ (.int .i64 z.id)).setCell ⟨b, 1, none⟩ (.int .i64 z.kind)).setCell ⟨b, 2, none⟩ (.int .i64 z.x)).setCell ⟨b, 3, none⟩ (.int .i64 z.y)).setCell ⟨b, 4, none⟩ (.int .i64 z.vx)).setCell ⟨b, 5, none⟩ (.int .i64 z.vy)).setCell ⟨b, 6, none⟩ (.int .i64 z.health)).setCell ⟨b, 7, none⟩ (.int .i64 z.age)).setCell ⟨b, 8, none⟩ (.int .i64 z.owner) = W) : EntBox W b z := by
  subst hW
  exact (h.nx hb).put z

theorem off {w' W : World} {b : Nat} (z : Ent) (hW : (((((((((w').setCell ⟨b, 0, none⟩ (.int .i64 z.id)).setCell ⟨b, 1, none⟩ (.int .i64 z.kind)).setCell ⟨b, 2, none⟩ (.int .i64 z.x)).setCell ⟨b, 3, none⟩ (.int .i64 z.y)).setCell ⟨b, 4, none⟩ (.int .i64 z.vx)).setCell ⟨b, 5, none⟩ (.int .i64 z.vy)).setCell ⟨b, 6, none⟩ (.int .i64 z.health)).setCell ⟨b, 7, none⟩ (.int .i64 z.age)).setCell ⟨b, 8, none⟩ (.int .i64 z.owner) = W) : Off b w' W := by
  subst hW
  exact ((((((((((Off.refl _ _).set _ _).set _ _).set _ _).set _ _).set _ _).set _ _).set _ _).set _ _).set _ _)

theorem bel {w0 w' W : World} {b B : Nat} (h : Below B w0 w') (z : Ent) (hle : B ≤ b) (hW : (((((((((w').setCell ⟨b, 0, none⟩ (.int .i64 z.id)).setCell ⟨b, 1, none⟩ (.int .i64 z.kind)).setCell ⟨b, 2, none⟩ (.int .i64 z.x)).setCell ⟨b, 3, none⟩ (.int .i64 z.y)).setCell ⟨b, 4, none⟩ (.int .i64 z.vx)).setCell ⟨b, 5, none⟩ (.int .i64 z.vy)).setCell ⟨b, 6, none⟩ (.int .i64 z.health)).setCell ⟨b, 7, none⟩ (.int .i64 z.age)).setCell ⟨b, 8, none⟩ (.int .i64 z.owner) = W) : Below B w0 W := by
  subst hW
  exact (((((((((h.setCell hle _).setCell hle _).setCell hle _).setCell hle _).setCell hle _).setCell hle _).setCell hle _).setCell hle _).setCell hle _)

/-- Behind a call, and stores into another box. -/
theorem nxf {p : Nat} (h : EntBox w b y) (hb : Below w.heap.size w w') (hO : Off p w' W) (hp : p ≠ b) : EntBox W b y :=
  of (fun q => hO.cell b q hp) (fun q => hO.frozen b q) (h.nx hb)

/-- Behind stores into another box. -/
theorem nf {p : Nat} (h : EntBox w b y) (hO : Off p w W) (hp : p ≠ b) : EntBox W b y :=
  of (fun q => hO.cell b q hp) (fun q => hO.frozen b q) h

end EntBox

end Go.Proofs.YtlpkaljepaclpaaGreat.Fx
namespace Go.Proofs.YtlpkaljepaclpaaGreat.Fx
open Go.ChangeShapes Go.WideShapes Go.ChangeAt Go.RowKit
set_option linter.unusedVariables false
set_option maxRecDepth 100000

structure Cfg where
  cols : Int
  rows : Int
  players : Int
  window : Int
  seed : Int
  deriving DecidableEq

/-- Its cells. -/
def cfgC (e : Cfg) : List Value := [.int .i64 e.cols, .int .i64 e.rows, .int .i64 e.players, .int .i64 e.window, .int .u64 e.seed]

/-- Every number of it fits its kind. -/
def Cfg.ok (e : Cfg) : Prop := (Lit.int .i64 e.cols).wf = true ∧ (Lit.int .i64 e.rows).wf = true ∧ (Lit.int .i64 e.players).wf = true ∧ (Lit.int .i64 e.window).wf = true ∧ (Lit.int .u64 e.seed).wf = true

instance : Inhabited Cfg := ⟨⟨0, 0, 0, 0, 0⟩⟩

theorem cfgC_len (e : Cfg) : (cfgC e).length = 5 := rfl

/-- Are two the same? -/
def eqCfg (a b : Cfg) : Bool := decide (a = b)

@[go_sem] theorem eqCfg_self (a : Cfg) : eqCfg a a = true := by simp [eqCfg]

theorem equal_Cfg (a b : Cfg) (w : World) : (Op.equalIn 10000 24 (.agg #[.int .i64 a.cols, .int .i64 a.rows, .int .i64 a.players, .int .i64 a.window, .int .u64 a.seed]) (.agg #[.int .i64 b.cols, .int .i64 b.rows, .int .i64 b.players, .int .i64 b.window, .int .u64 b.seed])).run Tryz.prog w = .ok (eqCfg a b) w := by
  have hS : Tryz.prog.underlying 24 = some (.struct (Tryz.prog.fieldsOf 24)) := by kernel_rfl
  have hp : Tryz.prog.stoodInHeld 24 = false := by kernel_rfl
  rw [show (10000 : Nat) = 9999 + 1 from rfl, run_equalIn_agg w 9999 24 _ _ hS hp]
  simp only [Program.fieldsOf, Tryz.underlying24]
  go_simp
  unfold eqCfg
  obtain ⟨a_cols, a_rows, a_players, a_window, a_seed⟩ := a
  obtain ⟨b_cols, b_rows, b_players, b_window, b_seed⟩ := b
  by_cases h0 : a_cols = b_cols
  rotate_left 1
  · simp [h0]
  by_cases h1 : a_rows = b_rows
  rotate_left 1
  · simp [h1, h0]
  by_cases h2 : a_players = b_players
  rotate_left 1
  · simp [h2, h0, h1]
  by_cases h3 : a_window = b_window
  rotate_left 1
  · simp [h3, h0, h1, h2]
  by_cases h4 : a_seed = b_seed
  rotate_left 1
  · simp [h4, h0, h1, h2, h3]
  subst h0 h1 h2 h3 h4
  simp

@[go_sem high] theorem eql_Cfg (a b : Cfg) (w : World) : (binOp .eql 24 (.agg #[.int .i64 a.cols, .int .i64 a.rows, .int .i64 a.players, .int .i64 a.window, .int .u64 a.seed]) (.agg #[.int .i64 b.cols, .int .i64 b.rows, .int .i64 b.players, .int .i64 b.window, .int .u64 b.seed])).run Tryz.prog w = .ok (.bool (eqCfg a b)) w := by
  rw [run_eql_struct, equal_Cfg]; rfl

@[go_sem high] theorem neq_Cfg (a b : Cfg) (w : World) : (binOp .neq 24 (.agg #[.int .i64 a.cols, .int .i64 a.rows, .int .i64 a.players, .int .i64 a.window, .int .u64 a.seed]) (.agg #[.int .i64 b.cols, .int .i64 b.rows, .int .i64 b.players, .int .i64 b.window, .int .u64 b.seed])).run Tryz.prog w = .ok (.bool (!eqCfg a b)) w := by
  rw [run_neq_struct, equal_Cfg]; rfl

/-- The cells of an element. -/
theorem elem_Cfg {w : World} {A : Option Addr} {es : List Cfg} (h : CellsAt w A (es.flatMap cfgC)) {k : Nat} {e : Cfg} (hk : es[k]? = some e) :
    ∃ b off, A = some ⟨b, off, none⟩ ∧ (w.cell? ⟨b, off + k * 5, none⟩ = some (.int .i64 e.cols) ∧ w.cell? ⟨b, off + k * 5 + 1, none⟩ = some (.int .i64 e.rows) ∧ w.cell? ⟨b, off + k * 5 + 2, none⟩ = some (.int .i64 e.players) ∧ w.cell? ⟨b, off + k * 5 + 3, none⟩ = some (.int .i64 e.window) ∧ w.cell? ⟨b, off + k * 5 + 4, none⟩ = some (.int .u64 e.seed)) := by
  obtain ⟨b, off, hA, hc⟩ := h.elem 5 cfgC_len (by omega) hk
  exact ⟨b, off, hA, hc 0 _ rfl, hc 1 _ rfl, hc 2 _ rfl, hc 3 _ rfl, hc 4 _ rfl⟩

/-- One that was built in a new block. -/
theorem one_Cfg (w : World) (e : Cfg) (g c : Nat) (hg : g = w.heap.size) (hc : 1 ≤ c) : IsSl cfgC (w.alloc (.cells (cfgC e).toArray 24)) (.slice (some ⟨g, 0, none⟩) 1 c) [e] := by
  subst hg
  refine ⟨_, _, rfl, fun h => (by cases h), hc, fun _ => ⟨_, _, rfl, fun i v hv => ?_⟩⟩
  rw [Nat.zero_add, World.cell?_alloc_new]
  simpa using hv

end Go.Proofs.YtlpkaljepaclpaaGreat.Fx
