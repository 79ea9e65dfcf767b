/- Input in a box of its own: its cells, and that it may be written; what turns of the world make of it. Input in a box, call by call. -/
import Derived.Test.YtlpkaljepaclpaaM17
import Derived.Lib.Hide
import Derived.Test.YtlpkaljepaclpaaM15
namespace Go.Proofs.Ytlpkaljepaclpaa.Fx
open Go.ChangeShapes Go.WideShapes Go.ChangeAt Go.RowKit
set_option linter.unusedVariables false
set_option maxRecDepth 100000

/-- The block b holds y, and may be written. -/
structure InpBox (w : World) (b : Nat) (y : Inp) : Prop where
  c0 : w.cell? ⟨b, 0, none⟩ = some (.int .i64 y.dx)
  c1 : w.cell? ⟨b, 1, none⟩ = some (.int .i64 y.dy)
  c2 : w.cell? ⟨b, 2, none⟩ = some (.bool y.fire)
  f0 : w.frozen? ⟨b, 0, none⟩ = false
  f1 : w.frozen? ⟨b, 1, none⟩ = false
  f2 : w.frozen? ⟨b, 2, none⟩ = false

namespace InpBox
variable {w w' : World} {b : Nat} {y : Inp}

theorem of (hc : ∀ q, w'.cell? ⟨b, q, none⟩ = w.cell? ⟨b, q, none⟩) (hf : ∀ q, w'.frozen? ⟨b, q, none⟩ = w.frozen? ⟨b, q, none⟩) (h : InpBox w b y) : InpBox w' b y := by
  constructor
  · rw [hc]; exact h.c0
  · rw [hc]; exact h.c1
  · rw [hc]; exact h.c2
  · rw [hf]; exact h.f0
  · rw [hf]; exact h.f1
  · rw [hf]; exact h.f2

theorem below {B : Nat} (h : InpBox w b y) (hb : Below B w w') (hlt : b < B) : InpBox w' b y := of (fun q => hb.cell (p := ⟨b, q, none⟩) hlt) (fun q => hb.frozen (p := ⟨b, q, none⟩) hlt) h

theorem drew (h : InpBox w b y) : InpBox w.drew b y := of (w := w) (fun _ => rfl) (fun _ => rfl) h

theorem undrew (h : InpBox w.drew b y) : InpBox w b y := of (w := w.drew) (fun _ => rfl) (fun _ => rfl) h

theorem drewN (h : InpBox w b y) (n : Nat) : InpBox (w.drewN n) b y := of (w := w) (fun _ => rfl) (fun _ => rfl) h

theorem alloc (h : InpBox w b y) (hlt : b < w.heap.size) (o : Obj) : InpBox (w.alloc o) b y :=
  of (fun q => World.cell?_alloc_lt _ _ _ hlt) (fun q => World.frozen?_alloc_old _ _ _ (by simp only; omega)) h

theorem far (h : InpBox w b y) {p : Nat} (hp : p ≠ b) (o : Nat) (v : Value) : InpBox (w.setCell ⟨p, o, none⟩ v) b y :=
  of (w := w) (fun q => World.cell?_setCell_other _ _ _ _ (by intro hh; exact hp (congrArg Addr.block hh))) (fun q => World.frozen?_setCell _ _ _ _) h

theorem new (w : World) (y : Inp) (t : TypeId) {g : Nat} (hg : g = w.heap.size) {A : Array Value} (hA : A = #[.int .i64 y.dx, .int .i64 y.dy, .bool y.fire]) : InpBox (w.alloc (.cells A t)) g y := by
  subst hg hA
  constructor
  · rw [World.cell?_alloc_new]; rfl
  · rw [World.cell?_alloc_new]; rfl
  · rw [World.cell?_alloc_new]; rfl
  · exact World.frozen?_alloc_new _ _ _ 0
  · exact World.frozen?_alloc_new _ _ _ 1
  · exact World.frozen?_alloc_new _ _ _ 2

/-- The first, second, third of boxes laid one behind the other. -/
theorem n1 (w : World) (y : Inp) (t : TypeId) {A : Array Value} (hA : A = #[.int .i64 y.dx, .int .i64 y.dy, .bool y.fire]) : InpBox (w.alloc (.cells A t)) w.heap.size y := new _ _ _ rfl hA

theorem n2a (w : World) (y : Inp) (t : TypeId) (B : Obj) {A : Array Value} (hA : A = #[.int .i64 y.dx, .int .i64 y.dy, .bool y.fire]) : InpBox ((w.alloc (.cells A t)).alloc B) w.heap.size y := (new _ _ _ rfl hA).alloc (by simp) _

theorem n2b (w : World) (y : Inp) (t : TypeId) (B : Obj) {A : Array Value} (hA : A = #[.int .i64 y.dx, .int .i64 y.dy, .bool y.fire]) : InpBox ((w.alloc B).alloc (.cells A t)) (w.heap.size + 1) y := new _ _ _ (by simp) hA

theorem n3a (w : World) (y : Inp) (t : TypeId) (B C : Obj) {A : Array Value} (hA : A = #[.int .i64 y.dx, .int .i64 y.dy, .bool y.fire]) : InpBox (((w.alloc (.cells A t)).alloc B).alloc C) w.heap.size y := (n2a _ _ _ _ hA).alloc (by simp; omega) _

theorem n3b (w : World) (y : Inp) (t : TypeId) (B C : Obj) {A : Array Value} (hA : A = #[.int .i64 y.dx, .int .i64 y.dy, .bool y.fire]) : InpBox (((w.alloc B).alloc (.cells A t)).alloc C) (w.heap.size + 1) y := (n2b _ _ _ _ hA).alloc (by simp) _

theorem n3c (w : World) (y : Inp) (t : TypeId) (B C : Obj) {A : Array Value} (hA : A = #[.int .i64 y.dx, .int .i64 y.dy, .bool y.fire]) : InpBox (((w.alloc B).alloc C).alloc (.cells A t)) (w.heap.size + 1 + 1) y := new _ _ _ (by simp) hA

theorem has (h : InpBox w b y) : b < w.heap.size := by
  have := h.c0
  rcases Nat.lt_or_ge b w.heap.size with h' | h'
  · exact h'
  · rw [show w.cell? ⟨b, 0, none⟩ = none by unfold World.cell?; simp [h']] at this
    cases this

theorem set0 (h : InpBox w b y) (v : Int) : InpBox (w.setCell ⟨b, 0, none⟩ (.int .i64 v)) b ⟨v, y.dy, y.fire⟩ := by
  obtain ⟨c0, c1, c2, f0, f1, f2⟩ := h
  constructor
  all_goals first | (rw [World.frozen?_setCell]; assumption) | exact World.cell?_setCell_same _ _ _ c0 | (rw [World.cell?_setCell_other _ _ _ _ (by simp)]; assumption)

theorem set1 (h : InpBox w b y) (v : Int) : InpBox (w.setCell ⟨b, 1, none⟩ (.int .i64 v)) b ⟨y.dx, v, y.fire⟩ := by
  obtain ⟨c0, c1, c2, f0, f1, f2⟩ := h
  constructor
  all_goals first | (rw [World.frozen?_setCell]; assumption) | exact World.cell?_setCell_same _ _ _ c1 | (rw [World.cell?_setCell_other _ _ _ _ (by simp)]; assumption)

theorem set2 (h : InpBox w b y) (v : Bool) : InpBox (w.setCell ⟨b, 2, none⟩ (.bool v)) b ⟨y.dx, y.dy, v⟩ := by
  obtain ⟨c0, c1, c2, f0, f1, f2⟩ := h
  constructor
  all_goals first | (rw [World.frozen?_setCell]; assumption) | exact World.cell?_setCell_same _ _ _ c2 | (rw [World.cell?_setCell_other _ _ _ _ (by simp)]; assumption)

/-- All cells written, one behind the other. -/
theorem put (h : InpBox w b y) (z : Inp) : InpBox ((((w).setCell ⟨b, 0, none⟩ (.int .i64 z.dx)).setCell ⟨b, 1, none⟩ (.int .i64 z.dy)).setCell ⟨b, 2, none⟩ (.bool z.fire)) b z := by
  obtain ⟨z0, z1, z2⟩ := z
  exact (((h).set0 _).set1 _).set2 _

end InpBox

end Go.Proofs.Ytlpkaljepaclpaa.Fx
namespace Go.Proofs.Ytlpkaljepaclpaa.Fx
open Go.ChangeShapes Go.WideShapes Go.ChangeAt Go.RowKit
set_option linter.unusedVariables false
set_option maxRecDepth 100000

namespace InpBox
variable {w w' W : World} {b : Nat} {y : Inp} {o : Obj}

/-- Behind a call. -/
theorem nx (h : InpBox w b y) (hb : Below w.heap.size w w') : InpBox w' b y := h.below hb h.has

/-- Behind a call, and a new box. -/
theorem nxa (h : InpBox w b y) (hb : Below w.heap.size w w') (hW : w'.alloc o = W) : InpBox W b y := by
  subst hW
  exact (h.nx hb).alloc (h.nx hb).has o

/-- The new box itself. -/
theorem nb {A : Array Value} {t : TypeId} (hW : w'.alloc (.cells A t) = W) (y : Inp) (hA : A = #[.int .i64 y.dx, .int .i64 y.dy, .bool y.fire]) : InpBox W w'.heap.size y := by
  subst hW
  exact n1 _ _ _ hA

/-- Behind a call, and a store of the whole into the box. -/
theorem nxs (h : InpBox w b y) (hb : Below w.heap.size w w') (z : Inp) (hW : (((w').setCell ⟨b, 0, none⟩ (.int .i64 z.dx)).setCell ⟨b, 1, none⟩ (.int .i64 z.dy)).setCell ⟨b, 2, none⟩ (.bool z.fire) = W) : InpBox W b z := by
  subst hW
  exact (h.nx hb).put z

theorem off {w' W : World} {b : Nat} (z : Inp) (hW : (((w').setCell ⟨b, 0, none⟩ (.int .i64 z.dx)).setCell ⟨b, 1, none⟩ (.int .i64 z.dy)).setCell ⟨b, 2, none⟩ (.bool z.fire) = W) : Off b w' W := by
  subst hW
  exact ((((Off.refl _ _).set _ _).set _ _).set _ _)

theorem bel {w0 w' W : World} {b B : Nat} (h : Below B w0 w') (z : Inp) (hle : B ≤ b) (hW : (((w').setCell ⟨b, 0, none⟩ (.int .i64 z.dx)).setCell ⟨b, 1, none⟩ (.int .i64 z.dy)).setCell ⟨b, 2, none⟩ (.bool z.fire) = W) : Below B w0 W := by
  subst hW
  exact (((h.setCell hle _).setCell hle _).setCell hle _)

/-- Behind a call, and stores into another box. -/
theorem nxf {p : Nat} (h : InpBox w b y) (hb : Below w.heap.size w w') (hO : Off p w' W) (hp : p ≠ b) : InpBox W b y :=
  of (fun q => hO.cell b q hp) (fun q => hO.frozen b q) (h.nx hb)

/-- Behind stores into another box. -/
theorem nf {p : Nat} (h : InpBox w b y) (hO : Off p w W) (hp : p ≠ b) : InpBox W b y :=
  of (fun q => hO.cell b q hp) (fun q => hO.frozen b q) h

end InpBox

end Go.Proofs.Ytlpkaljepaclpaa.Fx
