/- Input: its values, its cells, when two are equal; slices of them. Input in a box of its own: its cells, and that it may be written; what turns of the world make of it. Input in a box, call by call. -/
import Derived.Test.YtlpkaljepaclpaaGreatM02
import Derived.Laws.StructEq
import Derived.Lib.Hide
import Derived.Test.YtlpkaljepaclpaaGreatM15
namespace Go.Proofs.YtlpkaljepaclpaaGreat.Fx
open Go.ChangeShapes Go.WideShapes Go.ChangeAt Go.RowKit
set_option linter.unusedVariables false
set_option maxRecDepth 100000

structure Inp where
  dx : Int
  dy : Int
  fire : Bool
  deriving DecidableEq

/-- Its cells. -/
def inpC (e : Inp) : List Value := [.int .i64 e.dx, .int .i64 e.dy, .bool e.fire]

/-- Every number of it fits its kind. -/
def Inp.ok (e : Inp) : Prop := (Lit.int .i64 e.dx).wf = true ∧ (Lit.int .i64 e.dy).wf = true

instance : Inhabited Inp := ⟨⟨0, 0, false⟩⟩

theorem inpC_len (e : Inp) : (inpC e).length = 3 := rfl

theorem inpC_one (e : Inp) : ∀ u ∈ inpC e, u.oneCell' = true := by simp [inpC, Value.oneCell']

theorem inpC_flat (es : List Inp) : ∀ u ∈ es.flatMap inpC, u.oneCell' = true := by
  intro u hu
  obtain ⟨e, -, he⟩ := List.mem_flatMap.1 hu
  exact inpC_one e u he

theorem inpC_length (es : List Inp) : (es.flatMap inpC).length = es.length * 3 := flat_len inpC 3 inpC_len es

theorem info_Inp : (Tryz.prog.info? 88).map (fun i => (i.zero, i.size, i.bytes)) = some (some (.agg #[.int .i64 0, .int .i64 0, .bool false]), 3, 24) := by kernel_rfl

/-- Are two the same? -/
def eqInp (a b : Inp) : Bool := decide (a = b)

@[go_sem] theorem eqInp_self (a : Inp) : eqInp a a = true := by simp [eqInp]

theorem equal_Inp (a b : Inp) (w : World) : (Op.equalIn 10000 88 (.agg #[.int .i64 a.dx, .int .i64 a.dy, .bool a.fire]) (.agg #[.int .i64 b.dx, .int .i64 b.dy, .bool b.fire])).run Tryz.prog w = .ok (eqInp a b) w := by
  have hS : Tryz.prog.underlying 88 = some (.struct (Tryz.prog.fieldsOf 88)) := by kernel_rfl
  have hp : Tryz.prog.stoodInHeld 88 = false := by kernel_rfl
  rw [show (10000 : Nat) = 9999 + 1 from rfl, run_equalIn_agg w 9999 88 _ _ hS hp]
  simp only [Program.fieldsOf, Tryz.underlying88]
  go_simp
  unfold eqInp
  obtain ⟨a_dx, a_dy, a_fire⟩ := a
  obtain ⟨b_dx, b_dy, b_fire⟩ := b
  by_cases h0 : a_dx = b_dx
  rotate_left 1
  · simp [h0]
  by_cases h1 : a_dy = b_dy
  rotate_left 1
  · simp [h1, h0]
  by_cases h2 : a_fire = b_fire
  rotate_left 1
  · simp [h2, h0, h1]
  subst h0 h1 h2
  simp

@[go_sem high] theorem eql_Inp (a b : Inp) (w : World) : (binOp .eql 88 (.agg #[.int .i64 a.dx, .int .i64 a.dy, .bool a.fire]) (.agg #[.int .i64 b.dx, .int .i64 b.dy, .bool b.fire])).run Tryz.prog w = .ok (.bool (eqInp a b)) w := by
  rw [run_eql_struct, equal_Inp]; rfl

@[go_sem high] theorem neq_Inp (a b : Inp) (w : World) : (binOp .neq 88 (.agg #[.int .i64 a.dx, .int .i64 a.dy, .bool a.fire]) (.agg #[.int .i64 b.dx, .int .i64 b.dy, .bool b.fire])).run Tryz.prog w = .ok (.bool (!eqInp a b)) w := by
  rw [run_neq_struct, equal_Inp]; rfl

/-- The cells of an element. -/
theorem elem_Inp {w : World} {A : Option Addr} {es : List Inp} (h : CellsAt w A (es.flatMap inpC)) {k : Nat} {e : Inp} (hk : es[k]? = some e) :
    ∃ b off, A = some ⟨b, off, none⟩ ∧ (w.cell? ⟨b, off + k * 3, none⟩ = some (.int .i64 e.dx) ∧ w.cell? ⟨b, off + k * 3 + 1, none⟩ = some (.int .i64 e.dy) ∧ w.cell? ⟨b, off + k * 3 + 2, none⟩ = some (.bool e.fire)) := by
  obtain ⟨b, off, hA, hc⟩ := h.elem 3 inpC_len (by omega) hk
  exact ⟨b, off, hA, hc 0 _ rfl, hc 1 _ rfl, hc 2 _ rfl⟩

/-- 'append' of a list to a row of the call's own. -/
theorem app_Inp {w : World} {o : Oper} {a : Act} {K : Act → World → Prop} {Q : Exit → Act → World → Prop} (s x : Operand)
    (ho : o.op = .call { callee := .builtin .append, args := #[s, x], argTypes := #[55, 55] }) (base : Nat) (v : Value) (es : List Inp) (hs : a.eval s = v) (hown : w.ownsRow base 88 3 v es.length (es.flatMap inpC))
    (u : Value) (fs : List Inp) (hx : a.eval x = u) (hu : IsSl inpC w u fs) (hlen : es.length + fs.length ≤ 1000000000) (hbase : base ≤ w.heap.size)
    (h : ∀ v' w', w'.ownsRow base 88 3 v' (es ++ fs).length ((es ++ fs).flatMap inpC) → Below base w w' → w.grownBy w' v.ownBlock → K (a.put o.dst v') w') : o.wp Tryz.prog a w K Q := by
  obtain ⟨i0, hi, hz0, hz1, hz2⟩ := info_parts info_Inp
  obtain ⟨A, c, rfl, hA, hc, hat⟩ := hu
  exact wp_app s x 55 ho base 88 i0 _ 3 24 Tryz.underlying55 hi hz0 hz1 hz2 rfl (by omega) v es.length _ hs hown A fs.length c (fs.flatMap inpC) hx (inpC_length fs) hA hat.cells (inpC_flat fs) (by unfold maxLen; omega) (by omega) hbase
    fun v' w' h1 h2 h3 => h v' w' (by rw [List.length_append, List.flatMap_append]; exact h1) h2 h3

/-- One that was built in a new block. -/
theorem one_Inp (w : World) (e : Inp) (g c : Nat) (hg : g = w.heap.size) (hc : 1 ≤ c) : IsSl inpC (w.alloc (.cells (inpC e).toArray 88)) (.slice (some ⟨g, 0, none⟩) 1 c) [e] := by
  subst hg
  refine ⟨_, _, rfl, fun h => (by cases h), hc, fun _ => ⟨_, _, rfl, fun i v hv => ?_⟩⟩
  rw [Nat.zero_add, World.cell?_alloc_new]
  simpa using hv

@[go_sem high] theorem slTo_Inp (A : Option Addr) (n c : Nat) (h : Int) (h0 : 0 ≤ h) (h2 : h ≤ c) (w : World) : (Instr.slice 55 (.slice A n c) none (some (.int .i64 h)) none).run Tryz.prog w = .ok (slTo 3 (.slice A n c) h.toNat) w := by
  rw [run_slice_h _ _ _ _ _ (by kernel_rfl) _ _ h0 h2]
  rw [show Tryz.prog.elem 55 = 88 by kernel_rfl, Tryz.sizeOf88]
  rfl

@[go_sem high] theorem slFrom_Inp (A : Option Addr) (n c : Nat) (h : Int) (h0 : 0 ≤ h) (h2 : h ≤ n) (w : World) : (Instr.slice 55 (.slice A n c) (some (.int .i64 h)) none none).run Tryz.prog w = .ok (slFrom 3 (.slice A n c) h.toNat) w := by
  rw [run_slice_l _ _ _ _ _ (by kernel_rfl) _ _ h0 h2]
  rw [show Tryz.prog.elem 55 = 88 by kernel_rfl, Tryz.sizeOf88]
  rfl

end Go.Proofs.YtlpkaljepaclpaaGreat.Fx
namespace Go.Proofs.YtlpkaljepaclpaaGreat.Fx
open Go.ChangeShapes Go.WideShapes Go.ChangeAt Go.RowKit
set_option linter.unusedVariables false
set_option maxRecDepth 100000

/-- The block b holds y, and may be written. -/
structure InpBox (w : World) (b : Nat) (y : Inp) : Prop where
  c0 : w.cell? ⟨b, 0, none⟩ = some (.int .i64 y.dx)
  c1 : w.cell? ⟨b, 1, none⟩ = some (.int .i64 y.dy)
  c2 : w.cell? ⟨b, 2, none⟩ = some (.bool y.fire)
  f0 : w.frozen? ⟨b, 0, none⟩ = false
  f1 : w.frozen? ⟨b, 1, none⟩ = false
  f2 : w.frozen? ⟨b, 2, none⟩ = false

namespace InpBox
variable {w w' : World} {b : Nat} {y : Inp}

theorem of (hc : ∀ q, w'.cell? ⟨b, q, none⟩ = w.cell? ⟨b, q, none⟩) (hf : ∀ q, w'.frozen? ⟨b, q, none⟩ = w.frozen? ⟨b, q, none⟩) (h : InpBox w b y) : InpBox w' b y := by
  constructor
  · rw [hc]; exact h.c0
  · rw [hc]; exact h.c1
  · rw [hc]; exact h.c2
  · rw [hf]; exact h.f0
  · rw [hf]; exact h.f1
  · rw [hf]; exact h.f2

theorem below {B : Nat} (h : InpBox w b y) (hb : Below B w w') (hlt : b < B) : InpBox w' b y := of (fun q => hb.cell (p := ⟨b, q, none⟩) hlt) (fun q => hb.frozen (p := ⟨b, q, none⟩) hlt) h

theorem drew (h : InpBox w b y) : InpBox w.drew b y := of (w := w) (fun _ => rfl) (fun _ => rfl) h

theorem undrew (h : InpBox w.drew b y) : InpBox w b y := of (w := w.drew) (fun _ => rfl) (fun _ => rfl) h

theorem drewN (h : InpBox w b y) (n : Nat) : InpBox (w.drewN n) b y := of (w := w) (fun _ => rfl) (fun _ => rfl) h

theorem alloc (h : InpBox w b y) (hlt : b < w.heap.size) (o : Obj) : InpBox (w.alloc o) b y :=
  of (fun q => World.cell?_alloc_lt _ _ _ hlt) (fun q => World.frozen?_alloc_old _ _ _ (by simp only; omega)) h

theorem far (h : InpBox w b y) {p : Nat} (hp : p ≠ b) (o : Nat) (v : Value) : InpBox (w.setCell ⟨p, o, none⟩ v) b y :=
  of (w := w) (fun q => World.cell?_setCell_other _ _ _ _ (by intro hh; exact hp (congrArg Addr.block hh))) (fun q => World.frozen?_setCell _ _ _ _) h

theorem new (w : World) (y : Inp) (t : TypeId) {g : Nat} (hg : g = w.heap.size) {A : Array Value} (hA : A = #[.int .i64 y.dx, .int .i64 y.dy, .bool y.fire]) : InpBox (w.alloc (.cells A t)) g y := by
  subst hg hA
  constructor
  · rw [World.cell?_alloc_new]; rfl
  · rw [World.cell?_alloc_new]; rfl
  · rw [World.cell?_alloc_new]; rfl
  · exact World.frozen?_alloc_new _ _ _ 0
  · exact World.frozen?_alloc_new _ _ _ 1
  · exact World.frozen?_alloc_new _ _ _ 2

/-- The first, second, third of boxes laid one behind the other. -/
theorem n1 (w : World) (y : Inp) (t : TypeId) {A : Array Value} (hA : A = #[.int .i64 y.dx, .int .i64 y.dy, .bool y.fire]) : InpBox (w.alloc (.cells A t)) w.heap.size y := new _ _ _ rfl hA

theorem n2a (w : World) (y : Inp) (t : TypeId) (B : Obj) {A : Array Value} (hA : A = #[.int .i64 y.dx, .int .i64 y.dy, .bool y.fire]) : InpBox ((w.alloc (.cells A t)).alloc B) w.heap.size y := (new _ _ _ rfl hA).alloc (by simp) _

theorem n2b (w : World) (y : Inp) (t : TypeId) (B : Obj) {A : Array Value} (hA : A = #[.int .i64 y.dx, .int .i64 y.dy, .bool y.fire]) : InpBox ((w.alloc B).alloc (.cells A t)) (w.heap.size + 1) y := new _ _ _ (by simp) hA

theorem n3a (w : World) (y : Inp) (t : TypeId) (B C : Obj) {A : Array Value} (hA : A = #[.int .i64 y.dx, .int .i64 y.dy, .bool y.fire]) : InpBox (((w.alloc (.cells A t)).alloc B).alloc C) w.heap.size y := (n2a _ _ _ _ hA).alloc (by simp; omega) _

theorem n3b (w : World) (y : Inp) (t : TypeId) (B C : Obj) {A : Array Value} (hA : A = #[.int .i64 y.dx, .int .i64 y.dy, .bool y.fire]) : InpBox (((w.alloc B).alloc (.cells A t)).alloc C) (w.heap.size + 1) y := (n2b _ _ _ _ hA).alloc (by simp) _

theorem n3c (w : World) (y : Inp) (t : TypeId) (B C : Obj) {A : Array Value} (hA : A = #[.int .i64 y.dx, .int .i64 y.dy, .bool y.fire]) : InpBox (((w.alloc B).alloc C).alloc (.cells A t)) (w.heap.size + 1 + 1) y := new _ _ _ (by simp) hA

theorem has (h : InpBox w b y) : b < w.heap.size := by
  have := h.c0
  rcases Nat.lt_or_ge b w.heap.size with h' | h'
  · exact h'
  · rw [show w.cell? ⟨b, 0, none⟩ = none by unfold World.cell?; simp [h']] at this
    cases this

theorem set0 (h : InpBox w b y) (v : Int) : InpBox (w.setCell ⟨b, 0, none⟩ (.int .i64 v)) b ⟨v, y.dy, y.fire⟩ := by
  obtain ⟨c0, c1, c2, f0, f1, f2⟩ := h
  constructor
  all_goals first | (rw [World.frozen?_setCell]; assumption) | exact World.cell?_setCell_same _ _ _ c0 | (rw [World.cell?_setCell_other _ _ _ _ (by simp)]; assumption)

theorem set1 (h : InpBox w b y) (v : Int) : InpBox (w.setCell ⟨b, 1, none⟩ (.int .i64 v)) b ⟨y.dx, v, y.fire⟩ := by
  obtain ⟨c0, c1, c2, f0, f1, f2⟩ := h
  constructor
  all_goals first | (rw [World.frozen?_setCell]; assumption) | exact World.cell?_setCell_same _ _ _ c1 | (rw [World.cell?_setCell_other _ _ _ _ (by simp)]; assumption)

theorem set2 (h : InpBox w b y) (v : Bool) : InpBox (w.setCell ⟨b, 2, none⟩ (.bool v)) b ⟨y.dx, y.dy, v⟩ := by
  obtain ⟨c0, c1, c2, f0, f1, f2⟩ := h
  constructor
  all_goals first | (rw [World.frozen?_setCell]; assumption) | exact World.cell?_setCell_same _ _ _ c2 | (rw [World.cell?_setCell_other _ _ _ _ (by simp)]; assumption)

/-- All cells written, one behind the other. -/
theorem put (h : InpBox w b y) (z : Inp) : InpBox ((((w).setCell ⟨b, 0, none⟩ (.int .i64 z.dx)).setCell ⟨b, 1, none⟩ (.int .i64 z.dy)).setCell ⟨b, 2, none⟩ (.bool z.fire)) b z := by
  obtain ⟨z0, z1, z2⟩ := z
  exact (((h).set0 _).set1 _).set2 _

end InpBox

end Go.Proofs.YtlpkaljepaclpaaGreat.Fx
namespace Go.Proofs.YtlpkaljepaclpaaGreat.Fx
open Go.ChangeShapes Go.WideShapes Go.ChangeAt Go.RowKit
set_option linter.unusedVariables false
set_option maxRecDepth 100000

namespace InpBox
variable {w w' W : World} {b : Nat} {y : Inp} {o : Obj}

/-- Behind a call. -/
theorem nx (h : InpBox w b y) (hb : Below w.heap.size w w') : InpBox w' b y := h.below hb h.has

/-- Behind a call, and a new box. -/
theorem nxa (h : InpBox w b y) (hb : Below w.heap.size w w') (hW : w'.alloc o = W) : InpBox W b y := by
  subst hW
  exact (h.nx hb).alloc (h.nx hb).has o

/-- The new box itself. -/
theorem nb {A : Array Value} {t : TypeId} (hW : w'.alloc (.cells A t) = W) (y : Inp) (hA : A = #[.int .i64 y.dx, .int .i64 y.dy, .bool y.fire]) : InpBox W w'.heap.size y := by
  subst hW
  exact n1 _ _ _ hA

/-- Behind a call, and a store of the whole into the box. -/
theorem nxs (h : InpBox w b y) (hb : Below w.heap.size w w') (z : Inp) (hW : (((w').setCell ⟨b, 0, none⟩ (.int .i64 z.dx)).setCell ⟨b, 1, none⟩ (.int .i64 z.dy)).setCell ⟨b, 2, none⟩ (.bool z.fire) = W) : InpBox W b z := by
  subst hW
  exact (h.nx hb).put z

theorem off {w' W : World} {b : Nat} (z : Inp) (hW : (((w').setCell ⟨b, 0, none⟩ (.int .i64 z.dx)).setCell ⟨b, 1, none⟩ (.int .i64 z.dy)).setCell ⟨b, 2, none⟩ (.bool z.fire) = W) : Off b w' W := by
  subst hW
  exact ((((Off.refl _ _).set _ _).set _ _).set _ _)

theorem bel {w0 w' W : World} {b B : Nat} (h : Below B w0 w') (z : Inp) (hle : B ≤ b) (hW : (((w').setCell ⟨b, 0, none⟩ (.int .i64 z.dx)).setCell ⟨b, 1, none⟩ (.int .i64 z.dy)).setCell ⟨b, 2, none⟩ (.bool z.fire) = W) : Below B w0 W := by
  subst hW
  exact (((h.setCell hle _).setCell hle _).setCell hle _)

/-- Behind a call, and stores into another box. -/
theorem nxf {p : Nat} (h : InpBox w b y) (hb : Below w.heap.size w w') (hO : Off p w' W) (hp : p ≠ b) : InpBox W b y :=
  of (fun q => hO.cell b q hp) (fun q => hO.frozen b q) (h.nx hb)

/-- Behind stores into another box. -/
theorem nf {p : Nat} (h : InpBox w b y) (hO : Off p w W) (hp : p ≠ b) : InpBox W b y :=
  of (fun q => hO.cell b q hp) (fun q => hO.frozen b q) h

end InpBox

end Go.Proofs.YtlpkaljepaclpaaGreat.Fx
