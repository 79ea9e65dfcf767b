/- Region in a box of its own: its cells, and that it may be written; what turns of the world make of it. Region in a box, call by call. Contracts of package input's small functions and of the document's answers beside them: what each returns, for every input; old memory stays. Input: its values, its cells, when two are equal; slices of them. -/
import Derived.Test.YtlpkaljepaclpaaM16
import Derived.Lib.Hide
import Derived.Test.YtlpkaljepaclpaaM15
import Derived.Test.YtlpkaljepaclpaaM01
import Derived.Laws.StructEq
import Derived.Test.YtlpkaljepaclpaaM02
namespace Go.Proofs.Ytlpkaljepaclpaa.Fx
open Go.ChangeShapes Go.WideShapes Go.ChangeAt Go.RowKit
set_option linter.unusedVariables false
set_option maxRecDepth 100000

/-- The block b holds y, and may be written. -/
structure RegBox (w : World) (b : Nat) (y : Reg) : Prop where
  c0 : w.cell? ⟨b, 0, none⟩ = some (.int .i64 y.frame)
  c1 : w.cell? ⟨b, 1, none⟩ = some (y.list)
  f0 : w.frozen? ⟨b, 0, none⟩ = false
  f1 : w.frozen? ⟨b, 1, none⟩ = false

namespace RegBox
variable {w w' : World} {b : Nat} {y : Reg}

theorem of (hc : ∀ q, w'.cell? ⟨b, q, none⟩ = w.cell? ⟨b, q, none⟩) (hf : ∀ q, w'.frozen? ⟨b, q, none⟩ = w.frozen? ⟨b, q, none⟩) (h : RegBox w b y) : RegBox w' b y := by
  constructor
  · rw [hc]; exact h.c0
  · rw [hc]; exact h.c1
  · rw [hf]; exact h.f0
  · rw [hf]; exact h.f1

theorem below {B : Nat} (h : RegBox w b y) (hb : Below B w w') (hlt : b < B) : RegBox w' b y := of (fun q => hb.cell (p := ⟨b, q, none⟩) hlt) (fun q => hb.frozen (p := ⟨b, q, none⟩) hlt) h

theorem drew (h : RegBox w b y) : RegBox w.drew b y := of (w := w) (fun _ => rfl) (fun _ => rfl) h

theorem undrew (h : RegBox w.drew b y) : RegBox w b y := of (w := w.drew) (fun _ => rfl) (fun _ => rfl) h

theorem drewN (h : RegBox w b y) (n : Nat) : RegBox (w.drewN n) b y := of (w := w) (fun _ => rfl) (fun _ => rfl) h

theorem alloc (h : RegBox w b y) (hlt : b < w.heap.size) (o : Obj) : RegBox (w.alloc o) b y :=
  of (fun q => World.cell?_alloc_lt _ _ _ hlt) (fun q => World.frozen?_alloc_old _ _ _ (by simp only; omega)) h

theorem far (h : RegBox w b y) {p : Nat} (hp : p ≠ b) (o : Nat) (v : Value) : RegBox (w.setCell ⟨p, o, none⟩ v) b y :=
  of (w := w) (fun q => World.cell?_setCell_other _ _ _ _ (by intro hh; exact hp (congrArg Addr.block hh))) (fun q => World.frozen?_setCell _ _ _ _) h

theorem new (w : World) (y : Reg) (t : TypeId) {g : Nat} (hg : g = w.heap.size) {A : Array Value} (hA : A = #[.int .i64 y.frame, y.list]) : RegBox (w.alloc (.cells A t)) g y := by
  subst hg hA
  constructor
  · rw [World.cell?_alloc_new]; rfl
  · rw [World.cell?_alloc_new]; rfl
  · exact World.frozen?_alloc_new _ _ _ 0
  · exact World.frozen?_alloc_new _ _ _ 1

/-- The first, second, third of boxes laid one behind the other. -/
theorem n1 (w : World) (y : Reg) (t : TypeId) {A : Array Value} (hA : A = #[.int .i64 y.frame, y.list]) : RegBox (w.alloc (.cells A t)) w.heap.size y := new _ _ _ rfl hA

theorem n2a (w : World) (y : Reg) (t : TypeId) (B : Obj) {A : Array Value} (hA : A = #[.int .i64 y.frame, y.list]) : RegBox ((w.alloc (.cells A t)).alloc B) w.heap.size y := (new _ _ _ rfl hA).alloc (by simp) _

theorem n2b (w : World) (y : Reg) (t : TypeId) (B : Obj) {A : Array Value} (hA : A = #[.int .i64 y.frame, y.list]) : RegBox ((w.alloc B).alloc (.cells A t)) (w.heap.size + 1) y := new _ _ _ (by simp) hA

theorem n3a (w : World) (y : Reg) (t : TypeId) (B C : Obj) {A : Array Value} (hA : A = #[.int .i64 y.frame, y.list]) : RegBox (((w.alloc (.cells A t)).alloc B).alloc C) w.heap.size y := (n2a _ _ _ _ hA).alloc (by simp; omega) _

theorem n3b (w : World) (y : Reg) (t : TypeId) (B C : Obj) {A : Array Value} (hA : A = #[.int .i64 y.frame, y.list]) : RegBox (((w.alloc B).alloc (.cells A t)).alloc C) (w.heap.size + 1) y := (n2b _ _ _ _ hA).alloc (by simp) _

theorem n3c (w : World) (y : Reg) (t : TypeId) (B C : Obj) {A : Array Value} (hA : A = #[.int .i64 y.frame, y.list]) : RegBox (((w.alloc B).alloc C).alloc (.cells A t)) (w.heap.size + 1 + 1) y := new _ _ _ (by simp) hA

theorem has (h : RegBox w b y) : b < w.heap.size := by
  have := h.c0
  rcases Nat.lt_or_ge b w.heap.size with h' | h'
  · exact h'
  · rw [show w.cell? ⟨b, 0, none⟩ = none by unfold World.cell?; simp [h']] at this
    cases this

theorem set0 (h : RegBox w b y) (v : Int) : RegBox (w.setCell ⟨b, 0, none⟩ (.int .i64 v)) b ⟨v, y.list⟩ := by
  obtain ⟨c0, c1, f0, f1⟩ := h
  constructor
  all_goals first | (rw [World.frozen?_setCell]; assumption) | exact World.cell?_setCell_same _ _ _ c0 | (rw [World.cell?_setCell_other _ _ _ _ (by simp)]; assumption)

theorem set1 (h : RegBox w b y) (v : Value) : RegBox (w.setCell ⟨b, 1, none⟩ (v)) b ⟨y.frame, v⟩ := by
  obtain ⟨c0, c1, f0, f1⟩ := h
  constructor
  all_goals first | (rw [World.frozen?_setCell]; assumption) | exact World.cell?_setCell_same _ _ _ c1 | (rw [World.cell?_setCell_other _ _ _ _ (by simp)]; assumption)

/-- All cells written, one behind the other. -/
theorem put (h : RegBox w b y) (z : Reg) : RegBox (((w).setCell ⟨b, 0, none⟩ (.int .i64 z.frame)).setCell ⟨b, 1, none⟩ (z.list)) b z := by
  obtain ⟨z0, z1⟩ := z
  exact ((h).set0 _).set1 _

end RegBox

end Go.Proofs.Ytlpkaljepaclpaa.Fx
namespace Go.Proofs.Ytlpkaljepaclpaa.Fx
open Go.ChangeShapes Go.WideShapes Go.ChangeAt Go.RowKit
set_option linter.unusedVariables false
set_option maxRecDepth 100000

namespace RegBox
variable {w w' W : World} {b : Nat} {y : Reg} {o : Obj}

/-- Behind a call. -/
theorem nx (h : RegBox w b y) (hb : Below w.heap.size w w') : RegBox w' b y := h.below hb h.has

/-- Behind a call, and a new box. -/
theorem nxa (h : RegBox w b y) (hb : Below w.heap.size w w') (hW : w'.alloc o = W) : RegBox W b y := by
  subst hW
  exact (h.nx hb).alloc (h.nx hb).has o

/-- The new box itself. -/
theorem nb {A : Array Value} {t : TypeId} (hW : w'.alloc (.cells A t) = W) (y : Reg) (hA : A = #[.int .i64 y.frame, y.list]) : RegBox W w'.heap.size y := by
  subst hW
  exact n1 _ _ _ hA

/-- Behind a call, and a store of the whole into the box. -/
theorem nxs (h : RegBox w b y) (hb : Below w.heap.size w w') (z : Reg) (hW : ((w').setCell ⟨b, 0, none⟩ (.int .i64 z.frame)).setCell ⟨b, 1, none⟩ (z.list) = W) : RegBox W b z := by
  subst hW
  exact (h.nx hb).put z

theorem off {w' W : World} {b : Nat} (z : Reg) (hW : ((w').setCell ⟨b, 0, none⟩ (.int .i64 z.frame)).setCell ⟨b, 1, none⟩ (z.list) = W) : Off b w' W := by
  subst hW
  exact (((Off.refl _ _).set _ _).set _ _)

theorem bel {w0 w' W : World} {b B : Nat} (h : Below B w0 w') (z : Reg) (hle : B ≤ b) (hW : ((w').setCell ⟨b, 0, none⟩ (.int .i64 z.frame)).setCell ⟨b, 1, none⟩ (z.list) = W) : Below B w0 W := by
  subst hW
  exact ((h.setCell hle _).setCell hle _)

/-- Behind a call, and stores into another box. -/
theorem nxf {p : Nat} (h : RegBox w b y) (hb : Below w.heap.size w w') (hO : Off p w' W) (hp : p ≠ b) : RegBox W b y :=
  of (fun q => hO.cell b q hp) (fun q => hO.frozen b q) (h.nx hb)

/-- Behind stores into another box. -/
theorem nf {p : Nat} (h : RegBox w b y) (hO : Off p w W) (hp : p ≠ b) : RegBox W b y :=
  of (fun q => hO.cell b q hp) (fun q => hO.frozen b q) h

end RegBox

end Go.Proofs.Ytlpkaljepaclpaa.Fx
namespace Go.Proofs.Ytlpkaljepaclpaa.Fx
open Go.ChangeShapes Go.WideShapes Go.ChangeAt Go.RowKit
set_option linter.unusedVariables false
set_option maxRecDepth 100000

/-- Are two inputs the same? -/
def same (a b : Int) (f : Bool) (c d : Int) (g : Bool) : Bool := decide (a = c ∧ b = d ∧ f = g)

@[go_sem] theorem same_self (a b : Int) (f : Bool) : same a b f a b f = true := by simp [same]

theorem eq_input (a b c d : Int) (f g : Bool) (w : World) : (Op.equalIn 10000 147 (.agg #[.int .i64 a, .int .i64 b, .bool f]) (.agg #[.int .i64 c, .int .i64 d, .bool g])).run Try.prog w = .ok (same a b f c d g) w := by
  have hS : Try.prog.underlying 147 = some (.struct (Try.prog.fieldsOf 147)) := by kernel_rfl
  have hp : Try.prog.stoodInHeld 147 = false := by kernel_rfl
  rw [show (10000 : Nat) = 9999 + 1 from rfl, run_equalIn_agg w 9999 147 _ _ hS hp]
  simp only [Program.fieldsOf, Try.underlying147]
  go_simp
  by_cases h1 : a = c <;> by_cases h2 : b = d <;> cases f <;> cases g <;> simp [h1, h2, same]

@[go_sem high] theorem eql_input (a b c d : Int) (f g : Bool) (w : World) : (binOp .eql 147 (.agg #[.int .i64 a, .int .i64 b, .bool f]) (.agg #[.int .i64 c, .int .i64 d, .bool g])).run Try.prog w = .ok (.bool (same a b f c d g)) w := by
  rw [run_eql_struct, eq_input]; rfl

@[go_sem high] theorem neq_input (a b c d : Int) (f g : Bool) (w : World) : (binOp .neq 147 (.agg #[.int .i64 a, .int .i64 b, .bool f]) (.agg #[.int .i64 c, .int .i64 d, .bool g])).run Try.prog w = .ok (.bool (!same a b f c d g)) w := by
  rw [run_neq_struct, eq_input]; rfl

def nr2 (v : Int) : Bool := decide (-2 ≤ v ∧ v ≤ 2)

/-- Is an input right? -/
def irt (x y : Int) : Bool := decide (-2 ≤ x ∧ x ≤ 2 ∧ -2 ≤ y ∧ y ≤ 2)

/-- A step that is guessed. -/
def gs (x y : Int) (k : Bool) (v : Int) : Int := if k && irt x y then v else 0

/-- The code of an input. -/
def cod (x y : Int) (f : Bool) : Int := if irt x y then (x + 2) * 10 + (y + 2) * 2 + (if f then 1 else 0) else 0

/-- The input of a code. -/
def fcx (b : Int) : Int := if b ≤ 49 then b / 10 - 2 else 0

def fcy (b : Int) : Int := if b ≤ 49 then b % 10 / 2 - 2 else 0

def fcf (b : Int) : Bool := decide (b ≤ 49 ∧ b % 2 = 1)

end Go.Proofs.Ytlpkaljepaclpaa.Fx
namespace Go.Proofs.Ytlpkaljepaclpaa.Fx
open Go.ChangeShapes Go.WideShapes Go.ChangeAt Go.RowKit
set_option linter.unusedVariables false
set_option maxRecDepth 100000

structure Inp where
  dx : Int
  dy : Int
  fire : Bool
  deriving DecidableEq

/-- Its cells. -/
def inpC (e : Inp) : List Value := [.int .i64 e.dx, .int .i64 e.dy, .bool e.fire]

/-- Every number of it fits its kind. -/
def Inp.ok (e : Inp) : Prop := (Lit.int .i64 e.dx).wf = true ∧ (Lit.int .i64 e.dy).wf = true

instance : Inhabited Inp := ⟨⟨0, 0, false⟩⟩

theorem inpC_len (e : Inp) : (inpC e).length = 3 := rfl

theorem inpC_one (e : Inp) : ∀ u ∈ inpC e, u.oneCell' = true := by simp [inpC, Value.oneCell']

theorem inpC_flat (es : List Inp) : ∀ u ∈ es.flatMap inpC, u.oneCell' = true := by
  intro u hu
  obtain ⟨e, -, he⟩ := List.mem_flatMap.1 hu
  exact inpC_one e u he

theorem inpC_length (es : List Inp) : (es.flatMap inpC).length = es.length * 3 := flat_len inpC 3 inpC_len es

theorem info_Inp : (Try.prog.info? 147).map (fun i => (i.zero, i.size, i.bytes)) = some (some (.agg #[.int .i64 0, .int .i64 0, .bool false]), 3, 24) := by kernel_rfl

/-- Are two the same? -/
def eqInp (a b : Inp) : Bool := decide (a = b)

@[go_sem] theorem eqInp_self (a : Inp) : eqInp a a = true := by simp [eqInp]

theorem equal_Inp (a b : Inp) (w : World) : (Op.equalIn 10000 147 (.agg #[.int .i64 a.dx, .int .i64 a.dy, .bool a.fire]) (.agg #[.int .i64 b.dx, .int .i64 b.dy, .bool b.fire])).run Try.prog w = .ok (eqInp a b) w := by
  have hS : Try.prog.underlying 147 = some (.struct (Try.prog.fieldsOf 147)) := by kernel_rfl
  have hp : Try.prog.stoodInHeld 147 = false := by kernel_rfl
  rw [show (10000 : Nat) = 9999 + 1 from rfl, run_equalIn_agg w 9999 147 _ _ hS hp]
  simp only [Program.fieldsOf, Try.underlying147]
  go_simp
  unfold eqInp
  obtain ⟨a_dx, a_dy, a_fire⟩ := a
  obtain ⟨b_dx, b_dy, b_fire⟩ := b
  by_cases h0 : a_dx = b_dx
  rotate_left 1
  · simp [h0]
  by_cases h1 : a_dy = b_dy
  rotate_left 1
  · simp [h1, h0]
  by_cases h2 : a_fire = b_fire
  rotate_left 1
  · simp [h2, h0, h1]
  subst h0 h1 h2
  simp

@[go_sem high] theorem eql_Inp (a b : Inp) (w : World) : (binOp .eql 147 (.agg #[.int .i64 a.dx, .int .i64 a.dy, .bool a.fire]) (.agg #[.int .i64 b.dx, .int .i64 b.dy, .bool b.fire])).run Try.prog w = .ok (.bool (eqInp a b)) w := by
  rw [run_eql_struct, equal_Inp]; rfl

@[go_sem high] theorem neq_Inp (a b : Inp) (w : World) : (binOp .neq 147 (.agg #[.int .i64 a.dx, .int .i64 a.dy, .bool a.fire]) (.agg #[.int .i64 b.dx, .int .i64 b.dy, .bool b.fire])).run Try.prog w = .ok (.bool (!eqInp a b)) w := by
  rw [run_neq_struct, equal_Inp]; rfl

/-- The cells of an element. -/
theorem elem_Inp {w : World} {A : Option Addr} {es : List Inp} (h : CellsAt w A (es.flatMap inpC)) {k : Nat} {e : Inp} (hk : es[k]? = some e) :
    ∃ b off, A = some ⟨b, off, none⟩ ∧ (w.cell? ⟨b, off + k * 3, none⟩ = some (.int .i64 e.dx) ∧ w.cell? ⟨b, off + k * 3 + 1, none⟩ = some (.int .i64 e.dy) ∧ w.cell? ⟨b, off + k * 3 + 2, none⟩ = some (.bool e.fire)) := by
  obtain ⟨b, off, hA, hc⟩ := h.elem 3 inpC_len (by omega) hk
  exact ⟨b, off, hA, hc 0 _ rfl, hc 1 _ rfl, hc 2 _ rfl⟩

/-- 'append' of a list to a row of the call's own. -/
theorem app_Inp {w : World} {o : Oper} {a : Act} {K : Act → World → Prop} {Q : Exit → Act → World → Prop} (s x : Operand)
    (ho : o.op = .call { callee := .builtin .append, args := #[s, x], argTypes := #[144, 144] }) (base : Nat) (v : Value) (es : List Inp) (hs : a.eval s = v) (hown : w.ownsRow base 147 3 v es.length (es.flatMap inpC))
    (u : Value) (fs : List Inp) (hx : a.eval x = u) (hu : IsSl inpC w u fs) (hlen : es.length + fs.length ≤ 1000000000) (hbase : base ≤ w.heap.size)
    (h : ∀ v' w', w'.ownsRow base 147 3 v' (es ++ fs).length ((es ++ fs).flatMap inpC) → Below base w w' → w.grownBy w' v.ownBlock → K (a.put o.dst v') w') : o.wp Try.prog a w K Q := by
  obtain ⟨i0, hi, hz0, hz1, hz2⟩ := info_parts info_Inp
  obtain ⟨A, c, rfl, hA, hc, hat⟩ := hu
  exact wp_app s x 144 ho base 147 i0 _ 3 24 Try.underlying144 hi hz0 hz1 hz2 rfl (by omega) v es.length _ hs hown A fs.length c (fs.flatMap inpC) hx (inpC_length fs) hA hat.cells (inpC_flat fs) (by unfold maxLen; omega) (by omega) hbase
    fun v' w' h1 h2 h3 => h v' w' (by rw [List.length_append, List.flatMap_append]; exact h1) h2 h3

/-- One that was built in a new block. -/
theorem one_Inp (w : World) (e : Inp) (g c : Nat) (hg : g = w.heap.size) (hc : 1 ≤ c) : IsSl inpC (w.alloc (.cells (inpC e).toArray 147)) (.slice (some ⟨g, 0, none⟩) 1 c) [e] := by
  subst hg
  refine ⟨_, _, rfl, fun h => (by cases h), hc, fun _ => ⟨_, _, rfl, fun i v hv => ?_⟩⟩
  rw [Nat.zero_add, World.cell?_alloc_new]
  simpa using hv

@[go_sem high] theorem slTo_Inp (A : Option Addr) (n c : Nat) (h : Int) (h0 : 0 ≤ h) (h2 : h ≤ c) (w : World) : (Instr.slice 144 (.slice A n c) none (some (.int .i64 h)) none).run Try.prog w = .ok (slTo 3 (.slice A n c) h.toNat) w := by
  rw [run_slice_h _ _ _ _ _ (by kernel_rfl) _ _ h0 h2]
  rw [show Try.prog.elem 144 = 147 by kernel_rfl, Try.sizeOf147]
  rfl

@[go_sem high] theorem slFrom_Inp (A : Option Addr) (n c : Nat) (h : Int) (h0 : 0 ≤ h) (h2 : h ≤ n) (w : World) : (Instr.slice 144 (.slice A n c) (some (.int .i64 h)) none none).run Try.prog w = .ok (slFrom 3 (.slice A n c) h.toNat) w := by
  rw [run_slice_l _ _ _ _ _ (by kernel_rfl) _ _ h0 h2]
  rw [show Try.prog.elem 144 = 147 by kernel_rfl, Try.sizeOf147]
  rfl

end Go.Proofs.Ytlpkaljepaclpaa.Fx
