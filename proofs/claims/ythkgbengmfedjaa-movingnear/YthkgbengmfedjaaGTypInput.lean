/- Input: its values, its cells, when two are equal; slices of them. -/
import Derived.Test.YthkgbengmfedjaaGRows
import Derived.Laws.StructEq
namespace Go.Proofs.Ythkgbengmfedjaa.Fx
open Go.ChangeShapes Go.WideShapes Go.ChangeAt Go.RowKit
set_option linter.unusedVariables false

structure Inp where
  dx : Int
  dy : Int
  fire : Bool
  deriving DecidableEq

/-- Its cells. -/
def inpC (e : Inp) : List Value := [.int .i64 e.dx, .int .i64 e.dy, .bool e.fire]

/-- Every number of it fits its kind. -/
def Inp.ok (e : Inp) : Prop := (Lit.int .i64 e.dx).wf = true ∧ (Lit.int .i64 e.dy).wf = true

instance : Inhabited Inp := ⟨⟨0, 0, false⟩⟩

theorem inpC_len (e : Inp) : (inpC e).length = 3 := rfl

theorem inpC_one (e : Inp) : ∀ u ∈ inpC e, u.oneCell' = true := by simp [inpC, Value.oneCell']

theorem inpC_flat (es : List Inp) : ∀ u ∈ es.flatMap inpC, u.oneCell' = true := by
  intro u hu
  obtain ⟨e, -, he⟩ := List.mem_flatMap.1 hu
  exact inpC_one e u he

theorem inpC_length (es : List Inp) : (es.flatMap inpC).length = es.length * 3 := flat_len inpC 3 inpC_len es

theorem info_Inp : (Try.prog.info? 28).map (fun i => (i.zero, i.size, i.bytes)) = some (some (.agg #[.int .i64 0, .int .i64 0, .bool false]), 3, 24) := by kernel_rfl

/-- Are two the same? -/
def eqInp (a b : Inp) : Bool := decide (a = b)

@[go_sem] theorem eqInp_self (a : Inp) : eqInp a a = true := by simp [eqInp]

theorem equal_Inp (a b : Inp) (w : World) : (Op.equalIn 10000 28 (.agg #[.int .i64 a.dx, .int .i64 a.dy, .bool a.fire]) (.agg #[.int .i64 b.dx, .int .i64 b.dy, .bool b.fire])).run Try.prog w = .ok (eqInp a b) w := by
  have hS : Try.prog.underlying 28 = some (.struct (Try.prog.fieldsOf 28)) := by kernel_rfl
  have hp : Try.prog.stoodInHeld 28 = false := by kernel_rfl
  rw [show (10000 : Nat) = 9999 + 1 from rfl, run_equalIn_agg w 9999 28 _ _ hS hp]
  simp only [Program.fieldsOf, Try.underlying28]
  go_simp
  unfold eqInp
  obtain ⟨a_dx, a_dy, a_fire⟩ := a
  obtain ⟨b_dx, b_dy, b_fire⟩ := b
  by_cases h0 : a_dx = b_dx
  rotate_left 1
  · simp [h0]
  by_cases h1 : a_dy = b_dy
  rotate_left 1
  · simp [h1, h0]
  by_cases h2 : a_fire = b_fire
  rotate_left 1
  · simp [h2, h0, h1]
  subst h0 h1 h2
  simp

@[go_sem high] theorem eql_Inp (a b : Inp) (w : World) : (binOp .eql 28 (.agg #[.int .i64 a.dx, .int .i64 a.dy, .bool a.fire]) (.agg #[.int .i64 b.dx, .int .i64 b.dy, .bool b.fire])).run Try.prog w = .ok (.bool (eqInp a b)) w := by
  rw [run_eql_struct, equal_Inp]; rfl

@[go_sem high] theorem neq_Inp (a b : Inp) (w : World) : (binOp .neq 28 (.agg #[.int .i64 a.dx, .int .i64 a.dy, .bool a.fire]) (.agg #[.int .i64 b.dx, .int .i64 b.dy, .bool b.fire])).run Try.prog w = .ok (.bool (!eqInp a b)) w := by
  rw [run_neq_struct, equal_Inp]; rfl

/-- The cells of an element. -/
theorem elem_Inp {w : World} {A : Option Addr} {es : List Inp} (h : CellsAt w A (es.flatMap inpC)) {k : Nat} {e : Inp} (hk : es[k]? = some e) :
    ∃ b off, A = some ⟨b, off, none⟩ ∧ (w.cell? ⟨b, off + k * 3, none⟩ = some (.int .i64 e.dx) ∧ w.cell? ⟨b, off + k * 3 + 1, none⟩ = some (.int .i64 e.dy) ∧ w.cell? ⟨b, off + k * 3 + 2, none⟩ = some (.bool e.fire)) := by
  obtain ⟨b, off, hA, hc⟩ := h.elem 3 inpC_len (by omega) hk
  exact ⟨b, off, hA, hc 0 _ rfl, hc 1 _ rfl, hc 2 _ rfl⟩

/-- 'append' of a list to a row of the call's own. -/
theorem app_Inp {w : World} {o : Oper} {a : Act} {K : Act → World → Prop} {Q : Exit → Act → World → Prop} (s x : Operand)
    (ho : o.op = .call { callee := .builtin .append, args := #[s, x], argTypes := #[51, 51] }) (base : Nat) (v : Value) (es : List Inp) (hs : a.eval s = v) (hown : w.ownsRow base 28 3 v es.length (es.flatMap inpC))
    (u : Value) (fs : List Inp) (hx : a.eval x = u) (hu : IsSl inpC w u fs) (hlen : es.length + fs.length ≤ 1000000000) (hbase : base ≤ w.heap.size)
    (h : ∀ v' w', w'.ownsRow base 28 3 v' (es ++ fs).length ((es ++ fs).flatMap inpC) → Below base w w' → w.grownBy w' v.ownBlock → K (a.put o.dst v') w') : o.wp Try.prog a w K Q := by
  obtain ⟨i0, hi, hz0, hz1, hz2⟩ := info_parts info_Inp
  obtain ⟨A, c, rfl, hA, hc, hat⟩ := hu
  exact wp_app s x 51 ho base 28 i0 _ 3 24 Try.underlying51 hi hz0 hz1 hz2 rfl (by omega) v es.length _ hs hown A fs.length c (fs.flatMap inpC) hx (inpC_length fs) hA hat.cells (inpC_flat fs) (by unfold maxLen; omega) (by omega) hbase
    fun v' w' h1 h2 h3 => h v' w' (by rw [List.length_append, List.flatMap_append]; exact h1) h2 h3

theorem appL_Inp {w : World} {ops : Array Oper} {rest : List Oper} {o : Oper} {a : Act} {Q : Exit → Act → World → Prop} (hgd : o.guard = none) (s x : Operand)
    (ho : o.op = .call { callee := .builtin .append, args := #[s, x], argTypes := #[51, 51] }) (base : Nat) (v : Value) (es : List Inp) (hs : a.eval s = v) (hown : w.ownsRow base 28 3 v es.length (es.flatMap inpC))
    (u : Value) (fs : List Inp) (hx : a.eval x = u) (hu : IsSl inpC w u fs) (hlen : es.length + fs.length ≤ 1000000000) (hbase : base ≤ w.heap.size)
    (h : ∀ v' w', w'.ownsRow base 28 3 v' (es ++ fs).length ((es ++ fs).flatMap inpC) → Below base w w' → w.grownBy w' v.ownBlock → wpList Try.prog ops Q rest (a.put o.dst v') w') : wpList Try.prog ops Q (o :: rest) a w :=
  wpList_plain hgd fun _ hK => app_Inp s x ho base v es hs hown u fs hx hu hlen hbase fun v' w' h1 h2 h3 => hK _ _ (h v' w' h1 h2 h3)

/-- One that was built in a new block. -/
theorem one_Inp (w : World) (e : Inp) (g c : Nat) (hg : g = w.heap.size) (hc : 1 ≤ c) : IsSl inpC (w.alloc (.cells (inpC e).toArray 28)) (.slice (some ⟨g, 0, none⟩) 1 c) [e] := by
  subst hg
  refine ⟨_, _, rfl, fun h => (by cases h), hc, fun _ => ⟨_, _, rfl, fun i v hv => ?_⟩⟩
  rw [Nat.zero_add, World.cell?_alloc_new]
  simpa using hv

@[go_sem high] theorem slTo_Inp (A : Option Addr) (n c : Nat) (h : Int) (h0 : 0 ≤ h) (h2 : h ≤ c) (w : World) : (Instr.slice 51 (.slice A n c) none (some (.int .i64 h)) none).run Try.prog w = .ok (slTo 3 (.slice A n c) h.toNat) w := by
  rw [run_slice_h _ _ _ _ _ (by kernel_rfl) _ _ h0 h2]
  rw [show Try.prog.elem 51 = 28 by kernel_rfl, Try.sizeOf28]
  rfl

@[go_sem high] theorem slFrom_Inp (A : Option Addr) (n c : Nat) (h : Int) (h0 : 0 ≤ h) (h2 : h ≤ n) (w : World) : (Instr.slice 51 (.slice A n c) (some (.int .i64 h)) none none).run Try.prog w = .ok (slFrom 3 (.slice A n c) h.toNat) w := by
  rw [run_slice_l _ _ _ _ _ (by kernel_rfl) _ _ h0 h2]
  rw [show Try.prog.elem 51 = 28 by kernel_rfl, Try.sizeOf28]
  rfl

end Go.Proofs.Ythkgbengmfedjaa.Fx
