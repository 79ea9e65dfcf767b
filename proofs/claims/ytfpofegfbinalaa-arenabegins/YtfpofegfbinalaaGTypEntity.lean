/- Entity: its values, its cells, when two are equal; slices of them. -/
import Derived.Test.YtfpofegfbinalaaGRows
import Derived.Laws.StructEq
namespace Go.Proofs.Ytfpofegfbinalaa.Fx
open Go.ChangeShapes Go.WideShapes Go.ChangeAt Go.RowKit
set_option linter.unusedVariables false
set_option maxRecDepth 100000

structure Ent where
  id : Int
  kind : Int
  x : Int
  y : Int
  vx : Int
  vy : Int
  health : Int
  age : Int
  owner : Int
  deriving DecidableEq

/-- Its cells. -/
def entC (e : Ent) : List Value := [.int .i64 e.id, .int .i64 e.kind, .int .i64 e.x, .int .i64 e.y, .int .i64 e.vx, .int .i64 e.vy, .int .i64 e.health, .int .i64 e.age, .int .i64 e.owner]

/-- Every number of it fits its kind. -/
def Ent.ok (e : Ent) : Prop := (Lit.int .i64 e.id).wf = true ∧ (Lit.int .i64 e.kind).wf = true ∧ (Lit.int .i64 e.x).wf = true ∧ (Lit.int .i64 e.y).wf = true ∧ (Lit.int .i64 e.vx).wf = true ∧ (Lit.int .i64 e.vy).wf = true ∧ (Lit.int .i64 e.health).wf = true ∧ (Lit.int .i64 e.age).wf = true ∧ (Lit.int .i64 e.owner).wf = true

instance : Inhabited Ent := ⟨⟨0, 0, 0, 0, 0, 0, 0, 0, 0⟩⟩

theorem entC_len (e : Ent) : (entC e).length = 9 := rfl

theorem entC_one (e : Ent) : ∀ u ∈ entC e, u.oneCell' = true := by simp [entC, Value.oneCell']

theorem entC_flat (es : List Ent) : ∀ u ∈ es.flatMap entC, u.oneCell' = true := by
  intro u hu
  obtain ⟨e, -, he⟩ := List.mem_flatMap.1 hu
  exact entC_one e u he

theorem entC_length (es : List Ent) : (es.flatMap entC).length = es.length * 9 := flat_len entC 9 entC_len es

theorem info_Ent : (Try.prog.info? 37).map (fun i => (i.zero, i.size, i.bytes)) = some (some (.agg #[.int .i64 0, .int .i64 0, .int .i64 0, .int .i64 0, .int .i64 0, .int .i64 0, .int .i64 0, .int .i64 0, .int .i64 0]), 9, 72) := by kernel_rfl

/-- Are two the same? -/
def eqEnt (a b : Ent) : Bool := decide (a = b)

@[go_sem] theorem eqEnt_self (a : Ent) : eqEnt a a = true := by simp [eqEnt]

theorem equal_Ent (a b : Ent) (w : World) : (Op.equalIn 10000 37 (.agg #[.int .i64 a.id, .int .i64 a.kind, .int .i64 a.x, .int .i64 a.y, .int .i64 a.vx, .int .i64 a.vy, .int .i64 a.health, .int .i64 a.age, .int .i64 a.owner]) (.agg #[.int .i64 b.id, .int .i64 b.kind, .int .i64 b.x, .int .i64 b.y, .int .i64 b.vx, .int .i64 b.vy, .int .i64 b.health, .int .i64 b.age, .int .i64 b.owner])).run Try.prog w = .ok (eqEnt a b) w := by
  have hS : Try.prog.underlying 37 = some (.struct (Try.prog.fieldsOf 37)) := by kernel_rfl
  have hp : Try.prog.stoodInHeld 37 = false := by kernel_rfl
  rw [show (10000 : Nat) = 9999 + 1 from rfl, run_equalIn_agg w 9999 37 _ _ hS hp]
  simp only [Program.fieldsOf, Try.underlying37]
  go_simp
  unfold eqEnt
  obtain ⟨a_id, a_kind, a_x, a_y, a_vx, a_vy, a_health, a_age, a_owner⟩ := a
  obtain ⟨b_id, b_kind, b_x, b_y, b_vx, b_vy, b_health, b_age, b_owner⟩ := b
  by_cases h0 : a_id = b_id
  rotate_left 1
  · simp [h0]
  by_cases h1 : a_kind = b_kind
  rotate_left 1
  · simp [h1, h0]
  by_cases h2 : a_x = b_x
  rotate_left 1
  · simp [h2, h0, h1]
  by_cases h3 : a_y = b_y
  rotate_left 1
  · simp [h3, h0, h1, h2]
  by_cases h4 : a_vx = b_vx
  rotate_left 1
  · simp [h4, h0, h1, h2, h3]
  by_cases h5 : a_vy = b_vy
  rotate_left 1
  · simp [h5, h0, h1, h2, h3, h4]
  by_cases h6 : a_health = b_health
  rotate_left 1
  · simp [h6, h0, h1, h2, h3, h4, h5]
  by_cases h7 : a_age = b_age
  rotate_left 1
  · simp [h7, h0, h1, h2, h3, h4, h5, h6]
  by_cases h8 : a_owner = b_owner
  rotate_left 1
  · simp [h8, h0, h1, h2, h3, h4, h5, h6, h7]
  subst h0 h1 h2 h3 h4 h5 h6 h7 h8
  simp

@[go_sem high] theorem eql_Ent (a b : Ent) (w : World) : (binOp .eql 37 (.agg #[.int .i64 a.id, .int .i64 a.kind, .int .i64 a.x, .int .i64 a.y, .int .i64 a.vx, .int .i64 a.vy, .int .i64 a.health, .int .i64 a.age, .int .i64 a.owner]) (.agg #[.int .i64 b.id, .int .i64 b.kind, .int .i64 b.x, .int .i64 b.y, .int .i64 b.vx, .int .i64 b.vy, .int .i64 b.health, .int .i64 b.age, .int .i64 b.owner])).run Try.prog w = .ok (.bool (eqEnt a b)) w := by
  rw [run_eql_struct, equal_Ent]; rfl

@[go_sem high] theorem neq_Ent (a b : Ent) (w : World) : (binOp .neq 37 (.agg #[.int .i64 a.id, .int .i64 a.kind, .int .i64 a.x, .int .i64 a.y, .int .i64 a.vx, .int .i64 a.vy, .int .i64 a.health, .int .i64 a.age, .int .i64 a.owner]) (.agg #[.int .i64 b.id, .int .i64 b.kind, .int .i64 b.x, .int .i64 b.y, .int .i64 b.vx, .int .i64 b.vy, .int .i64 b.health, .int .i64 b.age, .int .i64 b.owner])).run Try.prog w = .ok (.bool (!eqEnt a b)) w := by
  rw [run_neq_struct, equal_Ent]; rfl

/-- The cells of an element. -/
theorem elem_Ent {w : World} {A : Option Addr} {es : List Ent} (h : CellsAt w A (es.flatMap entC)) {k : Nat} {e : Ent} (hk : es[k]? = some e) :
    ∃ b off, A = some ⟨b, off, none⟩ ∧ (w.cell? ⟨b, off + k * 9, none⟩ = some (.int .i64 e.id) ∧ w.cell? ⟨b, off + k * 9 + 1, none⟩ = some (.int .i64 e.kind) ∧ w.cell? ⟨b, off + k * 9 + 2, none⟩ = some (.int .i64 e.x) ∧ w.cell? ⟨b, off + k * 9 + 3, none⟩ = some (.int .i64 e.y) ∧ w.cell? ⟨b, off + k * 9 + 4, none⟩ = some (.int .i64 e.vx) ∧ w.cell? ⟨b, off + k * 9 + 5, none⟩ = some (.int .i64 e.vy) ∧ w.cell? ⟨b, off + k * 9 + 6, none⟩ = some (.int .i64 e.health) ∧ w.cell? ⟨b, off + k * 9 + 7, none⟩ = some (.int .i64 e.age) ∧ w.cell? ⟨b, off + k * 9 + 8, none⟩ = some (.int .i64 e.owner)) := by
  obtain ⟨b, off, hA, hc⟩ := h.elem 9 entC_len (by omega) hk
  exact ⟨b, off, hA, hc 0 _ rfl, hc 1 _ rfl, hc 2 _ rfl, hc 3 _ rfl, hc 4 _ rfl, hc 5 _ rfl, hc 6 _ rfl, hc 7 _ rfl, hc 8 _ rfl⟩

/-- 'append' of a list to a row of the call's own. -/
theorem app_Ent {w : World} {o : Oper} {a : Act} {K : Act → World → Prop} {Q : Exit → Act → World → Prop} (s x : Operand)
    (ho : o.op = .call { callee := .builtin .append, args := #[s, x], argTypes := #[33, 33] }) (base : Nat) (v : Value) (es : List Ent) (hs : a.eval s = v) (hown : w.ownsRow base 37 9 v es.length (es.flatMap entC))
    (u : Value) (fs : List Ent) (hx : a.eval x = u) (hu : IsSl entC w u fs) (hlen : es.length + fs.length ≤ 1000000000) (hbase : base ≤ w.heap.size)
    (h : ∀ v' w', w'.ownsRow base 37 9 v' (es ++ fs).length ((es ++ fs).flatMap entC) → Below base w w' → w.grownBy w' v.ownBlock → K (a.put o.dst v') w') : o.wp Try.prog a w K Q := by
  obtain ⟨i0, hi, hz0, hz1, hz2⟩ := info_parts info_Ent
  obtain ⟨A, c, rfl, hA, hc, hat⟩ := hu
  exact wp_app s x 33 ho base 37 i0 _ 9 72 Try.underlying33 hi hz0 hz1 hz2 rfl (by omega) v es.length _ hs hown A fs.length c (fs.flatMap entC) hx (entC_length fs) hA hat.cells (entC_flat fs) (by unfold maxLen; omega) (by omega) hbase
    fun v' w' h1 h2 h3 => h v' w' (by rw [List.length_append, List.flatMap_append]; exact h1) h2 h3

theorem appL_Ent {w : World} {ops : Array Oper} {rest : List Oper} {o : Oper} {a : Act} {Q : Exit → Act → World → Prop} (hgd : o.guard = none) (s x : Operand)
    (ho : o.op = .call { callee := .builtin .append, args := #[s, x], argTypes := #[33, 33] }) (base : Nat) (v : Value) (es : List Ent) (hs : a.eval s = v) (hown : w.ownsRow base 37 9 v es.length (es.flatMap entC))
    (u : Value) (fs : List Ent) (hx : a.eval x = u) (hu : IsSl entC w u fs) (hlen : es.length + fs.length ≤ 1000000000) (hbase : base ≤ w.heap.size)
    (h : ∀ v' w', w'.ownsRow base 37 9 v' (es ++ fs).length ((es ++ fs).flatMap entC) → Below base w w' → w.grownBy w' v.ownBlock → wpList Try.prog ops Q rest (a.put o.dst v') w') : wpList Try.prog ops Q (o :: rest) a w :=
  wpList_plain hgd fun _ hK => app_Ent s x ho base v es hs hown u fs hx hu hlen hbase fun v' w' h1 h2 h3 => hK _ _ (h v' w' h1 h2 h3)

/-- One that was built in a new block. -/
theorem one_Ent (w : World) (e : Ent) (g c : Nat) (hg : g = w.heap.size) (hc : 1 ≤ c) : IsSl entC (w.alloc (.cells (entC e).toArray 37)) (.slice (some ⟨g, 0, none⟩) 1 c) [e] := by
  subst hg
  refine ⟨_, _, rfl, fun h => (by cases h), hc, fun _ => ⟨_, _, rfl, fun i v hv => ?_⟩⟩
  rw [Nat.zero_add, World.cell?_alloc_new]
  simpa using hv

@[go_sem high] theorem slTo_Ent (A : Option Addr) (n c : Nat) (h : Int) (h0 : 0 ≤ h) (h2 : h ≤ c) (w : World) : (Instr.slice 33 (.slice A n c) none (some (.int .i64 h)) none).run Try.prog w = .ok (slTo 9 (.slice A n c) h.toNat) w := by
  rw [run_slice_h _ _ _ _ _ (by kernel_rfl) _ _ h0 h2]
  rw [show Try.prog.elem 33 = 37 by kernel_rfl, Try.sizeOf37]
  rfl

@[go_sem high] theorem slFrom_Ent (A : Option Addr) (n c : Nat) (h : Int) (h0 : 0 ≤ h) (h2 : h ≤ n) (w : World) : (Instr.slice 33 (.slice A n c) (some (.int .i64 h)) none none).run Try.prog w = .ok (slFrom 9 (.slice A n c) h.toNat) w := by
  rw [run_slice_l _ _ _ _ _ (by kernel_rfl) _ _ h0 h2]
  rw [show Try.prog.elem 33 = 37 by kernel_rfl, Try.sizeOf37]
  rfl

end Go.Proofs.Ytfpofegfbinalaa.Fx
