/- Entity: its values, its cells, when two are equal; slices of them. Cross: its values, its cells, when two are equal; slices of them. -/
import Derived.Test.YtlpkaljepaclpaaM02
import Derived.Laws.StructEq
namespace Go.Proofs.Ytlpkaljepaclpaa.Fx
open Go.ChangeShapes Go.WideShapes Go.ChangeAt Go.RowKit
set_option linter.unusedVariables false
set_option maxRecDepth 100000

structure Ent where
  id : Int
  kind : Int
  x : Int
  y : Int
  vx : Int
  vy : Int
  health : Int
  age : Int
  owner : Int
  deriving DecidableEq

/-- Its cells. -/
def entC (e : Ent) : List Value := [.int .i64 e.id, .int .i64 e.kind, .int .i64 e.x, .int .i64 e.y, .int .i64 e.vx, .int .i64 e.vy, .int .i64 e.health, .int .i64 e.age, .int .i64 e.owner]

/-- Every number of it fits its kind. -/
def Ent.ok (e : Ent) : Prop := (Lit.int .i64 e.id).wf = true ∧ (Lit.int .i64 e.kind).wf = true ∧ (Lit.int .i64 e.x).wf = true ∧ (Lit.int .i64 e.y).wf = true ∧ (Lit.int .i64 e.vx).wf = true ∧ (Lit.int .i64 e.vy).wf = true ∧ (Lit.int .i64 e.health).wf = true ∧ (Lit.int .i64 e.age).wf = true ∧ (Lit.int .i64 e.owner).wf = true

instance : Inhabited Ent := ⟨⟨0, 0, 0, 0, 0, 0, 0, 0, 0⟩⟩

theorem entC_len (e : Ent) : (entC e).length = 9 := rfl

theorem entC_one (e : Ent) : ∀ u ∈ entC e, u.oneCell' = true := by simp [entC, Value.oneCell']

theorem entC_flat (es : List Ent) : ∀ u ∈ es.flatMap entC, u.oneCell' = true := by
  intro u hu
  obtain ⟨e, -, he⟩ := List.mem_flatMap.1 hu
  exact entC_one e u he

theorem entC_length (es : List Ent) : (es.flatMap entC).length = es.length * 9 := flat_len entC 9 entC_len es

theorem info_Ent : (Try.prog.info? 43).map (fun i => (i.zero, i.size, i.bytes)) = some (some (.agg #[.int .i64 0, .int .i64 0, .int .i64 0, .int .i64 0, .int .i64 0, .int .i64 0, .int .i64 0, .int .i64 0, .int .i64 0]), 9, 72) := by kernel_rfl

/-- Are two the same? -/
def eqEnt (a b : Ent) : Bool := decide (a = b)

@[go_sem] theorem eqEnt_self (a : Ent) : eqEnt a a = true := by simp [eqEnt]

theorem equal_Ent (a b : Ent) (w : World) : (Op.equalIn 10000 43 (.agg #[.int .i64 a.id, .int .i64 a.kind, .int .i64 a.x, .int .i64 a.y, .int .i64 a.vx, .int .i64 a.vy, .int .i64 a.health, .int .i64 a.age, .int .i64 a.owner]) (.agg #[.int .i64 b.id, .int .i64 b.kind, .int .i64 b.x, .int .i64 b.y, .int .i64 b.vx, .int .i64 b.vy, .int .i64 b.health, .int .i64 b.age, .int .i64 b.owner])).run Try.prog w = .ok (eqEnt a b) w := by
  have hS : Try.prog.underlying 43 = some (.struct (Try.prog.fieldsOf 43)) := by kernel_rfl
  have hp : Try.prog.stoodInHeld 43 = false := by kernel_rfl
  rw [show (10000 : Nat) = 9999 + 1 from rfl, run_equalIn_agg w 9999 43 _ _ hS hp]
  simp only [Program.fieldsOf, Try.underlying43]
  go_simp
  unfold eqEnt
  obtain ⟨a_id, a_kind, a_x, a_y, a_vx, a_vy, a_health, a_age, a_owner⟩ := a
  obtain ⟨b_id, b_kind, b_x, b_y, b_vx, b_vy, b_health, b_age, b_owner⟩ := b
  by_cases h0 : a_id = b_id
  rotate_left 1
  · simp [h0]
  by_cases h1 : a_kind = b_kind
  rotate_left 1
  · simp [h1, h0]
  by_cases h2 : a_x = b_x
  rotate_left 1
  · simp [h2, h0, h1]
  by_cases h3 : a_y = b_y
  rotate_left 1
  · simp [h3, h0, h1, h2]
  by_cases h4 : a_vx = b_vx
  rotate_left 1
  · simp [h4, h0, h1, h2, h3]
  by_cases h5 : a_vy = b_vy
  rotate_left 1
  · simp [h5, h0, h1, h2, h3, h4]
  by_cases h6 : a_health = b_health
  rotate_left 1
  · simp [h6, h0, h1, h2, h3, h4, h5]
  by_cases h7 : a_age = b_age
  rotate_left 1
  · simp [h7, h0, h1, h2, h3, h4, h5, h6]
  by_cases h8 : a_owner = b_owner
  rotate_left 1
  · simp [h8, h0, h1, h2, h3, h4, h5, h6, h7]
  subst h0 h1 h2 h3 h4 h5 h6 h7 h8
  simp

@[go_sem high] theorem eql_Ent (a b : Ent) (w : World) : (binOp .eql 43 (.agg #[.int .i64 a.id, .int .i64 a.kind, .int .i64 a.x, .int .i64 a.y, .int .i64 a.vx, .int .i64 a.vy, .int .i64 a.health, .int .i64 a.age, .int .i64 a.owner]) (.agg #[.int .i64 b.id, .int .i64 b.kind, .int .i64 b.x, .int .i64 b.y, .int .i64 b.vx, .int .i64 b.vy, .int .i64 b.health, .int .i64 b.age, .int .i64 b.owner])).run Try.prog w = .ok (.bool (eqEnt a b)) w := by
  rw [run_eql_struct, equal_Ent]; rfl

@[go_sem high] theorem neq_Ent (a b : Ent) (w : World) : (binOp .neq 43 (.agg #[.int .i64 a.id, .int .i64 a.kind, .int .i64 a.x, .int .i64 a.y, .int .i64 a.vx, .int .i64 a.vy, .int .i64 a.health, .int .i64 a.age, .int .i64 a.owner]) (.agg #[.int .i64 b.id, .int .i64 b.kind, .int .i64 b.x, .int .i64 b.y, .int .i64 b.vx, .int .i64 b.vy, .int .i64 b.health, .int .i64 b.age, .int .i64 b.owner])).run Try.prog w = .ok (.bool (!eqEnt a b)) w := by
  rw [run_neq_struct, equal_Ent]; rfl

/-- The cells of an element. -/
theorem elem_Ent {w : World} {A : Option Addr} {es : List Ent} (h : CellsAt w A (es.flatMap entC)) {k : Nat} {e : Ent} (hk : es[k]? = some e) :
    ∃ b off, A = some ⟨b, off, none⟩ ∧ (w.cell? ⟨b, off + k * 9, none⟩ = some (.int .i64 e.id) ∧ w.cell? ⟨b, off + k * 9 + 1, none⟩ = some (.int .i64 e.kind) ∧ w.cell? ⟨b, off + k * 9 + 2, none⟩ = some (.int .i64 e.x) ∧ w.cell? ⟨b, off + k * 9 + 3, none⟩ = some (.int .i64 e.y) ∧ w.cell? ⟨b, off + k * 9 + 4, none⟩ = some (.int .i64 e.vx) ∧ w.cell? ⟨b, off + k * 9 + 5, none⟩ = some (.int .i64 e.vy) ∧ w.cell? ⟨b, off + k * 9 + 6, none⟩ = some (.int .i64 e.health) ∧ w.cell? ⟨b, off + k * 9 + 7, none⟩ = some (.int .i64 e.age) ∧ w.cell? ⟨b, off + k * 9 + 8, none⟩ = some (.int .i64 e.owner)) := by
  obtain ⟨b, off, hA, hc⟩ := h.elem 9 entC_len (by omega) hk
  exact ⟨b, off, hA, hc 0 _ rfl, hc 1 _ rfl, hc 2 _ rfl, hc 3 _ rfl, hc 4 _ rfl, hc 5 _ rfl, hc 6 _ rfl, hc 7 _ rfl, hc 8 _ rfl⟩

/-- 'append' of a list to a row of the call's own. -/
theorem app_Ent {w : World} {o : Oper} {a : Act} {K : Act → World → Prop} {Q : Exit → Act → World → Prop} (s x : Operand)
    (ho : o.op = .call { callee := .builtin .append, args := #[s, x], argTypes := #[50, 50] }) (base : Nat) (v : Value) (es : List Ent) (hs : a.eval s = v) (hown : w.ownsRow base 43 9 v es.length (es.flatMap entC))
    (u : Value) (fs : List Ent) (hx : a.eval x = u) (hu : IsSl entC w u fs) (hlen : es.length + fs.length ≤ 1000000000) (hbase : base ≤ w.heap.size)
    (h : ∀ v' w', w'.ownsRow base 43 9 v' (es ++ fs).length ((es ++ fs).flatMap entC) → Below base w w' → w.grownBy w' v.ownBlock → K (a.put o.dst v') w') : o.wp Try.prog a w K Q := by
  obtain ⟨i0, hi, hz0, hz1, hz2⟩ := info_parts info_Ent
  obtain ⟨A, c, rfl, hA, hc, hat⟩ := hu
  exact wp_app s x 50 ho base 43 i0 _ 9 72 Try.underlying50 hi hz0 hz1 hz2 rfl (by omega) v es.length _ hs hown A fs.length c (fs.flatMap entC) hx (entC_length fs) hA hat.cells (entC_flat fs) (by unfold maxLen; omega) (by omega) hbase
    fun v' w' h1 h2 h3 => h v' w' (by rw [List.length_append, List.flatMap_append]; exact h1) h2 h3

/-- One that was built in a new block. -/
theorem one_Ent (w : World) (e : Ent) (g c : Nat) (hg : g = w.heap.size) (hc : 1 ≤ c) : IsSl entC (w.alloc (.cells (entC e).toArray 43)) (.slice (some ⟨g, 0, none⟩) 1 c) [e] := by
  subst hg
  refine ⟨_, _, rfl, fun h => (by cases h), hc, fun _ => ⟨_, _, rfl, fun i v hv => ?_⟩⟩
  rw [Nat.zero_add, World.cell?_alloc_new]
  simpa using hv

@[go_sem high] theorem slTo_Ent (A : Option Addr) (n c : Nat) (h : Int) (h0 : 0 ≤ h) (h2 : h ≤ c) (w : World) : (Instr.slice 50 (.slice A n c) none (some (.int .i64 h)) none).run Try.prog w = .ok (slTo 9 (.slice A n c) h.toNat) w := by
  rw [run_slice_h _ _ _ _ _ (by kernel_rfl) _ _ h0 h2]
  rw [show Try.prog.elem 50 = 43 by kernel_rfl, Try.sizeOf43]
  rfl

@[go_sem high] theorem slFrom_Ent (A : Option Addr) (n c : Nat) (h : Int) (h0 : 0 ≤ h) (h2 : h ≤ n) (w : World) : (Instr.slice 50 (.slice A n c) (some (.int .i64 h)) none none).run Try.prog w = .ok (slFrom 9 (.slice A n c) h.toNat) w := by
  rw [run_slice_l _ _ _ _ _ (by kernel_rfl) _ _ h0 h2]
  rw [show Try.prog.elem 50 = 43 by kernel_rfl, Try.sizeOf43]
  rfl

end Go.Proofs.Ytlpkaljepaclpaa.Fx
namespace Go.Proofs.Ytlpkaljepaclpaa.Fx
open Go.ChangeShapes Go.WideShapes Go.ChangeAt Go.RowKit
set_option linter.unusedVariables false
set_option maxRecDepth 100000

structure Crs where
  kind : Int
  src : Int
  dst : Int
  frame : Int
  e : Ent
  x : Int
  y : Int
  deriving DecidableEq

/-- Its cells. -/
def crsC (e : Crs) : List Value := [.int .i64 e.kind, .int .i64 e.src, .int .i64 e.dst, .int .i64 e.frame, .int .i64 e.e.id, .int .i64 e.e.kind, .int .i64 e.e.x, .int .i64 e.e.y, .int .i64 e.e.vx, .int .i64 e.e.vy, .int .i64 e.e.health, .int .i64 e.e.age, .int .i64 e.e.owner, .int .i64 e.x, .int .i64 e.y]

/-- Every number of it fits its kind. -/
def Crs.ok (e : Crs) : Prop := (Lit.int .i64 e.kind).wf = true ∧ (Lit.int .i64 e.src).wf = true ∧ (Lit.int .i64 e.dst).wf = true ∧ (Lit.int .i64 e.frame).wf = true ∧ (Lit.int .i64 e.e.id).wf = true ∧ (Lit.int .i64 e.e.kind).wf = true ∧ (Lit.int .i64 e.e.x).wf = true ∧ (Lit.int .i64 e.e.y).wf = true ∧ (Lit.int .i64 e.e.vx).wf = true ∧ (Lit.int .i64 e.e.vy).wf = true ∧ (Lit.int .i64 e.e.health).wf = true ∧ (Lit.int .i64 e.e.age).wf = true ∧ (Lit.int .i64 e.e.owner).wf = true ∧ (Lit.int .i64 e.x).wf = true ∧ (Lit.int .i64 e.y).wf = true

instance : Inhabited Crs := ⟨⟨0, 0, 0, 0, ⟨0, 0, 0, 0, 0, 0, 0, 0, 0⟩, 0, 0⟩⟩

theorem crsC_len (e : Crs) : (crsC e).length = 15 := rfl

theorem crsC_one (e : Crs) : ∀ u ∈ crsC e, u.oneCell' = true := by simp [crsC, Value.oneCell']

theorem crsC_flat (es : List Crs) : ∀ u ∈ es.flatMap crsC, u.oneCell' = true := by
  intro u hu
  obtain ⟨e, -, he⟩ := List.mem_flatMap.1 hu
  exact crsC_one e u he

theorem crsC_length (es : List Crs) : (es.flatMap crsC).length = es.length * 15 := flat_len crsC 15 crsC_len es

theorem info_Crs : (Try.prog.info? 45).map (fun i => (i.zero, i.size, i.bytes)) = some (some (.agg #[.int .i64 0, .int .i64 0, .int .i64 0, .int .i64 0, .int .i64 0, .int .i64 0, .int .i64 0, .int .i64 0, .int .i64 0, .int .i64 0, .int .i64 0, .int .i64 0, .int .i64 0, .int .i64 0, .int .i64 0]), 15, 120) := by kernel_rfl

/-- Are two the same? -/
def eqCrs (a b : Crs) : Bool := decide (a = b)

@[go_sem] theorem eqCrs_self (a : Crs) : eqCrs a a = true := by simp [eqCrs]

theorem equal_Crs (a b : Crs) (w : World) : (Op.equalIn 10000 45 (.agg #[.int .i64 a.kind, .int .i64 a.src, .int .i64 a.dst, .int .i64 a.frame, .int .i64 a.e.id, .int .i64 a.e.kind, .int .i64 a.e.x, .int .i64 a.e.y, .int .i64 a.e.vx, .int .i64 a.e.vy, .int .i64 a.e.health, .int .i64 a.e.age, .int .i64 a.e.owner, .int .i64 a.x, .int .i64 a.y]) (.agg #[.int .i64 b.kind, .int .i64 b.src, .int .i64 b.dst, .int .i64 b.frame, .int .i64 b.e.id, .int .i64 b.e.kind, .int .i64 b.e.x, .int .i64 b.e.y, .int .i64 b.e.vx, .int .i64 b.e.vy, .int .i64 b.e.health, .int .i64 b.e.age, .int .i64 b.e.owner, .int .i64 b.x, .int .i64 b.y])).run Try.prog w = .ok (eqCrs a b) w := by
  have hS : Try.prog.underlying 45 = some (.struct (Try.prog.fieldsOf 45)) := by kernel_rfl
  have hp : Try.prog.stoodInHeld 45 = false := by kernel_rfl
  rw [show (10000 : Nat) = 9999 + 1 from rfl, run_equalIn_agg w 9999 45 _ _ hS hp]
  simp only [Program.fieldsOf, Try.underlying45]
  go_simp
  unfold eqCrs
  obtain ⟨a_kind, a_src, a_dst, a_frame, ⟨a_e_id, a_e_kind, a_e_x, a_e_y, a_e_vx, a_e_vy, a_e_health, a_e_age, a_e_owner⟩, a_x, a_y⟩ := a
  obtain ⟨b_kind, b_src, b_dst, b_frame, ⟨b_e_id, b_e_kind, b_e_x, b_e_y, b_e_vx, b_e_vy, b_e_health, b_e_age, b_e_owner⟩, b_x, b_y⟩ := b
  by_cases h0 : a_kind = b_kind
  rotate_left 1
  · simp [h0]
  by_cases h1 : a_src = b_src
  rotate_left 1
  · simp [h1, h0]
  by_cases h2 : a_dst = b_dst
  rotate_left 1
  · simp [h2, h0, h1]
  by_cases h3 : a_frame = b_frame
  rotate_left 1
  · simp [h3, h0, h1, h2]
  by_cases h4 : a_e_id = b_e_id
  rotate_left 1
  · simp [h4, h0, h1, h2, h3]
  by_cases h5 : a_e_kind = b_e_kind
  rotate_left 1
  · simp [h5, h0, h1, h2, h3, h4]
  by_cases h6 : a_e_x = b_e_x
  rotate_left 1
  · simp [h6, h0, h1, h2, h3, h4, h5]
  by_cases h7 : a_e_y = b_e_y
  rotate_left 1
  · simp [h7, h0, h1, h2, h3, h4, h5, h6]
  by_cases h8 : a_e_vx = b_e_vx
  rotate_left 1
  · simp [h8, h0, h1, h2, h3, h4, h5, h6, h7]
  by_cases h9 : a_e_vy = b_e_vy
  rotate_left 1
  · simp [h9, h0, h1, h2, h3, h4, h5, h6, h7, h8]
  by_cases h10 : a_e_health = b_e_health
  rotate_left 1
  · simp [h10, h0, h1, h2, h3, h4, h5, h6, h7, h8, h9]
  by_cases h11 : a_e_age = b_e_age
  rotate_left 1
  · simp [h11, h0, h1, h2, h3, h4, h5, h6, h7, h8, h9, h10]
  by_cases h12 : a_e_owner = b_e_owner
  rotate_left 1
  · simp [h12, h0, h1, h2, h3, h4, h5, h6, h7, h8, h9, h10, h11]
  by_cases h13 : a_x = b_x
  rotate_left 1
  · simp [h13, h0, h1, h2, h3, h4, h5, h6, h7, h8, h9, h10, h11, h12]
  by_cases h14 : a_y = b_y
  rotate_left 1
  · simp [h14, h0, h1, h2, h3, h4, h5, h6, h7, h8, h9, h10, h11, h12, h13]
  subst h0 h1 h2 h3 h4 h5 h6 h7 h8 h9 h10 h11 h12 h13 h14
  simp

@[go_sem high] theorem eql_Crs (a b : Crs) (w : World) : (binOp .eql 45 (.agg #[.int .i64 a.kind, .int .i64 a.src, .int .i64 a.dst, .int .i64 a.frame, .int .i64 a.e.id, .int .i64 a.e.kind, .int .i64 a.e.x, .int .i64 a.e.y, .int .i64 a.e.vx, .int .i64 a.e.vy, .int .i64 a.e.health, .int .i64 a.e.age, .int .i64 a.e.owner, .int .i64 a.x, .int .i64 a.y]) (.agg #[.int .i64 b.kind, .int .i64 b.src, .int .i64 b.dst, .int .i64 b.frame, .int .i64 b.e.id, .int .i64 b.e.kind, .int .i64 b.e.x, .int .i64 b.e.y, .int .i64 b.e.vx, .int .i64 b.e.vy, .int .i64 b.e.health, .int .i64 b.e.age, .int .i64 b.e.owner, .int .i64 b.x, .int .i64 b.y])).run Try.prog w = .ok (.bool (eqCrs a b)) w := by
  rw [run_eql_struct, equal_Crs]; rfl

@[go_sem high] theorem neq_Crs (a b : Crs) (w : World) : (binOp .neq 45 (.agg #[.int .i64 a.kind, .int .i64 a.src, .int .i64 a.dst, .int .i64 a.frame, .int .i64 a.e.id, .int .i64 a.e.kind, .int .i64 a.e.x, .int .i64 a.e.y, .int .i64 a.e.vx, .int .i64 a.e.vy, .int .i64 a.e.health, .int .i64 a.e.age, .int .i64 a.e.owner, .int .i64 a.x, .int .i64 a.y]) (.agg #[.int .i64 b.kind, .int .i64 b.src, .int .i64 b.dst, .int .i64 b.frame, .int .i64 b.e.id, .int .i64 b.e.kind, .int .i64 b.e.x, .int .i64 b.e.y, .int .i64 b.e.vx, .int .i64 b.e.vy, .int .i64 b.e.health, .int .i64 b.e.age, .int .i64 b.e.owner, .int .i64 b.x, .int .i64 b.y])).run Try.prog w = .ok (.bool (!eqCrs a b)) w := by
  rw [run_neq_struct, equal_Crs]; rfl

/-- The cells of an element. -/
theorem elem_Crs {w : World} {A : Option Addr} {es : List Crs} (h : CellsAt w A (es.flatMap crsC)) {k : Nat} {e : Crs} (hk : es[k]? = some e) :
    ∃ b off, A = some ⟨b, off, none⟩ ∧ (w.cell? ⟨b, off + k * 15, none⟩ = some (.int .i64 e.kind) ∧ w.cell? ⟨b, off + k * 15 + 1, none⟩ = some (.int .i64 e.src) ∧ w.cell? ⟨b, off + k * 15 + 2, none⟩ = some (.int .i64 e.dst) ∧ w.cell? ⟨b, off + k * 15 + 3, none⟩ = some (.int .i64 e.frame) ∧ w.cell? ⟨b, off + k * 15 + 4, none⟩ = some (.int .i64 e.e.id) ∧ w.cell? ⟨b, off + k * 15 + 5, none⟩ = some (.int .i64 e.e.kind) ∧ w.cell? ⟨b, off + k * 15 + 6, none⟩ = some (.int .i64 e.e.x) ∧ w.cell? ⟨b, off + k * 15 + 7, none⟩ = some (.int .i64 e.e.y) ∧ w.cell? ⟨b, off + k * 15 + 8, none⟩ = some (.int .i64 e.e.vx) ∧ w.cell? ⟨b, off + k * 15 + 9, none⟩ = some (.int .i64 e.e.vy) ∧ w.cell? ⟨b, off + k * 15 + 10, none⟩ = some (.int .i64 e.e.health) ∧ w.cell? ⟨b, off + k * 15 + 11, none⟩ = some (.int .i64 e.e.age) ∧ w.cell? ⟨b, off + k * 15 + 12, none⟩ = some (.int .i64 e.e.owner) ∧ w.cell? ⟨b, off + k * 15 + 13, none⟩ = some (.int .i64 e.x) ∧ w.cell? ⟨b, off + k * 15 + 14, none⟩ = some (.int .i64 e.y)) := by
  obtain ⟨b, off, hA, hc⟩ := h.elem 15 crsC_len (by omega) hk
  exact ⟨b, off, hA, hc 0 _ rfl, hc 1 _ rfl, hc 2 _ rfl, hc 3 _ rfl, hc 4 _ rfl, hc 5 _ rfl, hc 6 _ rfl, hc 7 _ rfl, hc 8 _ rfl, hc 9 _ rfl, hc 10 _ rfl, hc 11 _ rfl, hc 12 _ rfl, hc 13 _ rfl, hc 14 _ rfl⟩

/-- 'append' of a list to a row of the call's own. -/
theorem app_Crs {w : World} {o : Oper} {a : Act} {K : Act → World → Prop} {Q : Exit → Act → World → Prop} (s x : Operand)
    (ho : o.op = .call { callee := .builtin .append, args := #[s, x], argTypes := #[26, 26] }) (base : Nat) (v : Value) (es : List Crs) (hs : a.eval s = v) (hown : w.ownsRow base 45 15 v es.length (es.flatMap crsC))
    (u : Value) (fs : List Crs) (hx : a.eval x = u) (hu : IsSl crsC w u fs) (hlen : es.length + fs.length ≤ 1000000000) (hbase : base ≤ w.heap.size)
    (h : ∀ v' w', w'.ownsRow base 45 15 v' (es ++ fs).length ((es ++ fs).flatMap crsC) → Below base w w' → w.grownBy w' v.ownBlock → K (a.put o.dst v') w') : o.wp Try.prog a w K Q := by
  obtain ⟨i0, hi, hz0, hz1, hz2⟩ := info_parts info_Crs
  obtain ⟨A, c, rfl, hA, hc, hat⟩ := hu
  exact wp_app s x 26 ho base 45 i0 _ 15 120 Try.underlying26 hi hz0 hz1 hz2 rfl (by omega) v es.length _ hs hown A fs.length c (fs.flatMap crsC) hx (crsC_length fs) hA hat.cells (crsC_flat fs) (by unfold maxLen; omega) (by omega) hbase
    fun v' w' h1 h2 h3 => h v' w' (by rw [List.length_append, List.flatMap_append]; exact h1) h2 h3

theorem appL_Crs {w : World} {ops : Array Oper} {rest : List Oper} {o : Oper} {a : Act} {Q : Exit → Act → World → Prop} (hgd : o.guard = none) (s x : Operand)
    (ho : o.op = .call { callee := .builtin .append, args := #[s, x], argTypes := #[26, 26] }) (base : Nat) (v : Value) (es : List Crs) (hs : a.eval s = v) (hown : w.ownsRow base 45 15 v es.length (es.flatMap crsC))
    (u : Value) (fs : List Crs) (hx : a.eval x = u) (hu : IsSl crsC w u fs) (hlen : es.length + fs.length ≤ 1000000000) (hbase : base ≤ w.heap.size)
    (h : ∀ v' w', w'.ownsRow base 45 15 v' (es ++ fs).length ((es ++ fs).flatMap crsC) → Below base w w' → w.grownBy w' v.ownBlock → wpList Try.prog ops Q rest (a.put o.dst v') w') : wpList Try.prog ops Q (o :: rest) a w :=
  wpList_plain hgd fun _ hK => app_Crs s x ho base v es hs hown u fs hx hu hlen hbase fun v' w' h1 h2 h3 => hK _ _ (h v' w' h1 h2 h3)

/-- One that was built in a new block. -/
theorem one_Crs (w : World) (e : Crs) (g c : Nat) (hg : g = w.heap.size) (hc : 1 ≤ c) : IsSl crsC (w.alloc (.cells (crsC e).toArray 45)) (.slice (some ⟨g, 0, none⟩) 1 c) [e] := by
  subst hg
  refine ⟨_, _, rfl, fun h => (by cases h), hc, fun _ => ⟨_, _, rfl, fun i v hv => ?_⟩⟩
  rw [Nat.zero_add, World.cell?_alloc_new]
  simpa using hv

@[go_sem high] theorem slTo_Crs (A : Option Addr) (n c : Nat) (h : Int) (h0 : 0 ≤ h) (h2 : h ≤ c) (w : World) : (Instr.slice 26 (.slice A n c) none (some (.int .i64 h)) none).run Try.prog w = .ok (slTo 15 (.slice A n c) h.toNat) w := by
  rw [run_slice_h _ _ _ _ _ (by kernel_rfl) _ _ h0 h2]
  rw [show Try.prog.elem 26 = 45 by kernel_rfl, Try.sizeOf45]
  rfl

@[go_sem high] theorem slFrom_Crs (A : Option Addr) (n c : Nat) (h : Int) (h0 : 0 ≤ h) (h2 : h ≤ n) (w : World) : (Instr.slice 26 (.slice A n c) (some (.int .i64 h)) none none).run Try.prog w = .ok (slFrom 15 (.slice A n c) h.toNat) w := by
  rw [run_slice_l _ _ _ _ _ (by kernel_rfl) _ _ h0 h2]
  rw [show Try.prog.elem 26 = 45 by kernel_rfl, Try.sizeOf45]
  rfl

end Go.Proofs.Ytlpkaljepaclpaa.Fx
