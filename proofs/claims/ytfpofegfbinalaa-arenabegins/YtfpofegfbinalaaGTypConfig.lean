/- Config: its values, its cells, when two are equal; slices of them. -/
import Derived.Test.YtfpofegfbinalaaGRows
import Derived.Laws.StructEq
namespace Go.Proofs.Ytfpofegfbinalaa.Fx
open Go.ChangeShapes Go.WideShapes Go.ChangeAt Go.RowKit
set_option linter.unusedVariables false
set_option maxRecDepth 100000

structure Cfg where
  cols : Int
  rows : Int
  players : Int
  window : Int
  seed : Int
  deriving DecidableEq

/-- Its cells. -/
def cfgC (e : Cfg) : List Value := [.int .i64 e.cols, .int .i64 e.rows, .int .i64 e.players, .int .i64 e.window, .int .u64 e.seed]

/-- Every number of it fits its kind. -/
def Cfg.ok (e : Cfg) : Prop := (Lit.int .i64 e.cols).wf = true ∧ (Lit.int .i64 e.rows).wf = true ∧ (Lit.int .i64 e.players).wf = true ∧ (Lit.int .i64 e.window).wf = true ∧ (Lit.int .u64 e.seed).wf = true

instance : Inhabited Cfg := ⟨⟨0, 0, 0, 0, 0⟩⟩

theorem cfgC_len (e : Cfg) : (cfgC e).length = 5 := rfl

theorem cfgC_one (e : Cfg) : ∀ u ∈ cfgC e, u.oneCell' = true := by simp [cfgC, Value.oneCell']

theorem cfgC_flat (es : List Cfg) : ∀ u ∈ es.flatMap cfgC, u.oneCell' = true := by
  intro u hu
  obtain ⟨e, -, he⟩ := List.mem_flatMap.1 hu
  exact cfgC_one e u he

theorem cfgC_length (es : List Cfg) : (es.flatMap cfgC).length = es.length * 5 := flat_len cfgC 5 cfgC_len es

theorem info_Cfg : (Try.prog.info? 24).map (fun i => (i.zero, i.size, i.bytes)) = some (some (.agg #[.int .i64 0, .int .i64 0, .int .i64 0, .int .i64 0, .int .u64 0]), 5, 40) := by kernel_rfl

/-- Are two the same? -/
def eqCfg (a b : Cfg) : Bool := decide (a = b)

@[go_sem] theorem eqCfg_self (a : Cfg) : eqCfg a a = true := by simp [eqCfg]

theorem equal_Cfg (a b : Cfg) (w : World) : (Op.equalIn 10000 24 (.agg #[.int .i64 a.cols, .int .i64 a.rows, .int .i64 a.players, .int .i64 a.window, .int .u64 a.seed]) (.agg #[.int .i64 b.cols, .int .i64 b.rows, .int .i64 b.players, .int .i64 b.window, .int .u64 b.seed])).run Try.prog w = .ok (eqCfg a b) w := by
  have hS : Try.prog.underlying 24 = some (.struct (Try.prog.fieldsOf 24)) := by kernel_rfl
  have hp : Try.prog.stoodInHeld 24 = false := by kernel_rfl
  rw [show (10000 : Nat) = 9999 + 1 from rfl, run_equalIn_agg w 9999 24 _ _ hS hp]
  simp only [Program.fieldsOf, Try.underlying24]
  go_simp
  unfold eqCfg
  obtain ⟨a_cols, a_rows, a_players, a_window, a_seed⟩ := a
  obtain ⟨b_cols, b_rows, b_players, b_window, b_seed⟩ := b
  by_cases h0 : a_cols = b_cols
  rotate_left 1
  · simp [h0]
  by_cases h1 : a_rows = b_rows
  rotate_left 1
  · simp [h1, h0]
  by_cases h2 : a_players = b_players
  rotate_left 1
  · simp [h2, h0, h1]
  by_cases h3 : a_window = b_window
  rotate_left 1
  · simp [h3, h0, h1, h2]
  by_cases h4 : a_seed = b_seed
  rotate_left 1
  · simp [h4, h0, h1, h2, h3]
  subst h0 h1 h2 h3 h4
  simp

@[go_sem high] theorem eql_Cfg (a b : Cfg) (w : World) : (binOp .eql 24 (.agg #[.int .i64 a.cols, .int .i64 a.rows, .int .i64 a.players, .int .i64 a.window, .int .u64 a.seed]) (.agg #[.int .i64 b.cols, .int .i64 b.rows, .int .i64 b.players, .int .i64 b.window, .int .u64 b.seed])).run Try.prog w = .ok (.bool (eqCfg a b)) w := by
  rw [run_eql_struct, equal_Cfg]; rfl

@[go_sem high] theorem neq_Cfg (a b : Cfg) (w : World) : (binOp .neq 24 (.agg #[.int .i64 a.cols, .int .i64 a.rows, .int .i64 a.players, .int .i64 a.window, .int .u64 a.seed]) (.agg #[.int .i64 b.cols, .int .i64 b.rows, .int .i64 b.players, .int .i64 b.window, .int .u64 b.seed])).run Try.prog w = .ok (.bool (!eqCfg a b)) w := by
  rw [run_neq_struct, equal_Cfg]; rfl

/-- The cells of an element. -/
theorem elem_Cfg {w : World} {A : Option Addr} {es : List Cfg} (h : CellsAt w A (es.flatMap cfgC)) {k : Nat} {e : Cfg} (hk : es[k]? = some e) :
    ∃ b off, A = some ⟨b, off, none⟩ ∧ (w.cell? ⟨b, off + k * 5, none⟩ = some (.int .i64 e.cols) ∧ w.cell? ⟨b, off + k * 5 + 1, none⟩ = some (.int .i64 e.rows) ∧ w.cell? ⟨b, off + k * 5 + 2, none⟩ = some (.int .i64 e.players) ∧ w.cell? ⟨b, off + k * 5 + 3, none⟩ = some (.int .i64 e.window) ∧ w.cell? ⟨b, off + k * 5 + 4, none⟩ = some (.int .u64 e.seed)) := by
  obtain ⟨b, off, hA, hc⟩ := h.elem 5 cfgC_len (by omega) hk
  exact ⟨b, off, hA, hc 0 _ rfl, hc 1 _ rfl, hc 2 _ rfl, hc 3 _ rfl, hc 4 _ rfl⟩

/-- One that was built in a new block. -/
theorem one_Cfg (w : World) (e : Cfg) (g c : Nat) (hg : g = w.heap.size) (hc : 1 ≤ c) : IsSl cfgC (w.alloc (.cells (cfgC e).toArray 24)) (.slice (some ⟨g, 0, none⟩) 1 c) [e] := by
  subst hg
  refine ⟨_, _, rfl, fun h => (by cases h), hc, fun _ => ⟨_, _, rfl, fun i v hv => ?_⟩⟩
  rw [Nat.zero_add, World.cell?_alloc_new]
  simpa using hv

end Go.Proofs.Ytfpofegfbinalaa.Fx
