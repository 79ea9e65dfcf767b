/- Entity by value: its fields. awake of joustlaw07, and joustplay.Input: what they return; old memory stays. A field of an element of a row of the call's own: read, and written. -/
import Derived.Test.YtfpofegfbinalaaGreatM02
import Derived.Test.YtfpofegfbinalaaGreatM22
import Derived.Test.YtfpofegfbinalaaGreatM23
import Derived.Test.YtfpofegfbinalaaGreatM01
import Derived.Test.YtfpofegfbinalaaGreatM04
namespace Go.Proofs.YtfpofegfbinalaaGreat.Fx
open Go.ChangeShapes Go.WideShapes Go.ChangeAt Go.RowKit
set_option linter.unusedVariables false
set_option maxRecDepth 100000

@[go_sem] theorem fld_Ent_0 (v0 v1 v2 v3 v4 v5 v6 v7 v8 : Value) (w : World) : (Instr.field 45 (.agg #[v0, v1, v2, v3, v4, v5, v6, v7, v8]) 0).run Tryz.prog w = .ok v0 w := by kernel_rfl

@[go_sem] theorem fld_Ent_1 (v0 v1 v2 v3 v4 v5 v6 v7 v8 : Value) (w : World) : (Instr.field 45 (.agg #[v0, v1, v2, v3, v4, v5, v6, v7, v8]) 1).run Tryz.prog w = .ok v1 w := by kernel_rfl

@[go_sem] theorem fld_Ent_2 (v0 v1 v2 v3 v4 v5 v6 v7 v8 : Value) (w : World) : (Instr.field 45 (.agg #[v0, v1, v2, v3, v4, v5, v6, v7, v8]) 2).run Tryz.prog w = .ok v2 w := by kernel_rfl

@[go_sem] theorem fld_Ent_3 (v0 v1 v2 v3 v4 v5 v6 v7 v8 : Value) (w : World) : (Instr.field 45 (.agg #[v0, v1, v2, v3, v4, v5, v6, v7, v8]) 3).run Tryz.prog w = .ok v3 w := by kernel_rfl

@[go_sem] theorem fld_Ent_4 (v0 v1 v2 v3 v4 v5 v6 v7 v8 : Value) (w : World) : (Instr.field 45 (.agg #[v0, v1, v2, v3, v4, v5, v6, v7, v8]) 4).run Tryz.prog w = .ok v4 w := by kernel_rfl

@[go_sem] theorem fld_Ent_5 (v0 v1 v2 v3 v4 v5 v6 v7 v8 : Value) (w : World) : (Instr.field 45 (.agg #[v0, v1, v2, v3, v4, v5, v6, v7, v8]) 5).run Tryz.prog w = .ok v5 w := by kernel_rfl

@[go_sem] theorem fld_Ent_6 (v0 v1 v2 v3 v4 v5 v6 v7 v8 : Value) (w : World) : (Instr.field 45 (.agg #[v0, v1, v2, v3, v4, v5, v6, v7, v8]) 6).run Tryz.prog w = .ok v6 w := by kernel_rfl

@[go_sem] theorem fld_Ent_7 (v0 v1 v2 v3 v4 v5 v6 v7 v8 : Value) (w : World) : (Instr.field 45 (.agg #[v0, v1, v2, v3, v4, v5, v6, v7, v8]) 7).run Tryz.prog w = .ok v7 w := by kernel_rfl

@[go_sem] theorem fld_Ent_8 (v0 v1 v2 v3 v4 v5 v6 v7 v8 : Value) (w : World) : (Instr.field 45 (.agg #[v0, v1, v2, v3, v4, v5, v6, v7, v8]) 8).run Tryz.prog w = .ok v8 w := by kernel_rfl

end Go.Proofs.YtfpofegfbinalaaGreat.Fx
namespace Go.Proofs.YtfpofegfbinalaaGreat.Fx
open Go.ChangeShapes Go.WideShapes Go.ChangeAt Go.RowKit
set_option linter.unusedVariables false
set_option maxRecDepth 100000

/-- An input that is right comes back. -/
def RetInp (f : Bool) (w : World) (e : Ending) (w' : World) : Prop := ∃ x y, e = .returned (.agg #[.int .i64 x, .int .i64 y, .bool f]) ∧ irt x y = true ∧ Below w.heap.size w w'

theorem umod5 (x : Int) : ∃ r : Int, wrap64 (wrap64 ((IntKind.u64.wrap x).tmod 5) - 2) = r ∧ -2 ≤ r ∧ r ≤ 2 := by
  refine ⟨_, rfl, ?_⟩
  obtain ⟨h1, h2, h3⟩ := umod x 5 (by decide) (by decide)
  rw [h1, IntWalk.wrap64_in _ (by omega)]
  omega

theorem pinput_any (x y : Int) (f : Bool) (w : World) :
    Calls Tryz.prog 32 #[.agg #[.int .i64 x, .int .i64 y, .bool f]] w (RetInp f w) := by
  have HT := Lib.hid (fun w => rinput_in x y f w)
  by_cases h : irt x y = true
  · have HS := Lib.hid h
    rw [h] at HT
    clear h
    go_enter Tryz.func32, Tryz.ntmps32
    go_wp2_with fail
    refine (HT.out _).mono ?_
    rintro e w1 ⟨rfl, hbw1⟩
    obtain ⟨hcw1, hfw1⟩ := bcell hbw1
    have hzw1 : w.heap.size < w1.heap.size := by have := hbw1.size; (try simp at this); omega
    have hzw1_1 : w.heap.size + 1 < w1.heap.size := by have := hbw1.size; (try simp at this); omega
    have Hbw1 := Lib.hid hbw1
    clear hbw1
    go_wp2
    refine bodyPost_ret (v := .agg #[.int .i64 x, .int .i64 y, .bool f]) (by simp [results, Tryz.results32, go_sem, hcw1]) rfl ⟨x, y, rfl, HS.out, ?_⟩
    exact (((unbox (unbox Hbw1.out)).setCell (Nat.le_succ _) _).setCell (Nat.le_succ _) _).setCell (Nat.le_succ _) _
  · rw [Bool.not_eq_true] at h
    rw [h] at HT
    clear h
    obtain ⟨r, e1, r1⟩ := umod5 x
    obtain ⟨q, e2, q1⟩ := umod5 y
    have HS := Lib.hid (show irt r q = true from decide_eq_true (by omega))
    have E1 := Lib.hid e1
    have E2 := Lib.hid e2
    clear e1 e2 r1 q1
    go_enter Tryz.func32, Tryz.ntmps32
    go_wp2_with fail
    refine (HT.out _).mono ?_
    rintro e w1 ⟨rfl, hbw1⟩
    obtain ⟨hcw1, hfw1⟩ := bcell hbw1
    have hzw1 : w.heap.size < w1.heap.size := by have := hbw1.size; (try simp at this); omega
    have hzw1_1 : w.heap.size + 1 < w1.heap.size := by have := hbw1.size; (try simp at this); omega
    have Hbw1 := Lib.hid hbw1
    clear hbw1
    go_wp2
    rw [E1.out, E2.out]
    refine bodyPost_ret (v := .agg #[.int .i64 r, .int .i64 q, .bool f]) (by simp [results, Tryz.results32, go_sem, hcw1]) rfl ⟨r, q, rfl, HS.out, ?_⟩
    exact (((unbox (unbox Hbw1.out)).setCell (Nat.le_succ _) _).setCell (Nat.le_succ _) _).setCell (Nat.le_succ _) _

end Go.Proofs.YtfpofegfbinalaaGreat.Fx
namespace Go.Proofs.YtfpofegfbinalaaGreat.Fx
open Go.ChangeShapes Go.WideShapes Go.ChangeAt Go.RowKit
set_option linter.unusedVariables false
set_option maxRecDepth 100000

theorem flat_set_Inp (es : List Inp) (k q : Nat) (y z : Inp) (v : Value) (hk : es[k]? = some y) (hq : q < 3) (hz : inpC z = (inpC y).set q v) :
    (es.flatMap inpC).set (k * 3 + q) v = (es.set k z).flatMap inpC := by
  induction es generalizing k with
  | nil => simp at hk
  | cons e r ih =>
    cases k with
    | zero =>
      simp only [List.getElem?_cons_zero, Option.some.injEq] at hk
      subst hk
      simp only [List.flatMap_cons, List.set_cons_zero, Nat.zero_mul, Nat.zero_add]
      rw [List.set_append_left _ _ (by rw [inpC_len]; exact hq), hz]
    | succ k =>
      simp only [List.getElem?_cons_succ] at hk
      simp only [List.flatMap_cons, List.set_cons_succ]
      rw [List.set_append_right _ _ (by rw [inpC_len]; omega), inpC_len, show (k + 1) * 3 + q - 3 = k * 3 + q by omega, ih k hk]

/-- What a row of one's own is, at its element k. -/
theorem own_at_Inp {w : World} {base n : Nat} {v : Value} {es : List Inp} (h : w.ownsRow base 71 3 v n (es.flatMap inpC)) {k : Nat} {y : Inp} (hk : es[k]? = some y) :
    ∃ g cap, v = .slice (some ⟨g, 0, none⟩) n cap ∧ base ≤ g ∧ g < w.heap.size ∧ k < n ∧ (w.cell? ⟨g, 0 + k * 3, none⟩ = some (.int .i64 y.dx) ∧ w.cell? ⟨g, 0 + k * 3 + 1, none⟩ = some (.int .i64 y.dy) ∧ w.cell? ⟨g, 0 + k * 3 + 2, none⟩ = some (.bool y.fire)) ∧ (∀ o, w.frozen? ⟨g, o, none⟩ = false) := by
  have hlen : es.length * 3 = n * 3 := by rw [← inpC_length]; exact h.1
  have hkl : k < es.length := by
    rcases Nat.lt_or_ge k es.length with h' | h'
    · exact h'
    · rw [List.getElem?_eq_none h'] at hk; cases hk
  rcases h.2 with ⟨-, rfl⟩ | ⟨g, cap, cur, rfl, hg, hb, -⟩
  · omega
  · obtain ⟨A, c, e1, hat⟩ := owned_cells h
    cases e1
    obtain ⟨b, off, e2, hc⟩ := elem_Inp hat hk
    cases e2
    have hb' : Blk w g 71 cur := hb
    exact ⟨g, cap, rfl, hg, hb'.lt, by omega, hc, fun o => hb'.frozen o⟩

/-- A field is written. -/
theorem own_put_Inp {w : World} {base n g cap : Nat} {es : List Inp} (h : w.ownsRow base 71 3 (.slice (some ⟨g, 0, none⟩) n cap) n (es.flatMap inpC)) {k q : Nat} {y z : Inp} {v : Value} (hk : es[k]? = some y) (hq : q < 3) (hz : inpC z = (inpC y).set q v) :
    (w.setCell ⟨g, k * 3 + q, none⟩ v).ownsRow base 71 3 (.slice (some ⟨g, 0, none⟩) n cap) n ((es.set k z).flatMap inpC) ∧ w.grownBy (w.setCell ⟨g, k * 3 + q, none⟩ v) (some g) := by
  have := h.stored (k * 3 + q) v
  rw [flat_set_Inp es k q y z v hk hq hz] at this
  exact this

end Go.Proofs.YtfpofegfbinalaaGreat.Fx
