/- A field of an element of a row of the call's own: read, and written. -/
import Derived.Test.YtdhahlghldgggaaGTypEntity
import Derived.Test.YtdhahlghldgggaaGCopy
namespace Go.Proofs.Ytdhahlghldgggaa.Fx
open Go.ChangeShapes Go.WideShapes Go.ChangeAt Go.RowKit
set_option linter.unusedVariables false

theorem flat_set_Ent (es : List Ent) (k q : Nat) (y z : Ent) (v : Value) (hk : es[k]? = some y) (hq : q < 9) (hz : entC z = (entC y).set q v) :
    (es.flatMap entC).set (k * 9 + q) v = (es.set k z).flatMap entC := by
  induction es generalizing k with
  | nil => simp at hk
  | cons e r ih =>
    cases k with
    | zero =>
      simp only [List.getElem?_cons_zero, Option.some.injEq] at hk
      subst hk
      simp only [List.flatMap_cons, List.set_cons_zero, Nat.zero_mul, Nat.zero_add]
      rw [List.set_append_left _ _ (by rw [entC_len]; exact hq), hz]
    | succ k =>
      simp only [List.getElem?_cons_succ] at hk
      simp only [List.flatMap_cons, List.set_cons_succ]
      rw [List.set_append_right _ _ (by rw [entC_len]; omega), entC_len, show (k + 1) * 9 + q - 9 = k * 9 + q by omega, ih k hk]

/-- What a row of one's own is, at its element k. -/
theorem own_at_Ent {w : World} {base n : Nat} {v : Value} {es : List Ent} (h : w.ownsRow base 28 9 v n (es.flatMap entC)) {k : Nat} {y : Ent} (hk : es[k]? = some y) :
    ∃ g cap, v = .slice (some ⟨g, 0, none⟩) n cap ∧ base ≤ g ∧ g < w.heap.size ∧ k < n ∧ (w.cell? ⟨g, 0 + k * 9, none⟩ = some (.int .i64 y.id) ∧ w.cell? ⟨g, 0 + k * 9 + 1, none⟩ = some (.int .i64 y.kind) ∧ w.cell? ⟨g, 0 + k * 9 + 2, none⟩ = some (.int .i64 y.x) ∧ w.cell? ⟨g, 0 + k * 9 + 3, none⟩ = some (.int .i64 y.y) ∧ w.cell? ⟨g, 0 + k * 9 + 4, none⟩ = some (.int .i64 y.vx) ∧ w.cell? ⟨g, 0 + k * 9 + 5, none⟩ = some (.int .i64 y.vy) ∧ w.cell? ⟨g, 0 + k * 9 + 6, none⟩ = some (.int .i64 y.health) ∧ w.cell? ⟨g, 0 + k * 9 + 7, none⟩ = some (.int .i64 y.age) ∧ w.cell? ⟨g, 0 + k * 9 + 8, none⟩ = some (.int .i64 y.owner)) ∧ (∀ o, w.frozen? ⟨g, o, none⟩ = false) := by
  have hlen : es.length * 9 = n * 9 := by rw [← entC_length]; exact h.1
  have hkl : k < es.length := by
    rcases Nat.lt_or_ge k es.length with h' | h'
    · exact h'
    · rw [List.getElem?_eq_none h'] at hk; cases hk
  rcases h.2 with ⟨-, rfl⟩ | ⟨g, cap, cur, rfl, hg, hb, -⟩
  · omega
  · obtain ⟨A, c, e1, hat⟩ := owned_cells h
    cases e1
    obtain ⟨b, off, e2, hc⟩ := elem_Ent hat hk
    cases e2
    have hb' : Blk w g 28 cur := hb
    exact ⟨g, cap, rfl, hg, hb'.lt, by omega, hc, fun o => hb'.frozen o⟩

/-- A field is written. -/
theorem own_put_Ent {w : World} {base n g cap : Nat} {es : List Ent} (h : w.ownsRow base 28 9 (.slice (some ⟨g, 0, none⟩) n cap) n (es.flatMap entC)) {k q : Nat} {y z : Ent} {v : Value} (hk : es[k]? = some y) (hq : q < 9) (hz : entC z = (entC y).set q v) :
    (w.setCell ⟨g, k * 9 + q, none⟩ v).ownsRow base 28 9 (.slice (some ⟨g, 0, none⟩) n cap) n ((es.set k z).flatMap entC) ∧ w.grownBy (w.setCell ⟨g, k * 9 + q, none⟩ v) (some g) := by
  have := h.stored (k * 9 + q) v
  rw [flat_set_Ent es k q y z v hk hq hz] at this
  exact this

end Go.Proofs.Ytdhahlghldgggaa.Fx
