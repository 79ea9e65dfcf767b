/- A field of an element of a row of the call's own: read, and written. A whole element of a row of one's own is written. -/
import Derived.Test.YtbblpnmcbifocaaGreatM02
import Derived.Test.YtbblpnmcbifocaaGreatM04
namespace Go.Proofs.YtbblpnmcbifocaaGreat.Fx
open Go.ChangeShapes Go.WideShapes Go.ChangeAt Go.RowKit
set_option linter.unusedVariables false
set_option maxRecDepth 100000

theorem flat_set_Crs (es : List Crs) (k q : Nat) (y z : Crs) (v : Value) (hk : es[k]? = some y) (hq : q < 15) (hz : crsC z = (crsC y).set q v) :
    (es.flatMap crsC).set (k * 15 + q) v = (es.set k z).flatMap crsC := by
  induction es generalizing k with
  | nil => simp at hk
  | cons e r ih =>
    cases k with
    | zero =>
      simp only [List.getElem?_cons_zero, Option.some.injEq] at hk
      subst hk
      simp only [List.flatMap_cons, List.set_cons_zero, Nat.zero_mul, Nat.zero_add]
      rw [List.set_append_left _ _ (by rw [crsC_len]; exact hq), hz]
    | succ k =>
      simp only [List.getElem?_cons_succ] at hk
      simp only [List.flatMap_cons, List.set_cons_succ]
      rw [List.set_append_right _ _ (by rw [crsC_len]; omega), crsC_len, show (k + 1) * 15 + q - 15 = k * 15 + q by omega, ih k hk]

/-- What a row of one's own is, at its element k. -/
theorem own_at_Crs {w : World} {base n : Nat} {v : Value} {es : List Crs} (h : w.ownsRow base 50 15 v n (es.flatMap crsC)) {k : Nat} {y : Crs} (hk : es[k]? = some y) :
    ∃ g cap, v = .slice (some ⟨g, 0, none⟩) n cap ∧ base ≤ g ∧ g < w.heap.size ∧ k < n ∧ (w.cell? ⟨g, 0 + k * 15, none⟩ = some (.int .i64 y.kind) ∧ w.cell? ⟨g, 0 + k * 15 + 1, none⟩ = some (.int .i64 y.src) ∧ w.cell? ⟨g, 0 + k * 15 + 2, none⟩ = some (.int .i64 y.dst) ∧ w.cell? ⟨g, 0 + k * 15 + 3, none⟩ = some (.int .i64 y.frame) ∧ w.cell? ⟨g, 0 + k * 15 + 4, none⟩ = some (.int .i64 y.e.id) ∧ w.cell? ⟨g, 0 + k * 15 + 5, none⟩ = some (.int .i64 y.e.kind) ∧ w.cell? ⟨g, 0 + k * 15 + 6, none⟩ = some (.int .i64 y.e.x) ∧ w.cell? ⟨g, 0 + k * 15 + 7, none⟩ = some (.int .i64 y.e.y) ∧ w.cell? ⟨g, 0 + k * 15 + 8, none⟩ = some (.int .i64 y.e.vx) ∧ w.cell? ⟨g, 0 + k * 15 + 9, none⟩ = some (.int .i64 y.e.vy) ∧ w.cell? ⟨g, 0 + k * 15 + 10, none⟩ = some (.int .i64 y.e.health) ∧ w.cell? ⟨g, 0 + k * 15 + 11, none⟩ = some (.int .i64 y.e.age) ∧ w.cell? ⟨g, 0 + k * 15 + 12, none⟩ = some (.int .i64 y.e.owner) ∧ w.cell? ⟨g, 0 + k * 15 + 13, none⟩ = some (.int .i64 y.x) ∧ w.cell? ⟨g, 0 + k * 15 + 14, none⟩ = some (.int .i64 y.y)) ∧ (∀ o, w.frozen? ⟨g, o, none⟩ = false) := by
  have hlen : es.length * 15 = n * 15 := by rw [← crsC_length]; exact h.1
  have hkl : k < es.length := by
    rcases Nat.lt_or_ge k es.length with h' | h'
    · exact h'
    · rw [List.getElem?_eq_none h'] at hk; cases hk
  rcases h.2 with ⟨-, rfl⟩ | ⟨g, cap, cur, rfl, hg, hb, -⟩
  · omega
  · obtain ⟨A, c, e1, hat⟩ := owned_cells h
    cases e1
    obtain ⟨b, off, e2, hc⟩ := elem_Crs hat hk
    cases e2
    have hb' : Blk w g 50 cur := hb
    exact ⟨g, cap, rfl, hg, hb'.lt, by omega, hc, fun o => hb'.frozen o⟩

/-- A field is written. -/
theorem own_put_Crs {w : World} {base n g cap : Nat} {es : List Crs} (h : w.ownsRow base 50 15 (.slice (some ⟨g, 0, none⟩) n cap) n (es.flatMap crsC)) {k q : Nat} {y z : Crs} {v : Value} (hk : es[k]? = some y) (hq : q < 15) (hz : crsC z = (crsC y).set q v) :
    (w.setCell ⟨g, k * 15 + q, none⟩ v).ownsRow base 50 15 (.slice (some ⟨g, 0, none⟩) n cap) n ((es.set k z).flatMap crsC) ∧ w.grownBy (w.setCell ⟨g, k * 15 + q, none⟩ v) (some g) := by
  have := h.stored (k * 15 + q) v
  rw [flat_set_Crs es k q y z v hk hq hz] at this
  exact this

end Go.Proofs.YtbblpnmcbifocaaGreat.Fx
namespace Go.Proofs.YtbblpnmcbifocaaGreat.Fx
open Go.ChangeShapes Go.WideShapes Go.ChangeAt Go.RowKit
set_option linter.unusedVariables false
set_option maxRecDepth 100000

theorem own_all_Crs {w : World} {base n g cap : Nat} {es : List Crs} (h : w.ownsRow base 50 15 (.slice (some ⟨g, 0, none⟩) n cap) n (es.flatMap crsC)) {k : Nat} {y : Crs} (hk : es[k]? = some y) (z : Crs) {W : World}
    (hW : (((((((((((((((w).setCell ⟨g, k * 15, none⟩ (.int .i64 z.kind)).setCell ⟨g, k * 15 + 1, none⟩ (.int .i64 z.src)).setCell ⟨g, k * 15 + 2, none⟩ (.int .i64 z.dst)).setCell ⟨g, k * 15 + 3, none⟩ (.int .i64 z.frame)).setCell ⟨g, k * 15 + 4, none⟩ (.int .i64 z.e.id)).setCell ⟨g, k * 15 + 5, none⟩ (.int .i64 z.e.kind)).setCell ⟨g, k * 15 + 6, none⟩ (.int .i64 z.e.x)).setCell ⟨g, k * 15 + 7, none⟩ (.int .i64 z.e.y)).setCell ⟨g, k * 15 + 8, none⟩ (.int .i64 z.e.vx)).setCell ⟨g, k * 15 + 9, none⟩ (.int .i64 z.e.vy)).setCell ⟨g, k * 15 + 10, none⟩ (.int .i64 z.e.health)).setCell ⟨g, k * 15 + 11, none⟩ (.int .i64 z.e.age)).setCell ⟨g, k * 15 + 12, none⟩ (.int .i64 z.e.owner)).setCell ⟨g, k * 15 + 13, none⟩ (.int .i64 z.x)).setCell ⟨g, k * 15 + 14, none⟩ (.int .i64 z.y) = W) :
    W.ownsRow base 50 15 (.slice (some ⟨g, 0, none⟩) n cap) n ((es.set k z).flatMap crsC) ∧ w.grownBy W (some g) := by
  subst hW
  have hl := (List.getElem?_eq_some_iff.1 hk).1
  obtain ⟨h1, g1⟩ := own_put_Crs (q := 0) h (z := ⟨z.kind, y.src, y.dst, y.frame, ⟨y.e.id, y.e.kind, y.e.x, y.e.y, y.e.vx, y.e.vy, y.e.health, y.e.age, y.e.owner⟩, y.x, y.y⟩) hk (show 0 < 15 by omega) rfl
  obtain ⟨h2, g2⟩ := own_put_Crs (q := 1) h1 (z := ⟨z.kind, z.src, y.dst, y.frame, ⟨y.e.id, y.e.kind, y.e.x, y.e.y, y.e.vx, y.e.vy, y.e.health, y.e.age, y.e.owner⟩, y.x, y.y⟩) (List.getElem?_set_self hl) (show 1 < 15 by omega) rfl
  rw [List.set_set] at h2
  obtain ⟨h3, g3⟩ := own_put_Crs (q := 2) h2 (z := ⟨z.kind, z.src, z.dst, y.frame, ⟨y.e.id, y.e.kind, y.e.x, y.e.y, y.e.vx, y.e.vy, y.e.health, y.e.age, y.e.owner⟩, y.x, y.y⟩) (List.getElem?_set_self hl) (show 2 < 15 by omega) rfl
  rw [List.set_set] at h3
  obtain ⟨h4, g4⟩ := own_put_Crs (q := 3) h3 (z := ⟨z.kind, z.src, z.dst, z.frame, ⟨y.e.id, y.e.kind, y.e.x, y.e.y, y.e.vx, y.e.vy, y.e.health, y.e.age, y.e.owner⟩, y.x, y.y⟩) (List.getElem?_set_self hl) (show 3 < 15 by omega) rfl
  rw [List.set_set] at h4
  obtain ⟨h5, g5⟩ := own_put_Crs (q := 4) h4 (z := ⟨z.kind, z.src, z.dst, z.frame, ⟨z.e.id, y.e.kind, y.e.x, y.e.y, y.e.vx, y.e.vy, y.e.health, y.e.age, y.e.owner⟩, y.x, y.y⟩) (List.getElem?_set_self hl) (show 4 < 15 by omega) rfl
  rw [List.set_set] at h5
  obtain ⟨h6, g6⟩ := own_put_Crs (q := 5) h5 (z := ⟨z.kind, z.src, z.dst, z.frame, ⟨z.e.id, z.e.kind, y.e.x, y.e.y, y.e.vx, y.e.vy, y.e.health, y.e.age, y.e.owner⟩, y.x, y.y⟩) (List.getElem?_set_self hl) (show 5 < 15 by omega) rfl
  rw [List.set_set] at h6
  obtain ⟨h7, g7⟩ := own_put_Crs (q := 6) h6 (z := ⟨z.kind, z.src, z.dst, z.frame, ⟨z.e.id, z.e.kind, z.e.x, y.e.y, y.e.vx, y.e.vy, y.e.health, y.e.age, y.e.owner⟩, y.x, y.y⟩) (List.getElem?_set_self hl) (show 6 < 15 by omega) rfl
  rw [List.set_set] at h7
  obtain ⟨h8, g8⟩ := own_put_Crs (q := 7) h7 (z := ⟨z.kind, z.src, z.dst, z.frame, ⟨z.e.id, z.e.kind, z.e.x, z.e.y, y.e.vx, y.e.vy, y.e.health, y.e.age, y.e.owner⟩, y.x, y.y⟩) (List.getElem?_set_self hl) (show 7 < 15 by omega) rfl
  rw [List.set_set] at h8
  obtain ⟨h9, g9⟩ := own_put_Crs (q := 8) h8 (z := ⟨z.kind, z.src, z.dst, z.frame, ⟨z.e.id, z.e.kind, z.e.x, z.e.y, z.e.vx, y.e.vy, y.e.health, y.e.age, y.e.owner⟩, y.x, y.y⟩) (List.getElem?_set_self hl) (show 8 < 15 by omega) rfl
  rw [List.set_set] at h9
  obtain ⟨h10, g10⟩ := own_put_Crs (q := 9) h9 (z := ⟨z.kind, z.src, z.dst, z.frame, ⟨z.e.id, z.e.kind, z.e.x, z.e.y, z.e.vx, z.e.vy, y.e.health, y.e.age, y.e.owner⟩, y.x, y.y⟩) (List.getElem?_set_self hl) (show 9 < 15 by omega) rfl
  rw [List.set_set] at h10
  obtain ⟨h11, g11⟩ := own_put_Crs (q := 10) h10 (z := ⟨z.kind, z.src, z.dst, z.frame, ⟨z.e.id, z.e.kind, z.e.x, z.e.y, z.e.vx, z.e.vy, z.e.health, y.e.age, y.e.owner⟩, y.x, y.y⟩) (List.getElem?_set_self hl) (show 10 < 15 by omega) rfl
  rw [List.set_set] at h11
  obtain ⟨h12, g12⟩ := own_put_Crs (q := 11) h11 (z := ⟨z.kind, z.src, z.dst, z.frame, ⟨z.e.id, z.e.kind, z.e.x, z.e.y, z.e.vx, z.e.vy, z.e.health, z.e.age, y.e.owner⟩, y.x, y.y⟩) (List.getElem?_set_self hl) (show 11 < 15 by omega) rfl
  rw [List.set_set] at h12
  obtain ⟨h13, g13⟩ := own_put_Crs (q := 12) h12 (z := ⟨z.kind, z.src, z.dst, z.frame, ⟨z.e.id, z.e.kind, z.e.x, z.e.y, z.e.vx, z.e.vy, z.e.health, z.e.age, z.e.owner⟩, y.x, y.y⟩) (List.getElem?_set_self hl) (show 12 < 15 by omega) rfl
  rw [List.set_set] at h13
  obtain ⟨h14, g14⟩ := own_put_Crs (q := 13) h13 (z := ⟨z.kind, z.src, z.dst, z.frame, ⟨z.e.id, z.e.kind, z.e.x, z.e.y, z.e.vx, z.e.vy, z.e.health, z.e.age, z.e.owner⟩, z.x, y.y⟩) (List.getElem?_set_self hl) (show 13 < 15 by omega) rfl
  rw [List.set_set] at h14
  obtain ⟨h15, g15⟩ := own_put_Crs (q := 14) h14 (z := ⟨z.kind, z.src, z.dst, z.frame, ⟨z.e.id, z.e.kind, z.e.x, z.e.y, z.e.vx, z.e.vy, z.e.health, z.e.age, z.e.owner⟩, z.x, z.y⟩) (List.getElem?_set_self hl) (show 14 < 15 by omega) rfl
  rw [List.set_set] at h15
  exact ⟨h15, (grown_trans (grown_trans (grown_trans (grown_trans (grown_trans (grown_trans (grown_trans (grown_trans (grown_trans (grown_trans (grown_trans (grown_trans (grown_trans (grown_trans g1 g2) g3) g4) g5) g6) g7) g8) g9) g10) g11) g12) g13) g14) g15)⟩

end Go.Proofs.YtbblpnmcbifocaaGreat.Fx
