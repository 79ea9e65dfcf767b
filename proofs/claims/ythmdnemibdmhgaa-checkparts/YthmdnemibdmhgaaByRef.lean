/- The document's Reader: what its calls answer. -/
import Derived.Test.YthmdnemibdmhgaaByAwkA
import Derived.Test.YthmdnemibdmhgaaGSeq
namespace Go.Proofs.Ythmdnemibdmhgaa.Fx
open Go.ChangeShapes Go.WideShapes Go.ChangeAt Go.RowKit
set_option linter.unusedVariables false
set_option maxRecDepth 100000

theorem nlen_none {l : List Int} (h : ∀ (i : Nat) (x : Int), l[i]? = some x → ¬ x < 128) : nlen l = 0 := by
  induction l with
  | nil => rfl
  | cons y l ih =>
    have h1 := ih (fun i x hx => h (i + 1) x (by simpa using hx))
    have h2 := h 0 y rfl
    unfold nlen at *
    rw [List.findIdx?_cons, if_neg (by simpa using h2)]
    cases hf : l.findIdx? (fun c => decide (c < 128)) with
    | none => rfl
    | some k => rw [hf] at h1; simp at h1

theorem nlen_some {l : List Int} {k : Nat} {x : Int} (hk : l[k]? = some x) (hx : x < 128) (h : ∀ (i : Nat), i < k → ∀ y, l[i]? = some y → ¬ y < 128) : nlen l = k + 1 := by
  induction l generalizing k with
  | nil => simp at hk
  | cons y l ih =>
    cases k with
    | zero => simp at hk; subst hk; exact nlen_lt hx
    | succ k =>
      have h1 := ih (k := k) (by simpa using hk) (fun i hi z hz => h (i + 1) (by omega) z (by simpa using hz))
      rw [nlen_ge (h 0 (by omega) y rfl) (by omega), h1]

theorem pos_flat {L : List Int} (h : L.flatMap byC ≠ []) : 0 < L.length := by
  cases L with
  | nil => exact absurd rfl h
  | cons x L => simp

/-- The document's Reader in block c: of the bytes L. -/
structure RfAt (w : World) (c : Nat) (v : Value) (L : List Int) (p : Nat) (r : Rd) : Prop where
  lt : c < w.heap.size
  c0 : w.cell? ⟨c, 0, none⟩ = some v
  c1 : w.cell? ⟨c, 1, none⟩ = some (.int .i64 p)
  c2 : w.cell? ⟨c, 2, none⟩ = some (.int .i64 r.e)
  f1 : w.frozen? ⟨c, 1, none⟩ = false
  f2 : w.frozen? ⟨c, 2, none⟩ = false
  sl : IsSl byC w v L
  off : ∀ a n k, v = .slice (some a) n k → 0 < n → a.block ≠ c
  yes : r.e = 0 → p ≤ L.length ∧ r.l = L.drop p
  no : r.e ≠ 0 → r.l = []

theorem RfAt.below {w w' : World} {c : Nat} {v : Value} {L : List Int} {p : Nat} {r : Rd} (h : RfAt w c v L p r) (hb : Below w.heap.size w w') : RfAt w' c v L p r :=
  ⟨Nat.lt_of_lt_of_le h.lt hb.size, (hb.cell (p := ⟨c, 0, none⟩) h.lt).trans h.c0, (hb.cell (p := ⟨c, 1, none⟩) h.lt).trans h.c1, (hb.cell (p := ⟨c, 2, none⟩) h.lt).trans h.c2, (hb.frozen (p := ⟨c, 1, none⟩) h.lt).trans h.f1, (hb.frozen (p := ⟨c, 2, none⟩) h.lt).trans h.f2, h.sl.below hb, h.off, h.yes, h.no⟩

/-- Another block was written. -/
theorem RfAt.grown {w w' : World} {c b : Nat} {v : Value} {L : List Int} {p : Nat} {r : Rd} (h : RfAt w c v L p r) (hg : w.grownBy w' (some b)) (hne : c ≠ b) (hv : ∀ a n k, v = .slice (some a) n k → 0 < n → a.block ≠ b) : RfAt w' c v L p r := by
  refine ⟨Nat.lt_of_lt_of_le h.lt hg.size, grown_cell hg (by simp [hne]) h.c0, grown_cell hg (by simp [hne]) h.c1, grown_cell hg (by simp [hne]) h.c2, (grown_frozen hg h.lt (by simp [hne])).trans h.f1, (grown_frozen hg h.lt (by simp [hne])).trans h.f2, ?_, h.off, h.yes, h.no⟩
  obtain ⟨A, k, rfl, hA, hc, hat⟩ := h.sl
  refine ⟨A, k, rfl, hA, hc, fun hx => ?_⟩
  obtain ⟨g, off, rfl, hcell⟩ := hat hx
  have := hv _ _ _ rfl (pos_flat hx)
  exact ⟨g, off, rfl, fun i u hu => grown_cell hg (by simpa using this) (hcell i u hu)⟩

theorem RfAt.move {w : World} {c : Nat} {v : Value} {L : List Int} {p : Nat} {r : Rd} (h : RfAt w c v L p r) (he : r.e = 0) (n : Nat) (hn : p + n ≤ L.length) (z : Int) (hz : z = ((p + n : Nat) : Int)) :
    RfAt (w.setCell ⟨c, 1, none⟩ (.int .i64 z)) c v L (p + n) ⟨r.l.drop n, 0⟩ ∧ w.grownBy (w.setCell ⟨c, 1, none⟩ (.int .i64 z)) (some c) := by
  subst hz
  have hg : w.grownBy (w.setCell ⟨c, 1, none⟩ (.int .i64 ((p + n : Nat) : Int))) (some c) := ⟨rfl, rfl, rfl, by simp, fun k hk hne => Below.heap_setCell _ _ _ _ (by intro e; apply hne; rw [e])⟩
  have h2 := h.c2
  rw [he] at h2
  refine ⟨⟨by simp; exact h.lt, by rw [World.cell?_setCell_other _ _ _ _ (by simp)]; exact h.c0, World.cell?_setCell_same _ _ _ h.c1, by rw [World.cell?_setCell_other _ _ _ _ (by simp)]; exact h2, by rw [World.frozen?_setCell]; exact h.f1, by rw [World.frozen?_setCell]; exact h.f2, ?_, h.off, fun _ => ⟨hn, by rw [(h.yes he).2, List.drop_drop]⟩, fun h => absurd rfl h⟩, hg⟩
  have hv := h.off
  obtain ⟨A, k, rfl, hA, hc, hat⟩ := h.sl
  refine ⟨A, k, rfl, hA, hc, fun hx => ?_⟩
  obtain ⟨g, off, rfl, hcell⟩ := hat hx
  have := hv _ _ _ rfl (pos_flat hx)
  exact ⟨g, off, rfl, fun i u hu => grown_cell hg (by simpa using this) (hcell i u hu)⟩

/-- What a call of the document's Reader leaves. -/
def RfEnd (w : World) (c : Nat) (v : Value) (L : List Int) (q : Int × Rd) (e : Ending) (w' : World) : Prop := e = .returned (.int .i64 q.1) ∧ (∃ p, RfAt w' c v L p q.2) ∧ w.grownBy w' (some c)

end Go.Proofs.Ythmdnemibdmhgaa.Fx
