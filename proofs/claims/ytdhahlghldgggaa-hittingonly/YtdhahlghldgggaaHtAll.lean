/- Each thing of a kind turns the health of the first one that it meets, and is gone (spend): Shots and Gems. -/
import Derived.Test.YtdhahlghldgggaaHtSpend
namespace Go.Proofs.Ytdhahlghldgggaa.Fx
open Go.ChangeShapes Go.WideShapes Go.ChangeAt Go.RowKit
set_option linter.unusedVariables false

theorem touch_append (kind r : Int) (f : Int → Int) (a b l : List Ent) : touch kind r f (a ++ b) l = touch kind r f b (touch kind r f a l) := by
  induction a generalizing l with
  | nil => rfl
  | cons e t ih => exact ih _

theorem hit_alike (r : Int) {t e : Ent} (h : Alike t e) (p : Ent) : hitB r t p = hitB r e p := by obtain ⟨⟨_, rfl⟩, -⟩ := h; rfl

theorem fst_alike (r : Int) {t e : Ent} (h : Alike t e) (l : List Ent) : fstHit r l t = fstHit r l e := by
  unfold fstHit
  rw [show hitB r t = hitB r e from funext (hit_alike r h)]

theorem stays_alike (kind r : Int) (l : List Ent) {t e : Ent} (h : Alike t e) : stays kind r l t = stays kind r l e := by
  unfold stays
  rw [fst_alike r h l, h.kind]

theorem Pw.at {x l : List Ent} (h : Pw x l) {k : Nat} {y : Ent} (hy : x[k]? = some y) : ∃ e, l[k]? = some e ∧ Alike y e := by
  induction h generalizing k with
  | nil => simp at hy
  | cons a _ ih =>
    cases k with
    | zero =>
      simp only [List.getElem?_cons_zero, Option.some.injEq] at hy
      subst hy
      exact ⟨_, rfl, a⟩
    | succ k => exact ih (by simpa using hy)

/-- Which of the first k are spent. -/
def spn (kind r : Int) (l : List Ent) (k : Nat) : List Bool := l.mapIdx fun i e => decide (i < k) && !stays kind r l e

theorem spn_len (kind r : Int) (l : List Ent) (k : Nat) : (spn kind r l k).length = l.length := by simp [spn]

theorem spn_zero (kind r : Int) (l : List Ent) : spn kind r l 0 = List.replicate l.length false := by
  apply List.ext_getElem?
  intro i
  rw [spn, List.getElem?_mapIdx, List.getElem?_replicate]
  by_cases h : i < l.length
  · rw [List.getElem?_eq_getElem h, if_pos h]; simp
  · rw [List.getElem?_eq_none (by omega), if_neg h]; rfl

theorem spn_stay {kind r : Int} {l : List Ent} {k : Nat} {e : Ent} (h : l[k]? = some e) (hs : stays kind r l e = true) : spn kind r l (k + 1) = spn kind r l k := by
  apply List.ext_getElem?
  intro i
  rw [spn, spn, List.getElem?_mapIdx, List.getElem?_mapIdx]
  by_cases hi : i = k
  · subst hi; rw [h]; simp [hs]
  · cases l[i]? with
    | none => rfl
    | some y => simp only [Option.map_some]; rw [show decide (i < k + 1) = decide (i < k) from by rw [decide_eq_decide]; omega]

theorem spn_gone {kind r : Int} {l : List Ent} {k : Nat} {e : Ent} (h : l[k]? = some e) (hs : stays kind r l e = false) : spn kind r l (k + 1) = (spn kind r l k).set k true := by
  apply List.ext_getElem?
  intro i
  rw [List.getElem?_set, spn_len, spn, spn, List.getElem?_mapIdx, List.getElem?_mapIdx]
  by_cases hi : k = i
  · subst hi
    rw [if_pos rfl, h]
    rw [if_pos (List.getElem?_eq_some_iff.1 h).1]
    simp [hs]
  · rw [if_neg hi]
    cases l[i]? with
    | none => rfl
    | some y => simp only [Option.map_some]; rw [show decide (i < k + 1) = decide (i < k) from by rw [decide_eq_decide]; omega]

theorem spn_all (kind r : Int) (l : List Ent) (k : Nat) (hk : l.length ≤ k) : spn kind r l k = l.map fun e => !stays kind r l e := by
  apply List.ext_getElem?
  intro i
  rw [spn, List.getElem?_mapIdx, List.getElem?_map]
  by_cases h : i < l.length
  · rw [List.getElem?_eq_getElem h]; simp; omega
  · rw [List.getElem?_eq_none (by omega)]; rfl

theorem wout_filter (q : Ent → Bool) (hq : ∀ y e, Alike y e → q y = q e) {x l : List Ent} (h : Pw x l) : wout x (l.map fun e => !q e) = x.filter q := by
  induction h with
  | nil => rfl
  | @cons y e x l a _ ih =>
    rw [List.map_cons, wout, ih, ← hq y e a]
    cases hy : q y
    · rw [List.filter_cons_of_neg (by simp [hy])]; simp
    · rw [List.filter_cons_of_pos hy]; simp

theorem wout_touch (kind r : Int) (f : Int → Int) (l : List Ent) (k : Nat) (hk : l.length ≤ k) : wout (touch kind r f (l.take k) l) (spn kind r l k) = touchL kind r f l := by
  rw [spn_all _ _ _ _ hk, List.take_of_length_le hk, wout_filter _ (fun _ _ h => stays_alike kind r l h) (touch_pw kind r f l l)]
  rfl

theorem modify_set {f : Ent → Ent} {l : List Ent} {j : Nat} {p : Ent} (h : l[j]? = some p) : l.modify j f = l.set j (f p) := by
  induction l generalizing j with
  | nil => simp at h
  | cons e r ih =>
    cases j with
    | zero =>
      simp only [List.getElem?_cons_zero, Option.some.injEq] at h
      subst h
      rfl
    | succ j => rw [List.modify_succ_cons, List.set_cons_succ, ih (by simpa using h)]

/-- A thing that is not of the kind, or meets nobody. -/
theorem touch_skip {kind r : Int} {f : Int → Int} {l : List Ent} {k : Nat} {t : Ent} (ht : (touch kind r f (l.take k) l)[k]? = some t) (h : ¬ t.kind = kind ∨ (touch kind r f (l.take k) l).findIdx? (hitB r t) = none) :
    touch kind r f (l.take (k + 1)) l = touch kind r f (l.take k) l ∧ spn kind r l (k + 1) = spn kind r l k := by
  have hp := touch_pw kind r f (l.take k) l
  obtain ⟨e, he, ha⟩ := hp.at ht
  have hs : ¬ e.kind = kind ∨ fstHit r l e = none := by
    rcases h with h | h
    · left; rw [← ha.kind]; exact h
    · right; rw [← hp.fst, ← fst_alike r ha]; exact h
  constructor
  · rw [take_at he, touch_append]
    show touch1 kind r f e _ = _
    unfold touch1
    rcases hs with hs | hs
    · rw [if_neg hs]
    · rw [hp.fst, hs]; simp
  · refine spn_stay he ?_
    unfold stays
    rcases hs with hs | hs <;> simp [hs]

/-- A thing that meets one. -/
theorem touch_meet {kind r : Int} {f : Int → Int} {l : List Ent} {k j : Nat} {t p : Ent} (ht : (touch kind r f (l.take k) l)[k]? = some t) (hk : t.kind = kind) (hj : (touch kind r f (l.take k) l).findIdx? (hitB r t) = some j) (hp' : (touch kind r f (l.take k) l)[j]? = some p) :
    touch kind r f (l.take (k + 1)) l = (touch kind r f (l.take k) l).set j (healthy f p) ∧ spn kind r l (k + 1) = (spn kind r l k).set k true := by
  have hp := touch_pw kind r f (l.take k) l
  obtain ⟨e, he, ha⟩ := hp.at ht
  have hs : fstHit r l e = some j := by rw [← hp.fst, ← fst_alike r ha]; exact hj
  have hke : e.kind = kind := by rw [← ha.kind]; exact hk
  constructor
  · rw [take_at he, touch_append]
    show touch1 kind r f e _ = _
    unfold touch1
    rw [if_pos hke, hp.fst, hs]
    show List.modify _ j _ = _
    exact modify_set hp'
  · refine spn_gone he ?_
    unfold stays
    simp [hs, hke]

end Go.Proofs.Ytdhahlghldgggaa.Fx
