/- What shots and blasts cost, in sum (for the law HittingSums), plainly. -/
import Derived.Test.YtdhahlghldgggaaHtPure
namespace Go.Proofs.Ytdhahlghldgggaa.Fx
open Go.ChangeShapes Go.WideShapes Go.ChangeAt Go.RowKit
set_option linter.unusedVariables false

/-- The health of all players. -/
def psum : List Ent → Int
  | [] => 0
  | e :: l => (if e.kind = 1 then e.health else 0) + psum l

/-- The health of all. -/
def hsum : List Ent → Int
  | [] => 0
  | e :: l => e.health + hsum l

/-- How many are no players. -/
def nonp : List Ent → Int
  | [] => 0
  | e :: l => (if e.kind = 1 then 0 else 1) + nonp l

/-- How many do not stay. -/
def leave (q : Ent → Bool) : List Ent → Int
  | [] => 0
  | e :: l => (if q e = true then 0 else 1) + leave q l

theorem psum_modify (f : Int → Int) {l : List Ent} {k : Nat} {p : Ent} (hk : l[k]? = some p) (hp : p.kind = 1) : psum (l.modify k (healthy f)) = psum l - p.health + f p.health := by
  induction l generalizing k with
  | nil => simp at hk
  | cons e r ih =>
    cases k with
    | zero =>
      simp only [List.getElem?_cons_zero, Option.some.injEq] at hk
      subst hk
      rw [List.modify_zero_cons]
      simp only [psum, healthy, hp, if_true]
      omega
    | succ k =>
      rw [List.getElem?_cons_succ] at hk
      rw [List.modify_succ_cons, psum, psum, ih hk]
      omega

def Within (M : Int) (l : List Ent) : Prop := ∀ p ∈ l, -M ≤ p.health ∧ p.health ≤ M

theorem within_modify {M : Int} {f : Int → Int} {l : List Ent} (h : Within M l) (k : Nat) (hf : ∀ v, -M ≤ v → v ≤ M → -(M + 20) ≤ f v ∧ f v ≤ M + 20) (hM : 0 ≤ M) : Within (M + 20) (l.modify k (healthy f)) := by
  intro p hp
  obtain ⟨i, hi⟩ := List.mem_iff_getElem?.1 hp
  rw [List.getElem?_modify] at hi
  cases hl : l[i]? with
  | none => rw [hl] at hi; cases hi
  | some q =>
    rw [hl] at hi
    have hq := h q (List.mem_of_getElem? hl)
    by_cases hik : k = i
    · simp only [hik, if_true] at hi
      cases hi
      exact hf _ hq.1 hq.2
    · simp only [hik, if_false] at hi
      cases hi
      exact ⟨by dsimp only; omega, by dsimp only; omega⟩

theorem sub20 (v : Int) (h : -1000000 ≤ v) (h' : v ≤ 1000000) : sub v 20 = v - 20 := by
  unfold sub
  rw [held_id v (by omega) (by omega), held_id 20 (by omega) (by omega), held_id _ (by omega) (by omega)]

theorem sub10 (v : Int) (h : -1000000 ≤ v) (h' : v ≤ 1000000) : sub v 10 = v - 10 := by
  unfold sub
  rw [held_id v (by omega) (by omega), held_id 10 (by omega) (by omega), held_id _ (by omega) (by omega)]

/-- Each that hits costs so much. -/
theorem touch_psum (r : Int) : ∀ (es l : List Ent) (M : Int), 0 ≤ M → Within M l → M + 20 * es.length ≤ 1000000 →
    psum (touch 2 r (fun h => sub h 20) es l) = psum l - 20 * leave (stays 2 r l) es
  | [], l, M, _, _, _ => by simp [touch, leave]
  | e :: t, l, M, h0, hw, hM => by
    rw [touch, leave]
    have hpw := touch1_pw 2 r (fun h => sub h 20) e l
    have hst : stays 2 r (touch1 2 r (fun h => sub h 20) e l) = stays 2 r l := by
      funext z
      unfold stays
      rw [hpw.fst]
    simp only [List.length_cons] at hM
    have hw1 : Within (M + 20) (touch1 2 r (fun h => sub h 20) e l) := by
      unfold touch1
      split
      · split
        · exact within_modify hw _ (fun v h1 h2 => by rw [sub20 v (by omega) (by omega)]; omega) h0
        · exact fun p hp => by have := hw p hp; omega
      · exact fun p hp => by have := hw p hp; omega
    rw [touch_psum r t _ (M + 20) (by omega) hw1 (by push_cast at hM ⊢; omega), hst]
    have h1 : psum (touch1 2 r (fun h => sub h 20) e l) = psum l - 20 * (if stays 2 r l e = true then 0 else 1) := by
      unfold touch1 stays
      by_cases hk : e.kind = 2
      · rw [if_pos hk]
        cases hf : fstHit r l e with
        | none => simp
        | some k =>
          obtain ⟨p, h1, h2, -⟩ := fst_player hf
          have hp := hw p (List.mem_of_getElem? h1)
          simp only [psum_modify _ h1 h2, sub20 p.health (by omega) (by omega)]
          simp [hk]
          omega
      · rw [if_neg hk]; simp [hk]
    rw [h1]
    omega

theorem filter_psum (q : Ent → Bool) (hq : ∀ y, q y = false → y.kind = 2) : ∀ x : List Ent, psum (x.filter q) = psum x ∧ nonp (x.filter q) = nonp x - leave q x
  | [] => by simp [psum, nonp, leave]
  | y :: x => by
    obtain ⟨h1, h2⟩ := filter_psum q hq x
    cases hy : q y
    · rw [List.filter_cons_of_neg (by simp [hy]), psum, nonp, leave, h1, h2, hq y hy, hy]
      simp
      omega
    · rw [List.filter_cons_of_pos hy, psum, nonp, psum, nonp, leave, h1, h2, hy]
      simp
      omega

theorem Pw.nonp_eq {x l : List Ent} (h : Pw x l) : nonp x = nonp l := by
  induction h with
  | nil => rfl
  | cons a _ ih => rw [nonp, nonp, ih, a.kind]

theorem Pw.leave_eq {x l : List Ent} (h : Pw x l) (q : Ent → Bool) (hq : ∀ y, y.kind = 1 → q y = true) : leave q x = leave q l := by
  induction h with
  | nil => rfl
  | @cons y e _ _ a _ ih =>
    rw [leave, leave, ih]
    obtain ⟨⟨b, rfl⟩, h2⟩ := a
    rcases h2 with h2 | h2
    · rw [hq e h2, hq _ (show (healthy (fun _ => b) e).kind = 1 from h2)]
    · rw [h2]

theorem leave_nonneg (q : Ent → Bool) : ∀ l, 0 ≤ leave q l
  | [] => by simp [leave]
  | e :: l => by have := leave_nonneg q l; rw [leave]; split <;> omega

/-- What HittingSums asks of Shots. -/
theorem shots_sums {l : List Ent} {M : Int} (h0 : 0 ≤ M) (hw : Within M l) (hM : M + 20 * l.length ≤ 1000000) :
    psum (shotsL l) = psum l - 20 * leave (stays 2 24 l) l ∧ nonp (shotsL l) = nonp l - leave (stays 2 24 l) l := by
  have hq : ∀ y, stays 2 24 l y = false → y.kind = 2 := fun y hy => by
    unfold stays at hy
    simp only [Bool.not_eq_false', Bool.and_eq_true, decide_eq_true_eq] at hy
    exact hy.1
  have hq1 : ∀ y : Ent, y.kind = 1 → stays 2 24 l y = true := fun y hy => by unfold stays; simp [hy]
  obtain ⟨h1, h2⟩ := filter_psum (stays 2 24 l) hq (touch 2 24 (fun h => sub h 20) l l)
  have hp := touch_pw 2 24 (fun h => sub h 20) l l
  refine ⟨?_, ?_⟩
  · exact h1.trans (touch_psum 24 l l M h0 hw hM)
  · refine h2.trans ?_
    rw [hp.nonp_eq, hp.leave_eq _ hq1]

/-- What a blast costs all in sum. -/
def hurts (b : Crs) : List Ent → Int
  | [] => 0
  | p :: l => (if b.kind = 2 ∧ p.kind = 1 ∧ far p.x p.y b.x b.y ≤ 128 then 10 else 0) + hurts b l

theorem blast_sum (b : Crs) : ∀ l : List Ent, Within 1000000 l → hsum (l.map (blast1 b)) = hsum l - hurts b l
  | [], _ => by simp [hsum, hurts]
  | p :: l, h => by
    have hp := h p (by simp)
    rw [List.map_cons, hsum, hsum, hurts, blast_sum b l fun q hq => h q (by simp [hq])]
    unfold blast1
    split
    · simp only [healthy, sub10 p.health hp.1 hp.2]; omega
    · omega

end Go.Proofs.Ytdhahlghldgggaa.Fx
