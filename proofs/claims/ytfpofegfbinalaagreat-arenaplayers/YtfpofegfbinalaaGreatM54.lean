/- A world of regions, plainly: what it is behind a step; it stays right. Whose number is whose: what is there behind a step was there, or is new. All numbers of a world are unlike, and stay so. -/
import Derived.Test.YtfpofegfbinalaaGreatM53
import Derived.Test.YtfpofegfbinalaaGreatM47
namespace Go.Proofs.YtfpofegfbinalaaGreat.Fx
open Go.ChangeShapes Go.WideShapes Go.ChangeAt Go.RowKit
set_option linter.unusedVariables false
set_option maxRecDepth 100000

/-- What comes into region r. -/
def inW (a b p n : Int) (os : List (List Crs)) (r : Int) : List Crs := inboxL (nr a b p n r) os r

/-- A world that is right, ahead of frame f. -/
structure WOk (a b : Int) (P : Nat) (n f : Int) (R : Nat) (fs : List (Int × List Ent)) (os : List (List Crs)) : Prop where
  lenF : fs.length = R
  lenO : os.length = R
  reg : ∀ (r : Nat) g, fs[r]? = some g → g.1 = f ∧ Okl a b P n g.2 ∧ Here a b P n r g.2 ∧ things g.2 ≤ 24
  out : ∀ (r : Nat) o, os[r]? = some o → o.length ≤ 600 ∧ ∀ c ∈ o, crightB a b P n c = true ∧ c.src = r ∧ c.frame = f - 1

theorem inW_ok {a b n f : Int} {P R : Nat} {fs : List (Int × List Ent)} {os : List (List Crs)} (h : WOk a b P n f R fs os) (r : Int) : ∀ c ∈ inW a b P n os r, inOk a b P n r f c = true := by
  intro c hc
  unfold inW inboxL at hc
  obtain ⟨q, hq, hc⟩ := List.mem_flatMap.1 hc
  unfold sentL at hc
  split at hc
  · unfold toL at hc
    obtain ⟨h1, h2⟩ := List.mem_filter.1 hc
    have hd : c.dst = r := by simpa using h2
    by_cases hl : q.toNat < os.length
    · rw [List.getD_eq_getElem?_getD, List.getElem?_eq_getElem hl] at h1
      obtain ⟨-, hall⟩ := h.out q.toNat _ (List.getElem?_eq_getElem hl)
      obtain ⟨e1, -, e3⟩ := hall c h1
      unfold inOk
      rw [e1, hd, e3]
      simp
    · rw [List.getD_eq_getElem?_getD, List.getElem?_eq_none (by omega)] at h1
      simp at h1
  · simp at hc

theorem wok_asked {a b n f : Int} {P R : Nat} {fs : List (Int × List Ent)} {os : List (List Crs)} (hR : regs a b P n = R) (h : WOk a b P n f R fs os) (hf : 0 ≤ f ∧ f ≤ 9999) {r : Nat} {g : Int × List Ent} (hg : fs[r]? = some g) : hasB a b P n r = true ∧ Asked a b P n r f g.2 (inW a b P n os r) ∧ (∀ xs : List Inp, xs.length = P ∧ xs.all irtI = true → whyNot a b P n r f g.2 xs (inW a b P n os r) = 0) := by
  have hr : r < R := by have := (List.getElem?_eq_some_iff.1 hg).1; rw [h.lenF] at this; exact this
  have hh : hasB a b P n r = true := by unfold hasB; rw [hR]; exact decide_eq_true (by omega)
  obtain ⟨-, h1, h2, h3⟩ := h.reg r g hg
  exact ⟨hh, (asked_ok hh hf h1 h2 h3 (inW_ok h r)).2, fun xs hx => why_ok hh hf h1 h2 h3 (inW_ok h r) hx⟩

/-- The world one frame later. -/
def stepF (a b p n s : Int) (inp : Int → Inp) (fs : List (Int × List Ent)) (os : List (List Crs)) : List (Int × List Ent) := fs.mapIdx fun r g => (g.1 + 1, stayL a b p n s r g.1 inp g.2 (inW a b p n os r))

def stepO (a b p n s : Int) (inp : Int → Inp) (fs : List (Int × List Ent)) (os : List (List Crs)) : List (List Crs) := fs.mapIdx fun r g => st lessB (outsL a b p n s r g.1 inp g.2 (inW a b p n os r))

theorem wok_step {a b n f s : Int} {P R : Nat} (hP : P ≤ 6) {fs : List (Int × List Ent)} {os : List (List Crs)} (hR : regs a b P n = R) (h : WOk a b P n f R fs os) (hf : 0 ≤ f ∧ f ≤ 9999) (inp : Int → Inp) : WOk a b P n (f + 1) R (stepF a b P n s inp fs os) (stepO a b P n s inp fs os) := by
  refine ⟨by unfold stepF; rw [List.length_mapIdx, h.lenF], by unfold stepO; rw [List.length_mapIdx, h.lenF], fun r g hg => ?_, fun r o ho => ?_⟩
  · unfold stepF at hg
    rw [List.getElem?_mapIdx] at hg
    obtain ⟨g0, hg0, rfl⟩ := Option.map_eq_some_iff.1 hg
    obtain ⟨-, hA, -⟩ := wok_asked hR h hf hg0
    have hf0 := (h.reg r g0 hg0).1
    rw [← hf0] at hA
    obtain ⟨s1, s2, s3⟩ := stay_ok (s := s) (inp := inp) hA
    exact ⟨by rw [hf0], s1, s2, s3⟩
  · unfold stepO at ho
    rw [List.getElem?_mapIdx] at ho
    obtain ⟨g0, hg0, rfl⟩ := Option.map_eq_some_iff.1 ho
    obtain ⟨-, hA, -⟩ := wok_asked hR h hf hg0
    have hf0 := (h.reg r g0 hg0).1
    rw [← hf0] at hA
    refine ⟨by rw [st_length]; exact (outs_le (s := s) (inp := inp) hP hA).1, fun c hc => ?_⟩
    obtain ⟨c1, c2, c3, -⟩ := outs_ok (s := s) (inp := inp) hA c ((st_perm _ _).mem_iff.1 hc)
    exact ⟨c1, c2, by rw [c3, hf0]; omega⟩

theorem std_right {a b n : Int} {P : Nat} (h : rt a b P n = true) {r : Int} (hh : hasB a b P n r = true) {id : Int} (hid : 1 ≤ id ∧ id ≤ P) : erightB a b P n (std a b P n r id) = true ∧ ofr a b P n (std a b P n r id).x (std a b P n r id).y = r := by
  obtain ⟨h1, h2⟩ := corner_in hh (u := 512) (v := 512) (by omega) (by omega)
  exact ⟨player_right (y := std a b P n r id) rfl h1 ⟨hid, show (-64 : Int) ≤ 0 ∧ (0 : Int) ≤ 64 by decide, show (-64 : Int) ≤ 0 ∧ (0 : Int) ≤ 64 by decide, show (1 : Int) ≤ 100 ∧ (100 : Int) ≤ 100 by decide, show (0 : Int) ≤ 0 ∧ (0 : Int) ≤ 6 by decide, rfl⟩, h2⟩

theorem things_none {l : List Ent} (h : ∀ e ∈ l, e.kind = 1) : things l = 0 := by
  induction l with
  | nil => rfl
  | cons e t ih => rw [things_cons, if_pos (h e (by simp)), ih fun x hx => h x (by simp [hx])]; rfl

theorem wok_begin {a b n : Int} {P R : Nat} (h : rt a b P n = true) (hR : regs a b P n = R) : WOk a b P n 0 R (begF a b n P R) (List.replicate R []) := by
  refine ⟨by simp [begF], by simp, fun r g hg => ?_, fun r o ho => ?_⟩
  · unfold begF at hg
    rw [List.getElem?_map] at hg
    obtain ⟨q, hq, rfl⟩ := Option.map_eq_some_iff.1 hg
    obtain ⟨hqR, hq2⟩ := List.getElem?_eq_some_iff.1 hq
    rw [List.length_range] at hqR
    rw [List.getElem_range] at hq2
    subst hq2
    have hh : hasB a b P n r = true := by unfold hasB; rw [hR]; exact decide_eq_true (by omega)
    have hm : ∀ e ∈ begL R (plr a b P n R) P r, erightB a b P n e = true ∧ ofr a b P n e.x e.y = r ∧ e.kind = 1 := fun e he => by
      obtain ⟨i, hi, hir, rfl⟩ := begL_mem he
      have := std_right h hh (id := (i : Int) + 1) (by omega)
      unfold plr
      rw [hir]
      exact ⟨this.1, this.2, rfl⟩
    refine ⟨rfl, ⟨?_, fun e he => (hm e he).1⟩, fun e he => (hm e he).2.1, ?_⟩
    · unfold begL Rise
      refine List.Pairwise.map _ (fun i j hij => ?_) (List.Pairwise.filter _ List.pairwise_lt_range)
      simp only [plr, std]
      omega
    · rw [things_none fun e he => (hm e he).2.2]; decide
  · rw [List.getElem?_replicate] at ho
    split at ho
    · cases ho; exact ⟨by simp, by simp⟩
    · cases ho

end Go.Proofs.YtfpofegfbinalaaGreat.Fx
namespace Go.Proofs.YtfpofegfbinalaaGreat.Fx
open Go.ChangeShapes Go.WideShapes Go.ChangeAt Go.RowKit
set_option linter.unusedVariables false
set_option maxRecDepth 100000

/-- A number that was there, or one that is made in this frame in this region. -/
def Src (L : List Ent) (R r f : Int) (l : List Ent) : Prop := ∀ e ∈ l, (∃ x ∈ L, x.id = e.id) ∨ (newId R r f 0 ≤ e.id ∧ e.id < newId R r f 8)

theorem Src.turn {L : List Ent} {R r f : Int} {l : List Ent} (h : Src L R r f l) {e z : Ent} (he : e ∈ l) (hz : z.id = e.id) (id : Int) : Src L R r f (turn l id z) := fun x hx => by
  rcases turn_mem hx with rfl | h1
  · rw [hz]; exact h e he
  · exact h x h1

theorem Src.put {L : List Ent} {R r f : Int} {l : List Ent} (h : Src L R r f l) {e : Ent} (he : newId R r f 0 ≤ e.id ∧ e.id < newId R r f 8) : Src L R r f (put l e) := fun x hx => by
  rcases (put_mem _ _ _).1 hx with h1 | ⟨rfl, -⟩
  · exact h x h1
  · exact .inr he

theorem Src.sub {L : List Ent} {R r f : Int} {l l' : List Ent} (h : Src L R r f l) (hs : ∀ x ∈ l', ∃ e ∈ l, e.id = x.id) : Src L R r f l' := fun x hx => by
  obtain ⟨e, he, hid⟩ := hs x hx
  rw [← hid]
  exact h e he

theorem steer1_src {L : List Ent} {R r f : Int} {inp : Int → Inp} {st : List Ent × Int} (h : Src L R r f st.1) (h0 : 0 ≤ st.2) (id : Int) : Src L R r f (steer1 R r f inp st id).1 ∧ 0 ≤ (steer1 R r f inp st id).2 := by
  obtain ⟨l, m⟩ := st
  unfold steer1
  cases ho : ofId l id with
  | none => exact ⟨h, h0⟩
  | some e =>
    obtain ⟨h1, h2⟩ := ofId_some ho
    obtain ⟨s1, s2, -, -⟩ := steer_kind e (inp id).dx (inp id).dy (inp id).fire
    simp only
    generalize steerE e (inp id).dx (inp id).dy (inp id).fire = z at *
    split
    · split
      · rename_i hroom
        unfold roomB at hroom
        simp only [Bool.and_eq_true, decide_eq_true_eq] at hroom
        refine ⟨(h.turn h1 s2 id).put ?_, by simp only at h0 ⊢; omega⟩
        simp only [shootE]
        unfold newId
        simp only at h0
        omega
      · exact ⟨h.turn (z := young z) h1 s2 id, h0⟩
    · exact ⟨h.turn h1 s2 id, h0⟩

theorem steers_src {R r f : Int} {inp : Int → Inp} (L : List Ent) (ids : List Int) : Src L R r f (steers R r f inp L ids).1 ∧ 0 ≤ (steers R r f inp L ids).2 := by
  unfold steers
  have key : ∀ (ids : List Int) (st : List Ent × Int), Src L R r f st.1 → 0 ≤ st.2 → Src L R r f (ids.foldl (steer1 R r f inp) st).1 ∧ 0 ≤ (ids.foldl (steer1 R r f inp) st).2 := by
    intro ids
    induction ids with
    | nil => exact fun st h h0 => ⟨h, h0⟩
    | cons i t ih => exact fun st h h0 => ih _ (steer1_src h h0 i).1 (steer1_src h h0 i).2
  exact key ids (L, 0) (fun e he => .inl ⟨e, he, rfl⟩) (Int.le_refl _)

theorem goL_ids {a b p n : Int} {l : List Ent} : ∀ x ∈ goL a b p n l, ∃ e ∈ l, e.id = x.id := fun x hx => by
  obtain ⟨e, he, hb, rfl⟩ := goL_mem hx
  exact ⟨e, he, (go_id hb).1.symm⟩

theorem less_ids {x l : List Ent} (h : Less x l) : ∀ y ∈ x, ∃ e ∈ l, e.id = y.id := fun y hy => by
  obtain ⟨e, he, ⟨v, rfl⟩, -⟩ := h.mem y hy
  exact ⟨e, he, rfl⟩

theorem falls_ids {a b p n s r f : Int} {l : List Ent} (h : Rise l) : ∀ x ∈ (falls a b p n s r f l).1, ∃ e ∈ l, e.id = x.id := fun x hx => by
  rw [falls_eq h] at hx
  obtain ⟨e, he, rfl⟩ := List.mem_map.1 hx
  refine ⟨e, he, ?_⟩
  split <;> rfl

theorem upTo_src {a b n s r f : Int} {P : Nat} {inp : Int → Inp} {l : List Ent} {ib : List Crs} (h : Asked a b P n r f l ib) : Src (arriveL l ib) (regs a b P n) r f (upTo a b P n s r f inp l ib).1 := by
  obtain ⟨-, -, h3, -, h5⟩ := upTo_parts (s := s) (inp := inp) h
  obtain ⟨s1, -⟩ := steers_src (R := regs a b P n) (r := r) (f := f) (inp := inp) (arriveL l ib) (pids (arriveL l ib))
  unfold upTo
  simp only
  generalize steers (regs a b P n) r f inp (arriveL l ib) (pids (arriveL l ib)) = S at *
  have s2 := s1.sub (goL_ids (a := a) (b := b) (p := P) (n := n))
  have s3 := s2.sub (less_ids (only_less (goL a b P n S.1) ib))
  have s4 := s3.sub (falls_ids (a := a) (b := b) (p := P) (n := n) (s := s) (r := r) (f := f) h5)
  unfold gemsIn
  split
  · rename_i hg
    have hm := hg.2.2
    unfold roomB at hm
    simp only [Bool.and_eq_true, decide_eq_true_eq] at hm
    refine s4.put ?_
    simp only
    unfold newId
    omega
  · exact s4

end Go.Proofs.YtfpofegfbinalaaGreat.Fx
namespace Go.Proofs.YtfpofegfbinalaaGreat.Fx
open Go.ChangeShapes Go.WideShapes Go.ChangeAt Go.RowKit
set_option linter.unusedVariables false
set_option maxRecDepth 100000

theorem map_inj {α : Type} {f : α → Int} : ∀ {l : List α}, (l.map f).Nodup → ∀ {x y : α}, x ∈ l → y ∈ l → f x = f y → x = y
  | [], _, _, _, h, _, _ => by cases h
  | a :: t, hn, x, y, hx, hy, h => by
    rw [List.map_cons, List.nodup_cons] at hn
    rcases List.mem_cons.1 hx with rfl | hx' <;> rcases List.mem_cons.1 hy with rfl | hy'
    · rfl
    · exact absurd (List.mem_map.2 ⟨y, hy', h.symm⟩) hn.1
    · exact absurd (List.mem_map.2 ⟨x, hx', h⟩) hn.1
    · exact map_inj hn.2 hx' hy' h

theorem handed_mem {o : List Crs} {e : Ent} : e ∈ handedL o ↔ ∃ c ∈ o, c.kind = 1 ∧ c.e = e := by
  unfold handedL
  simp only [List.mem_map, List.mem_filter, decide_eq_true_eq]
  constructor
  · rintro ⟨c, ⟨h1, h2⟩, h3⟩; exact ⟨c, h1, h2, h3⟩
  · rintro ⟨c, h1, h2, h3⟩; exact ⟨c, ⟨h1, h2⟩, h3⟩

theorem hands_mem {os : List (List Crs)} {e : Ent} : e ∈ handsL os ↔ ∃ o ∈ os, ∃ c ∈ o, c.kind = 1 ∧ c.e = e := by
  unfold handsL
  simp only [List.mem_flatMap, handed_mem]

theorem lists_mem {fs : List (Int × List Ent)} {e : Ent} : e ∈ listsL fs ↔ ∃ g ∈ fs, e ∈ g.2 := by
  unfold listsL
  simp only [List.mem_flatMap]

/-- Who is there behind an arrival was there, or arrived. -/
theorem arrive_src {l : List Ent} {ib : List Crs} {e : Ent} (h : e ∈ arriveL l ib) : e ∈ l ∨ ∃ c ∈ ib, c.kind = 1 ∧ c.e = e := by
  unfold arriveL at h
  induction ib generalizing l with
  | nil => exact .inl h
  | cons c t ih =>
    rw [List.foldl_cons] at h
    rcases ih h with h1 | ⟨d, hd, h2⟩
    · unfold arr1 at h1
      split at h1
      · rename_i hk
        rcases (put_mem _ _ _).1 h1 with h2 | ⟨rfl, -⟩
        · exact .inl h2
        · exact .inr ⟨c, by simp, hk.1, rfl⟩
      · exact .inl h1
    · exact .inr ⟨d, by simp [hd], h2⟩

theorem arr1_has {l : List Ent} {c : Crs} {i : Int} (h : Has l i) : Has (arr1 l c) i := by
  unfold arr1
  split
  · obtain ⟨e, he, hi⟩ := h
    exact ⟨e, (put_mem _ _ _).2 (.inl he), hi⟩
  · exact h

theorem arrive_has {l : List Ent} {ib : List Crs} {i : Int} (h : Has l i) : Has (arriveL l ib) i := by
  unfold arriveL
  induction ib generalizing l with
  | nil => exact h
  | cons c t ih => rw [List.foldl_cons]; exact ih (arr1_has h)

/-- A player who is handed over is there. -/
theorem arrive_player {l : List Ent} {ib : List Crs} {c : Crs} (hc : c ∈ ib) (hk : c.kind = 1) (hp : c.e.kind = 1) : Has (arriveL l ib) c.e.id := by
  unfold arriveL
  induction ib generalizing l with
  | nil => cases hc
  | cons d t ih =>
    rw [List.foldl_cons]
    rcases List.mem_cons.1 hc with rfl | hc'
    · have : Has (arr1 l c) c.e.id := by
        unfold arr1
        rw [if_pos ⟨hk, .inl hp⟩]
        by_cases hh : Has l c.e.id
        · obtain ⟨e, he, hi⟩ := hh
          exact ⟨e, (put_mem _ _ _).2 (.inl he), hi⟩
        · exact ⟨c.e, (put_mem _ _ _).2 (.inr ⟨rfl, hh⟩), rfl⟩
      exact arrive_has this
    · exact ih hc'

/-- What stays and what is handed over is all that is there ahead of the parting. -/
theorem parts_perm {a b p n s r f : Int} {inp : Int → Inp} {l : List Ent} {ib : List Crs} (hb : ∀ c ∈ (upTo a b p n s r f inp l ib).2, ¬ c.kind = 1) : (stayL a b p n s r f inp l ib ++ handedL (st lessB (outsL a b p n s r f inp l ib))).Perm (upTo a b p n s r f inp l ib).1 := by
  have h1 : (handedL (st lessB (outsL a b p n s r f inp l ib))).Perm (handedL (outsL a b p n s r f inp l ib)) := ((st_perm lessB _).filter _).map _
  have h2 : handedL (outsL a b p n s r f inp l ib) = (upTo a b p n s r f inp l ib).1.filter fun e => !hereB a b p n r e := by
    unfold handedL outsL
    rw [List.filter_append, List.filter_eq_nil_iff.2 (fun c hc => by simpa using hb c hc), List.nil_append]
    generalize (upTo a b p n s r f inp l ib).1.filter (fun e => !hereB a b p n r e) = X
    induction X with
    | nil => rfl
    | cons e t ih => rw [List.map_cons, List.filter_cons_of_pos (by simp [handOf]), List.map_cons, ih]; rfl
  rw [h2] at h1
  unfold stayL
  exact (h1.append_left _).trans (List.filter_append_perm _ _)

/- ## Lists of lists, by place -/

theorem idx_both {α : Type} (A B : Nat → α → List Ent) (fs : List α) : ((fs.mapIdx A).flatten ++ (fs.mapIdx B).flatten).Perm (fs.mapIdx fun i g => A i g ++ B i g).flatten := by
  induction fs generalizing A B with
  | nil => simp
  | cons g t ih =>
    simp only [List.mapIdx_cons, List.flatten_cons]
    have h := ih (fun i => A (i + 1)) (fun i => B (i + 1))
    refine List.Perm.trans ?_ (h.append_left (A 0 g ++ B 0 g))
    rw [List.append_assoc, List.append_assoc]
    refine List.Perm.append_left _ ?_
    rw [← List.append_assoc, ← List.append_assoc]
    exact (List.perm_append_comm.append_right _)

theorem idx_perm {α : Type} (A B : Nat → α → List Ent) (fs : List α) (h : ∀ i g, fs[i]? = some g → (A i g).Perm (B i g)) : (fs.mapIdx A).flatten.Perm (fs.mapIdx B).flatten := by
  induction fs generalizing A B with
  | nil => simp
  | cons g t ih =>
    simp only [List.mapIdx_cons, List.flatten_cons]
    exact (h 0 g rfl).append (ih _ _ fun i g hg => h (i + 1) g (by simpa using hg))

theorem idx_mem {α : Type} {A : Nat → α → List Ent} {fs : List α} {e : Ent} (h : e ∈ (fs.mapIdx A).flatten) : ∃ i g, fs[i]? = some g ∧ e ∈ A i g := by
  obtain ⟨l, hl, he⟩ := List.mem_flatten.1 h
  obtain ⟨i, hi, rfl⟩ := List.mem_iff_getElem.1 hl
  rw [List.getElem_mapIdx] at he
  rw [List.length_mapIdx] at hi
  exact ⟨i, _, List.getElem?_eq_getElem hi, he⟩

theorem idx_nodup {α : Type} (A : Nat → α → List Ent) (fs : List α) (h1 : ∀ i g, fs[i]? = some g → ((A i g).map Ent.id).Nodup) (h2 : ∀ i j g g', i < j → fs[i]? = some g → fs[j]? = some g' → ∀ x ∈ A i g, ∀ y ∈ A j g', x.id ≠ y.id) : ((fs.mapIdx A).flatten.map Ent.id).Nodup := by
  induction fs generalizing A with
  | nil => simp
  | cons g t ih =>
    simp only [List.mapIdx_cons, List.flatten_cons, List.map_append]
    refine List.nodup_append.2 ⟨h1 0 g rfl, ih _ (fun i g hg => h1 (i + 1) g (by simpa using hg)) (fun i j g g' hij hg hg' => h2 (i + 1) (j + 1) g g' (by omega) (by simpa using hg) (by simpa using hg')), fun x hx y hy => ?_⟩
    obtain ⟨e, he, rfl⟩ := List.mem_map.1 hx
    obtain ⟨e', he', rfl⟩ := List.mem_map.1 hy
    obtain ⟨j, g', hg', he'⟩ := idx_mem he'
    exact h2 0 (j + 1) g g' (by omega) rfl (by simpa using hg') e he e' he'

theorem map_idx {α β γ : Type} (F : Nat → α → β) (G : β → γ) (fs : List α) : (fs.mapIdx F).map G = fs.mapIdx fun i g => G (F i g) := by
  apply List.ext_getElem?
  intro i
  rw [List.getElem?_map, List.getElem?_mapIdx, List.getElem?_mapIdx, Option.map_map]
  rfl

theorem lists_step {fs : List (Int × List Ent)} (F : Nat → Int × List Ent → Int × List Ent) : listsL (fs.mapIdx F) = (fs.mapIdx fun i g => (F i g).2).flatten := by
  unfold listsL
  rw [List.flatMap_def, map_idx]

theorem hands_step {fs : List (Int × List Ent)} (F : Nat → Int × List Ent → List Crs) : handsL (fs.mapIdx F) = (fs.mapIdx fun i g => handedL (F i g)).flatten := by
  unfold handsL
  rw [List.flatMap_def, map_idx]

/-- All numbers are unlike; each player is there. -/
structure NumOk (f : Int) (P R : Nat) (fs : List (Int × List Ent)) (os : List (List Crs)) : Prop where
  nodup : ((listsL fs ++ handsL os).map Ent.id).Nodup
  low : ∀ e ∈ listsL fs ++ handsL os, e.id < 1000 + f * R * 8
  all : ∀ i : Int, 1 ≤ i → i ≤ P → ∃ e ∈ listsL fs ++ handsL os, e.id = i

theorem near_back {a b p n r q : Int} (h : q ∈ nr a b p n r) : hasB a b p n q = true ∧ r ∈ nr a b p n q := by
  have hh : hasB a b p n r = true := by
    by_cases hh : hasB a b p n r = true
    · exact hh
    · unfold nr at h; rw [if_neg hh] at h; cases h
  obtain ⟨h1, h2, h3⟩ := (mem_nr hh).1 h
  obtain ⟨hrt, h4, h5, -⟩ := hasB_rt hh
  have hq : hasB a b p n q = true := by
    unfold hasB regs
    rw [if_pos hrt]
    exact decide_eq_true ⟨h1, h2⟩
  have h6 := hh
  unfold hasB regs at h6
  rw [if_pos hrt, decide_eq_true_eq] at h6
  refine ⟨hq, (mem_nr hq).2 ⟨h6.1, h6.2, ?_⟩⟩
  unfold nearB at h3 ⊢
  rw [decide_eq_true_eq] at h3 ⊢
  omega

/-- Where a number comes from. -/
def Old (os : List (List Crs)) (r : Int) (l : List Ent) (id : Int) : Prop := (∃ e ∈ l, e.id = id) ∨ ∃ o ∈ os, ∃ c ∈ o, c.kind = 1 ∧ c.dst = r ∧ c.e.id = id

theorem inW_src {a b p n r : Int} {os : List (List Crs)} {c : Crs} (h : c ∈ inW a b p n os r) : c.dst = r ∧ ∃ o ∈ os, c ∈ o := by
  unfold inW inboxL at h
  obtain ⟨q, hq, hc⟩ := List.mem_flatMap.1 h
  unfold sentL at hc
  split at hc
  · unfold toL at hc
    obtain ⟨h1, h2⟩ := List.mem_filter.1 hc
    refine ⟨by simpa using h2, ?_⟩
    by_cases hl : q.toNat < os.length
    · rw [List.getD_eq_getElem?_getD, List.getElem?_eq_getElem hl] at h1
      exact ⟨_, List.getElem_mem hl, h1⟩
    · rw [List.getD_eq_getElem?_getD, List.getElem?_eq_none (by omega)] at h1
      simp at h1
  · simp at hc

theorem old_of {a b p n r : Int} {os : List (List Crs)} {l : List Ent} {e : Ent} (h : e ∈ arriveL l (inW a b p n os r)) : Old os r l e.id := by
  rcases arrive_src h with h1 | ⟨c, hc, hk, rfl⟩
  · exact .inl ⟨e, h1, rfl⟩
  · obtain ⟨hd, o, ho, hco⟩ := inW_src hc
    exact .inr ⟨o, ho, c, hco, hk, hd, rfl⟩

theorem old_apart {fs : List (Int × List Ent)} {os : List (List Crs)} (h : ((listsL fs ++ handsL os).map Ent.id).Nodup) {i j : Nat} {g g' : Int × List Ent} (hij : i < j) (hg : fs[i]? = some g) (hg' : fs[j]? = some g') {id : Int} (h1 : Old os i g.2 id) (h2 : Old os j g'.2 id) : False := by
  rw [List.map_append, List.nodup_append] at h
  obtain ⟨n1, n2, n3⟩ := h
  have gm : ∀ {k : Nat} {g : Int × List Ent}, fs[k]? = some g → ∀ e ∈ g.2, e ∈ listsL fs := fun hk e he => lists_mem.2 ⟨_, List.mem_of_getElem? hk, he⟩
  have cm : ∀ o ∈ os, ∀ c ∈ o, c.kind = 1 → c.e ∈ handsL os := fun o ho c hc hk => hands_mem.2 ⟨o, ho, c, hc, hk, rfl⟩
  rcases h1 with ⟨e, he, rfl⟩ | ⟨o, ho, c, hc, hk, hd, rfl⟩
  · rcases h2 with ⟨e', he', hid⟩ | ⟨o', ho', c', hc', hk', hd', hid⟩
    · unfold listsL at n1
      rw [List.map_flatMap] at n1
      have hp := (List.pairwise_flatMap.1 n1).2
      rw [List.pairwise_iff_getElem] at hp
      obtain ⟨hi, hgi⟩ := List.getElem?_eq_some_iff.1 hg
      obtain ⟨hj, hgj⟩ := List.getElem?_eq_some_iff.1 hg'
      have := hp i j hi hj hij e.id (by rw [hgi]; exact List.mem_map.2 ⟨e, he, rfl⟩) e'.id (by rw [hgj]; exact List.mem_map.2 ⟨e', he', rfl⟩)
      exact this hid.symm
    · exact n3 e.id (List.mem_map.2 ⟨e, gm hg e he, rfl⟩) c'.e.id (List.mem_map.2 ⟨c'.e, cm o' ho' c' hc' hk', rfl⟩) hid.symm
  · rcases h2 with ⟨e', he', hid⟩ | ⟨o', ho', c', hc', hk', hd', hid⟩
    · exact n3 e'.id (List.mem_map.2 ⟨e', gm hg' e' he', rfl⟩) c.e.id (List.mem_map.2 ⟨c.e, cm o ho c hc hk, rfl⟩) hid
    · have e1 : (handsL os).map Ent.id = (os.flatMap fun o => o.filter fun c => decide (c.kind = 1)).map fun c => c.e.id := by
        unfold handsL handedL
        rw [List.map_flatMap, List.map_flatMap]
        simp only [List.map_map]
        rfl
      rw [e1] at n2
      have hcc : c = c' := map_inj n2 (List.mem_flatMap.2 ⟨o, ho, List.mem_filter.2 ⟨hc, by simpa using hk⟩⟩) (List.mem_flatMap.2 ⟨o', ho', List.mem_filter.2 ⟨hc', by simpa using hk'⟩⟩) hid.symm
      subst hcc
      omega

theorem small_player {a b n : Int} {P : Nat} {e : Ent} (h : erightB a b P n e = true) (hid : e.id < 1000) : e.kind = 1 := by
  obtain ⟨-, h2⟩ := eright_ins h
  unfold eok at h2
  split at h2
  · assumption
  · split at h2
    · simp only [wi, Bool.and_eq_true, decide_eq_true_eq] at h2; omega
    · split at h2
      · simp only [wi, Bool.and_eq_true, decide_eq_true_eq] at h2; omega
      · cases h2

theorem inW_of {a b n : Int} {P : Nat} {os : List (List Crs)} {q : Nat} {o : List Crs} {c : Crs} (hq : os[q]? = some o) (hc : c ∈ o) (hn : (q : Int) ∈ nr a b P n c.dst) : c ∈ inW a b P n os c.dst := by
  unfold inW inboxL
  refine List.mem_flatMap.2 ⟨q, hn, ?_⟩
  have hl := (List.getElem?_eq_some_iff.1 hq).1
  unfold sentL
  rw [if_pos (by omega), Int.toNat_natCast, List.getD_eq_getElem?_getD, hq]
  exact List.mem_filter.2 ⟨hc, by simp⟩

theorem num_step {a b n f s : Int} {P R : Nat} (hP : P ≤ 6) {fs : List (Int × List Ent)} {os : List (List Crs)} (hR : regs a b P n = R) (h : WOk a b P n f R fs os) (hf : 0 ≤ f ∧ f ≤ 9999) (hN : NumOk f P R fs os) (inp : Int → Inp) : NumOk (f + 1) P R (stepF a b P n s inp fs os) (stepO a b P n s inp fs os) := by
  have hw : ∀ (i : Nat) g, fs[i]? = some g → g.1 = f ∧ i < R ∧ hasB a b P n i = true ∧ Asked a b P n i g.1 g.2 (inW a b P n os i) := fun i g hg => by
    obtain ⟨h1, h2, -⟩ := wok_asked hR h hf hg
    have h3 := (h.reg i g hg).1
    have := (List.getElem?_eq_some_iff.1 hg).1
    rw [h.lenF] at this
    exact ⟨h3, this, h1, h3 ▸ h2⟩
  have hpm : (listsL (stepF a b P n s inp fs os) ++ handsL (stepO a b P n s inp fs os)).Perm (fs.mapIdx fun i g => (upTo a b P n s i g.1 inp g.2 (inW a b P n os i)).1).flatten := by
    unfold stepF stepO
    rw [lists_step, hands_step]
    refine (idx_both _ _ fs).trans (idx_perm _ _ fs fun i g hg => ?_)
    obtain ⟨h1, h2, h3, hA⟩ := hw i g hg
    obtain ⟨-, -, -, -, h5⟩ := upTo_ok (s := s) (inp := inp) hA.has ⟨hA.frame.1, by have := hA.frame.2; omega⟩ hA.ok hA.here hA.few hA.hands
    exact parts_perm fun c hc => by have := (h5 c hc).1; omega
  have hsrc : ∀ (i : Nat) g, fs[i]? = some g → ∀ e ∈ (upTo a b P n s i g.1 inp g.2 (inW a b P n os i)).1, Old os i g.2 e.id ∨ (1000 + (f * R + i) * 8 ≤ e.id ∧ e.id < 1000 + (f * R + i) * 8 + 8) := fun i g hg e he => by
    obtain ⟨h1, -, -, hA⟩ := hw i g hg
    rcases upTo_src (s := s) (inp := inp) hA e he with ⟨x, hx, hid⟩ | h2
    · rw [← hid]; exact .inl (old_of hx)
    · unfold newId at h2
      rw [h1, hR] at h2
      exact .inr (by omega)
  have hlow : ∀ (i : Nat) g, fs[i]? = some g → ∀ id, Old os i g.2 id → id < 1000 + f * R * 8 := fun i g hg id ho => by
    rcases ho with ⟨e, he, rfl⟩ | ⟨o, ho, c, hc, hk, -, rfl⟩
    · exact hN.low e (List.mem_append.2 (.inl (lists_mem.2 ⟨g, List.mem_of_getElem? hg, he⟩)))
    · exact hN.low c.e (List.mem_append.2 (.inr (hands_mem.2 ⟨o, ho, c, hc, hk, rfl⟩)))
  have hmul : (f + 1) * (R : Int) * 8 = f * R * 8 + R * 8 := by rw [Int.add_mul, Int.one_mul, Int.add_mul]
  have hfr : (0 : Int) ≤ f * R := Int.mul_nonneg hf.1 (by omega)
  refine ⟨(hpm.map Ent.id).nodup_iff.2 (idx_nodup _ fs (fun i g hg => ?_) fun i j g g' hij hg hg' x hx y hy hid => ?_), fun e he => ?_, fun i h1 h2 => ?_⟩
  · obtain ⟨h1, h2, h3, hA⟩ := hw i g hg
    obtain ⟨e1, -⟩ := upTo_ok (s := s) (inp := inp) hA.has ⟨hA.frame.1, by have := hA.frame.2; omega⟩ hA.ok hA.here hA.few hA.hands
    exact rise_nodup e1.rise
  · have si := hsrc i g hg x hx
    have sj := hsrc j g' hg' y hy
    rw [hid] at si
    rcases si with si | si
    · rcases sj with sj | sj
      · exact old_apart hN.nodup hij hg hg' si sj
      · have := hlow i g hg _ si; omega
    · rcases sj with sj | sj
      · have := hlow j g' hg' _ sj; omega
      · omega
  · obtain ⟨i, g, hg, he'⟩ := idx_mem (hpm.mem_iff.1 he)
    have hi := (hw i g hg).2.1
    rcases hsrc i g hg e he' with ho | ho
    · have := hlow i g hg _ ho; omega
    · omega
  · obtain ⟨e, he, rfl⟩ := hN.all i h1 h2
    have hhas : ∃ (t : Nat) (g : Int × List Ent), fs[t]? = some g ∧ Has (arriveL g.2 (inW a b P n os t)) e.id := by
      rcases List.mem_append.1 he with he | he
      · obtain ⟨g, hg, heg⟩ := lists_mem.1 he
        obtain ⟨t, ht, rfl⟩ := List.mem_iff_getElem.1 hg
        exact ⟨t, _, List.getElem?_eq_getElem ht, arrive_has ⟨e, heg, rfl⟩⟩
      · obtain ⟨o, ho, c, hc, hk, rfl⟩ := hands_mem.1 he
        obtain ⟨q, hq, rfl⟩ := List.mem_iff_getElem.1 ho
        obtain ⟨-, hall⟩ := h.out q _ (List.getElem?_eq_getElem hq)
        obtain ⟨c1, c2, c3⟩ := hall c hc
        have hd : c.dst ∈ nr a b P n c.src := by
          unfold crightB at c1
          simp only [Bool.and_eq_true] at c1
          have := c1.1
          unfold inB at this
          simpa using this
        rw [c2] at hd
        obtain ⟨d1, d2⟩ := near_back hd
        have d3 := d1
        unfold hasB at d3
        rw [hR, decide_eq_true_eq] at d3
        obtain ⟨t, ht⟩ : ∃ t : Nat, c.dst = (t : Int) := ⟨c.dst.toNat, by omega⟩
        have hcr : erightB a b P n c.e = true := by
          unfold crightB at c1
          rw [if_pos hk] at c1
          unfold handB at c1
          simp only [Bool.and_eq_true, decide_eq_true_eq] at c1
          exact c1.2.2.2.2.2.1
        have htl : t < fs.length := by rw [h.lenF]; omega
        refine ⟨t, _, List.getElem?_eq_getElem htl, ?_⟩
        rw [← ht]
        exact arrive_player (inW_of (List.getElem?_eq_getElem hq) hc d2) hk (small_player hcr (by omega))
    obtain ⟨t, g, hg, x, hx, hxi⟩ := hhas
    obtain ⟨e1, e2, e3, hA⟩ := hw t g hg
    obtain ⟨a1, -, -⟩ := arrive_ok _ hA.ok hA.here hA.few hA.hands
    have hxk := small_player (a1.right x hx) (by omega)
    have hmem : e.id ∈ pids (arriveL g.2 (inW a b P n os t)) := pids_mem.2 ⟨x, hx, hxk, hxi⟩
    have hct := keeps_count (s := s) (inp := inp) hA e.id
    have hpos := List.count_pos_iff.2 hmem
    have hor : e.id ∈ pids (stayL a b P n s t g.1 inp g.2 (inW a b P n os t)) ∨ e.id ∈ hpids (outsL a b P n s t g.1 inp g.2 (inW a b P n os t)) := by
      rcases Nat.eq_zero_or_pos ((pids (stayL a b P n s t g.1 inp g.2 (inW a b P n os t))).count e.id) with h0 | h0
      · exact .inr (List.count_pos_iff.1 (by omega))
      · exact .inl (List.count_pos_iff.1 h0)
    rcases hor with ho | ho
    · obtain ⟨y, hy, -, hyi⟩ := pids_mem.1 ho
      refine ⟨y, List.mem_append.2 (.inl (lists_mem.2 ⟨(g.1 + 1, stayL a b P n s t g.1 inp g.2 (inW a b P n os t)), List.mem_iff_getElem?.2 ⟨t, ?_⟩, hy⟩)), hyi⟩
      unfold stepF; rw [List.getElem?_mapIdx, hg]; rfl
    · unfold hpids at ho
      obtain ⟨c, hc, hci⟩ := List.mem_map.1 ho
      obtain ⟨hco, hck⟩ := List.mem_filter.1 hc
      simp only [Bool.and_eq_true, decide_eq_true_eq] at hck
      refine ⟨c.e, List.mem_append.2 (.inr (hands_mem.2 ⟨st lessB (outsL a b P n s t g.1 inp g.2 (inW a b P n os t)), List.mem_iff_getElem?.2 ⟨t, ?_⟩, c, (st_perm _ _).mem_iff.2 hco, hck.1, rfl⟩)), hci⟩
      unfold stepO; rw [List.getElem?_mapIdx, hg]; rfl

theorem num_begin {a b n : Int} {P R : Nat} (hP : P ≤ 6) (hR1 : 1 ≤ R) : NumOk 0 P R (begF a b n P R) (List.replicate R []) := by
  have hh : handsL (List.replicate R ([] : List Crs)) = [] := by
    unfold handsL
    rw [List.flatMap_eq_nil_iff]
    intro o ho
    rw [List.eq_of_mem_replicate ho]
    rfl
  have hm : ∀ e ∈ listsL (begF a b n P R), ∃ i, i < P ∧ e.id = (i : Int) + 1 := fun e he => by
    obtain ⟨g, hg, heg⟩ := lists_mem.1 he
    unfold begF at hg
    obtain ⟨r, -, rfl⟩ := List.mem_map.1 hg
    obtain ⟨i, hi, -, rfl⟩ := begL_mem heg
    exact ⟨i, hi, rfl⟩
  refine ⟨?_, fun e he => ?_, fun i h1 h2 => ?_⟩
  · rw [hh, List.append_nil]
    have e1 : listsL (begF a b n P R) = ((List.range R).mapIdx fun _ r => begL R (plr a b P n R) P r).flatten := by
      unfold listsL begF
      rw [List.flatMap_def, List.map_map]
      congr 1
      apply List.ext_getElem?
      intro i
      rw [List.getElem?_map, List.getElem?_mapIdx]
      rfl
    rw [e1]
    refine idx_nodup _ _ (fun i r hr => ?_) fun i j r r' hij hr hr' x hx y hy hid => ?_
    · unfold begL
      rw [List.map_map]
      refine List.Pairwise.map _ (fun i j hij => ?_) (List.Pairwise.filter _ List.pairwise_lt_range)
      simp only [Function.comp, plr, std]
      omega
    · obtain ⟨u, -, hu, rfl⟩ := begL_mem hx
      obtain ⟨v, -, hv, rfl⟩ := begL_mem hy
      have := plr_one hid
      subst this
      obtain ⟨h1, h2⟩ := List.getElem?_eq_some_iff.1 hr
      obtain ⟨h3, h4⟩ := List.getElem?_eq_some_iff.1 hr'
      rw [List.getElem_range] at h2 h4
      omega
  · rw [hh, List.append_nil] at he
    obtain ⟨i, hi, hid⟩ := hm e he
    omega
  · rw [hh, List.append_nil]
    obtain ⟨k, rfl⟩ : ∃ k : Nat, i = (k : Int) + 1 := ⟨(i - 1).toNat, by omega⟩
    have hk : k < P := by omega
    refine ⟨plr a b P n R k, lists_mem.2 ⟨(0, begL R (plr a b P n R) P (k % R)), ?_, ?_⟩, rfl⟩
    · unfold begF
      exact List.mem_map.2 ⟨k % R, List.mem_range.2 (Nat.mod_lt _ hR1), rfl⟩
    · unfold begL
      exact List.mem_map.2 ⟨k, List.mem_filter.2 ⟨List.mem_range.2 hk, by simp⟩, rfl⟩

/-- Rising numbers, of which the least are 1 to P: they stand ahead. -/
theorem first_are {l : List Int} {P : Nat} (hs : l.Pairwise fun x y => x < y) (hb : ∀ x ∈ l, 1 ≤ x) (ha : ∀ i : Int, 1 ≤ i → i ≤ P → i ∈ l) : P ≤ l.length ∧ ∀ (k : Nat) x, l[k]? = some x → (k < P → x = (k : Int) + 1) ∧ (P ≤ k → (P : Int) < x) := by
  induction P with
  | zero => exact ⟨Nat.zero_le _, fun k x hx => ⟨fun h => by omega, fun _ => by have := hb x (List.mem_of_getElem? hx); omega⟩⟩
  | succ P ih =>
    obtain ⟨h1, h2⟩ := ih fun i hi1 hi2 => ha i hi1 (by omega)
    obtain ⟨j, hj, hjx⟩ := List.mem_iff_getElem.1 (ha ((P : Int) + 1) (by omega) (by omega))
    have hP := h2 j _ (List.getElem?_eq_getElem hj)
    rw [hjx] at hP
    have hge : P ≤ j := by
      rcases Nat.lt_or_ge j P with h | h
      · have := hP.1 h; omega
      · exact h
    have hjP : j = P := by
      rcases Nat.lt_or_ge P j with h | h
      · have hPl : P < l.length := by omega
        have h3 := (h2 P _ (List.getElem?_eq_getElem hPl)).2 (Nat.le_refl _)
        have h4 := List.pairwise_iff_getElem.1 hs P j hPl hj h
        omega
      · omega
    subst hjP
    refine ⟨by omega, fun k x hx => ⟨fun h => ?_, fun h => ?_⟩⟩
    · rcases Nat.lt_or_ge k j with h3 | h3
      · exact (h2 k x hx).1 h3
      · obtain rfl : k = j := by omega
        rw [List.getElem?_eq_getElem hj] at hx
        cases hx
        exact hjx
    · obtain ⟨hk, rfl⟩ := List.getElem?_eq_some_iff.1 hx
      have := List.pairwise_iff_getElem.1 hs j k hj hk (by omega)
      omega

/-- All that there is, by rising numbers: the players ahead, each once. -/
theorem all_law {a b n f : Int} {P R : Nat} (hP : P ≤ 6) {fs : List (Int × List Ent)} {os : List (List Crs)} (hW : WOk a b P n f R fs os) (hN : NumOk f P R fs os) :
    P ≤ (allL fs os).length ∧ ((allL fs os).map Ent.id).Pairwise (fun x y => x < y) ∧ ∀ (k : Nat) e, (allL fs os)[k]? = some e → (k < P → e.id = (k : Int) + 1 ∧ e.kind = 1) ∧ (P ≤ k → ¬ e.kind = 1) := by
  have hp : (allL fs os).Perm (listsL fs ++ handsL os) := st_perm _ _
  have hr : ∀ e ∈ allL fs os, erightB a b P n e = true := fun e he => by
    rcases List.mem_append.1 (hp.mem_iff.1 he) with h1 | h1
    · obtain ⟨g, hg, heg⟩ := lists_mem.1 h1
      obtain ⟨t, ht, rfl⟩ := List.mem_iff_getElem.1 hg
      exact (hW.reg t _ (List.getElem?_eq_getElem ht)).2.1.right e heg
    · obtain ⟨o, ho, c, hc, hk, rfl⟩ := hands_mem.1 h1
      obtain ⟨q, hq, rfl⟩ := List.mem_iff_getElem.1 ho
      obtain ⟨c1, -, -⟩ := (hW.out q _ (List.getElem?_eq_getElem hq)).2 c hc
      unfold crightB at c1
      rw [if_pos hk] at c1
      unfold handB at c1
      simp only [Bool.and_eq_true, decide_eq_true_eq] at c1
      exact c1.2.2.2.2.2.1
  have hid : ∀ e ∈ allL fs os, 1 ≤ e.id ∧ (e.kind = 1 → e.id ≤ P) ∧ (¬ e.kind = 1 → 1000 ≤ e.id) := fun e he => by
    have h1 := hr e he
    by_cases hk : e.kind = 1
    · have := (player_bd h1 hk).2.1
      exact ⟨this.1, fun _ => this.2, fun h => absurd hk h⟩
    · have : 1000 ≤ e.id := by
        rcases Int.lt_or_le e.id 1000 with h | h
        · exact absurd (small_player h1 h) hk
        · exact h
      exact ⟨by omega, fun h => absurd h hk, fun _ => this⟩
  have hnd : ((allL fs os).map Ent.id).Nodup := (hp.map Ent.id).nodup_iff.2 hN.nodup
  have hs : ((allL fs os).map Ent.id).Pairwise (fun x y => x < y) := by
    have h1 : Srtd Se.idB (allL fs os) := st_srtd Se.idB_swo _
    unfold List.Nodup at hnd
    rw [List.pairwise_map] at hnd ⊢
    refine List.Pairwise.imp₂ (fun x y h2 h3 => ?_) h1 hnd
    unfold Se.idB at h2
    rw [decide_eq_false_iff_not] at h2
    omega
  obtain ⟨f1, f2⟩ := first_are (P := P) hs (fun x hx => by obtain ⟨e, he, rfl⟩ := List.mem_map.1 hx; exact (hid e he).1) (fun i h1 h2 => by
    obtain ⟨e, he, rfl⟩ := hN.all i h1 h2
    exact List.mem_map.2 ⟨e, hp.mem_iff.2 he, rfl⟩)
  rw [List.length_map] at f1
  refine ⟨f1, hs, fun k e he => ?_⟩
  obtain ⟨g1, g2⟩ := f2 k e.id (by rw [List.getElem?_map, he]; rfl)
  have hm := hid e (List.mem_of_getElem? he)
  refine ⟨fun hk => ⟨g1 hk, ?_⟩, fun hk h1 => ?_⟩
  · refine Classical.byContradiction fun h => ?_
    have h3 := hm.2.2 h
    have h4 := g1 hk
    omega
  · have h3 := hm.2.1 h1
    have h4 := g2 hk
    omega

end Go.Proofs.YtfpofegfbinalaaGreat.Fx
