/- Lists of entities: what is found, put, dropped and sorted, as lists alone. -/
import Derived.Test.YthkgbengmfedjaaEnRef
namespace Go.Proofs.Ythkgbengmfedjaa.Fx
set_option linter.unusedVariables false

theorem fndI_spec (l : List Ent) (id : Int) (k : Nat) : (fndI l id k = -1 ∧ ∀ e ∈ l, e.id ≠ id) ∨ ∃ (j : Nat) (x : Ent), fndI l id k = ((k + j : Nat) : Int) ∧ l[j]? = some x ∧ x.id = id := by
  induction l generalizing k with
  | nil => exact .inl ⟨rfl, by simp⟩
  | cons e r ih =>
    by_cases h : e.id = id
    · exact .inr ⟨0, e, by rw [fndI, if_pos h]; rfl, rfl, h⟩
    · rcases ih (k + 1) with ⟨h1, h2⟩ | ⟨j, x, h1, h2, h3⟩
      · refine .inl ⟨by rw [fndI, if_neg h, h1], fun y hy => ?_⟩
        rcases List.mem_cons.1 hy with rfl | hy
        · exact h
        · exact h2 y hy
      · exact .inr ⟨j + 1, x, by rw [fndI, if_neg h, h1]; omega, by simpa using h2, h3⟩

theorem fnd_spec (l : List Ent) (id : Int) : (fnd l id = -1 ∧ ∀ e ∈ l, e.id ≠ id) ∨ ∃ (j : Nat) (x : Ent), fnd l id = j ∧ l[j]? = some x ∧ x.id = id := by
  rcases fndI_spec l id 0 with h | ⟨j, x, h1, h2, h3⟩
  · exact .inl h
  · exact .inr ⟨j, x, by rw [fnd, h1, Nat.zero_add], h2, h3⟩

theorem fnd_yes {l : List Ent} {e : Ent} (h : e ∈ l) : ∃ (j : Nat) (x : Ent), fnd l e.id = j ∧ l[j]? = some x ∧ x.id = e.id := by
  rcases fnd_spec l e.id with ⟨-, h2⟩ | h2
  · exact absurd rfl (h2 e h)
  · exact h2

theorem fnd_no {l : List Ent} {id : Int} (h : ∀ e ∈ l, e.id ≠ id) : fnd l id = -1 := by
  rcases fnd_spec l id with ⟨h1, -⟩ | ⟨j, x, -, h2, h3⟩
  · exact h1
  · exact absurd h3 (h x (List.mem_of_getElem? h2))

/-- The numbers rise. -/
def Rise (l : List Ent) : Prop := l.Pairwise fun a b => a.id < b.id

theorem srtI_iff (p : Int) (l : List Ent) : srtI p l = true ↔ (∀ e ∈ l, p < e.id) ∧ Rise l := by
  induction l generalizing p with
  | nil => simp [srtI, Rise]
  | cons e r ih =>
    rw [srtI, Bool.and_eq_true, decide_eq_true_iff, ih]
    unfold Rise
    rw [List.pairwise_cons]
    constructor
    · rintro ⟨h1, h2, h3⟩
      exact ⟨fun x hx => by rcases List.mem_cons.1 hx with rfl | hx; exact h1; have := h2 x hx; omega, h2, h3⟩
    · rintro ⟨h1, h2, h3⟩
      exact ⟨h1 e (by simp), h2, h3⟩

theorem srt_iff (l : List Ent) : srt l = true ↔ Rise l := by
  cases l with
  | nil => simp [srt, Rise]
  | cons e r => rw [srt, srtI_iff]; unfold Rise; rw [List.pairwise_cons]

theorem pos_take (l : List Ent) (id : Int) : ∀ x ∈ l.take (pos l id), x.id < id := by
  induction l with
  | nil => simp
  | cons e r ih =>
    rw [pos]
    split
    · rename_i h
      intro x hx
      rw [List.take_succ_cons] at hx
      rcases List.mem_cons.1 hx with rfl | hx
      · exact h
      · exact ih x hx
    · simp

theorem pos_drop (l : List Ent) (id : Int) (hs : Rise l) : ∀ x ∈ l.drop (pos l id), id ≤ x.id := by
  induction l with
  | nil => simp
  | cons e r ih =>
    have hr : Rise r := (List.pairwise_cons.1 hs).2
    rw [pos]
    split
    · rw [List.drop_succ_cons]; exact ih hr
    · rename_i h
      intro x hx
      rw [List.drop_zero] at hx
      rcases List.mem_cons.1 hx with rfl | hx
      · omega
      · have := (List.pairwise_cons.1 hs).1 x hx
        omega

/-- Is one of that number there? -/
def Has (l : List Ent) (id : Int) : Prop := ∃ e ∈ l, e.id = id

theorem fnd_has (l : List Ent) (id : Int) : 0 ≤ fnd l id ↔ Has l id := by
  rcases fnd_spec l id with ⟨h1, h2⟩ | ⟨j, x, h1, h2, h3⟩
  · rw [h1]
    exact ⟨fun h => by omega, fun ⟨e, he, hi⟩ => absurd hi (h2 e he)⟩
  · rw [h1]
    exact ⟨fun _ => ⟨x, List.mem_of_getElem? h2, h3⟩, fun _ => by omega⟩

theorem put_yes {l : List Ent} {e : Ent} (h : Has l e.id) : put l e = l := by unfold put; rw [if_pos ((fnd_has l e.id).2 h)]

theorem put_no {l : List Ent} {e : Ent} (h : ¬ Has l e.id) : put l e = l.take (pos l e.id) ++ [e] ++ l.drop (pos l e.id) := by unfold put; rw [if_neg fun h1 => h ((fnd_has l e.id).1 h1)]

theorem put_mem (l : List Ent) (e x : Ent) : x ∈ put l e ↔ x ∈ l ∨ (x = e ∧ ¬ Has l e.id) := by
  by_cases h : Has l e.id
  · rw [put_yes h]; simp [h]
  · rw [put_no h]
    have : x ∈ l ↔ x ∈ l.take (pos l e.id) ∨ x ∈ l.drop (pos l e.id) := by rw [← List.mem_append, List.take_append_drop]
    rw [this]
    simp [h]
    constructor
    · rintro (h | h | h)
      · exact .inl (.inl h)
      · exact .inr h
      · exact .inl (.inr h)
    · rintro ((h | h) | h)
      · exact .inl h
      · exact .inr (.inr h)
      · exact .inr (.inl h)

theorem put_has (l : List Ent) (e : Ent) (id : Int) : Has (put l e) id ↔ Has l id ∨ e.id = id := by
  constructor
  · rintro ⟨x, hx, rfl⟩
    rcases (put_mem l e x).1 hx with h | ⟨rfl, -⟩
    · exact .inl ⟨x, h, rfl⟩
    · exact .inr rfl
  · rintro (⟨x, hx, rfl⟩ | rfl)
    · exact ⟨x, (put_mem l e x).2 (.inl hx), rfl⟩
    · by_cases h : Has l e.id
      · rw [put_yes h]; exact h
      · exact ⟨e, (put_mem l e e).2 (.inr ⟨rfl, h⟩), rfl⟩

theorem put_rise {l : List Ent} (hs : Rise l) (e : Ent) : Rise (put l e) := by
  by_cases h : Has l e.id
  · rw [put_yes h]; exact hs
  · rw [put_no h]
    have h1 := pos_take l e.id
    have h2 := pos_drop l e.id hs
    have h3 : ∀ x ∈ l.drop (pos l e.id), e.id < x.id := fun x hx => by
      have := h2 x hx
      have hne : x.id ≠ e.id := fun hi => h ⟨x, List.mem_of_mem_drop hx, hi⟩
      omega
    unfold Rise at hs ⊢
    rw [← List.take_append_drop (pos l e.id) l, List.pairwise_append] at hs
    rw [List.append_assoc, List.pairwise_append, List.pairwise_append]
    refine ⟨hs.1, ⟨by simp, hs.2.1, fun a ha b hb => ?_⟩, fun a ha b hb => ?_⟩
    · simp at ha; subst ha; exact h3 b hb
    · rcases List.mem_append.1 hb with hb | hb
      · simp at hb; subst hb; exact h1 a ha
      · exact hs.2.2 a ha b hb

/-- Several, one after the other. -/
def puts (l m : List Ent) : List Ent := m.foldl put l

theorem puts_nil (l : List Ent) : puts l [] = l := rfl

theorem puts_cons (l : List Ent) (e : Ent) (m : List Ent) : puts l (e :: m) = puts (put l e) m := rfl

theorem puts_snoc (l m : List Ent) (e : Ent) : puts l (m ++ [e]) = put (puts l m) e := by unfold puts; rw [List.foldl_append]; rfl

theorem puts_rise {l : List Ent} (hs : Rise l) (m : List Ent) : Rise (puts l m) := by
  induction m generalizing l with
  | nil => exact hs
  | cons e r ih => rw [puts_cons]; exact ih (put_rise hs e)

theorem puts_has (l m : List Ent) (id : Int) : Has (puts l m) id ↔ Has l id ∨ Has m id := by
  induction m generalizing l with
  | nil => simp [puts, Has]
  | cons e r ih =>
    rw [puts_cons, ih, put_has]
    unfold Has
    simp only [List.mem_cons, exists_eq_or_imp]
    rw [or_assoc]

theorem puts_len (l m : List Ent) : (puts l m).length ≤ l.length + m.length := by
  induction m generalizing l with
  | nil => simp [puts]
  | cons e r ih =>
    have h1 := ih (put l e)
    have h2 := put_len l e
    rw [puts_cons, List.length_cons]
    omega

theorem puts_same {l : List Ent} (m : List Ent) (h : ∀ e ∈ m, Has l e.id) : puts l m = l := by
  induction m with
  | nil => rfl
  | cons e r ih => rw [puts_cons, put_yes (h e (by simp))]; exact ih fun x hx => h x (by simp [hx])

theorem drp_mem (l : List Ent) (ids : List Int) (x : Ent) : x ∈ drp l ids ↔ x ∈ l ∧ ¬ x.id ∈ ids := by
  unfold drp inB; simp

theorem drp_none (l : List Ent) (id : Int) : fnd (drp l [id]) id = -1 := fnd_no fun e he => by
  have := ((drp_mem l [id] e).1 he).2
  simpa using this

theorem drp_at {l : List Ent} (hs : Rise l) {k : Nat} {e : Ent} (hk : l[k]? = some e) : drp l [e.id] = l.take k ++ l.drop (k + 1) := by
  have hl : l = l.take k ++ e :: l.drop (k + 1) := by rw [← drop_at hk, List.take_append_drop]
  have hp := hs
  unfold Rise at hp
  rw [hl, List.pairwise_append, List.pairwise_cons] at hp
  have h1 : (l.take k).filter (fun x => !inB [e.id] x.id) = l.take k := List.filter_eq_self.2 fun x hx => by
    have := hp.2.2 x hx e (by simp)
    have hne : x.id ≠ e.id := by omega
    simp [inB, hne]
  have h2 : (l.drop (k + 1)).filter (fun x => !inB [e.id] x.id) = l.drop (k + 1) := List.filter_eq_self.2 fun x hx => by
    have := hp.2.1.1 x hx
    have hne : x.id ≠ e.id := by omega
    simp [inB, hne]
  have h0 : drp l [e.id] = drp (l.take k ++ e :: l.drop (k + 1)) [e.id] := by rw [← hl]
  rw [h0]
  unfold drp
  rw [List.filter_append, h1, List.filter_cons, h2]
  simp [inB]

theorem pos_at {a b : List Ent} {id : Int} (ha : ∀ x ∈ a, x.id < id) (hb : ∀ x ∈ b, id < x.id) : pos (a ++ b) id = a.length := by
  induction a with
  | nil =>
    cases b with
    | nil => rfl
    | cons e r => rw [List.nil_append, pos, if_neg (by have := hb e (by simp); omega)]; rfl
  | cons e r ih => rw [List.cons_append, pos, if_pos (ha e (by simp)), ih fun x hx => ha x (by simp [hx])]; rfl

theorem put_back {l : List Ent} (hs : Rise l) {k : Nat} {e : Ent} (hk : l[k]? = some e) : put (drp l [e.id]) e = l := by
  have hl : l = l.take k ++ e :: l.drop (k + 1) := by rw [← drop_at hk, List.take_append_drop]
  have hp := hs
  unfold Rise at hp
  rw [hl, List.pairwise_append, List.pairwise_cons] at hp
  have hno : ¬ Has (drp l [e.id]) e.id := fun ⟨x, hx, hi⟩ => by
    have := ((drp_mem l [e.id] x).1 hx).2
    simp [hi] at this
  rw [put_no hno, drp_at hs hk, pos_at (fun x hx => hp.2.2 x hx e (by simp)) (fun x hx => hp.2.1.1 x hx), List.take_left', List.drop_left']
  · rw [List.append_assoc]
    exact hl.symm
  · rfl
  · rfl

theorem drp_len {l : List Ent} (hs : Rise l) {k : Nat} {e : Ent} (hk : l[k]? = some e) : (drp l [e.id]).length + 1 = l.length := by
  have := (List.getElem?_eq_some_iff.1 hk).1
  rw [drp_at hs hk]
  simp
  omega

theorem drp_twice (l : List Ent) (id : Int) : drp (drp l [id]) [id, id] = drp l [id] := List.filter_eq_self.2 fun x hx => by
  have := ((drp_mem l [id] x).1 hx).2
  simp at this
  simp [inB, this]

theorem drp_rise {l : List Ent} (hs : Rise l) (ids : List Int) : Rise (drp l ids) := List.Pairwise.filter _ hs

end Go.Proofs.Ythkgbengmfedjaa.Fx
