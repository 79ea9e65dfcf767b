/- Lists that are sorted so that what is alike stays in order: merging, inserting, and what each leaves. Plain lists and arrays alone. -/
import Derived.Shelf.SlSortCmp.KitK
namespace Go.Proofs.Ytfpofegfbinalaa.Fx
open Go.Sort
set_option linter.unusedVariables false
set_option maxRecDepth 100000
variable {α : Type}

/-- Two lists merged: of two that are alike the first list's stands ahead. -/
def mrg (lt : α → α → Bool) : List α → List α → List α
  | [], l => l
  | x :: a, [] => x :: a
  | x :: a, y :: b => if lt y x = true then y :: mrg lt (x :: a) b else x :: mrg lt a (y :: b)
termination_by a b => a.length + b.length

theorem mrg_nil (lt : α → α → Bool) (l : List α) : mrg lt l [] = l := by cases l <;> rw [mrg]

theorem mrg_nil' (lt : α → α → Bool) (l : List α) : mrg lt [] l = l := by rw [mrg]

theorem mrg_lt (lt : α → α → Bool) {x y : α} (a b : List α) (h : lt y x = true) : mrg lt (x :: a) (y :: b) = y :: mrg lt (x :: a) b := by rw [mrg, if_pos h]

theorem mrg_ge (lt : α → α → Bool) {x y : α} (a b : List α) (h : lt y x = false) : mrg lt (x :: a) (y :: b) = x :: mrg lt a (y :: b) := by rw [mrg, if_neg (by simp [h])]

theorem mrg_len (lt : α → α → Bool) : ∀ (n : Nat) (a b : List α), a.length + b.length ≤ n → (mrg lt a b).length = a.length + b.length
  | _, [], b, _ => by rw [mrg_nil']; simp
  | _, x :: a, [], _ => by rw [mrg_nil]; simp
  | 0, x :: a, y :: b, h => by simp at h
  | n + 1, x :: a, y :: b, h => by
    simp only [List.length_cons] at h
    cases hl : lt y x
    · rw [mrg_ge lt a b hl, List.length_cons, mrg_len lt n a (y :: b) (by simp only [List.length_cons]; omega)]; simp only [List.length_cons]; omega
    · rw [mrg_lt lt a b hl, List.length_cons, mrg_len lt n (x :: a) b (by simp only [List.length_cons]; omega)]; simp only [List.length_cons]; omega

theorem mrg_length (lt : α → α → Bool) (a b : List α) : (mrg lt a b).length = a.length + b.length := mrg_len lt _ a b (Nat.le_refl _)

theorem mrg_perm' (lt : α → α → Bool) : ∀ (n : Nat) (a b : List α), a.length + b.length ≤ n → (mrg lt a b).Perm (a ++ b)
  | _, [], b, _ => by rw [mrg_nil']; exact List.Perm.refl _
  | _, x :: a, [], _ => by rw [mrg_nil]; simp
  | 0, x :: a, y :: b, h => by simp at h
  | n + 1, x :: a, y :: b, h => by
    simp only [List.length_cons] at h
    cases hl : lt y x
    · rw [mrg_ge lt a b hl]
      exact List.Perm.cons x (mrg_perm' lt n a (y :: b) (by simp only [List.length_cons]; omega))
    · rw [mrg_lt lt a b hl]
      refine (List.Perm.cons y (mrg_perm' lt n (x :: a) b (by simp only [List.length_cons]; omega))).trans ?_
      exact (List.perm_middle (l₁ := x :: a) (l₂ := b) (a := y)).symm

theorem mrg_perm (lt : α → α → Bool) (a b : List α) : (mrg lt a b).Perm (a ++ b) := mrg_perm' lt _ a b (Nat.le_refl _)

/-- Where it may be parted. -/
theorem mrg_split' (lt : α → α → Bool) (a2 b2 : List α) : ∀ (n : Nat) (a1 b1 : List α), a1.length + b1.length ≤ n → (∀ y ∈ b1, ∀ x ∈ a2, lt y x = true) → (∀ x ∈ a1, ∀ y ∈ b2, lt y x = false) →
    mrg lt (a1 ++ a2) (b1 ++ b2) = mrg lt a1 b1 ++ mrg lt a2 b2
  | _, [], [], _, _, _ => by simp [mrg_nil']
  | 0, [], y :: b1, h, _, _ => by simp at h
  | 0, x :: a1, _, h, _, _ => by simp at h
  | n + 1, [], y :: b1, h, h1, h2 => by
    simp only [List.length_cons, List.length_nil] at h
    have ih := mrg_split' lt a2 b2 n [] b1 (by simp; omega) (fun z hz => h1 z (List.mem_cons_of_mem _ hz)) h2
    cases a2 with
    | nil => simp [mrg_nil']
    | cons x a2 =>
      simp only [List.nil_append, mrg_nil', List.cons_append] at ih ⊢
      rw [mrg_lt lt _ _ (h1 y List.mem_cons_self x List.mem_cons_self), ih]
  | n + 1, x :: a1, [], h, h1, h2 => by
    simp only [List.length_cons, List.length_nil] at h
    have ih := mrg_split' lt a2 b2 n a1 [] (by simp; omega) h1 (fun z hz => h2 z (List.mem_cons_of_mem _ hz))
    cases b2 with
    | nil => simp [mrg_nil]
    | cons y b2 =>
      simp only [List.nil_append, mrg_nil, List.cons_append] at ih ⊢
      rw [mrg_ge lt _ _ (h2 x List.mem_cons_self y List.mem_cons_self), ih]
  | n + 1, x :: a1, y :: b1, h, h1, h2 => by
    simp only [List.length_cons] at h
    cases hl : lt y x
    · have ih := mrg_split' lt a2 b2 n a1 (y :: b1) (by simp only [List.length_cons]; omega) h1 (fun z hz => h2 z (List.mem_cons_of_mem _ hz))
      simp only [List.cons_append] at ih ⊢
      rw [mrg_ge lt _ _ hl, mrg_ge lt _ _ hl, ih]; rfl
    · have ih := mrg_split' lt a2 b2 n (x :: a1) b1 (by simp only [List.length_cons]; omega) (fun z hz => h1 z (List.mem_cons_of_mem _ hz)) h2
      simp only [List.cons_append] at ih ⊢
      rw [mrg_lt lt _ _ hl, mrg_lt lt _ _ hl, ih]; rfl

theorem mrg_split (lt : α → α → Bool) {a1 a2 b1 b2 : List α} (h1 : ∀ y ∈ b1, ∀ x ∈ a2, lt y x = true) (h2 : ∀ x ∈ a1, ∀ y ∈ b2, lt y x = false) :
    mrg lt (a1 ++ a2) (b1 ++ b2) = mrg lt a1 b1 ++ mrg lt a2 b2 := mrg_split' lt a2 b2 _ a1 b1 (Nat.le_refl _) h1 h2

theorem swo_lt_le {lt : α → α → Bool} [Inhabited α] (h : SWO lt) {x y z : α} (h1 : lt x y = true) (h2 : lt z y = false) : lt x z = true := by
  cases h3 : lt x z
  · rw [h.ntrans x z y h3 h2] at h1; cases h1
  · rfl

theorem swo_le_lt {lt : α → α → Bool} [Inhabited α] (h : SWO lt) {x y z : α} (h1 : lt y x = false) (h2 : lt y z = true) : lt x z = true := by
  cases h3 : lt x z
  · rw [h.ntrans y x z h1 h3] at h2; cases h2
  · rfl

theorem swo_asymm {lt : α → α → Bool} [Inhabited α] (h : SWO lt) {x y : α} (h1 : lt x y = true) : lt y x = false := by
  cases h2 : lt y x
  · rfl
  · have := h.trans x y x h1 h2; rw [h.irrefl] at this; cases this

theorem mrg_assoc' (lt : α → α → Bool) [Inhabited α] (h : SWO lt) : ∀ (n : Nat) (a b c : List α), a.length + b.length + c.length ≤ n → mrg lt (mrg lt a b) c = mrg lt a (mrg lt b c)
  | _, [], b, c, _ => by simp [mrg_nil']
  | _, x :: a, [], c, _ => by simp [mrg_nil', mrg_nil]
  | _, x :: a, y :: b, [], _ => by simp [mrg_nil]
  | 0, x :: a, y :: b, z :: c, hn => by simp at hn
  | n + 1, x :: a, y :: b, z :: c, hn => by
    simp only [List.length_cons] at hn
    cases h1 : lt y x
    · cases h2 : lt z x
      · have e : mrg lt (mrg lt (x :: a) (y :: b)) (z :: c) = x :: mrg lt (mrg lt a (y :: b)) (z :: c) := by rw [mrg_ge lt _ _ h1, mrg_ge lt _ _ h2]
        have e2 : mrg lt (x :: a) (mrg lt (y :: b) (z :: c)) = x :: mrg lt a (mrg lt (y :: b) (z :: c)) := by
          cases h3 : lt z y
          · rw [mrg_ge lt _ _ h3, mrg_ge lt _ _ h1]
          · rw [mrg_lt lt _ _ h3, mrg_ge lt _ _ h2]
        rw [e, e2, mrg_assoc' lt h n a (y :: b) (z :: c) (by simp only [List.length_cons]; omega)]
      · have h3 : lt z y = true := swo_lt_le h h2 h1
        have ih := mrg_assoc' lt h n (x :: a) (y :: b) c (by simp only [List.length_cons]; omega)
        rw [mrg_ge lt _ _ h1] at ih ⊢
        rw [mrg_lt lt _ _ h2, mrg_lt lt _ _ h3, mrg_lt lt _ _ h2, ih]
    · cases h2 : lt z y
      · have ih := mrg_assoc' lt h n (x :: a) b (z :: c) (by simp only [List.length_cons]; omega)
        rw [mrg_lt lt _ _ h1, mrg_ge lt _ _ h2, mrg_ge lt _ _ h2, mrg_lt lt _ _ h1, ih]
      · have h3 : lt z x = true := h.trans z y x h2 h1
        have ih := mrg_assoc' lt h n (x :: a) (y :: b) c (by simp only [List.length_cons]; omega)
        rw [mrg_lt lt _ _ h1] at ih ⊢
        rw [mrg_lt lt _ _ h2, mrg_lt lt _ _ h2, mrg_lt lt _ _ h3, ih]

theorem mrg_assoc (lt : α → α → Bool) [Inhabited α] (h : SWO lt) (a b c : List α) : mrg lt (mrg lt a b) c = mrg lt a (mrg lt b c) := mrg_assoc' lt h _ a b c (Nat.le_refl _)

/-- No later one stands ahead of an earlier one. -/
def Srtd (lt : α → α → Bool) (l : List α) : Prop := l.Pairwise fun x y => lt y x = false

theorem Srtd.parts {lt : α → α → Bool} {a b : List α} (h : Srtd lt (a ++ b)) : Srtd lt a ∧ Srtd lt b := ⟨(List.pairwise_append.1 h).1, (List.pairwise_append.1 h).2.1⟩

theorem mrg_srtd' (lt : α → α → Bool) [Inhabited α] (h : SWO lt) : ∀ (n : Nat) (a b : List α), a.length + b.length ≤ n → Srtd lt a → Srtd lt b → Srtd lt (mrg lt a b)
  | _, [], b, _, _, hb => by rw [mrg_nil']; exact hb
  | _, x :: a, [], _, ha, _ => by rw [mrg_nil]; exact ha
  | 0, x :: a, y :: b, hn, _, _ => by simp at hn
  | n + 1, x :: a, y :: b, hn, ha, hb => by
    simp only [List.length_cons] at hn
    have ha' := List.pairwise_cons.1 ha
    have hb' := List.pairwise_cons.1 hb
    cases h1 : lt y x
    · rw [mrg_ge lt _ _ h1]
      refine List.pairwise_cons.2 ⟨fun z hz => ?_, mrg_srtd' lt h n a (y :: b) (by simp only [List.length_cons]; omega) ha'.2 hb⟩
      rcases List.mem_append.1 ((mrg_perm lt a (y :: b)).mem_iff.1 hz) with hm | hm
      · exact ha'.1 z hm
      · rcases List.mem_cons.1 hm with rfl | hm
        · exact h1
        · exact h.ntrans z y x (hb'.1 z hm) h1
    · rw [mrg_lt lt _ _ h1]
      refine List.pairwise_cons.2 ⟨fun z hz => ?_, mrg_srtd' lt h n (x :: a) b (by simp only [List.length_cons]; omega) ha hb'.2⟩
      rcases List.mem_append.1 ((mrg_perm lt (x :: a) b).mem_iff.1 hz) with hm | hm
      · rcases List.mem_cons.1 hm with rfl | hm
        · exact swo_asymm h h1
        · exact h.ntrans z x y (ha'.1 z hm) (swo_asymm h h1)
      · exact hb'.1 z hm

theorem mrg_srtd {lt : α → α → Bool} [Inhabited α] (h : SWO lt) {a b : List α} (ha : Srtd lt a) (hb : Srtd lt b) : Srtd lt (mrg lt a b) := mrg_srtd' lt h _ a b (Nat.le_refl _) ha hb

/-- The list sorted: what is alike stays in order. -/
def st (lt : α → α → Bool) : List α → List α
  | [] => []
  | x :: l => mrg lt [x] (st lt l)

theorem st_append (lt : α → α → Bool) [Inhabited α] (h : SWO lt) (a b : List α) : st lt (a ++ b) = mrg lt (st lt a) (st lt b) := by
  induction a with
  | nil => simp [st, mrg_nil']
  | cons x a ih => rw [List.cons_append, st, ih, ← mrg_assoc lt h, st]

theorem st_srtd {lt : α → α → Bool} [Inhabited α] (h : SWO lt) (l : List α) : Srtd lt (st lt l) := by
  induction l with
  | nil => exact List.Pairwise.nil
  | cons x l ih => exact mrg_srtd h (List.pairwise_singleton _ _) ih

theorem st_perm (lt : α → α → Bool) (l : List α) : (st lt l).Perm l := by
  induction l with
  | nil => exact List.Perm.refl _
  | cons x l ih => exact (mrg_perm lt [x] (st lt l)).trans (List.Perm.cons x ih)

theorem st_length (lt : α → α → Bool) (l : List α) : (st lt l).length = l.length := (st_perm lt l).length_eq

theorem mrg_one (lt : α → α → Bool) (x : α) (l : List α) (h : ∀ y ∈ l, lt y x = false) : mrg lt [x] l = x :: l := by
  cases l with
  | nil => rw [mrg_nil]
  | cons y l => rw [mrg_ge lt _ _ (h y List.mem_cons_self), mrg_nil']

theorem st_of_srtd (lt : α → α → Bool) (l : List α) (h : Srtd lt l) : st lt l = l := by
  induction l with
  | nil => rfl
  | cons x l ih =>
    have h' := List.pairwise_cons.1 h
    rw [st, ih h'.2, mrg_one lt x l h'.1]

/-- One that goes in: behind all that it does not stand ahead of. -/
theorem mrg_in (lt : α → α → Bool) {a b : List α} (x : α) (h1 : ∀ y ∈ a, lt x y = false) (h2 : ∀ y ∈ b, lt x y = true) : mrg lt (a ++ b) [x] = a ++ x :: b := by
  have e := mrg_split lt (a1 := a) (a2 := b) (b1 := [x]) (b2 := []) (fun y hy z hz => by rw [List.mem_singleton.1 hy]; exact h2 z hz) (fun _ _ y hy => by cases hy)
  rw [List.append_nil, mrg_nil] at e
  rw [e]
  have e2 : mrg lt a [x] = a ++ [x] := by
    have := mrg_split lt (a1 := a) (a2 := []) (b1 := []) (b2 := [x]) (fun y hy => by cases hy) (fun z hz y hy => by rw [List.mem_singleton.1 hy]; exact h1 z hz)
    rw [List.append_nil, mrg_nil, mrg_nil'] at this
    exact this
  rw [e2, List.append_assoc]; rfl

/-- One ahead of a list. -/
theorem mrg_in' (lt : α → α → Bool) {a b : List α} (x : α) (h1 : ∀ y ∈ a, lt y x = true) (h2 : ∀ y ∈ b, lt y x = false) : mrg lt [x] (a ++ b) = a ++ x :: b := by
  have e := mrg_split lt (a1 := []) (a2 := [x]) (b1 := a) (b2 := b) (fun y hy z hz => by rw [List.mem_singleton.1 hz]; exact h1 y hy) (fun z hz => by cases hz)
  rw [mrg_nil'] at e
  rw [List.nil_append] at e
  rw [e, mrg_one lt x b h2]

/-! ### arrays as lists -/
theorem get_at {l a b : List α} {x : α} (h : l = a ++ x :: b) (i : Nat) (hi : i = a.length) : l[i]? = some x := by
  subst h hi; simp

theorem set_two (p q r : List α) (y z x : α) : (p ++ y :: (q ++ z :: r)).set (p.length + 1 + q.length) x = p ++ y :: (q ++ x :: r) := by
  rw [show p ++ y :: (q ++ z :: r) = (p ++ y :: q) ++ z :: r by simp, List.set_append_right _ _ (by simp; omega), show p.length + 1 + q.length - (p ++ y :: q).length = 0 by simp; omega]
  simp

variable [Inhabited α]

theorem arr_get {d : Array α} {l : List α} (h : d.toList = l) (i : Nat) (x : α) (hx : l[i]? = some x) : i < d.size ∧ d[i]! = x := by
  subst h
  rw [Array.getElem?_toList] at hx
  have := Array.getElem?_eq_some_iff.1 hx
  exact ⟨this.1, by rw [getElem!_pos d i this.1]; exact this.2⟩

/-- Two places exchanged, in a list. -/
theorem swp_list {d : Array α} {p q r : List α} {x y : α} (h : d.toList = p ++ x :: (q ++ y :: r)) (i j : Nat) (hi : i = p.length) (hj : j = p.length + 1 + q.length) : (swp d i j).toList = p ++ y :: (q ++ x :: r) := by
  have hx := arr_get h i x (get_at rfl i hi)
  have hy := arr_get h j y (get_at (a := p ++ x :: q) (b := r) (by simp) j (by simp; omega))
  unfold swp
  rw [hx.2, hy.2, Array.toList_setIfInBounds, Array.toList_setIfInBounds, h]
  subst hi hj
  simp [set_two]

theorem swp_list' {d : Array α} {p q r : List α} {x y : α} (h : d.toList = p ++ x :: (q ++ y :: r)) (i j : Nat) (hi : i = p.length) (hj : j = p.length + 1 + q.length) : (swp d j i).toList = p ++ y :: (q ++ x :: r) := by
  have hx := arr_get h i x (get_at rfl i hi)
  have hy := arr_get h j y (get_at (a := p ++ x :: q) (b := r) (by simp) j (by simp; omega))
  unfold swp
  rw [hx.2, hy.2, Array.toList_setIfInBounds, Array.toList_setIfInBounds, h]
  subst hi hj
  rw [List.set_comm _ _ (by omega)]
  simp [set_two]

/-- The inner loop of an insertion sort. -/
theorem insInner_list (lt : α → α → Bool) (h : SWO lt) (p : List α) (x : α) : ∀ (s r t : List α) (d : Array α) (j : Nat), d.toList = p ++ s ++ x :: (t ++ r) → j = p.length + s.length → Srtd lt s → (∀ y ∈ t, lt x y = true) →
    (insInner lt p.length j d).toList = p ++ mrg lt s [x] ++ (t ++ r) := by
  intro s
  induction hn : s.length generalizing s with
  | zero =>
    intro r t d j hd hj hs ht
    obtain rfl : s = [] := List.eq_nil_of_length_eq_zero hn
    simp at hd hj
    subst hj
    rw [mrg_nil']
    have e : insInner lt p.length p.length d = d := by
      cases hp : p.length with
      | zero => rfl
      | succ k => rw [insInner]; simp
    rw [e, hd]; simp
  | succ n ih =>
    intro r t d j hd hj hs ht
    obtain ⟨s', y, rfl⟩ : ∃ s' y, s = s' ++ [y] := by
      rcases List.eq_nil_or_concat s with h0 | ⟨s', y, h0⟩
      · subst h0; simp at hn
      · exact ⟨s', y, by simpa using h0⟩
    simp at hn hj
    obtain ⟨k, rfl⟩ : ∃ k, j = k + 1 := ⟨p.length + s'.length, by omega⟩
    have hd' : d.toList = (p ++ s') ++ y :: ([] ++ x :: (t ++ r)) := by rw [hd]; simp
    have hy := arr_get hd' k y (get_at rfl k (by simp; omega))
    have hx := arr_get hd' (k + 1) x (get_at (a := p ++ s' ++ [y]) (b := t ++ r) (by simp) (k + 1) (by simp; omega))
    rw [insInner, hx.2, hy.2]
    cases hl : lt x y
    · have e : (decide (k + 1 > p.length) && false) = false := by simp
      rw [e, if_neg (by simp)]
      have hm := mrg_in lt (a := s' ++ [y]) (b := []) x (fun z hz => ?_) (fun z hz => by cases hz)
      · rw [List.append_nil] at hm
        rw [hm, hd]; simp
      · rcases List.mem_append.1 hz with hz | hz
        · have := (List.pairwise_append.1 hs).2.2 z hz y List.mem_cons_self
          exact h.ntrans x y z hl this
        · rw [List.mem_singleton.1 hz]; exact hl
    · rw [if_pos (by simp; omega)]
      have hs' := swp_list' hd' k (k + 1) (by simp; omega) (by simp; omega)
      have := ih s' hn r (y :: t) (swp d (k + 1) k) k (by rw [hs']; simp) (by omega) (Srtd.parts hs).1 (fun z hz => by
        rcases List.mem_cons.1 hz with rfl | hz
        · exact hl
        · exact ht z hz)
      rw [this]
      have hm : mrg lt (s' ++ [y]) [x] = mrg lt s' [x] ++ [y] := by
        have := mrg_split lt (a1 := s') (a2 := [y]) (b1 := [x]) (b2 := []) (fun z hz w hw => by rw [List.mem_singleton.1 hz, List.mem_singleton.1 hw]; exact hl) (fun _ _ y hy => by cases hy)
        rw [List.append_nil, mrg_nil] at this
        exact this
      rw [hm]; simp

theorem insOuter_list (lt : α → α → Bool) (h : SWO lt) (p r : List α) : ∀ (u s : List α) (d : Array α) (i b : Nat), d.toList = p ++ st lt s ++ (u ++ r) → i = p.length + s.length → b = i + u.length →
    (insOuter lt p.length b i d).toList = p ++ st lt (s ++ u) ++ r := by
  intro u
  induction u with
  | nil =>
    intro s d i b hd hi hb
    rw [insOuter, if_neg (by simp at hb; omega), hd]; simp
  | cons x u ih =>
    intro s d i b hd hi hb
    simp at hb
    rw [insOuter, if_pos (by omega)]
    have h1 := insInner_list lt h p x (st lt s) (u ++ r) [] d i (by rw [hd]; simp) (by rw [st_length]; exact hi) (st_srtd h s) (fun y hy => by cases hy)
    have h2 : mrg lt (st lt s) [x] = st lt (s ++ [x]) := by rw [st_append lt h]; simp [st, mrg_nil]
    have := ih (s ++ [x]) (insInner lt p.length i d) (i + 1) b (by rw [h1, h2]; simp) (by simp; omega) (by omega)
    rw [this]; simp

/-- An insertion sort sorts, and what is alike stays in order. -/
theorem insertion_list (lt : α → α → Bool) (h : SWO lt) (d : Array α) (p u r : List α) (a b : Nat) (hd : d.toList = p ++ u ++ r) (ha : a = p.length) (hb : b = a + u.length) : (insertionSort lt d a b).toList = p ++ st lt u ++ r := by
  subst ha
  unfold insertionSort
  cases u with
  | nil =>
    simp at hb
    rw [insOuter, if_neg (by omega), hd]; simp [st]
  | cons x u =>
    simp at hb
    exact insOuter_list lt h p r u [x] d (p.length + 1) b (by rw [hd]; simp [st, mrg_nil]) (by simp) (by omega)

end Go.Proofs.Ytfpofegfbinalaa.Fx
