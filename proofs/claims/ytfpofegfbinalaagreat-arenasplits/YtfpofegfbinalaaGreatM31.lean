/- Lists that are sorted so that what is alike stays in order: merging, inserting, and what each leaves. Plain lists and arrays alone. slices.SortStableFunc's helpers at elements of k cells, over whatever program bears their bodies: what each leaves in the row. -/
import Derived.Shelf.SlSortCmp.KitK
import Derived.Test.YtfpofegfbinalaaGreatProg
import Derived.Deep.LoopGhost
import Derived.Lib.Hide
namespace Go.Proofs.YtfpofegfbinalaaGreat.Fx
open Go.Sort
set_option linter.unusedVariables false
set_option maxRecDepth 100000
variable {α : Type}

/-- Two lists merged: of two that are alike the first list's stands ahead. -/
def mrg (lt : α → α → Bool) : List α → List α → List α
  | [], l => l
  | x :: a, [] => x :: a
  | x :: a, y :: b => if lt y x = true then y :: mrg lt (x :: a) b else x :: mrg lt a (y :: b)
termination_by a b => a.length + b.length

theorem mrg_nil (lt : α → α → Bool) (l : List α) : mrg lt l [] = l := by cases l <;> rw [mrg]

theorem mrg_nil' (lt : α → α → Bool) (l : List α) : mrg lt [] l = l := by rw [mrg]

theorem mrg_lt (lt : α → α → Bool) {x y : α} (a b : List α) (h : lt y x = true) : mrg lt (x :: a) (y :: b) = y :: mrg lt (x :: a) b := by rw [mrg, if_pos h]

theorem mrg_ge (lt : α → α → Bool) {x y : α} (a b : List α) (h : lt y x = false) : mrg lt (x :: a) (y :: b) = x :: mrg lt a (y :: b) := by rw [mrg, if_neg (by simp [h])]

theorem mrg_len (lt : α → α → Bool) : ∀ (n : Nat) (a b : List α), a.length + b.length ≤ n → (mrg lt a b).length = a.length + b.length
  | _, [], b, _ => by rw [mrg_nil']; simp
  | _, x :: a, [], _ => by rw [mrg_nil]; simp
  | 0, x :: a, y :: b, h => by simp at h
  | n + 1, x :: a, y :: b, h => by
    simp only [List.length_cons] at h
    cases hl : lt y x
    · rw [mrg_ge lt a b hl, List.length_cons, mrg_len lt n a (y :: b) (by simp only [List.length_cons]; omega)]; simp only [List.length_cons]; omega
    · rw [mrg_lt lt a b hl, List.length_cons, mrg_len lt n (x :: a) b (by simp only [List.length_cons]; omega)]; simp only [List.length_cons]; omega

theorem mrg_length (lt : α → α → Bool) (a b : List α) : (mrg lt a b).length = a.length + b.length := mrg_len lt _ a b (Nat.le_refl _)

theorem mrg_perm' (lt : α → α → Bool) : ∀ (n : Nat) (a b : List α), a.length + b.length ≤ n → (mrg lt a b).Perm (a ++ b)
  | _, [], b, _ => by rw [mrg_nil']; exact List.Perm.refl _
  | _, x :: a, [], _ => by rw [mrg_nil]; simp
  | 0, x :: a, y :: b, h => by simp at h
  | n + 1, x :: a, y :: b, h => by
    simp only [List.length_cons] at h
    cases hl : lt y x
    · rw [mrg_ge lt a b hl]
      exact List.Perm.cons x (mrg_perm' lt n a (y :: b) (by simp only [List.length_cons]; omega))
    · rw [mrg_lt lt a b hl]
      refine (List.Perm.cons y (mrg_perm' lt n (x :: a) b (by simp only [List.length_cons]; omega))).trans ?_
      exact (List.perm_middle (l₁ := x :: a) (l₂ := b) (a := y)).symm

theorem mrg_perm (lt : α → α → Bool) (a b : List α) : (mrg lt a b).Perm (a ++ b) := mrg_perm' lt _ a b (Nat.le_refl _)

/-- Where it may be parted. -/
theorem mrg_split' (lt : α → α → Bool) (a2 b2 : List α) : ∀ (n : Nat) (a1 b1 : List α), a1.length + b1.length ≤ n → (∀ y ∈ b1, ∀ x ∈ a2, lt y x = true) → (∀ x ∈ a1, ∀ y ∈ b2, lt y x = false) →
    mrg lt (a1 ++ a2) (b1 ++ b2) = mrg lt a1 b1 ++ mrg lt a2 b2
  | _, [], [], _, _, _ => by simp [mrg_nil']
  | 0, [], y :: b1, h, _, _ => by simp at h
  | 0, x :: a1, _, h, _, _ => by simp at h
  | n + 1, [], y :: b1, h, h1, h2 => by
    simp only [List.length_cons, List.length_nil] at h
    have ih := mrg_split' lt a2 b2 n [] b1 (by simp; omega) (fun z hz => h1 z (List.mem_cons_of_mem _ hz)) h2
    cases a2 with
    | nil => simp [mrg_nil']
    | cons x a2 =>
      simp only [List.nil_append, mrg_nil', List.cons_append] at ih ⊢
      rw [mrg_lt lt _ _ (h1 y List.mem_cons_self x List.mem_cons_self), ih]
  | n + 1, x :: a1, [], h, h1, h2 => by
    simp only [List.length_cons, List.length_nil] at h
    have ih := mrg_split' lt a2 b2 n a1 [] (by simp; omega) h1 (fun z hz => h2 z (List.mem_cons_of_mem _ hz))
    cases b2 with
    | nil => simp [mrg_nil]
    | cons y b2 =>
      simp only [List.nil_append, mrg_nil, List.cons_append] at ih ⊢
      rw [mrg_ge lt _ _ (h2 x List.mem_cons_self y List.mem_cons_self), ih]
  | n + 1, x :: a1, y :: b1, h, h1, h2 => by
    simp only [List.length_cons] at h
    cases hl : lt y x
    · have ih := mrg_split' lt a2 b2 n a1 (y :: b1) (by simp only [List.length_cons]; omega) h1 (fun z hz => h2 z (List.mem_cons_of_mem _ hz))
      simp only [List.cons_append] at ih ⊢
      rw [mrg_ge lt _ _ hl, mrg_ge lt _ _ hl, ih]; rfl
    · have ih := mrg_split' lt a2 b2 n (x :: a1) b1 (by simp only [List.length_cons]; omega) (fun z hz => h1 z (List.mem_cons_of_mem _ hz)) h2
      simp only [List.cons_append] at ih ⊢
      rw [mrg_lt lt _ _ hl, mrg_lt lt _ _ hl, ih]; rfl

theorem mrg_split (lt : α → α → Bool) {a1 a2 b1 b2 : List α} (h1 : ∀ y ∈ b1, ∀ x ∈ a2, lt y x = true) (h2 : ∀ x ∈ a1, ∀ y ∈ b2, lt y x = false) :
    mrg lt (a1 ++ a2) (b1 ++ b2) = mrg lt a1 b1 ++ mrg lt a2 b2 := mrg_split' lt a2 b2 _ a1 b1 (Nat.le_refl _) h1 h2

theorem swo_lt_le {lt : α → α → Bool} [Inhabited α] (h : SWO lt) {x y z : α} (h1 : lt x y = true) (h2 : lt z y = false) : lt x z = true := by
  cases h3 : lt x z
  · rw [h.ntrans x z y h3 h2] at h1; cases h1
  · rfl

theorem swo_le_lt {lt : α → α → Bool} [Inhabited α] (h : SWO lt) {x y z : α} (h1 : lt y x = false) (h2 : lt y z = true) : lt x z = true := by
  cases h3 : lt x z
  · rw [h.ntrans y x z h1 h3] at h2; cases h2
  · rfl

theorem swo_asymm {lt : α → α → Bool} [Inhabited α] (h : SWO lt) {x y : α} (h1 : lt x y = true) : lt y x = false := by
  cases h2 : lt y x
  · rfl
  · have := h.trans x y x h1 h2; rw [h.irrefl] at this; cases this

theorem mrg_assoc' (lt : α → α → Bool) [Inhabited α] (h : SWO lt) : ∀ (n : Nat) (a b c : List α), a.length + b.length + c.length ≤ n → mrg lt (mrg lt a b) c = mrg lt a (mrg lt b c)
  | _, [], b, c, _ => by simp [mrg_nil']
  | _, x :: a, [], c, _ => by simp [mrg_nil', mrg_nil]
  | _, x :: a, y :: b, [], _ => by simp [mrg_nil]
  | 0, x :: a, y :: b, z :: c, hn => by simp at hn
  | n + 1, x :: a, y :: b, z :: c, hn => by
    simp only [List.length_cons] at hn
    cases h1 : lt y x
    · cases h2 : lt z x
      · have e : mrg lt (mrg lt (x :: a) (y :: b)) (z :: c) = x :: mrg lt (mrg lt a (y :: b)) (z :: c) := by rw [mrg_ge lt _ _ h1, mrg_ge lt _ _ h2]
        have e2 : mrg lt (x :: a) (mrg lt (y :: b) (z :: c)) = x :: mrg lt a (mrg lt (y :: b) (z :: c)) := by
          cases h3 : lt z y
          · rw [mrg_ge lt _ _ h3, mrg_ge lt _ _ h1]
          · rw [mrg_lt lt _ _ h3, mrg_ge lt _ _ h2]
        rw [e, e2, mrg_assoc' lt h n a (y :: b) (z :: c) (by simp only [List.length_cons]; omega)]
      · have h3 : lt z y = true := swo_lt_le h h2 h1
        have ih := mrg_assoc' lt h n (x :: a) (y :: b) c (by simp only [List.length_cons]; omega)
        rw [mrg_ge lt _ _ h1] at ih ⊢
        rw [mrg_lt lt _ _ h2, mrg_lt lt _ _ h3, mrg_lt lt _ _ h2, ih]
    · cases h2 : lt z y
      · have ih := mrg_assoc' lt h n (x :: a) b (z :: c) (by simp only [List.length_cons]; omega)
        rw [mrg_lt lt _ _ h1, mrg_ge lt _ _ h2, mrg_ge lt _ _ h2, mrg_lt lt _ _ h1, ih]
      · have h3 : lt z x = true := h.trans z y x h2 h1
        have ih := mrg_assoc' lt h n (x :: a) (y :: b) c (by simp only [List.length_cons]; omega)
        rw [mrg_lt lt _ _ h1] at ih ⊢
        rw [mrg_lt lt _ _ h2, mrg_lt lt _ _ h2, mrg_lt lt _ _ h3, ih]

theorem mrg_assoc (lt : α → α → Bool) [Inhabited α] (h : SWO lt) (a b c : List α) : mrg lt (mrg lt a b) c = mrg lt a (mrg lt b c) := mrg_assoc' lt h _ a b c (Nat.le_refl _)

/-- No later one stands ahead of an earlier one. -/
def Srtd (lt : α → α → Bool) (l : List α) : Prop := l.Pairwise fun x y => lt y x = false

theorem Srtd.parts {lt : α → α → Bool} {a b : List α} (h : Srtd lt (a ++ b)) : Srtd lt a ∧ Srtd lt b := ⟨(List.pairwise_append.1 h).1, (List.pairwise_append.1 h).2.1⟩

theorem mrg_srtd' (lt : α → α → Bool) [Inhabited α] (h : SWO lt) : ∀ (n : Nat) (a b : List α), a.length + b.length ≤ n → Srtd lt a → Srtd lt b → Srtd lt (mrg lt a b)
  | _, [], b, _, _, hb => by rw [mrg_nil']; exact hb
  | _, x :: a, [], _, ha, _ => by rw [mrg_nil]; exact ha
  | 0, x :: a, y :: b, hn, _, _ => by simp at hn
  | n + 1, x :: a, y :: b, hn, ha, hb => by
    simp only [List.length_cons] at hn
    have ha' := List.pairwise_cons.1 ha
    have hb' := List.pairwise_cons.1 hb
    cases h1 : lt y x
    · rw [mrg_ge lt _ _ h1]
      refine List.pairwise_cons.2 ⟨fun z hz => ?_, mrg_srtd' lt h n a (y :: b) (by simp only [List.length_cons]; omega) ha'.2 hb⟩
      rcases List.mem_append.1 ((mrg_perm lt a (y :: b)).mem_iff.1 hz) with hm | hm
      · exact ha'.1 z hm
      · rcases List.mem_cons.1 hm with rfl | hm
        · exact h1
        · exact h.ntrans z y x (hb'.1 z hm) h1
    · rw [mrg_lt lt _ _ h1]
      refine List.pairwise_cons.2 ⟨fun z hz => ?_, mrg_srtd' lt h n (x :: a) b (by simp only [List.length_cons]; omega) ha hb'.2⟩
      rcases List.mem_append.1 ((mrg_perm lt (x :: a) b).mem_iff.1 hz) with hm | hm
      · rcases List.mem_cons.1 hm with rfl | hm
        · exact swo_asymm h h1
        · exact h.ntrans z x y (ha'.1 z hm) (swo_asymm h h1)
      · exact hb'.1 z hm

theorem mrg_srtd {lt : α → α → Bool} [Inhabited α] (h : SWO lt) {a b : List α} (ha : Srtd lt a) (hb : Srtd lt b) : Srtd lt (mrg lt a b) := mrg_srtd' lt h _ a b (Nat.le_refl _) ha hb

/-- The list sorted: what is alike stays in order. -/
def st (lt : α → α → Bool) : List α → List α
  | [] => []
  | x :: l => mrg lt [x] (st lt l)

theorem st_append (lt : α → α → Bool) [Inhabited α] (h : SWO lt) (a b : List α) : st lt (a ++ b) = mrg lt (st lt a) (st lt b) := by
  induction a with
  | nil => simp [st, mrg_nil']
  | cons x a ih => rw [List.cons_append, st, ih, ← mrg_assoc lt h, st]

theorem st_srtd {lt : α → α → Bool} [Inhabited α] (h : SWO lt) (l : List α) : Srtd lt (st lt l) := by
  induction l with
  | nil => exact List.Pairwise.nil
  | cons x l ih => exact mrg_srtd h (List.pairwise_singleton _ _) ih

theorem st_perm (lt : α → α → Bool) (l : List α) : (st lt l).Perm l := by
  induction l with
  | nil => exact List.Perm.refl _
  | cons x l ih => exact (mrg_perm lt [x] (st lt l)).trans (List.Perm.cons x ih)

theorem st_length (lt : α → α → Bool) (l : List α) : (st lt l).length = l.length := (st_perm lt l).length_eq

theorem mrg_one (lt : α → α → Bool) (x : α) (l : List α) (h : ∀ y ∈ l, lt y x = false) : mrg lt [x] l = x :: l := by
  cases l with
  | nil => rw [mrg_nil]
  | cons y l => rw [mrg_ge lt _ _ (h y List.mem_cons_self), mrg_nil']

/-- One that goes in: behind all that it does not stand ahead of. -/
theorem mrg_in (lt : α → α → Bool) {a b : List α} (x : α) (h1 : ∀ y ∈ a, lt x y = false) (h2 : ∀ y ∈ b, lt x y = true) : mrg lt (a ++ b) [x] = a ++ x :: b := by
  have e := mrg_split lt (a1 := a) (a2 := b) (b1 := [x]) (b2 := []) (fun y hy z hz => by rw [List.mem_singleton.1 hy]; exact h2 z hz) (fun _ _ y hy => by cases hy)
  rw [List.append_nil, mrg_nil] at e
  rw [e]
  have e2 : mrg lt a [x] = a ++ [x] := by
    have := mrg_split lt (a1 := a) (a2 := []) (b1 := []) (b2 := [x]) (fun y hy => by cases hy) (fun z hz y hy => by rw [List.mem_singleton.1 hy]; exact h1 z hz)
    rw [List.append_nil, mrg_nil, mrg_nil'] at this
    exact this
  rw [e2, List.append_assoc]; rfl

/-- One ahead of a list. -/
theorem mrg_in' (lt : α → α → Bool) {a b : List α} (x : α) (h1 : ∀ y ∈ a, lt y x = true) (h2 : ∀ y ∈ b, lt y x = false) : mrg lt [x] (a ++ b) = a ++ x :: b := by
  have e := mrg_split lt (a1 := []) (a2 := [x]) (b1 := a) (b2 := b) (fun y hy z hz => by rw [List.mem_singleton.1 hz]; exact h1 y hy) (fun z hz => by cases hz)
  rw [mrg_nil'] at e
  rw [List.nil_append] at e
  rw [e, mrg_one lt x b h2]

/-! ### arrays as lists -/
theorem get_at {l a b : List α} {x : α} (h : l = a ++ x :: b) (i : Nat) (hi : i = a.length) : l[i]? = some x := by
  subst h hi; simp

theorem set_two (p q r : List α) (y z x : α) : (p ++ y :: (q ++ z :: r)).set (p.length + 1 + q.length) x = p ++ y :: (q ++ x :: r) := by
  rw [show p ++ y :: (q ++ z :: r) = (p ++ y :: q) ++ z :: r by simp, List.set_append_right _ _ (by simp; omega), show p.length + 1 + q.length - (p ++ y :: q).length = 0 by simp; omega]
  simp

variable [Inhabited α]

theorem arr_get {d : Array α} {l : List α} (h : d.toList = l) (i : Nat) (x : α) (hx : l[i]? = some x) : i < d.size ∧ d[i]! = x := by
  subst h
  rw [Array.getElem?_toList] at hx
  have := Array.getElem?_eq_some_iff.1 hx
  exact ⟨this.1, by rw [getElem!_pos d i this.1]; exact this.2⟩

/-- Two places exchanged, in a list. -/
theorem swp_list {d : Array α} {p q r : List α} {x y : α} (h : d.toList = p ++ x :: (q ++ y :: r)) (i j : Nat) (hi : i = p.length) (hj : j = p.length + 1 + q.length) : (swp d i j).toList = p ++ y :: (q ++ x :: r) := by
  have hx := arr_get h i x (get_at rfl i hi)
  have hy := arr_get h j y (get_at (a := p ++ x :: q) (b := r) (by simp) j (by simp; omega))
  unfold swp
  rw [hx.2, hy.2, Array.toList_setIfInBounds, Array.toList_setIfInBounds, h]
  subst hi hj
  simp [set_two]

theorem swp_list' {d : Array α} {p q r : List α} {x y : α} (h : d.toList = p ++ x :: (q ++ y :: r)) (i j : Nat) (hi : i = p.length) (hj : j = p.length + 1 + q.length) : (swp d j i).toList = p ++ y :: (q ++ x :: r) := by
  have hx := arr_get h i x (get_at rfl i hi)
  have hy := arr_get h j y (get_at (a := p ++ x :: q) (b := r) (by simp) j (by simp; omega))
  unfold swp
  rw [hx.2, hy.2, Array.toList_setIfInBounds, Array.toList_setIfInBounds, h]
  subst hi hj
  rw [List.set_comm _ _ (by omega)]
  simp [set_two]

/-- The inner loop of an insertion sort. -/
theorem insInner_list (lt : α → α → Bool) (h : SWO lt) (p : List α) (x : α) : ∀ (s r t : List α) (d : Array α) (j : Nat), d.toList = p ++ s ++ x :: (t ++ r) → j = p.length + s.length → Srtd lt s → (∀ y ∈ t, lt x y = true) →
    (insInner lt p.length j d).toList = p ++ mrg lt s [x] ++ (t ++ r) := by
  intro s
  induction hn : s.length generalizing s with
  | zero =>
    intro r t d j hd hj hs ht
    obtain rfl : s = [] := List.eq_nil_of_length_eq_zero hn
    simp at hd hj
    subst hj
    rw [mrg_nil']
    have e : insInner lt p.length p.length d = d := by
      cases hp : p.length with
      | zero => rfl
      | succ k => rw [insInner]; simp
    rw [e, hd]; simp
  | succ n ih =>
    intro r t d j hd hj hs ht
    obtain ⟨s', y, rfl⟩ : ∃ s' y, s = s' ++ [y] := by
      rcases List.eq_nil_or_concat s with h0 | ⟨s', y, h0⟩
      · subst h0; simp at hn
      · exact ⟨s', y, by simpa using h0⟩
    simp at hn hj
    obtain ⟨k, rfl⟩ : ∃ k, j = k + 1 := ⟨p.length + s'.length, by omega⟩
    have hd' : d.toList = (p ++ s') ++ y :: ([] ++ x :: (t ++ r)) := by rw [hd]; simp
    have hy := arr_get hd' k y (get_at rfl k (by simp; omega))
    have hx := arr_get hd' (k + 1) x (get_at (a := p ++ s' ++ [y]) (b := t ++ r) (by simp) (k + 1) (by simp; omega))
    rw [insInner, hx.2, hy.2]
    cases hl : lt x y
    · have e : (decide (k + 1 > p.length) && false) = false := by simp
      rw [e, if_neg (by simp)]
      have hm := mrg_in lt (a := s' ++ [y]) (b := []) x (fun z hz => ?_) (fun z hz => by cases hz)
      · rw [List.append_nil] at hm
        rw [hm, hd]; simp
      · rcases List.mem_append.1 hz with hz | hz
        · have := (List.pairwise_append.1 hs).2.2 z hz y List.mem_cons_self
          exact h.ntrans x y z hl this
        · rw [List.mem_singleton.1 hz]; exact hl
    · rw [if_pos (by simp; omega)]
      have hs' := swp_list' hd' k (k + 1) (by simp; omega) (by simp; omega)
      have := ih s' hn r (y :: t) (swp d (k + 1) k) k (by rw [hs']; simp) (by omega) (Srtd.parts hs).1 (fun z hz => by
        rcases List.mem_cons.1 hz with rfl | hz
        · exact hl
        · exact ht z hz)
      rw [this]
      have hm : mrg lt (s' ++ [y]) [x] = mrg lt s' [x] ++ [y] := by
        have := mrg_split lt (a1 := s') (a2 := [y]) (b1 := [x]) (b2 := []) (fun z hz w hw => by rw [List.mem_singleton.1 hz, List.mem_singleton.1 hw]; exact hl) (fun _ _ y hy => by cases hy)
        rw [List.append_nil, mrg_nil] at this
        exact this
      rw [hm]; simp

theorem insOuter_list (lt : α → α → Bool) (h : SWO lt) (p r : List α) : ∀ (u s : List α) (d : Array α) (i b : Nat), d.toList = p ++ st lt s ++ (u ++ r) → i = p.length + s.length → b = i + u.length →
    (insOuter lt p.length b i d).toList = p ++ st lt (s ++ u) ++ r := by
  intro u
  induction u with
  | nil =>
    intro s d i b hd hi hb
    rw [insOuter, if_neg (by simp at hb; omega), hd]; simp
  | cons x u ih =>
    intro s d i b hd hi hb
    simp at hb
    rw [insOuter, if_pos (by omega)]
    have h1 := insInner_list lt h p x (st lt s) (u ++ r) [] d i (by rw [hd]; simp) (by rw [st_length]; exact hi) (st_srtd h s) (fun y hy => by cases hy)
    have h2 : mrg lt (st lt s) [x] = st lt (s ++ [x]) := by rw [st_append lt h]; simp [st, mrg_nil]
    have := ih (s ++ [x]) (insInner lt p.length i d) (i + 1) b (by rw [h1, h2]; simp) (by simp; omega) (by omega)
    rw [this]; simp

/-- An insertion sort sorts, and what is alike stays in order. -/
theorem insertion_list (lt : α → α → Bool) (h : SWO lt) (d : Array α) (p u r : List α) (a b : Nat) (hd : d.toList = p ++ u ++ r) (ha : a = p.length) (hb : b = a + u.length) : (insertionSort lt d a b).toList = p ++ st lt u ++ r := by
  subst ha
  unfold insertionSort
  cases u with
  | nil =>
    simp at hb
    rw [insOuter, if_neg (by omega), hd]; simp [st]
  | cons x u =>
    simp at hb
    exact insOuter_list lt h p r u [x] d (p.length + 1) b (by rw [hd]; simp [st, mrg_nil]) (by simp) (by omega)

end Go.Proofs.YtfpofegfbinalaaGreat.Fx
namespace Go.Proofs.YtfpofegfbinalaaGreat.Fx
open Go.Shelf Go.RowKit Go.Lib Go.Sort
set_option linter.unusedVariables false
set_option maxRecDepth 100000

/-- What is asked of the program: the types that the bodies name, and the bodies. -/
structure StP (P : Program) (k : Nat) : Prop where
  mixed : P.follows .mixedOrders = true
  t0 : P.underlying 0 = some (.tuple #[])
  a0 : ∀ w, (isAgg 0).run P w = .ok false w
  z0 : ∀ w, (Go.sizeOf 0).run P w = .ok 1 w
  v0 : ∀ w, (zeroValue 0).run P w = .ok (.tuple #[]) w
  t3 : P.underlying 3 = some (.int .i64)
  a3 : ∀ w, (isAgg 3).run P w = .ok false w
  z3 : ∀ w, (Go.sizeOf 3).run P w = .ok 1 w
  v3 : ∀ w, (zeroValue 3).run P w = .ok (.int .i64 0) w
  t4 : P.underlying 4 = some .bool
  a4 : ∀ w, (isAgg 4).run P w = .ok false w
  z4 : ∀ w, (Go.sizeOf 4).run P w = .ok 1 w
  v4 : ∀ w, (zeroValue 4).run P w = .ok (.bool false) w
  t5 : P.underlying 57 = some (.int .u64)
  a5 : ∀ w, (isAgg 57).run P w = .ok false w
  z5 : ∀ w, (Go.sizeOf 57).run P w = .ok 1 w
  v5 : ∀ w, (zeroValue 57).run P w = .ok (.int .u64 0) w
  t6 : P.underlying 51 = some (.slice 50)
  a6 : ∀ w, (isAgg 51).run P w = .ok false w
  z6 : ∀ w, (Go.sizeOf 51).run P w = .ok 1 w
  v6 : ∀ w, (zeroValue 51).run P w = .ok (.slice none 0 0) w
  t7 : P.underlying 141 = some (.func #[50, 50] #[3] false)
  a7 : ∀ w, (isAgg 141).run P w = .ok false w
  z7 : ∀ w, (Go.sizeOf 141).run P w = .ok 1 w
  v7 : ∀ w, (zeroValue 141).run P w = .ok .nilFunc w
  aE : ∀ w, (isAgg 50).run P w = .ok true w
  zE : ∀ w, (Go.sizeOf 50).run P w = .ok k w
  swaps : P.funcs[205]? = some Tryz.f205
  ins : P.funcs[192]? = some Tryz.f192
  rot : P.funcs[202]? = some Tryz.f202
  sym : P.funcs[193]? = some Tryz.f193
  stb : P.funcs[162]? = some Tryz.f162
  top : P.funcs[112]? = some Tryz.f112

variable {P : Program} {α : Type}

theorem len_of {d : Array α} {l : List α} (h : d.toList = l) : d.size = l.length := by rw [← h, Array.length_toList]

variable [Inhabited α]

set_option maxHeartbeats 4000000 in
set_option maxRecDepth 1000000 in
/-- Two parts of the same length exchanged. -/
theorem swapRange_any {k : Nat} (L : StP P k) (enc : α → List Value) (g : Nat) (cb : Array Value) (blk off cap a b n : Nat) (d0 d : Array α) (w0 w : World)
    (R : RowK enc k w0 blk off d0) (hs : d0.size = d.size) (S : SWK enc k w0 blk off d w) (hsz : d.size < 4611686018427387904)
    (p X q Y r : List α) (hd : d.toList = p ++ (X ++ (q ++ (Y ++ r)))) (hp : p.length = a) (hX : X.length = n) (hY : Y.length = n) (hb : a + n + q.length = b) :
    Calls P 205 #[.slice (some ⟨blk, off, none⟩) d.size cap, .int .i64 a, .int .i64 b, .int .i64 n, .func (.func g) #[] cb] w fun e w' =>
      e = .returned (.tuple #[]) ∧ ∃ d' : Array α, d'.toList = p ++ (Y ++ (q ++ (X ++ r))) ∧ SWK enc k w0 blk off d' w' := by
  have mixed := L.mixed; have t0 := L.t0; have a0 := L.a0; have z0 := L.z0; have v0 := L.v0; have t3 := L.t3; have a3 := L.a3; have z3 := L.z3; have v3 := L.v3; have t4 := L.t4; have a4 := L.a4; have z4 := L.z4; have v4 := L.v4
  have t6 := L.t6; have a6 := L.a6; have z6 := L.z6; have v6 := L.v6; have t7 := L.t7; have a7 := L.a7; have z7 := L.z7; have v7 := L.v7; have aE := L.aE; have zE := L.zE
  have FG := L.swaps
  have S0 : Aside (SWK enc k w0 blk off d w) := S
  have hlen : d.size = a + n + q.length + n + r.length := by rw [len_of hd]; simp only [List.length_append, hp, hX, hY]; omega
  have HD : Aside (d.toList = p ++ (X ++ (q ++ (Y ++ r)))) := hd
  have HX : Aside (X.length = n) := hX
  have HY : Aside (Y.length = n) := hY
  have HP : Aside (p.length = a) := hp
  clear S hd hX hY hp L
  go_enter FG, Tryz.ntmps205
  go_wp2
  go_loopg [10] n (fun kx s10 wr => ∃ (i : Nat) (dk : Array α), s10 = .int .i64 i ∧ i ≤ n ∧ n - i ≤ kx ∧ dk.size = d.size ∧ Aside (SWK enc k w0 blk off dk wr) ∧ ∃ X1 X2 Y1 Y2, Aside (X = X1 ++ X2 ∧ Y = Y1 ++ Y2 ∧ X1.length = i ∧ Y1.length = i ∧ dk.toList = p ++ (Y1 ++ (X2 ++ (q ++ (X1 ++ (Y2 ++ r)))))))
  case atStart => exact ⟨0, d, rfl, Nat.zero_le _, Nat.le_refl _, rfl, S0, [], X, [], Y, ⟨rfl, rfl, rfl, rfl, HD.out⟩⟩
  case round =>
    clear S0 HD
    obtain ⟨i, dk, rfl, hin, hkx, hds, S1, X1, X2, Y1, Y2, HI⟩ := hrel
    by_cases hlt : i < n
    · have hltz : (i : Int) < (n : Int) := by omega
      go_wp2_with fail
      obtain ⟨ia, hia⟩ : ∃ ia, ia = a + i := ⟨_, rfl⟩
      obtain ⟨ib, hib⟩ : ∃ ib, ib = b + i := ⟨_, rfl⟩
      have ea : (a : Int) + (i : Int) = (ia : Int) := by omega
      have eb : (b : Int) + (i : Int) = (ib : Int) := by omega
      have wa : IntKind.i64.wrap (ia : Int) = (ia : Int) := by rw [IntKind.wrap_i64]; omega
      have wb : IntKind.i64.wrap (ib : Int) = (ib : Int) := by rw [IntKind.wrap_i64]; omega
      have ba : (ia : Int) < (d.size : Int) := by omega
      have bb : (ib : Int) < (d.size : Int) := by omega
      have S2 : Aside (SWK enc k w0 blk off (swp dk ia ib) ((wr.drew.setCells blk (off + ia * k) (enc dk[ib]!)).setCells blk (off + ib * k) (enc dk[ia]!))) := S1.out.swapped R ia ib (by omega) (by omega)
      have la := S1.out.ld1 R (by omega) P ia (by omega)
      have lb := S1.out.ld1 R (by omega) P ib (by omega)
      have sa := S1.out.st1 R (by omega) P ia (by omega) dk[ib]!
      have sb := S1.out.st2 R (by omega) P ia ib (by omega) (by omega) dk[ib]! dk[ia]!
      have na : (enc dk[ia]!).length = k := R.hk _
      have nb : (enc dk[ib]!).length = k := R.hk _
      generalize enc dk[ia]! = cI at S2 la sb na
      generalize enc dk[ib]! = cJ at S2 lb sa sb nb
      have HIA : Aside (ia = a + i) := hia
      have HIB : Aside (ib = b + i) := hib
      clear S1 hia hib
      go_wp2_with fail
      go_big_region_o
      clear la lb sa sb
      generalize (wr.drew.setCells blk (off + ia * k) cJ).setCells blk (off + ib * k) cI = w2 at S2 ⊢
      go_wp2
      go_roundg (n - (i + 1))
      case measure => omega
      case rel =>
        obtain ⟨h1, h2, h3, h4, h5⟩ := HI.out
        have hX2 : X2.length = n - i := by have := HX.out; rw [h1, List.length_append] at this; omega
        have hY2 : Y2.length = n - i := by have := HY.out; rw [h2, List.length_append] at this; omega
        obtain ⟨x, X3, rfl⟩ : ∃ x X3, X2 = x :: X3 := by cases X2 with
          | nil => simp at hX2; omega
          | cons x X3 => exact ⟨x, X3, rfl⟩
        obtain ⟨y, Y3, rfl⟩ : ∃ y Y3, Y2 = y :: Y3 := by cases Y2 with
          | nil => simp at hY2; omega
          | cons y Y3 => exact ⟨y, Y3, rfl⟩
        have hsw := swp_list (d := dk) (p := p ++ Y1) (q := X3 ++ (q ++ X1)) (r := Y3 ++ r) (x := x) (y := y) (by rw [h5]; simp) ia ib (by rw [HIA.out, List.length_append, HP.out, h4]) (by simp at hX2; simp only [List.length_append, HP.out, h4, h3]; rw [HIB.out]; omega)
        refine ⟨i + 1, swp dk ia ib, by go_num, by omega, Nat.le_refl _, by rw [size_swp]; exact hds, S2, X1 ++ [x], X3, Y1 ++ [y], Y3, by rw [h1]; simp, by rw [h2]; simp, by simp [h3], by simp [h4], ?_⟩
        rw [hsw]; simp
    · have hltz : ¬ (i : Int) < (n : Int) := by omega
      go_wp2
      go_end0
      obtain ⟨h1, h2, h3, h4, h5⟩ := HI.out
      have hX2 : X2 = [] := List.eq_nil_of_length_eq_zero (by have := HX.out; rw [h1, List.length_append] at this; omega)
      have hY2 : Y2 = [] := List.eq_nil_of_length_eq_zero (by have := HY.out; rw [h2, List.length_append] at this; omega)
      subst hX2 hY2
      refine ⟨rfl, dk, ?_, S1.out⟩
      rw [h5, h1, h2]; simp

set_option maxHeartbeats 4000000 in
set_option maxRecDepth 1000000 in
/-- Two parts, one behind the other, change places. -/
theorem rotate_any {k : Nat} (L : StP P k) (enc : α → List Value) (g : Nat) (cb : Array Value) (blk off cap a m b : Nat) (d0 d : Array α) (w0 w : World)
    (R : RowK enc k w0 blk off d0) (hs : d0.size = d.size) (S : SWK enc k w0 blk off d w) (hsz : d.size < 4611686018427387904)
    (p U V r : List α) (hd : d.toList = p ++ (U ++ (V ++ r))) (hp : p.length = a) (hU : a + U.length = m) (hV : m + V.length = b) (hU0 : 0 < U.length) (hV0 : 0 < V.length) :
    Calls P 202 #[.slice (some ⟨blk, off, none⟩) d.size cap, .int .i64 a, .int .i64 m, .int .i64 b, .func (.func g) #[] cb] w fun e w' =>
      e = .returned (.tuple #[]) ∧ ∃ d' : Array α, d'.toList = p ++ (V ++ (U ++ r)) ∧ SWK enc k w0 blk off d' w' := by
  have mixed := L.mixed; have t0 := L.t0; have a0 := L.a0; have z0 := L.z0; have v0 := L.v0; have t3 := L.t3; have a3 := L.a3; have z3 := L.z3; have v3 := L.v3; have t4 := L.t4; have a4 := L.a4; have z4 := L.z4; have v4 := L.v4
  have t5 := L.t5; have a5 := L.a5; have z5 := L.z5; have v5 := L.v5; have t6 := L.t6; have a6 := L.a6; have z6 := L.z6; have v6 := L.v6; have t7 := L.t7; have a7 := L.a7; have z7 := L.z7; have v7 := L.v7; have aE := L.aE; have zE := L.zE
  have FG := L.rot
  have e72 : ∀ args w, (callFunc 205 args).run P w = .ok (.enter 205 args) w := enters_of L.swaps (by kernel_rfl) rfl
  have S0 : Aside (SWK enc k w0 blk off d w) := S
  have hlen : b ≤ d.size := by rw [len_of hd]; simp only [List.length_append, hp]; omega
  have HD : Aside (d.toList = p ++ (U ++ (V ++ r))) := hd
  have HP : Aside (p.length = a) := hp
  have HL : Aside (StP P k) := L
  clear S hd hp L
  obtain ⟨i0, hi0⟩ : ∃ i0, i0 = U.length := ⟨_, rfl⟩
  obtain ⟨j0, hj0⟩ : ∃ j0, j0 = V.length := ⟨_, rfl⟩
  rw [← hi0] at hU hU0
  rw [← hj0] at hV hV0
  have HI0 : Aside (i0 = U.length) := hi0
  have HJ0 : Aside (j0 = V.length) := hj0
  clear hi0 hj0
  have em : (m : Int) - (a : Int) = (i0 : Int) := by omega
  have eb : (b : Int) - (m : Int) = (j0 : Int) := by omega
  go_enter FG, Tryz.ntmps202
  go_wp2
  clear em eb
  go_loopg [10, 11] (i0 + j0) (fun kx s10 s11 wr => ∃ (i j : Nat) (dk : Array α), s10 = .int .i64 i ∧ s11 = .int .i64 j ∧ 0 < i ∧ 0 < j ∧ i ≤ m ∧ m + j ≤ b ∧ i + j ≤ kx ∧ dk.size = d.size ∧ Aside (SWK enc k w0 blk off dk wr) ∧ ∃ p' U' V' r', Aside (dk.toList = p' ++ (U' ++ (V' ++ r')) ∧ p'.length = m - i ∧ U'.length = i ∧ V'.length = j ∧ p' ++ (V' ++ (U' ++ r')) = p ++ (V ++ (U ++ r))))
  case atStart => exact ⟨i0, j0, d, rfl, rfl, hU0, hV0, by omega, by omega, Nat.le_refl _, rfl, S0, p, U, V, r, ⟨HD.out, by rw [HP.out]; omega, HI0.out.symm, HJ0.out.symm, rfl⟩⟩
  case round =>
    clear S0 HD
    obtain ⟨i, j, dk, rfl, rfl, hi0, hj0, him, hjb, hkx, hds, S1, p', U', V', r', HI⟩ := hrel
    obtain ⟨mi, hmi⟩ : ∃ mi, mi + i = m := ⟨m - i, by omega⟩
    have emi : (m : Int) - (i : Int) = (mi : Int) := by omega
    have wmi : IntKind.i64.wrap (mi : Int) = (mi : Int) := by rw [IntKind.wrap_i64]; omega
    by_cases hij : i = j
    · subst hij
      have hc := swapRange_any HL.out enc g cb blk off cap mi m i d0 dk w0 wr R (by omega) S1.out (by omega) p' U' [] V' r' (by rw [HI.out.1]; simp) (by rw [HI.out.2.1]; omega) HI.out.2.2.1 HI.out.2.2.2.1 (by simp; omega)
      rw [hds] at hc
      clear S1
      go_wp2_with (go_at_fn 205; refine hc.mono ?_; rintro e w1 ⟨rfl, d1, hd1, hw1⟩)
      go_end0
      exact ⟨rfl, d1, by rw [hd1, ← HI.out.2.2.2.2]; simp, hw1⟩
    · have hijz : ¬ ((i : Int) = (j : Int)) := by omega
      by_cases hgt : j < i
      · have hgtz : (j : Int) < (i : Int) := by omega
        have hU1 : U' = U'.take j ++ U'.drop j := (List.take_append_drop _ _).symm
        have hl1 : (U'.take j).length = j := by rw [List.length_take, HI.out.2.2.1]; omega
        have hl2 : (U'.drop j).length = i - j := by rw [List.length_drop, HI.out.2.2.1]
        have hc := swapRange_any HL.out enc g cb blk off cap mi m j d0 dk w0 wr R (by omega) S1.out (by omega) p' (U'.take j) (U'.drop j) V' r' (by rw [HI.out.1, ← List.append_assoc (U'.take j), ← hU1]) (by rw [HI.out.2.1]; omega) hl1 HI.out.2.2.2.1 (by rw [hl2]; omega)
        rw [hds] at hc
        have H1 := Lib.hid (hU1)
        have H2 := Lib.hid (And.intro hl1 hl2)
        clear S1 hU1 hl1 hl2
        go_wp2_with (go_at_fn 205; refine hc.mono ?_; rintro e w1 ⟨rfl, d1, hd1, hw1⟩)
        have HD1 := Lib.hid (hd1)
        have HW1 := Lib.hid (hw1)
        clear hd1 hw1
        go_wp2
        go_roundg (i - j + j)
        case measure => omega
        case rel =>
          have hd1 := HD1.out
          have hs1 : d1.size = d.size := by
            rw [len_of hd1, ← hds, len_of HI.out.1]
            have := congrArg List.length H1.out
            simp only [List.length_append] at this ⊢
            omega
          refine ⟨i - j, j, d1, by congr 1; omega, rfl, by omega, hj0, by omega, hjb, Nat.le_refl _, hs1, HW1.out, p' ++ V', U'.drop j, U'.take j, r', by rw [hd1]; simp, by rw [List.length_append, HI.out.2.1, HI.out.2.2.2.1]; omega, H2.out.2, H2.out.1, ?_⟩
          rw [← HI.out.2.2.2.2]
          conv => rhs; rw [H1.out]
          simp only [List.append_assoc]
      · have hgtz : ¬ (j : Int) < (i : Int) := by omega
        have hlt : i < j := by omega
        obtain ⟨mj, hmj⟩ : ∃ mj, mj + i = m + j := ⟨m + j - i, by omega⟩
        have emj : (m : Int) + (j : Int) - (i : Int) = (mj : Int) := by omega
        have wmj : IntKind.i64.wrap ((m : Int) + (j : Int)) = (m : Int) + (j : Int) := by rw [IntKind.wrap_i64]; omega
        have hV1 : V' = V'.take (j - i) ++ V'.drop (j - i) := (List.take_append_drop _ _).symm
        have hl1 : (V'.take (j - i)).length = j - i := by rw [List.length_take, HI.out.2.2.2.1]; omega
        have hl2 : (V'.drop (j - i)).length = i := by rw [List.length_drop, HI.out.2.2.2.1]; omega
        have hc := swapRange_any HL.out enc g cb blk off cap mi mj i d0 dk w0 wr R (by omega) S1.out (by omega) p' U' (V'.take (j - i)) (V'.drop (j - i)) r' (by rw [HI.out.1, ← List.append_assoc (V'.take (j - i)), ← hV1]) (by rw [HI.out.2.1]; omega) HI.out.2.2.1 hl2 (by rw [hl1]; omega)
        rw [hds] at hc
        have H1 := Lib.hid (hV1)
        have H2 := Lib.hid (And.intro hl1 hl2)
        clear S1 hV1 hl1 hl2
        go_wp2_with (go_at_fn 205; refine hc.mono ?_; rintro e w1 ⟨rfl, d1, hd1, hw1⟩)
        have HD1 := Lib.hid (hd1)
        have HW1 := Lib.hid (hw1)
        clear hd1 hw1
        go_wp2
        go_roundg (i + (j - i))
        case measure => omega
        case rel =>
          have hd1 := HD1.out
          have hs1 : d1.size = d.size := by
            rw [len_of hd1, ← hds, len_of HI.out.1]
            have := congrArg List.length H1.out
            simp only [List.length_append] at this ⊢
            omega
          refine ⟨i, j - i, d1, rfl, by congr 1; omega, hi0, by omega, him, by omega, Nat.le_refl _, hs1, HW1.out, p', V'.drop (j - i), V'.take (j - i), U' ++ r', by rw [hd1], HI.out.2.1, H2.out.2, H2.out.1, ?_⟩
          rw [← HI.out.2.2.2.2]
          conv => rhs; rw [H1.out]
          simp only [List.append_assoc]

set_option maxHeartbeats 4000000 in
set_option maxRecDepth 1000000 in
/-- The insertion sort of a part. -/
theorem insertion_any {k : Nat} (L : StP P k) (enc : α → List Value) (cf : α → α → Int) (hO : SWO (ltOf cf)) (g : Nat) (cb : Array Value) (blk off cap a b : Nat) (d0 d : Array α) (w0 w : World)
    (eg : ∀ args w, (callFunc g args).run P w = .ok (.enter g args) w) (hcmp : CmpLays P g cb enc k cf blk off d0.size w0) (R : RowK enc k w0 blk off d0) (hs : d0.size = d.size) (S : SWK enc k w0 blk off d w) (hsz : d.size < 4611686018427387904)
    (p U r : List α) (hd : d.toList = p ++ (U ++ r)) (hp : p.length = a) (hU : a + U.length = b) :
    Calls P 192 #[.slice (some ⟨blk, off, none⟩) d.size cap, .int .i64 a, .int .i64 b, .func (.func g) #[] cb] w fun e w' =>
      e = .returned (.tuple #[]) ∧ ∃ d' : Array α, d'.toList = p ++ (st (ltOf cf) U ++ r) ∧ SWK enc k w0 blk off d' w' := by
  have mixed := L.mixed; have t0 := L.t0; have a0 := L.a0; have z0 := L.z0; have v0 := L.v0; have t3 := L.t3; have a3 := L.a3; have z3 := L.z3; have v3 := L.v3; have t4 := L.t4; have a4 := L.a4; have z4 := L.z4; have v4 := L.v4
  have t5 := L.t5; have a5 := L.a5; have z5 := L.z5; have v5 := L.v5; have t6 := L.t6; have a6 := L.a6; have z6 := L.z6; have v6 := L.v6; have t7 := L.t7; have a7 := L.a7; have z7 := L.z7; have v7 := L.v7; have aE := L.aE; have zE := L.zE
  have FG := L.ins
  have S0 : Aside (SWK enc k w0 blk off d w) := S
  have hab : a ≤ b := by omega
  have hb : b ≤ d.size := by rw [len_of hd]; simp only [List.length_append, hp]; omega
  have HF : Aside ((insertionSort (ltOf cf) d a b).toList = p ++ (st (ltOf cf) U ++ r)) := by
    show _ = _
    rw [insertion_list (ltOf cf) hO d p U r a b (by rw [hd]; simp) hp.symm hU.symm]; simp
  have HC := Lib.hid (hcmp)
  clear S hd hp hU L hcmp
  go_enter FG, Tryz.ntmps192
  go_wp2
  go_loopg [8] (b - a) (fun g1 vi wr => ∃ (i : Nat) (dk : Array α), vi = .int .i64 i ∧ a < i ∧ i ≤ b + 1 ∧ b + 1 - i ≤ g1 + 1 ∧ dk.size = d.size ∧ Aside (SWK enc k w0 blk off dk wr) ∧ Aside (insOuter (ltOf cf) a b i dk = insOuter (ltOf cf) a b (a + 1) d))
  case atStart => exact ⟨a + 1, d, by go_num, by omega, by omega, by omega, rfl, S0, rfl⟩
  case round =>
    clear S0
    obtain ⟨i, dk, rfl, hai, hib, hg1, hsk, S1, HO⟩ := hrel
    by_cases hlt : i < b
    · have hltz : (i : Int) < (b : Int) := by omega
      go_wp2
      go_loopg [9] i (fun g2 vj wr => ∃ (j : Nat) (dj : Array α), vj = .int .i64 j ∧ a ≤ j ∧ j ≤ i ∧ j ≤ g2 ∧ dj.size = d.size ∧ Aside (SWK enc k w0 blk off dj wr) ∧ Aside (insInner (ltOf cf) a j dj = insInner (ltOf cf) a i dk))
      case atStart => exact ⟨i, dk, rfl, by omega, Nat.le_refl _, Nat.le_refl _, hsk, S1, rfl⟩
      case round =>
        clear S1
        obtain ⟨j, dj, rfl, haj, hji, hg2, hsj, S1, HI⟩ := hrel
        have OUT : Aside ((j ≤ a ∨ ltOf cf dj[j]! dj[j - 1]! = false) → insOuter (ltOf cf) a b (i + 1) dj = insOuter (ltOf cf) a b (a + 1) d) := fun hs => by
          rw [← HO.out, insOuter_go _ _ _ _ _ hlt, ← HI.out, insInner_stop _ _ _ _ hs]
        by_cases hja : a < j
        · have hjaz : (a : Int) < (j : Int) := by omega
          obtain ⟨jp, rfl⟩ : ∃ jp, j = jp + 1 := ⟨j - 1, by omega⟩
          obtain ⟨xj, hxj⟩ : ∃ x, dj[jp + 1]! = x := ⟨_, rfl⟩
          obtain ⟨xp, hxp⟩ : ∃ x, dj[jp]! = x := ⟨_, rfl⟩
          have hwp : IntKind.i64.wrap (jp : Int) = (jp : Int) := by rw [IntKind.wrap_i64]; omega
          have jz : (jp : Int) + 1 < (d.size : Int) := by omega
          have jz1 : (jp : Int) < (d.size : Int) := by omega
          have hjaz' : (a : Int) < (jp : Int) + 1 := by omega
          have p0 : (0 : Int) ≤ (jp : Int) + 1 := by omega
          have e0 : ((jp : Int) + 1).toNat = jp + 1 := by omega
          have lj := fun n os => S1.out.ld R (by omega) P (jp + 1) (by omega) n os
          have lp := fun n os => S1.out.ld R (by omega) P jp (by omega) n os
          have hcg := fun n os => S1.out.cmp HC.out (by omega) xj xp n os
          simp only [hxj] at lj
          simp only [hxp] at lp
          by_cases hlv : cf xj xp < 0
          · go_wp2_with fail
            go_quiet_grown (first | (go_at_fn g; refine Calls.grown_of (hcg _ _)))
            clear lj lp hcg
            have S2 : Aside (SWK enc k w0 blk off dj (grow (wr.drewN nq) osq)) := S1.out.grown nq osq
            clear S1
            generalize grow (wr.drewN nq) osq = wq at S2 ⊢
            go_wp2_with fail
            have S3 : Aside (SWK enc k w0 blk off (swp dj (jp + 1) jp) ((wq.drew.setCells blk (off + (jp + 1) * k) (enc dj[jp]!)).setCells blk (off + jp * k) (enc dj[jp + 1]!))) := S2.out.swapped R (jp + 1) jp (by omega) (by omega)
            have la := S2.out.ld1 R (by omega) P (jp + 1) (by omega)
            have lb := S2.out.ld1 R (by omega) P jp (by omega)
            have sa := S2.out.st1 R (by omega) P (jp + 1) (by omega) dj[jp]!
            have sb := S2.out.st2 R (by omega) P (jp + 1) jp (by omega) (by omega) dj[jp]! dj[jp + 1]!
            have na : (enc dj[jp + 1]!).length = k := R.hk _
            have nb : (enc dj[jp]!).length = k := R.hk _
            generalize enc dj[jp + 1]! = cI at S3 la sb na
            generalize enc dj[jp]! = cJ at S3 lb sa sb nb
            have HX : Aside (dj[jp + 1]! = xj ∧ dj[jp]! = xp) := ⟨hxj, hxp⟩
            clear S2 hxj hxp
            go_wp2_with fail
            go_big_region_o
            clear la lb sa sb
            generalize (wq.drew.setCells blk (off + (jp + 1) * k) cJ).setCells blk (off + jp * k) cI = w2 at S3 ⊢
            go_wp2
            go_roundg jp
            case measure => omega
            case rel =>
              refine ⟨jp, swp dj (jp + 1) jp, by first | rfl | go_num | (congr 1; omega), by omega, by omega, Nat.le_refl _, by rw [size_swp]; exact hsj, S3, ?_⟩
              show _ = _
              have := insInner_go (ltOf cf) a (jp + 1) dj hja (by simp only [Nat.add_sub_cancel]; rw [HX.out.1, HX.out.2]; exact decide_eq_true hlv)
              simp only [Nat.add_sub_cancel] at this
              rw [← HI.out, this]
          · have HX : Aside (dj[jp + 1]! = xj ∧ dj[jp]! = xp) := ⟨hxj, hxp⟩
            clear hxj hxp
            go_wp2_with fail
            go_quiet_grown (first | (go_at_fn g; refine Calls.grown_of (hcg _ _)))
            clear lj lp hcg
            have S2 : Aside (SWK enc k w0 blk off dj (grow (wr.drewN nq) osq)) := S1.out.grown nq osq
            clear S1
            generalize grow (wr.drewN nq) osq = wq at S2 ⊢
            go_wp2
            go_roundg (b - (i + 1))
            case measure => omega
            case rel => exact ⟨i + 1, dj, by go_num, by omega, by omega, by omega, hsj, S2, OUT.out (Or.inr (by simp only [Nat.add_sub_cancel]; rw [HX.out.1, HX.out.2]; exact decide_eq_false (by omega)))⟩
        · have hjaz : decide ((j : Int) > (a : Int)) = false := decide_eq_false (by omega)
          have hjaz' : ¬ (a : Int) < (j : Int) := by omega
          have S2 : Aside (SWK enc k w0 blk off dj wr.drew) := S1.out.drew
          clear S1
          go_wp2_with fail
          go_big_region_o
          generalize wr.drew = wq at S2 ⊢
          all_goals go_wp2
          go_roundg (b - (i + 1))
          case measure => omega
          case rel => exact ⟨i + 1, dj, by go_num, by omega, by omega, by omega, hsj, S2, OUT.out (Or.inl (by omega))⟩
    · have hltz : ¬ (i : Int) < (b : Int) := by omega
      go_wp2
      go_end0
      refine ⟨rfl, dk, ?_, S1.out⟩
      rw [← HF.out]; unfold Sort.insertionSort; rw [← HO.out, insOuter_stop _ _ _ _ _ hlt]

end Go.Proofs.YtfpofegfbinalaaGreat.Fx
