/- slices.symMergeCmpFunc at elements of k cells: two sorted parts, one behind the other, are merged; what is alike stays in order. -/
import Derived.Test.YtfpofegfbinalaaStWalk
import Derived.Deep.DeepCutAuto
namespace Go.Proofs.Ytfpofegfbinalaa.Fx
open Go.Shelf Go.RowKit Go.Lib Go.Sort
set_option linter.unusedVariables false
set_option maxRecDepth 100000
variable {P : Program} {α : Type}

theorem mem_take_get {l : List α} {n : Nat} {y : α} (h : y ∈ l.take n) : ∃ t, t < n ∧ l[t]? = some y := by
  obtain ⟨t, ht⟩ := List.getElem?_of_mem h
  rw [List.getElem?_take] at ht
  split at ht
  · exact ⟨t, by assumption, ht⟩
  · cases ht

theorem mem_drop_get {l : List α} {n : Nat} {y : α} (h : y ∈ l.drop n) : ∃ t, n ≤ t ∧ l[t]? = some y := by
  obtain ⟨t, ht⟩ := List.getElem?_of_mem h
  rw [List.getElem?_drop] at ht
  exact ⟨n + t, by omega, ht⟩

theorem cut_at (B : List α) (n : Nat) (h : n < B.length) : ∃ T z D, B.take n = T ∧ B.drop n = z :: D ∧ B.take (n + 1) = T ++ [z] ∧ B.drop (n + 1) = D ∧ T.length = n :=
  ⟨B.take n, B[n], B.drop (n + 1), rfl, List.drop_eq_getElem_cons h, by simp, rfl, by rw [List.length_take]; omega⟩

theorem get_lt {l : List α} {t : Nat} {y : α} (h : l[t]? = some y) : t < l.length := (List.getElem?_eq_some_iff.1 h).1

theorem srtd_get {lt : α → α → Bool} (hO : SWO lt) {l : List α} (h : Srtd lt l) {s t : Nat} {x y : α} (hx : l[s]? = some x) (hy : l[t]? = some y) (hst : s ≤ t) : lt y x = false := by
  rcases Nat.lt_or_eq_of_le hst with h1 | h1
  · have := List.pairwise_iff_getElem.1 h s t (get_lt hx) (get_lt hy) h1
    rw [List.getElem?_eq_getElem (get_lt hx)] at hx
    rw [List.getElem?_eq_getElem (get_lt hy)] at hy
    simp only [Option.some.injEq] at hx hy
    rw [← hx, ← hy]
    exact this
  · subst h1
    rw [hx] at hy; cases hy
    exact hO.irrefl _

variable [Inhabited α]

/-- A part of an array that is a list. -/
theorem seg_get {d : Array α} {p B r : List α} (h : d.toList = p ++ (B ++ r)) {m t : Nat} {y : α} (hp : p.length = m) (hy : B[t]? = some y) : m + t < d.size ∧ d[m + t]! = y := by
  refine arr_get h (m + t) y ?_
  rw [List.getElem?_append_right (by omega), hp, Nat.add_sub_cancel_left, List.getElem?_append_left (get_lt hy)]
  exact hy

theorem seg_get' {d : Array α} {p B r : List α} (h : d.toList = p ++ (B ++ r)) {m t : Nat} (hp : p.length = m) (h1 : m ≤ t) (h2 : t < m + B.length) : B[t - m]? = some d[t]! := by
  obtain ⟨y, hy⟩ : ∃ y, B[t - m]? = some y := ⟨_, List.getElem?_eq_getElem (by omega)⟩
  have := (seg_get h hp hy).2
  rw [show m + (t - m) = t by omega] at this
  rw [hy, this]

/-- One ahead of a sorted part: where it goes. -/
theorem left_one {lt : α → α → Bool} {d : Array α} {p B r : List α} {x : α} (hd : d.toList = p ++ (B ++ r)) {m i : Nat} (hp : p.length = m) (hi : m ≤ i) (hib : i ≤ m + B.length)
    (h1 : ∀ t, m ≤ t → t < i → lt d[t]! x = true) (h2 : ∀ t, i ≤ t → t < m + B.length → lt d[t]! x = false) : mrg lt [x] B = B.take (i - m) ++ x :: B.drop (i - m) := by
  have := mrg_in' lt (a := B.take (i - m)) (b := B.drop (i - m)) x (fun y hy => ?_) (fun y hy => ?_)
  · rw [List.take_append_drop] at this; exact this
  · obtain ⟨t, ht, hg⟩ := mem_take_get hy
    have := seg_get hd hp hg
    rw [← this.2]; exact h1 _ (by omega) (by omega)
  · obtain ⟨t, ht, hg⟩ := mem_drop_get hy
    have := seg_get hd hp hg
    have := get_lt hg
    rw [← (seg_get hd hp hg).2]; exact h2 _ (by omega) (by omega)

theorem right_one {lt : α → α → Bool} {d : Array α} {p B r : List α} {x : α} (hd : d.toList = p ++ (B ++ r)) {m i : Nat} (hp : p.length = m) (hi : m ≤ i) (hib : i ≤ m + B.length)
    (h1 : ∀ t, m ≤ t → t < i → lt x d[t]! = false) (h2 : ∀ t, i ≤ t → t < m + B.length → lt x d[t]! = true) : mrg lt B [x] = B.take (i - m) ++ x :: B.drop (i - m) := by
  have := mrg_in lt (a := B.take (i - m)) (b := B.drop (i - m)) x (fun y hy => ?_) (fun y hy => ?_)
  · rw [List.take_append_drop] at this; exact this
  · obtain ⟨t, ht, hg⟩ := mem_take_get hy
    rw [← (seg_get hd hp hg).2]; exact h1 _ (by omega) (by omega)
  · obtain ⟨t, ht, hg⟩ := mem_drop_get hy
    have := get_lt hg
    rw [← (seg_get hd hp hg).2]; exact h2 _ (by omega) (by omega)

/-- Where two sorted parts are parted. -/
theorem sym_split {lt : α → α → Bool} (hO : SWO lt) {d : Array α} {p A B r : List α} (hd : d.toList = p ++ (A ++ (B ++ r))) {a m b mid s s0 r0 : Nat} (hp : p.length = a) (hA : a + A.length = m) (hB : m + B.length = b) (hsA : Srtd lt A) (hsB : Srtd lt B) (hA0 : a < m) (hB0 : m < b)
    (hmid : 2 * mid ≤ a + b) (hmid' : a + b ≤ 2 * mid + 1) (h0 : (mid < m ∧ s0 = mid + m - b ∧ r0 = mid) ∨ (m ≤ mid ∧ s0 = a ∧ r0 = m)) (hs0 : s0 ≤ s) (hs1 : s ≤ r0)
    (h1 : ∀ t, s0 ≤ t → t < s → lt d[mid + m - 1 - t]! d[t]! = false) (h2 : ∀ t, s ≤ t → t < r0 → lt d[mid + m - 1 - t]! d[t]! = true) :
    a ≤ s ∧ s ≤ m ∧ m ≤ mid + m - s ∧ mid + m - s ≤ b ∧ mrg lt A B = mrg lt (A.take (s - a)) (B.take (mid + m - s - m)) ++ mrg lt (A.drop (s - a)) (B.drop (mid + m - s - m)) := by
  have b1 : a ≤ s ∧ s ≤ m ∧ m ≤ mid + m - s ∧ mid + m - s ≤ b := by omega
  refine ⟨b1.1, b1.2.1, b1.2.2.1, b1.2.2.2, ?_⟩
  have hdB : d.toList = (p ++ A) ++ (B ++ r) := by rw [hd]; simp
  have hpB : (p ++ A).length = m := by rw [List.length_append]; omega
  have e := mrg_split lt (a1 := A.take (s - a)) (a2 := A.drop (s - a)) (b1 := B.take (mid + m - s - m)) (b2 := B.drop (mid + m - s - m)) (fun y hy x hx => ?_) (fun x hx y hy => ?_)
  · rw [List.take_append_drop, List.take_append_drop] at e; exact e
  · obtain ⟨u, hu, hgu⟩ := mem_take_get hy
    obtain ⟨v, hv, hgv⟩ := mem_drop_get hx
    have lu := get_lt hgu
    have lv := get_lt hgv
    have h3 := h2 s (Nat.le_refl _) (by omega)
    have gs := seg_get' hd hp (t := s) b1.1 (by omega)
    have ge := seg_get' hdB hpB (t := mid + m - 1 - s) (by omega) (by omega)
    have k1 := srtd_get hO hsB hgu ge (by omega)
    have k2 := srtd_get hO hsA gs hgv (by omega)
    exact swo_lt_le hO (swo_le_lt hO k1 h3) k2
  · obtain ⟨u, hu, hgu⟩ := mem_drop_get hy
    obtain ⟨v, hv, hgv⟩ := mem_take_get hx
    have lu := get_lt hgu
    have lv := get_lt hgv
    have h3 := h1 (s - 1) (by omega) (by omega)
    have gs := seg_get' hd hp (t := s - 1) (by omega) (by omega)
    have ge := seg_get' hdB hpB (t := mid + m - 1 - (s - 1)) (by omega) (by omega)
    have k1 := srtd_get hO hsB ge hgu (by omega)
    have k2 := srtd_get hO hsA hgv gs (by omega)
    exact hO.ntrans _ _ _ (hO.ntrans _ _ _ k1 h3) k2

end Go.Proofs.Ytfpofegfbinalaa.Fx
