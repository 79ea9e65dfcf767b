/- slices.stableCmpFunc and SortStableFunc at elements of k cells: the row is sorted, and what is alike stays in order. -/
import Derived.Test.YtfpofegfbinalaaStTop
namespace Go.Proofs.Ytfpofegfbinalaa.Fx
open Go.Shelf Go.RowKit Go.Lib Go.Sort
set_option linter.unusedVariables false
set_option maxRecDepth 100000
variable {P : Program} {α : Type}

/-- Each part of so many sorted by itself. -/
def bsort (lt : α → α → Bool) (bs : Nat) (l : List α) : List α :=
  if h : bs = 0 ∨ l = [] then l else st lt (l.take bs) ++ bsort lt bs (l.drop bs)
termination_by l.length
decreasing_by
  rw [List.length_drop]
  have := List.length_pos_iff.2 (fun h' => h (Or.inr h'))
  omega

theorem bsort_nil (lt : α → α → Bool) (bs : Nat) : bsort lt bs [] = [] := by rw [bsort, dif_pos (Or.inr rfl)]

theorem bsort_cons (lt : α → α → Bool) (bs : Nat) (hb : 0 < bs) (l : List α) (hl : 0 < l.length) : bsort lt bs l = st lt (l.take bs) ++ bsort lt bs (l.drop bs) := by
  rw [bsort, dif_neg]
  rintro (h | h)
  · omega
  · rw [h] at hl; simp at hl

theorem bsort_small (lt : α → α → Bool) (bs : Nat) (hb : 0 < bs) (l : List α) (hl : l.length ≤ bs) : bsort lt bs l = st lt l := by
  rcases Nat.eq_zero_or_pos l.length with h | h
  · obtain rfl := List.eq_nil_of_length_eq_zero h
    rw [bsort_nil]; rfl
  · rw [bsort_cons lt bs hb l h, List.take_of_length_le hl, List.drop_eq_nil_of_le hl, bsort_nil, List.append_nil]

theorem bsort_len (lt : α → α → Bool) (bs : Nat) : ∀ (n : Nat) (l : List α), l.length ≤ n → (bsort lt bs l).length = l.length
  | 0, l, h => by obtain rfl := List.eq_nil_of_length_eq_zero (Nat.le_zero.1 h); rw [bsort_nil]
  | n + 1, l, h => by
    rcases Nat.eq_zero_or_pos bs with hb | hb
    · rw [bsort, dif_pos (Or.inl hb)]
    · rcases Nat.eq_zero_or_pos l.length with h0 | h0
      · obtain rfl := List.eq_nil_of_length_eq_zero h0
        rw [bsort_nil]
      · rw [bsort_cons lt bs hb l h0, List.length_append, st_length, bsort_len lt bs n (l.drop bs) (by rw [List.length_drop]; omega), List.length_take, List.length_drop]
        omega

theorem bsort_length (lt : α → α → Bool) (bs : Nat) (l : List α) : (bsort lt bs l).length = l.length := bsort_len lt bs _ l (Nat.le_refl _)

variable [Inhabited α]

/-- Two parts of so many that stand ahead. -/
theorem bsort_two (lt : α → α → Bool) (hO : SWO lt) (bs : Nat) (hb : 0 < bs) (l : List α) (hl : 2 * bs ≤ l.length) :
    ∃ T1 T2, T1.length = bs ∧ T2.length = bs ∧ bsort lt bs l = st lt T1 ++ (st lt T2 ++ bsort lt bs (l.drop (2 * bs))) ∧ bsort lt (2 * bs) l = mrg lt (st lt T1) (st lt T2) ++ bsort lt (2 * bs) (l.drop (2 * bs)) := by
  refine ⟨l.take bs, (l.drop bs).take bs, by rw [List.length_take]; omega, by rw [List.length_take, List.length_drop]; omega, ?_, ?_⟩
  · rw [bsort_cons lt bs hb l (by omega), bsort_cons lt bs hb (l.drop bs) (by rw [List.length_drop]; omega), List.drop_drop, show bs + bs = 2 * bs by omega]
  · rw [bsort_cons lt (2 * bs) (by omega) l (by omega), ← st_append lt hO]
    congr 2
    rw [show 2 * bs = bs + bs by omega, List.take_add]

/-- What is left: more than one part. -/
theorem bsort_rest (lt : α → α → Bool) (hO : SWO lt) (bs : Nat) (hb : 0 < bs) (l : List α) (h1 : bs < l.length) (h2 : l.length ≤ 2 * bs) :
    ∃ T1 T2, T1.length = bs ∧ bs + T2.length = l.length ∧ bsort lt bs l = st lt T1 ++ st lt T2 ∧ bsort lt (2 * bs) l = mrg lt (st lt T1) (st lt T2) := by
  refine ⟨l.take bs, l.drop bs, by rw [List.length_take]; omega, by rw [List.length_drop]; omega, ?_, ?_⟩
  · rw [bsort_cons lt bs hb l (by omega), bsort_small lt bs hb (l.drop bs) (by rw [List.length_drop]; omega)]
  · rw [bsort_small lt (2 * bs) (by omega) l h2, ← st_append lt hO, List.take_append_drop]

end Go.Proofs.Ytfpofegfbinalaa.Fx
