/- slices.symMergeCmpFunc, stableCmpFunc and SortStableFunc at elements of k cells: the row is sorted, and what is alike stays in order. -/
import Derived.Test.YtfpofegfbinalaaStSym
namespace Go.Proofs.Ytfpofegfbinalaa.Fx
open Go.Shelf Go.RowKit Go.Lib Go.Sort
set_option linter.unusedVariables false
set_option maxRecDepth 100000
variable {P : Program} {α : Type} [Inhabited α]

theorem sym_parts {lt : α → α → Bool} (hO : SWO lt) {d : Array α} {p A B r : List α} (hd : d.toList = p ++ (A ++ (B ++ r))) {a m b mid s s0 r0 en : Nat} (hp : p.length = a) (hA : a + A.length = m) (hB : m + B.length = b) (hsA : Srtd lt A) (hsB : Srtd lt B) (hA0 : a < m) (hB0 : m < b)
    (hmid : 2 * mid ≤ a + b) (hmid' : a + b ≤ 2 * mid + 1) (h0 : (mid < m ∧ s0 = mid + m - b ∧ r0 = mid) ∨ (m ≤ mid ∧ s0 = a ∧ r0 = m)) (hs0 : s0 ≤ s) (hs1 : s ≤ r0) (hen : en + s = mid + m)
    (h1 : ∀ t, s0 ≤ t → t < s → lt d[mid + m - 1 - t]! d[t]! = false) (h2 : ∀ t, s ≤ t → t < r0 → lt d[mid + m - 1 - t]! d[t]! = true) :
    ∃ A1 A2 B1 B2, A = A1 ++ A2 ∧ B = B1 ++ B2 ∧ a + A1.length = s ∧ s + A2.length = m ∧ m + B1.length = en ∧ en + B2.length = b ∧ s + B1.length = mid ∧ mid + A2.length = en ∧ mrg lt A B = mrg lt A1 B1 ++ mrg lt A2 B2 ∧ Srtd lt A1 ∧ Srtd lt A2 ∧ Srtd lt B1 ∧ Srtd lt B2 := by
  obtain ⟨c1, c2, c3, c4, c5⟩ := sym_split hO hd hp hA hB hsA hsB hA0 hB0 hmid hmid' h0 hs0 hs1 h1 h2
  have e1 : A = A.take (s - a) ++ A.drop (s - a) := (List.take_append_drop _ _).symm
  have e2 : B = B.take (mid + m - s - m) ++ B.drop (mid + m - s - m) := (List.take_append_drop _ _).symm
  rw [e1] at hsA
  rw [e2] at hsB
  refine ⟨_, _, _, _, e1, e2, ?_, ?_, ?_, ?_, ?_, ?_, c5, hsA.parts.1, hsA.parts.2, hsB.parts.1, hsB.parts.2⟩
  all_goals (simp only [List.length_take, List.length_drop]; omega)

end Go.Proofs.Ytfpofegfbinalaa.Fx
