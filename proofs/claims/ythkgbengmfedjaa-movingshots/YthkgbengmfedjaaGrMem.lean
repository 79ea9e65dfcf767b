/- What is near (the same as in GrLaw, without what GrLaw leans on; do not import both). -/
import Derived.Test.YthkgbengmfedjaaGrNear
namespace Go.Proofs.Ythkgbengmfedjaa.Fx
open Go.ChangeShapes Go.WideShapes Go.ChangeAt Go.RowKit
set_option linter.unusedVariables false

theorem mem_nrTo (a r y : Int) (k : Nat) : y ∈ nrTo a r k ↔ 0 ≤ y ∧ y < k ∧ nearB a r y = true := by
  induction k with
  | zero => simp [nrTo]; omega
  | succ k ih =>
    unfold nrTo
    by_cases h : nearB a r k = true
    · rw [if_pos h, List.mem_append, ih, List.mem_singleton]
      constructor
      · rintro (⟨h0, h1, h2⟩ | rfl)
        · exact ⟨h0, by omega, h2⟩
        · exact ⟨by omega, by omega, h⟩
      · rintro ⟨h0, h1, h2⟩
        by_cases e : y = k
        · exact .inr e
        · exact .inl ⟨h0, by omega, h2⟩
    · rw [if_neg h, List.append_nil, ih]
      constructor
      · rintro ⟨h0, h1, h2⟩
        exact ⟨h0, by omega, h2⟩
      · rintro ⟨h0, h1, h2⟩
        refine ⟨h0, ?_, h2⟩
        by_cases e : y = k
        · subst e; exact absurd h2 h
        · omega

theorem mem_nr {a b p n r y : Int} (h : hasB a b p n r = true) : y ∈ nr a b p n r ↔ 0 ≤ y ∧ y < a * b ∧ nearB a r y = true := by
  unfold nr
  rw [if_pos h, mem_nrTo]
  obtain ⟨-, h0, h1, ha, ha4, hb, hb4, -⟩ := hasB_rt h
  have := mul_le4 ha ha4 hb hb4
  constructor <;> (rintro ⟨x, y, z⟩; exact ⟨x, by omega, z⟩)

theorem of_has {a b p n : Int} (h : rt a b p n = true) (x y : Int) : 0 ≤ ofr a b p n x y ∧ ofr a b p n x y < a * b ∧ ofr a b p n x y % a = clamp x 0 (a * 1024 - 1) / 1024 ∧ ofr a b p n x y / a = clamp y 0 (b * 1024 - 1) / 1024 := by
  obtain ⟨r1, r2, r3, r4, -⟩ := rt_bd h
  have hx := clamp_bd x (a * 1024 - 1) (by omega)
  have hy := clamp_bd y (b * 1024 - 1) (by omega)
  unfold ofr
  rw [if_pos h]
  generalize clamp x 0 (a * 1024 - 1) = cx at *
  generalize clamp y 0 (b * 1024 - 1) = cy at *
  have ea : a = 1 ∨ a = 2 ∨ a = 3 ∨ a = 4 := by omega
  have eb : b = 1 ∨ b = 2 ∨ b = 3 ∨ b = 4 := by omega
  rcases ea with rfl | rfl | rfl | rfl <;> rcases eb with rfl | rfl | rfl | rfl <;> omega

end Go.Proofs.Ythkgbengmfedjaa.Fx
