/- Where an entity goes, case by case: what it returns, for every input; old memory stays. -/
import Derived.Test.YthkgbengmfedjaaMvPure
namespace Go.Proofs.Ythkgbengmfedjaa.Fx
open Go.ChangeShapes Go.WideShapes Go.ChangeAt Go.RowKit
set_option linter.unusedVariables false

theorem ins_rt {a b p n x y : Int} (h : ins a b p n x y = true) : rt a b p n = true := by
  cases hr : rt a b p n
  · unfold ins wid hei at h
    rw [hr] at h
    simp at h
    omega
  · rfl

theorem go_no {a b p n : Int} {y : Ent} (h : erightB a b p n y = false) : goE a b p n y = nobody ∧ goB a b p n y = false := by
  have hb : goB a b p n y = false := by unfold goB; rw [h]; rfl
  exact ⟨by unfold goE; rw [hb]; rfl, hb⟩

theorem go_player {a b p n : Int} {y : Ent} (h : erightB a b p n y = true) (hk : y.kind = 1) : goE a b p n y = ⟨y.id, y.kind, clamp (y.x + y.vx) 0 (a * 1024 - 1), clamp (y.y + y.vy) 0 (b * 1024 - 1), y.vx, y.vy, y.health, y.age, y.owner⟩ ∧ goB a b p n y = true := by
  have hb : goB a b p n y = true := by unfold goB; rw [h, hk]; rfl
  exact ⟨by unfold goE; rw [hb, if_pos rfl, if_pos hk], hb⟩

theorem go_shot {a b p n : Int} {y : Ent} (h : erightB a b p n y = true) (hk : y.kind = 2) :
    goE a b p n y = (bif (decide (12 < y.age + 1) || !ins a b p n (y.x + y.vx) (y.y + y.vy)) then nobody else ⟨y.id, y.kind, y.x + y.vx, y.y + y.vy, y.vx, y.vy, y.health, y.age + 1, y.owner⟩) ∧ goB a b p n y = !(decide (12 < y.age + 1) || !ins a b p n (y.x + y.vx) (y.y + y.vy)) := by
  have hb : goB a b p n y = !(decide (12 < y.age + 1) || !ins a b p n (y.x + y.vx) (y.y + y.vy)) := by unfold goB; rw [h, hk]; simp
  refine ⟨?_, hb⟩
  unfold goE
  rw [hb]
  cases (decide (12 < y.age + 1) || !ins a b p n (y.x + y.vx) (y.y + y.vy))
  · rw [if_pos (show (!false) = true from rfl), if_neg (by rw [hk]; decide), if_pos hk]; rfl
  · rfl

theorem go_other {a b p n : Int} {y : Ent} (h : erightB a b p n y = true) (h1 : ¬ y.kind = 1) (h2 : ¬ y.kind = 2) : goE a b p n y = y ∧ goB a b p n y = true := by
  have hb : goB a b p n y = true := by unfold goB; rw [h]; simp [h2]
  exact ⟨by unfold goE; rw [hb, if_pos rfl, if_neg h1, if_neg h2], hb⟩

theorem right_bds {a b p n : Int} {y : Ent} (h : erightB a b p n y = true) : rt a b p n = true ∧ (0 ≤ y.x ∧ y.x < 4096) ∧ (0 ≤ y.y ∧ y.y < 4096) ∧ (-160 ≤ y.vx ∧ y.vx ≤ 160) ∧ (-160 ≤ y.vy ∧ y.vy ≤ 160) ∧ (0 ≤ y.age ∧ y.age ≤ 12) := by
  obtain ⟨h3, h4⟩ := eright_ins h
  have hr := ins_rt h3
  obtain ⟨r1, r2, r3, r4, -⟩ := rt_bd hr
  have hs := speed_bd h4
  rw [ins_iff hr] at h3
  refine ⟨hr, by omega, by omega, by omega, by omega, ?_⟩
  unfold eok at h4
  split at h4
  · simp only [wi, Bool.and_eq_true, decide_eq_true_eq] at h4; omega
  · split at h4
    · simp only [wi, stp, Bool.and_eq_true, decide_eq_true_eq] at h4; omega
    · split at h4
      · simp only [wi, Bool.and_eq_true, decide_eq_true_eq] at h4; omega
      · cases h4

end Go.Proofs.Ythkgbengmfedjaa.Fx
