/- How things move, plainly (the document's P7.1, P7.2): who is right and goes is right, and comes to a near region. -/
import Derived.Test.YthkgbengmfedjaaGrMem
import Derived.Test.YthkgbengmfedjaaEnRight
import Derived.Test.YthkgbengmfedjaaInLeaf
namespace Go.Proofs.Ythkgbengmfedjaa.Fx
open Go.ChangeShapes Go.WideShapes Go.ChangeAt Go.RowKit
set_option linter.unusedVariables false

/-- How an entity is steered. -/
def steerE (y : Ent) (dx dy : Int) (f : Bool) : Ent :=
  if y.kind = 1 ∧ irt dx dy = true then ⟨y.id, y.kind, y.x, y.y, dx * 32, dy * 32, y.health, if f = true ∧ y.age = 0 then 6 else max 1 y.age - 1, y.owner⟩ else y

/-- Does it shoot? -/
def steerB (y : Ent) (dx dy : Int) (f : Bool) : Bool := decide (y.kind = 1 ∧ irt dx dy = true ∧ f = true ∧ y.age = 0)

def sgn (v : Int) : Int := if v < 0 then -1 else if 0 < v then 1 else 0

/-- The shot. -/
def shootE (y : Ent) (dx dy id : Int) : Ent := ⟨id, 2, y.x, y.y, if sgn dx = 0 ∧ sgn dy = 0 then 160 else sgn dx * 160, sgn dy * 160, 1, 0, y.id⟩

def nobody : Ent := ⟨0, 0, 0, 0, 0, 0, 0, 0, 0⟩

/-- Is it there when it has gone? -/
def goB (a b p n : Int) (y : Ent) : Bool := erightB a b p n y && !(decide (y.kind = 2) && (decide (12 < y.age + 1) || !ins a b p n (y.x + y.vx) (y.y + y.vy)))

/-- Where it goes. -/
def goE (a b p n : Int) (y : Ent) : Ent :=
  if goB a b p n y = true then
    if y.kind = 1 then ⟨y.id, y.kind, clamp (y.x + y.vx) 0 (a * 1024 - 1), clamp (y.y + y.vy) 0 (b * 1024 - 1), y.vx, y.vy, y.health, y.age, y.owner⟩
    else if y.kind = 2 then ⟨y.id, y.kind, y.x + y.vx, y.y + y.vy, y.vx, y.vy, y.health, y.age + 1, y.owner⟩
    else y
  else nobody

theorem ins_iff {a b p n x y : Int} (h : rt a b p n = true) : ins a b p n x y = true ↔ (0 ≤ x ∧ x < a * 1024 ∧ 0 ≤ y ∧ y < b * 1024) := by
  unfold ins wid hei
  rw [if_pos h, if_pos h]
  simp

theorem eright_ins {a b p n : Int} {y : Ent} (h : erightB a b p n y = true) : ins a b p n y.x y.y = true ∧ eok p y = true := by
  unfold erightB at h
  rw [Bool.and_eq_true] at h
  exact h

theorem steer_right {a b p n : Int} {y : Ent} (dx dy : Int) (f : Bool) (h : erightB a b p n y = true) : erightB a b p n (steerE y dx dy f) = true := by
  unfold steerE
  split
  · rename_i hk
    obtain ⟨h1, h2⟩ := eright_ins h
    have hd := irt_bd hk.2
    unfold erightB
    rw [Bool.and_eq_true]
    refine ⟨h1, ?_⟩
    unfold eok at h2 ⊢
    rw [if_pos hk.1] at h2
    simp only [hk.1, if_true]
    simp only [wi, Bool.and_eq_true, decide_eq_true_eq] at h2 ⊢
    refine ⟨h2.1, by omega, by omega, h2.2.2.2.1, ?_, h2.2.2.2.2.2⟩
    split <;> omega
  · exact h

theorem goB_right {a b p n : Int} {y : Ent} (h : goB a b p n y = true) : erightB a b p n y = true ∧ (y.kind = 2 → y.age + 1 ≤ 12 ∧ ins a b p n (y.x + y.vx) (y.y + y.vy) = true) := by
  unfold goB at h
  rw [Bool.and_eq_true] at h
  refine ⟨h.1, fun hk => ?_⟩
  have h2 := h.2
  simp only [hk, decide_true, Bool.true_and, Bool.not_or, Bool.and_eq_true, Bool.not_eq_true', decide_eq_false_iff_not] at h2
  exact ⟨by omega, by simpa using h2.2⟩

theorem go_right {a b p n : Int} {y : Ent} (hr : rt a b p n = true) (h : goB a b p n y = true) : erightB a b p n (goE a b p n y) = true := by
  obtain ⟨h1, h2⟩ := goB_right h
  obtain ⟨h3, h4⟩ := eright_ins h1
  obtain ⟨r1, r2, r3, r4, -⟩ := rt_bd hr
  unfold goE
  rw [if_pos h]
  split
  · rename_i hk
    unfold erightB
    rw [Bool.and_eq_true]
    refine ⟨?_, ?_⟩
    · rw [ins_iff hr]
      have b1 := clamp_bd (y.x + y.vx) (a * 1024 - 1) (by omega)
      have b2 := clamp_bd (y.y + y.vy) (b * 1024 - 1) (by omega)
      exact ⟨b1.1, by simp only []; omega, b2.1, by simp only []; omega⟩
    · unfold eok at h4 ⊢
      exact h4
  · split
    · rename_i hk1 hk2
      obtain ⟨h5, h6⟩ := h2 hk2
      unfold erightB
      rw [Bool.and_eq_true]
      refine ⟨h6, ?_⟩
      unfold eok at h4 ⊢
      simp only [hk2] at h4 ⊢
      simp only [wi] at h4 ⊢
      simp only [show ¬ ((2 : Int) = 1) by omega, if_false, if_true, Bool.and_eq_true, decide_eq_true_eq] at h4 ⊢
      exact ⟨h4.1, h4.2.1, h4.2.2.1, h4.2.2.2.1, h4.2.2.2.2.1, ⟨by omega, by omega⟩, h4.2.2.2.2.2.2⟩
    · exact h1

theorem speed_bd {p : Int} {y : Ent} (h : eok p y = true) : -160 ≤ y.vx ∧ y.vx ≤ 160 ∧ -160 ≤ y.vy ∧ y.vy ≤ 160 := by
  unfold eok at h
  split at h
  · simp only [wi, Bool.and_eq_true, decide_eq_true_eq] at h; omega
  · split at h
    · simp only [wi, stp, Bool.and_eq_true, decide_eq_true_eq] at h; omega
    · split at h
      · simp only [wi, Bool.and_eq_true, decide_eq_true_eq] at h; omega
      · cases h

/-- Two places that are less than a region apart: their regions are near. -/
theorem near_of {a b p n x y x' y' : Int} (hr : rt a b p n = true) (h1 : 0 ≤ x ∧ x < a * 1024 ∧ 0 ≤ y ∧ y < b * 1024) (h2 : 0 ≤ x' ∧ x' < a * 1024 ∧ 0 ≤ y' ∧ y' < b * 1024) (h3 : -1024 ≤ x' - x ∧ x' - x ≤ 1024 ∧ -1024 ≤ y' - y ∧ y' - y ≤ 1024) :
    ofr a b p n x' y' ∈ nr a b p n (ofr a b p n x y) := by
  obtain ⟨o1, o2, o3, o4⟩ := of_has hr x y
  obtain ⟨q1, q2, q3, q4⟩ := of_has hr x' y'
  have hh : hasB a b p n (ofr a b p n x y) = true := by unfold hasB regs; rw [if_pos hr]; exact decide_eq_true ⟨o1, o2⟩
  rw [mem_nr hh]
  refine ⟨q1, q2, ?_⟩
  unfold nearB
  rw [o3, o4, q3, q4]
  have e1 : clamp x 0 (a * 1024 - 1) = x := by unfold clamp; omega
  have e2 : clamp y 0 (b * 1024 - 1) = y := by unfold clamp; omega
  have e3 : clamp x' 0 (a * 1024 - 1) = x' := by unfold clamp; omega
  have e4 : clamp y' 0 (b * 1024 - 1) = y' := by unfold clamp; omega
  rw [e1, e2, e3, e4]
  exact decide_eq_true (by omega)

theorem go_near {a b p n : Int} {y : Ent} (hr : rt a b p n = true) (h : goB a b p n y = true) : ofr a b p n (goE a b p n y).x (goE a b p n y).y ∈ nr a b p n (ofr a b p n y.x y.y) := by
  obtain ⟨h1, h2⟩ := goB_right h
  obtain ⟨h3, h4⟩ := eright_ins h1
  have h5 := (eright_ins (go_right hr h)).1
  have hs := speed_bd h4
  rw [ins_iff hr] at h3 h5
  refine near_of hr h3 h5 ?_
  unfold goE at h5 ⊢
  rw [if_pos h] at h5 ⊢
  split
  · simp only [clamp]
    repeat' split
    all_goals omega
  · split
    · simp only []; omega
    · omega

theorem go_same {a b p n : Int} {y : Ent} (h : goB a b p n y = true) : (goE a b p n y).id = y.id ∧ (goE a b p n y).kind = y.kind ∧ (goE a b p n y).health = y.health := by
  unfold goE
  rw [if_pos h]
  split
  · exact ⟨rfl, rfl, rfl⟩
  · split <;> exact ⟨rfl, rfl, rfl⟩

end Go.Proofs.Ythkgbengmfedjaa.Fx
