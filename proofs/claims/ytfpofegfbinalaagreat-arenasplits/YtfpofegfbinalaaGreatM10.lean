/- Which entities are right: the document's answer (joustref05.Right). -/
import Derived.Test.YtfpofegfbinalaaGreatM09
namespace Go.Proofs.YtfpofegfbinalaaGreat.Fx
open Go.ChangeShapes Go.WideShapes Go.ChangeAt Go.RowKit
set_option linter.unusedVariables false
set_option maxRecDepth 100000

def wi (v lo hi : Int) : Bool := decide (lo ≤ v ∧ v ≤ hi)

def stp (v : Int) : Bool := decide (v = -160 ∨ v = 0 ∨ v = 160)

theorem rwithin_any (v lo hi : Int) (w : World) :
    Calls Tryz.prog 167 #[.int .i64 v, .int .i64 lo, .int .i64 hi] w fun e w' => e = .returned (.bool (wi v lo hi)) ∧ w = w' := by
  go_enter Tryz.func167, Tryz.ntmps167
  go_wp2
  all_goals go_ret
  all_goals exact ⟨ret_bool (by simp [wi] <;> omega), rfl⟩

theorem rstep_any (v : Int) (w : World) :
    Calls Tryz.prog 168 #[.int .i64 v] w fun e w' => e = .returned (.bool (stp v)) ∧ w = w' := by
  go_enter Tryz.func168, Tryz.ntmps168
  go_wp2
  all_goals go_ret
  all_goals exact ⟨ret_bool (by simp [stp] <;> omega), rfl⟩

/-- What an entity must be, its place aside. -/
def eok (p : Int) (e : Ent) : Bool :=
  if e.kind = 1 then wi e.id 1 p && (wi e.vx (-64) 64 && (wi e.vy (-64) 64 && (wi e.health 1 100 && (wi e.age 0 6 && decide (e.owner = 0)))))
  else if e.kind = 2 then wi e.id 1000 2147483647 && (stp e.vx && (stp e.vy && (decide (¬ e.vx = 0 ∨ ¬ e.vy = 0) && (decide (e.health = 1) && (wi e.age 0 12 && wi e.owner 1 p)))))
  else if e.kind = 3 then wi e.id 1000 2147483647 && decide (e.vx = 0 ∧ e.vy = 0 ∧ e.age = 0 ∧ e.owner = 0 ∧ e.health = 1)
  else false

def erightB (a b p n : Int) (e : Ent) : Bool := ins a b p n e.x e.y && eok p e

set_option maxHeartbeats 2000000 in
theorem rright_any (a b p n s : Int) (y : Ent) (w : World) :
    Calls Tryz.prog 121 #[.agg #[.int .i64 a, .int .i64 b, .int .i64 p, .int .i64 n, .int .u64 s], .agg #[.int .i64 y.id, .int .i64 y.kind, .int .i64 y.x, .int .i64 y.y, .int .i64 y.vx, .int .i64 y.vy, .int .i64 y.health, .int .i64 y.age, .int .i64 y.owner]] w fun e w' => e = .returned (.bool (erightB a b p n y)) ∧ Below w.heap.size w w' := by
  have HI := Lib.hid (fun w => rinside_any a b p n s y.x y.y w)
  have HB := Lib.hid (show erightB a b p n y = (ins a b p n y.x y.y && eok p y) from rfl)
  have HE := Lib.hid (show eok p y = if y.kind = 1 then wi y.id 1 p && (wi y.vx (-64) 64 && (wi y.vy (-64) 64 && (wi y.health 1 100 && (wi y.age 0 6 && decide (y.owner = 0))))) else if y.kind = 2 then wi y.id 1000 2147483647 && (stp y.vx && (stp y.vy && (decide (¬ y.vx = 0 ∨ ¬ y.vy = 0) && (decide (y.health = 1) && (wi y.age 0 12 && wi y.owner 1 p))))) else if y.kind = 3 then wi y.id 1000 2147483647 && decide (y.vx = 0 ∧ y.vy = 0 ∧ y.age = 0 ∧ y.owner = 0 ∧ y.health = 1) else false from rfl)
  generalize erightB a b p n y = r at *
  generalize eok p y = q at *
  generalize ins a b p n y.x y.y = i at *
  have HW := Lib.hid rwithin_any
  have HS := Lib.hid rstep_any
  go_enter Tryz.func121, Tryz.ntmps121
  go_wp2_with fail
  refine (HI.out _).mono ?_
  rintro e w1 ⟨rfl, hb⟩
  obtain ⟨hc, hf⟩ := bcell hb
  have hz : w.heap.size < w1.heap.size := by have := hb.size; simp at this; omega
  have hz1 : w.heap.size + 1 < w1.heap.size := by have := hb.size; simp at this; omega
  have Hb := Lib.hid hb
  clear hb
  cases i
  · go_wp2
    go_ret
    exact ⟨ret_bool (by rw [HB.out]; simp), unbox (unbox Hb.out)⟩
  · rw [Bool.true_and] at HB
    have hrq := HB.out
    subst hrq
    clear HB
    have Hbel := Lib.hid (unbox (unbox Hb.out))
    have y0 : w1.cell? ⟨w.heap.size + 1, 0, none⟩ = some (.int .i64 y.id) := by rw [hc _ _ (by simp)]; simp
    have y1 : w1.cell? ⟨w.heap.size + 1, 1, none⟩ = some (.int .i64 y.kind) := by rw [hc _ _ (by simp)]; simp
    have y2 : w1.cell? ⟨w.heap.size + 1, 2, none⟩ = some (.int .i64 y.x) := by rw [hc _ _ (by simp)]; simp
    have y3 : w1.cell? ⟨w.heap.size + 1, 3, none⟩ = some (.int .i64 y.y) := by rw [hc _ _ (by simp)]; simp
    have y4 : w1.cell? ⟨w.heap.size + 1, 4, none⟩ = some (.int .i64 y.vx) := by rw [hc _ _ (by simp)]; simp
    have y5 : w1.cell? ⟨w.heap.size + 1, 5, none⟩ = some (.int .i64 y.vy) := by rw [hc _ _ (by simp)]; simp
    have y6 : w1.cell? ⟨w.heap.size + 1, 6, none⟩ = some (.int .i64 y.health) := by rw [hc _ _ (by simp)]; simp
    have y7 : w1.cell? ⟨w.heap.size + 1, 7, none⟩ = some (.int .i64 y.age) := by rw [hc _ _ (by simp)]; simp
    have y8 : w1.cell? ⟨w.heap.size + 1, 8, none⟩ = some (.int .i64 y.owner) := by rw [hc _ _ (by simp)]; simp
    have p2 : w1.cell? ⟨w.heap.size, 2, none⟩ = some (.int .i64 p) := by rw [hc _ _ (by simp; omega)]; simp
    clear hc hf hz hz1 Hb HI
    by_cases h1 : y.kind = 1
    · rw [if_pos h1] at HE
      go_wp2_with (first | (go_at_call 167; refine (HW.out _ _ _ _).mono ?_; rintro e w' ⟨rfl, rfl⟩) | (go_at_call 168; refine (HS.out _ _).mono ?_; rintro e w' ⟨rfl, rfl⟩))
      all_goals go_ret
      all_goals (refine ⟨ret_bool ?_, Hbel.out⟩; rw [HE.out]; simp [*])
    · rw [if_neg h1] at HE
      by_cases h2 : y.kind = 2
      · rw [if_pos h2] at HE
        go_wp2_with (first | (go_at_call 167; refine (HW.out _ _ _ _).mono ?_; rintro e w' ⟨rfl, rfl⟩) | (go_at_call 168; refine (HS.out _ _).mono ?_; rintro e w' ⟨rfl, rfl⟩))
        all_goals go_ret
        all_goals (refine ⟨ret_bool ?_, Hbel.out⟩; rw [HE.out]; simp [*, show stp 0 = true from by decide])
      · rw [if_neg h2] at HE
        by_cases h3 : y.kind = 3
        · rw [if_pos h3] at HE
          go_wp2_with (first | (go_at_call 167; refine (HW.out _ _ _ _).mono ?_; rintro e w' ⟨rfl, rfl⟩) | (go_at_call 168; refine (HS.out _ _).mono ?_; rintro e w' ⟨rfl, rfl⟩))
          all_goals go_ret
          all_goals (refine ⟨ret_bool ?_, Hbel.out⟩; rw [HE.out]; simp [*])
        · rw [if_neg h3] at HE
          go_wp2_with (first | (go_at_call 167; refine (HW.out _ _ _ _).mono ?_; rintro e w' ⟨rfl, rfl⟩) | (go_at_call 168; refine (HS.out _ _).mono ?_; rintro e w' ⟨rfl, rfl⟩))
          all_goals go_ret
          all_goals (refine ⟨ret_bool ?_, Hbel.out⟩; rw [HE.out])

end Go.Proofs.YtfpofegfbinalaaGreat.Fx
