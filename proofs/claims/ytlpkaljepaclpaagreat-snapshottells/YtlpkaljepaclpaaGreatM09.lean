/- Which entities are right: the document's answer (joustref05.Right). Lists of entities: what is found, put, dropped and sorted, as lists alone. What package entity answers, said once: the contracts that the statements' walks lean on. Package entity's Right: what it returns; old memory stays. -/
import Derived.Test.YtlpkaljepaclpaaGreatM08
namespace Go.Proofs.YtlpkaljepaclpaaGreat.Fx
open Go.ChangeShapes Go.WideShapes Go.ChangeAt Go.RowKit
set_option linter.unusedVariables false
set_option maxRecDepth 100000

def wi (v lo hi : Int) : Bool := decide (lo ≤ v ∧ v ≤ hi)

def stp (v : Int) : Bool := decide (v = -160 ∨ v = 0 ∨ v = 160)

theorem rwithin_any (v lo hi : Int) (w : World) :
    Calls Tryz.prog 133 #[.int .i64 v, .int .i64 lo, .int .i64 hi] w fun e w' => e = .returned (.bool (wi v lo hi)) ∧ w = w' := by
  go_enter Tryz.func133, Tryz.ntmps133
  go_wp2
  all_goals go_ret
  all_goals exact ⟨ret_bool (by simp [wi] <;> omega), rfl⟩

theorem rstep_any (v : Int) (w : World) :
    Calls Tryz.prog 195 #[.int .i64 v] w fun e w' => e = .returned (.bool (stp v)) ∧ w = w' := by
  go_enter Tryz.func195, Tryz.ntmps195
  go_wp2
  all_goals go_ret
  all_goals exact ⟨ret_bool (by simp [stp] <;> omega), rfl⟩

/-- What an entity must be, its place aside. -/
def eok (p : Int) (e : Ent) : Bool :=
  if e.kind = 1 then wi e.id 1 p && (wi e.vx (-64) 64 && (wi e.vy (-64) 64 && (wi e.health 1 100 && (wi e.age 0 6 && decide (e.owner = 0)))))
  else if e.kind = 2 then wi e.id 1000 2147483647 && (stp e.vx && (stp e.vy && (decide (¬ e.vx = 0 ∨ ¬ e.vy = 0) && (decide (e.health = 1) && (wi e.age 0 12 && wi e.owner 1 p)))))
  else if e.kind = 3 then wi e.id 1000 2147483647 && decide (e.vx = 0 ∧ e.vy = 0 ∧ e.age = 0 ∧ e.owner = 0 ∧ e.health = 1)
  else false

def erightB (a b p n : Int) (e : Ent) : Bool := ins a b p n e.x e.y && eok p e

set_option maxHeartbeats 2000000 in
theorem rright_any (a b p n s : Int) (y : Ent) (w : World) :
    Calls Tryz.prog 134 #[.agg #[.int .i64 a, .int .i64 b, .int .i64 p, .int .i64 n, .int .u64 s], .agg #[.int .i64 y.id, .int .i64 y.kind, .int .i64 y.x, .int .i64 y.y, .int .i64 y.vx, .int .i64 y.vy, .int .i64 y.health, .int .i64 y.age, .int .i64 y.owner]] w fun e w' => e = .returned (.bool (erightB a b p n y)) ∧ Below w.heap.size w w' := by
  have HI := Lib.hid (fun w => rinside_any a b p n s y.x y.y w)
  have HB := Lib.hid (show erightB a b p n y = (ins a b p n y.x y.y && eok p y) from rfl)
  have HE := Lib.hid (show eok p y = if y.kind = 1 then wi y.id 1 p && (wi y.vx (-64) 64 && (wi y.vy (-64) 64 && (wi y.health 1 100 && (wi y.age 0 6 && decide (y.owner = 0))))) else if y.kind = 2 then wi y.id 1000 2147483647 && (stp y.vx && (stp y.vy && (decide (¬ y.vx = 0 ∨ ¬ y.vy = 0) && (decide (y.health = 1) && (wi y.age 0 12 && wi y.owner 1 p))))) else if y.kind = 3 then wi y.id 1000 2147483647 && decide (y.vx = 0 ∧ y.vy = 0 ∧ y.age = 0 ∧ y.owner = 0 ∧ y.health = 1) else false from rfl)
  generalize erightB a b p n y = r at *
  generalize eok p y = q at *
  generalize ins a b p n y.x y.y = i at *
  have HW := Lib.hid rwithin_any
  have HS := Lib.hid rstep_any
  go_enter Tryz.func134, Tryz.ntmps134
  go_wp2_with fail
  refine (HI.out _).mono ?_
  rintro e w1 ⟨rfl, hb⟩
  obtain ⟨hc, hf⟩ := bcell hb
  have hz : w.heap.size < w1.heap.size := by have := hb.size; simp at this; omega
  have hz1 : w.heap.size + 1 < w1.heap.size := by have := hb.size; simp at this; omega
  have Hb := Lib.hid hb
  clear hb
  cases i
  · go_wp2
    go_ret
    exact ⟨ret_bool (by rw [HB.out]; simp), unbox (unbox Hb.out)⟩
  · rw [Bool.true_and] at HB
    have hrq := HB.out
    subst hrq
    clear HB
    have Hbel := Lib.hid (unbox (unbox Hb.out))
    have y0 : w1.cell? ⟨w.heap.size + 1, 0, none⟩ = some (.int .i64 y.id) := by rw [hc _ _ (by simp)]; simp
    have y1 : w1.cell? ⟨w.heap.size + 1, 1, none⟩ = some (.int .i64 y.kind) := by rw [hc _ _ (by simp)]; simp
    have y2 : w1.cell? ⟨w.heap.size + 1, 2, none⟩ = some (.int .i64 y.x) := by rw [hc _ _ (by simp)]; simp
    have y3 : w1.cell? ⟨w.heap.size + 1, 3, none⟩ = some (.int .i64 y.y) := by rw [hc _ _ (by simp)]; simp
    have y4 : w1.cell? ⟨w.heap.size + 1, 4, none⟩ = some (.int .i64 y.vx) := by rw [hc _ _ (by simp)]; simp
    have y5 : w1.cell? ⟨w.heap.size + 1, 5, none⟩ = some (.int .i64 y.vy) := by rw [hc _ _ (by simp)]; simp
    have y6 : w1.cell? ⟨w.heap.size + 1, 6, none⟩ = some (.int .i64 y.health) := by rw [hc _ _ (by simp)]; simp
    have y7 : w1.cell? ⟨w.heap.size + 1, 7, none⟩ = some (.int .i64 y.age) := by rw [hc _ _ (by simp)]; simp
    have y8 : w1.cell? ⟨w.heap.size + 1, 8, none⟩ = some (.int .i64 y.owner) := by rw [hc _ _ (by simp)]; simp
    have p2 : w1.cell? ⟨w.heap.size, 2, none⟩ = some (.int .i64 p) := by rw [hc _ _ (by simp; omega)]; simp
    clear hc hf hz hz1 Hb HI
    by_cases h1 : y.kind = 1
    · rw [if_pos h1] at HE
      go_wp2_with (first | (go_at_call 133; refine (HW.out _ _ _ _).mono ?_; rintro e w' ⟨rfl, rfl⟩) | (go_at_call 195; refine (HS.out _ _).mono ?_; rintro e w' ⟨rfl, rfl⟩))
      all_goals go_ret
      all_goals (refine ⟨ret_bool ?_, Hbel.out⟩; rw [HE.out]; simp [*])
    · rw [if_neg h1] at HE
      by_cases h2 : y.kind = 2
      · rw [if_pos h2] at HE
        go_wp2_with (first | (go_at_call 133; refine (HW.out _ _ _ _).mono ?_; rintro e w' ⟨rfl, rfl⟩) | (go_at_call 195; refine (HS.out _ _).mono ?_; rintro e w' ⟨rfl, rfl⟩))
        all_goals go_ret
        all_goals (refine ⟨ret_bool ?_, Hbel.out⟩; rw [HE.out]; simp [*, show stp 0 = true from by decide])
      · rw [if_neg h2] at HE
        by_cases h3 : y.kind = 3
        · rw [if_pos h3] at HE
          go_wp2_with (first | (go_at_call 133; refine (HW.out _ _ _ _).mono ?_; rintro e w' ⟨rfl, rfl⟩) | (go_at_call 195; refine (HS.out _ _).mono ?_; rintro e w' ⟨rfl, rfl⟩))
          all_goals go_ret
          all_goals (refine ⟨ret_bool ?_, Hbel.out⟩; rw [HE.out]; simp [*])
        · rw [if_neg h3] at HE
          go_wp2_with (first | (go_at_call 133; refine (HW.out _ _ _ _).mono ?_; rintro e w' ⟨rfl, rfl⟩) | (go_at_call 195; refine (HS.out _ _).mono ?_; rintro e w' ⟨rfl, rfl⟩))
          all_goals go_ret
          all_goals (refine ⟨ret_bool ?_, Hbel.out⟩; rw [HE.out])

end Go.Proofs.YtlpkaljepaclpaaGreat.Fx
namespace Go.Proofs.YtlpkaljepaclpaaGreat.Fx
set_option linter.unusedVariables false
set_option maxRecDepth 100000

/-- The numbers rise. -/
def Rise (l : List Ent) : Prop := l.Pairwise fun a b => a.id < b.id

/-- Is one of that number there? -/
def Has (l : List Ent) (id : Int) : Prop := ∃ e ∈ l, e.id = id

/-- Several, one after the other. -/
def puts (l m : List Ent) : List Ent := m.foldl put l

end Go.Proofs.YtlpkaljepaclpaaGreat.Fx
namespace Go.Proofs.YtlpkaljepaclpaaGreat.Fx
open Go.ChangeShapes Go.WideShapes Go.ChangeAt Go.RowKit

end Go.Proofs.YtlpkaljepaclpaaGreat.Fx
namespace Go.Proofs.YtlpkaljepaclpaaGreat.Fx
open Go.ChangeShapes Go.WideShapes Go.ChangeAt Go.RowKit
set_option linter.unusedVariables false
set_option maxRecDepth 100000

theorem within_any (v lo hi : Int) (w : World) :
    Calls Tryz.prog 243 #[.int .i64 v, .int .i64 lo, .int .i64 hi] w fun e w' => e = .returned (.bool (wi v lo hi)) ∧ w = w' := by
  go_enter Tryz.func243, Tryz.ntmps243
  go_wp2
  all_goals go_ret
  all_goals exact ⟨ret_bool (by simp [wi] <;> omega), rfl⟩

theorem walks_any (v : Int) (w : World) :
    Calls Tryz.prog 244 #[.int .i64 v] w fun e w' => e = .returned (.bool (wi v (-64) 64)) ∧ w = w' := by
  have HW := Lib.hid within_any
  go_enter Tryz.func244, Tryz.ntmps244
  go_wp2_with fail
  refine (HW.out _ _ _ _).mono ?_
  rintro e w' ⟨rfl, rfl⟩
  go_wp2
  go_ret
  exact ⟨rfl, rfl⟩

theorem thing_any (v : Int) (w : World) :
    Calls Tryz.prog 246 #[.int .i64 v] w fun e w' => e = .returned (.bool (wi v 1000 2147483647)) ∧ w = w' := by
  have HW := Lib.hid within_any
  go_enter Tryz.func246, Tryz.ntmps246
  go_wp2_with fail
  refine (HW.out _ _ _ _).mono ?_
  rintro e w' ⟨rfl, rfl⟩
  go_wp2
  go_ret
  exact ⟨rfl, rfl⟩

theorem flies_any (v : Int) (w : World) :
    Calls Tryz.prog 245 #[.int .i64 v] w fun e w' => e = .returned (.bool (stp v)) ∧ w = w' := by
  go_enter Tryz.func245, Tryz.ntmps245
  go_wp2
  all_goals go_ret
  all_goals exact ⟨ret_bool (by simp [stp] <;> omega), rfl⟩

set_option maxHeartbeats 2000000 in
theorem rightPlayer_any (a b p n s : Int) (y : Ent) (w : World) :
    Calls Tryz.prog 204 #[.agg #[.int .i64 a, .int .i64 b, .int .i64 p, .int .i64 n, .int .u64 s], .agg #[.int .i64 y.id, .int .i64 y.kind, .int .i64 y.x, .int .i64 y.y, .int .i64 y.vx, .int .i64 y.vy, .int .i64 y.health, .int .i64 y.age, .int .i64 y.owner]] w
      fun e w' => e = .returned (.bool (wi y.id 1 p && (wi y.vx (-64) 64 && (wi y.vy (-64) 64 && (wi y.health 1 100 && (wi y.age 0 6 && decide (y.owner = 0))))))) ∧ Below w.heap.size w w' := by
  have HW := Lib.hid within_any
  have HK := Lib.hid walks_any
  go_enter Tryz.func204, Tryz.ntmps204
  go_wp2_with (first | (go_at_call 243; refine (HW.out _ _ _ _).mono ?_; rintro e w' ⟨rfl, rfl⟩) | (go_at_call 244; refine (HK.out _ _).mono ?_; rintro e w' ⟨rfl, rfl⟩))
  all_goals go_ret
  all_goals (refine ⟨ret_bool ?_, ((Below.refl _ _).alloc (Nat.le_refl _) _).alloc (by simp) _⟩; simp [*])

set_option maxHeartbeats 2000000 in
theorem rightShot_any (a b p n s : Int) (y : Ent) (w : World) :
    Calls Tryz.prog 205 #[.agg #[.int .i64 a, .int .i64 b, .int .i64 p, .int .i64 n, .int .u64 s], .agg #[.int .i64 y.id, .int .i64 y.kind, .int .i64 y.x, .int .i64 y.y, .int .i64 y.vx, .int .i64 y.vy, .int .i64 y.health, .int .i64 y.age, .int .i64 y.owner]] w
      fun e w' => e = .returned (.bool (wi y.id 1000 2147483647 && (stp y.vx && (stp y.vy && (decide (¬ y.vx = 0 ∨ ¬ y.vy = 0) && (decide (y.health = 1) && (wi y.age 0 12 && wi y.owner 1 p))))))) ∧ Below w.heap.size w w' := by
  have HW := Lib.hid within_any
  have HF := Lib.hid flies_any
  have HT := Lib.hid thing_any
  go_enter Tryz.func205, Tryz.ntmps205
  go_wp2_with (first | (go_at_call 243; refine (HW.out _ _ _ _).mono ?_; rintro e w' ⟨rfl, rfl⟩) | (go_at_call 245; refine (HF.out _ _).mono ?_; rintro e w' ⟨rfl, rfl⟩) | (go_at_call 246; refine (HT.out _ _).mono ?_; rintro e w' ⟨rfl, rfl⟩))
  all_goals go_ret
  all_goals (refine ⟨ret_bool ?_, ((Below.refl _ _).alloc (Nat.le_refl _) _).alloc (by simp) _⟩; simp [*, show stp 0 = true from by decide])

set_option maxHeartbeats 2000000 in
theorem rightGem_any (y : Ent) (w : World) :
    Calls Tryz.prog 206 #[.agg #[.int .i64 y.id, .int .i64 y.kind, .int .i64 y.x, .int .i64 y.y, .int .i64 y.vx, .int .i64 y.vy, .int .i64 y.health, .int .i64 y.age, .int .i64 y.owner]] w
      fun e w' => e = .returned (.bool (wi y.id 1000 2147483647 && decide (y.vx = 0 ∧ y.vy = 0 ∧ y.age = 0 ∧ y.owner = 0 ∧ y.health = 1))) ∧ Below w.heap.size w w' := by
  have HT := Lib.hid thing_any
  go_enter Tryz.func206, Tryz.ntmps206
  go_wp2_with (first | (go_at_call 246; refine (HT.out _ _).mono ?_; rintro e w' ⟨rfl, rfl⟩))
  all_goals go_ret
  all_goals (refine ⟨ret_bool ?_, (Below.refl _ _).alloc (Nat.le_refl _) _⟩; simp [*])

set_option maxHeartbeats 2000000 in
theorem eright_any (a b p n s : Int) (y : Ent) (w : World) :
    Calls Tryz.prog 152 #[.agg #[.int .i64 a, .int .i64 b, .int .i64 p, .int .i64 n, .int .u64 s], .agg #[.int .i64 y.id, .int .i64 y.kind, .int .i64 y.x, .int .i64 y.y, .int .i64 y.vx, .int .i64 y.vy, .int .i64 y.health, .int .i64 y.age, .int .i64 y.owner]] w
      fun e w' => e = .returned (.bool (erightB a b p n y)) ∧ Below w.heap.size w w' := by
  have HI := Lib.hid (fun w => inside_any a b p n s y.x y.y w)
  have HP := Lib.hid (fun w => rightPlayer_any a b p n s y w)
  have HS := Lib.hid (fun w => rightShot_any a b p n s y w)
  have HG := Lib.hid (fun w => rightGem_any y w)
  have HB := Lib.hid (show erightB a b p n y = (ins a b p n y.x y.y && eok p y) from rfl)
  have HE := Lib.hid (show eok p y = if y.kind = 1 then wi y.id 1 p && (wi y.vx (-64) 64 && (wi y.vy (-64) 64 && (wi y.health 1 100 && (wi y.age 0 6 && decide (y.owner = 0))))) else if y.kind = 2 then wi y.id 1000 2147483647 && (stp y.vx && (stp y.vy && (decide (¬ y.vx = 0 ∨ ¬ y.vy = 0) && (decide (y.health = 1) && (wi y.age 0 12 && wi y.owner 1 p))))) else if y.kind = 3 then wi y.id 1000 2147483647 && decide (y.vx = 0 ∧ y.vy = 0 ∧ y.age = 0 ∧ y.owner = 0 ∧ y.health = 1) else false from rfl)
  generalize erightB a b p n y = r at *
  generalize eok p y = q at *
  generalize ins a b p n y.x y.y = i at *
  generalize (wi y.id 1 p && (wi y.vx (-64) 64 && (wi y.vy (-64) 64 && (wi y.health 1 100 && (wi y.age 0 6 && decide (y.owner = 0)))))) = r1 at *
  generalize (wi y.id 1000 2147483647 && (stp y.vx && (stp y.vy && (decide (¬ y.vx = 0 ∨ ¬ y.vy = 0) && (decide (y.health = 1) && (wi y.age 0 12 && wi y.owner 1 p)))))) = r2 at *
  generalize (wi y.id 1000 2147483647 && decide (y.vx = 0 ∧ y.vy = 0 ∧ y.age = 0 ∧ y.owner = 0 ∧ y.health = 1)) = r3 at *
  go_enter Tryz.func152, Tryz.ntmps152
  go_wp2_with fail
  refine (HI.out _).mono ?_
  rintro e w1 ⟨rfl, hb⟩
  obtain ⟨hc, hf⟩ := bcell hb
  have hz : w.heap.size < w1.heap.size := by have := hb.size; simp at this; omega
  have hz1 : w.heap.size + 1 < w1.heap.size := by have := hb.size; simp at this; omega
  have Hb := Lib.hid hb
  clear hb
  cases i
  · go_wp2
    go_ret
    exact ⟨ret_bool (by rw [HB.out]; simp), unbox (unbox Hb.out)⟩
  · rw [Bool.true_and] at HB
    have hrq := HB.out
    subst hrq
    clear HB
    have Hbel := Lib.hid (unbox (unbox Hb.out))
    have y0 : (w1).cell? ⟨w.heap.size + 1, 0, none⟩ = some (.int .i64 y.id) := by rw [hc _ _ (by simp)]; simp
    have y1 : (w1).cell? ⟨w.heap.size + 1, 1, none⟩ = some (.int .i64 y.kind) := by rw [hc _ _ (by simp)]; simp
    have y2 : (w1).cell? ⟨w.heap.size + 1, 2, none⟩ = some (.int .i64 y.x) := by rw [hc _ _ (by simp)]; simp
    have y3 : (w1).cell? ⟨w.heap.size + 1, 3, none⟩ = some (.int .i64 y.y) := by rw [hc _ _ (by simp)]; simp
    have y4 : (w1).cell? ⟨w.heap.size + 1, 4, none⟩ = some (.int .i64 y.vx) := by rw [hc _ _ (by simp)]; simp
    have y5 : (w1).cell? ⟨w.heap.size + 1, 5, none⟩ = some (.int .i64 y.vy) := by rw [hc _ _ (by simp)]; simp
    have y6 : (w1).cell? ⟨w.heap.size + 1, 6, none⟩ = some (.int .i64 y.health) := by rw [hc _ _ (by simp)]; simp
    have y7 : (w1).cell? ⟨w.heap.size + 1, 7, none⟩ = some (.int .i64 y.age) := by rw [hc _ _ (by simp)]; simp
    have y8 : (w1).cell? ⟨w.heap.size + 1, 8, none⟩ = some (.int .i64 y.owner) := by rw [hc _ _ (by simp)]; simp
    have p0 : (w1).cell? ⟨w.heap.size, 0, none⟩ = some (.int .i64 a) := by rw [hc _ _ (by simp; omega)]; simp
    have p1 : (w1).cell? ⟨w.heap.size, 1, none⟩ = some (.int .i64 b) := by rw [hc _ _ (by simp; omega)]; simp
    have p2 : (w1).cell? ⟨w.heap.size, 2, none⟩ = some (.int .i64 p) := by rw [hc _ _ (by simp; omega)]; simp
    have p3 : (w1).cell? ⟨w.heap.size, 3, none⟩ = some (.int .i64 n) := by rw [hc _ _ (by simp; omega)]; simp
    have p4 : (w1).cell? ⟨w.heap.size, 4, none⟩ = some (.int .u64 s) := by rw [hc _ _ (by simp; omega)]; simp
    clear hc hf Hb HI
    by_cases h1 : y.kind = 1
    · rw [if_pos h1] at HE
      simp only [h1] at HP
      go_wp2_with fail
      refine (HP.out _).mono ?_
      rintro e w2 ⟨rfl, hb2⟩
      have Hb2 := Lib.hid (nextW Hbel.out hb2)
      clear hb2
      go_wp2
      go_ret
      exact ⟨by rw [HE.out]; rfl, Hb2.out⟩
    · rw [if_neg h1] at HE
      by_cases h2 : y.kind = 2
      · rw [if_pos h2] at HE
        simp only [h2] at HS
        go_wp2_with fail
        refine (HS.out _).mono ?_
        rintro e w2 ⟨rfl, hb2⟩
        have Hb2 := Lib.hid (nextW Hbel.out hb2)
        clear hb2
        go_wp2
        go_ret
        exact ⟨by rw [HE.out]; rfl, Hb2.out⟩
      · rw [if_neg h2] at HE
        by_cases h3 : y.kind = 3
        · rw [if_pos h3] at HE
          simp only [h3] at HG
          go_wp2_with fail
          refine (HG.out _).mono ?_
          rintro e w2 ⟨rfl, hb2⟩
          have Hb2 := Lib.hid (nextW Hbel.out hb2)
          clear hb2
          go_wp2
          go_ret
          exact ⟨by rw [HE.out]; rfl, Hb2.out⟩
        · rw [if_neg h3] at HE
          go_wp2
          go_ret
          exact ⟨by rw [HE.out]; rfl, Hbel.out⟩

end Go.Proofs.YtlpkaljepaclpaaGreat.Fx
