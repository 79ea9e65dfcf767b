/- Where an entity goes, case by case: what it returns, for every input; old memory stays. Package moving's Go: what it returns, for every input; old memory stays. The turn's call move: each one goes. -/
import Derived.Test.YtfpofegfbinalaaGreatM11
import Derived.Test.YtfpofegfbinalaaGreatM20
import Derived.Test.YtfpofegfbinalaaGreatM19
import Derived.Test.YtfpofegfbinalaaGreatM01
import Derived.Test.YtfpofegfbinalaaGreatM04
import Derived.Test.YtfpofegfbinalaaGreatM16
import Derived.Test.YtfpofegfbinalaaGreatM03
import Derived.Deep.DeepCutAuto
namespace Go.Proofs.YtfpofegfbinalaaGreat.Fx
open Go.ChangeShapes Go.WideShapes Go.ChangeAt Go.RowKit
set_option linter.unusedVariables false
set_option maxRecDepth 100000

theorem ins_rt {a b p n x y : Int} (h : ins a b p n x y = true) : rt a b p n = true := by
  cases hr : rt a b p n
  · unfold ins wid hei at h
    rw [hr] at h
    simp at h
    omega
  · rfl

theorem go_no {a b p n : Int} {y : Ent} (h : erightB a b p n y = false) : goE a b p n y = nobody ∧ goB a b p n y = false := by
  have hb : goB a b p n y = false := by unfold goB; rw [h]; rfl
  exact ⟨by unfold goE; rw [hb]; rfl, hb⟩

theorem go_player {a b p n : Int} {y : Ent} (h : erightB a b p n y = true) (hk : y.kind = 1) : goE a b p n y = ⟨y.id, y.kind, clamp (y.x + y.vx) 0 (a * 1024 - 1), clamp (y.y + y.vy) 0 (b * 1024 - 1), y.vx, y.vy, y.health, y.age, y.owner⟩ ∧ goB a b p n y = true := by
  have hb : goB a b p n y = true := by unfold goB; rw [h, hk]; rfl
  exact ⟨by unfold goE; rw [hb, if_pos rfl, if_pos hk], hb⟩

theorem go_shot {a b p n : Int} {y : Ent} (h : erightB a b p n y = true) (hk : y.kind = 2) :
    goE a b p n y = (bif (decide (12 < y.age + 1) || !ins a b p n (y.x + y.vx) (y.y + y.vy)) then nobody else ⟨y.id, y.kind, y.x + y.vx, y.y + y.vy, y.vx, y.vy, y.health, y.age + 1, y.owner⟩) ∧ goB a b p n y = !(decide (12 < y.age + 1) || !ins a b p n (y.x + y.vx) (y.y + y.vy)) := by
  have hb : goB a b p n y = !(decide (12 < y.age + 1) || !ins a b p n (y.x + y.vx) (y.y + y.vy)) := by unfold goB; rw [h, hk]; simp
  refine ⟨?_, hb⟩
  unfold goE
  rw [hb]
  cases (decide (12 < y.age + 1) || !ins a b p n (y.x + y.vx) (y.y + y.vy))
  · rw [if_pos (show (!false) = true from rfl), if_neg (by rw [hk]; decide), if_pos hk]; rfl
  · rfl

theorem go_other {a b p n : Int} {y : Ent} (h : erightB a b p n y = true) (h1 : ¬ y.kind = 1) (h2 : ¬ y.kind = 2) : goE a b p n y = y ∧ goB a b p n y = true := by
  have hb : goB a b p n y = true := by unfold goB; rw [h]; simp [h2]
  exact ⟨by unfold goE; rw [hb, if_pos rfl, if_neg h1, if_neg h2], hb⟩

theorem right_bds {a b p n : Int} {y : Ent} (h : erightB a b p n y = true) : rt a b p n = true ∧ (0 ≤ y.x ∧ y.x < 4096) ∧ (0 ≤ y.y ∧ y.y < 4096) ∧ (-160 ≤ y.vx ∧ y.vx ≤ 160) ∧ (-160 ≤ y.vy ∧ y.vy ≤ 160) ∧ (0 ≤ y.age ∧ y.age ≤ 12) := by
  obtain ⟨h3, h4⟩ := eright_ins h
  have hr := ins_rt h3
  obtain ⟨r1, r2, r3, r4, -⟩ := rt_bd hr
  have hs := speed_bd h4
  rw [ins_iff hr] at h3
  refine ⟨hr, by omega, by omega, by omega, by omega, ?_⟩
  unfold eok at h4
  split at h4
  · simp only [wi, Bool.and_eq_true, decide_eq_true_eq] at h4; omega
  · split at h4
    · simp only [wi, stp, Bool.and_eq_true, decide_eq_true_eq] at h4; omega
    · split at h4
      · simp only [wi, Bool.and_eq_true, decide_eq_true_eq] at h4; omega
      · cases h4

end Go.Proofs.YtfpofegfbinalaaGreat.Fx
namespace Go.Proofs.YtfpofegfbinalaaGreat.Fx
open Go.ChangeShapes Go.WideShapes Go.ChangeAt Go.RowKit
set_option linter.unusedVariables false
set_option maxRecDepth 100000

set_option maxHeartbeats 2000000 in
theorem go_any (a b p n s : Int) (y : Ent) (w : World) :
    Calls Tryz.prog 97 #[.agg #[.int .i64 a, .int .i64 b, .int .i64 p, .int .i64 n, .int .u64 s], .agg #[.int .i64 y.id, .int .i64 y.kind, .int .i64 y.x, .int .i64 y.y, .int .i64 y.vx, .int .i64 y.vy, .int .i64 y.health, .int .i64 y.age, .int .i64 y.owner]] w fun e w' => e = .returned (.tuple #[.agg #[.int .i64 (goE a b p n y).id, .int .i64 (goE a b p n y).kind, .int .i64 (goE a b p n y).x, .int .i64 (goE a b p n y).y, .int .i64 (goE a b p n y).vx, .int .i64 (goE a b p n y).vy, .int .i64 (goE a b p n y).health, .int .i64 (goE a b p n y).age, .int .i64 (goE a b p n y).owner], .bool (goB a b p n y)]) ∧ Below w.heap.size w w' := by
  have HT := Lib.hid (fun w => eright_any a b p n s y w)
  by_cases hR : erightB a b p n y = true
  · rw [hR] at HT
    have HBD := Lib.hid (right_bds hR)
    have HPL := Lib.hid (fun hk => go_player hR hk)
    have HSH := Lib.hid (fun hk => go_shot hR hk)
    have HOT := Lib.hid (fun h1 h2 => go_other hR h1 h2)
    obtain ⟨i0, kd, x0, y0, vx, vy, he, ag, ow⟩ := y
    dsimp only at *
    clear hR
    by_cases h1 : kd = 1
    · subst h1
      obtain ⟨e1, e2⟩ := HPL.out rfl
      rw [e1, e2]
      (try dsimp only)
      clear e1 e2 HPL HSH HOT
      have HM := Lib.hid (fun w => walk_any a b p n s i0 1 x0 y0 vx vy he ag ow w HBD.out.1 (by have := HBD.out; omega) (by have := HBD.out; omega) (by have := HBD.out; omega) (by have := HBD.out; omega))
      dsimp only at HM
      generalize clamp (x0 + vx) 0 (a * 1024 - 1) = X at *
      generalize clamp (y0 + vy) 0 (b * 1024 - 1) = Y at *
      clear HBD
      go_enter Tryz.func97, Tryz.ntmps97
      go_upto_region 1 with fail
      generalize hW : World.alloc (World.alloc (World.alloc w _) _) _ = W0
      have hg : CfgBox W0 w.heap.size ⟨a, b, p, n, s⟩ := by rw [← hW]; exact CfgBox.n3a _ _ _ _ _ rfl
      have hc : EntBox W0 (w.heap.size + 1) ⟨i0, 1, x0, y0, vx, vy, he, ag, ow⟩ := by rw [← hW]; exact EntBox.n3b _ _ _ _ _ rfl
      have hr : EntBox W0 (w.heap.size + 1 + 1) nobody := by rw [← hW]; exact EntBox.n3c _ _ _ _ _ rfl
      have hz : w.heap.size + 1 + 1 < W0.heap.size := by rw [← hW]; simp
      have HB := Lib.hid (show Below w.heap.size w W0 from by rw [← hW]; exact bal3 _ _ _ _)
      clear hW
      have hc' := Lib.hid hc
      have hg' := Lib.hid hg
      obtain ⟨c0, c1, c2, c3, c4, c5, c6, c7, c8, -⟩ := hc
      obtain ⟨g0, g1, g2, g3, g4, -⟩ := hg
      go_wp2_with fail
      refine (HT.out _).mono ?_
      rintro e w1 ⟨rfl, hb1⟩
      have hc1 := hc'.out.below hb1 (by omega)
      have hr1 := hr.below hb1 hz
      have hg1 := hg'.out.below hb1 (by omega)
      have hz1 := Nat.lt_of_lt_of_le hz hb1.size
      replace HB := Lib.hid (nextW HB.out hb1)
      clear c0 c1 c2 c3 c4 c5 c6 c7 c8 hc' hg' hb1 hr HT g0 g1 g2 g3 g4 hz
      obtain ⟨c0, c1, c2, c3, c4, c5, c6, c7, c8, -⟩ := hc1
      obtain ⟨g0, g1, g2, g3, g4, -⟩ := hg1
      go_wp2_with fail
      refine (HM.out _).mono ?_
      rintro e w2 ⟨rfl, hb2⟩
      have hr2 := hr1.below hb2 hz1
      replace HB := Lib.hid (nextW HB.out hb2)
      clear c0 c1 c2 c3 c4 c5 c6 c7 c8 hb2 hr1 HM g0 g1 g2 g3 g4 hz1
      obtain ⟨R0, R1, R2, R3, R4, R5, R6, R7, R8, G0, G1, G2, G3, G4, G5, G6, G7, G8⟩ := hr2
      go_wp2
      refine bodyPost_ret (v := .tuple #[.agg #[.int .i64 (⟨i0, 1, X, Y, vx, vy, he, ag, ow⟩ : Ent).id, .int .i64 (⟨i0, 1, X, Y, vx, vy, he, ag, ow⟩ : Ent).kind, .int .i64 (⟨i0, 1, X, Y, vx, vy, he, ag, ow⟩ : Ent).x, .int .i64 (⟨i0, 1, X, Y, vx, vy, he, ag, ow⟩ : Ent).y, .int .i64 (⟨i0, 1, X, Y, vx, vy, he, ag, ow⟩ : Ent).vx, .int .i64 (⟨i0, 1, X, Y, vx, vy, he, ag, ow⟩ : Ent).vy, .int .i64 (⟨i0, 1, X, Y, vx, vy, he, ag, ow⟩ : Ent).health, .int .i64 (⟨i0, 1, X, Y, vx, vy, he, ag, ow⟩ : Ent).age, .int .i64 (⟨i0, 1, X, Y, vx, vy, he, ag, ow⟩ : Ent).owner], .bool true]) (by simp [results, Tryz.results97, go_sem, nobody, *]) rfl ⟨rfl, ?_⟩
      repeat (first | (with_reducible refine bset ?_ ?_; rotate_left 1; focus omega) | with_reducible refine Below.drew ?_)
      exact HB.out
    · have h1b : (kd == 1) = false := by simpa using h1
      by_cases h2 : kd = 2
      · subst h2
        obtain ⟨e1, e2⟩ := HSH.out rfl
        rw [e1, e2]
        (try dsimp only)
        clear e1 e2 HPL HSH HOT
        have HM := Lib.hid (fun w => fly_any a b p n s i0 2 x0 y0 vx vy he ag ow _ w rfl (by have := HBD.out; omega) (by have := HBD.out; omega) (by have := HBD.out; omega) (by have := HBD.out; omega) (by have := HBD.out; omega))
        dsimp only at HM
        generalize (decide (12 < ag + 1) || !ins a b p n (x0 + vx) (y0 + vy)) = r at *
        generalize (bif r then nobody else (⟨i0, 2, x0 + vx, y0 + vy, vx, vy, he, ag + 1, ow⟩ : Ent)) = z at *
        obtain ⟨z0, z1, z2, z3, z4, z5, z6, z7, z8⟩ := z
        dsimp only at *
        clear HBD
        go_enter Tryz.func97, Tryz.ntmps97
        go_upto_region 1 with fail
        generalize hW : World.alloc (World.alloc (World.alloc w _) _) _ = W0
        have hg : CfgBox W0 w.heap.size ⟨a, b, p, n, s⟩ := by rw [← hW]; exact CfgBox.n3a _ _ _ _ _ rfl
        have hc : EntBox W0 (w.heap.size + 1) ⟨i0, 2, x0, y0, vx, vy, he, ag, ow⟩ := by rw [← hW]; exact EntBox.n3b _ _ _ _ _ rfl
        have hr : EntBox W0 (w.heap.size + 1 + 1) nobody := by rw [← hW]; exact EntBox.n3c _ _ _ _ _ rfl
        have hz : w.heap.size + 1 + 1 < W0.heap.size := by rw [← hW]; simp
        have HB := Lib.hid (show Below w.heap.size w W0 from by rw [← hW]; exact bal3 _ _ _ _)
        clear hW
        have hc' := Lib.hid hc
        have hg' := Lib.hid hg
        obtain ⟨c0, c1, c2, c3, c4, c5, c6, c7, c8, -⟩ := hc
        obtain ⟨g0, g1, g2, g3, g4, -⟩ := hg
        go_wp2_with fail
        refine (HT.out _).mono ?_
        rintro e w1 ⟨rfl, hb1⟩
        have hc1 := hc'.out.below hb1 (by omega)
        have hr1 := hr.below hb1 hz
        have hg1 := hg'.out.below hb1 (by omega)
        have hz1 := Nat.lt_of_lt_of_le hz hb1.size
        replace HB := Lib.hid (nextW HB.out hb1)
        clear c0 c1 c2 c3 c4 c5 c6 c7 c8 hc' hg' hb1 hr HT g0 g1 g2 g3 g4 hz
        obtain ⟨c0, c1, c2, c3, c4, c5, c6, c7, c8, -⟩ := hc1
        obtain ⟨g0, g1, g2, g3, g4, -⟩ := hg1
        go_wp2_with fail
        refine (HM.out _).mono ?_
        rintro e w2 ⟨rfl, hb2⟩
        have hr2 := hr1.below hb2 hz1
        replace HB := Lib.hid (nextW HB.out hb2)
        clear c0 c1 c2 c3 c4 c5 c6 c7 c8 hb2 hr1 HM g0 g1 g2 g3 g4 hz1
        obtain ⟨R0, R1, R2, R3, R4, R5, R6, R7, R8, G0, G1, G2, G3, G4, G5, G6, G7, G8⟩ := hr2
        go_wp2
        refine bodyPost_ret (v := .tuple #[.agg #[.int .i64 (⟨z0, z1, z2, z3, z4, z5, z6, z7, z8⟩ : Ent).id, .int .i64 (⟨z0, z1, z2, z3, z4, z5, z6, z7, z8⟩ : Ent).kind, .int .i64 (⟨z0, z1, z2, z3, z4, z5, z6, z7, z8⟩ : Ent).x, .int .i64 (⟨z0, z1, z2, z3, z4, z5, z6, z7, z8⟩ : Ent).y, .int .i64 (⟨z0, z1, z2, z3, z4, z5, z6, z7, z8⟩ : Ent).vx, .int .i64 (⟨z0, z1, z2, z3, z4, z5, z6, z7, z8⟩ : Ent).vy, .int .i64 (⟨z0, z1, z2, z3, z4, z5, z6, z7, z8⟩ : Ent).health, .int .i64 (⟨z0, z1, z2, z3, z4, z5, z6, z7, z8⟩ : Ent).age, .int .i64 (⟨z0, z1, z2, z3, z4, z5, z6, z7, z8⟩ : Ent).owner], .bool (!r)]) (by simp [results, Tryz.results97, go_sem, nobody, *]) rfl ⟨rfl, ?_⟩
        repeat (first | (with_reducible refine bset ?_ ?_; rotate_left 1; focus omega) | with_reducible refine Below.drew ?_)
        exact HB.out
      · have h2b : (kd == 2) = false := by simpa using h2
        obtain ⟨e1, e2⟩ := HOT.out h1 h2
        rw [e1, e2]
        (try dsimp only)
        clear e1 e2 HPL HSH HOT
        go_enter Tryz.func97, Tryz.ntmps97
        go_upto_region 1 with fail
        generalize hW : World.alloc (World.alloc (World.alloc w _) _) _ = W0
        have hg : CfgBox W0 w.heap.size ⟨a, b, p, n, s⟩ := by rw [← hW]; exact CfgBox.n3a _ _ _ _ _ rfl
        have hc : EntBox W0 (w.heap.size + 1) ⟨i0, kd, x0, y0, vx, vy, he, ag, ow⟩ := by rw [← hW]; exact EntBox.n3b _ _ _ _ _ rfl
        have hr : EntBox W0 (w.heap.size + 1 + 1) nobody := by rw [← hW]; exact EntBox.n3c _ _ _ _ _ rfl
        have hz : w.heap.size + 1 + 1 < W0.heap.size := by rw [← hW]; simp
        have HB := Lib.hid (show Below w.heap.size w W0 from by rw [← hW]; exact bal3 _ _ _ _)
        clear hW
        have hc' := Lib.hid hc
        have hg' := Lib.hid hg
        obtain ⟨c0, c1, c2, c3, c4, c5, c6, c7, c8, -⟩ := hc
        obtain ⟨g0, g1, g2, g3, g4, -⟩ := hg
        go_wp2_with fail
        refine (HT.out _).mono ?_
        rintro e w1 ⟨rfl, hb1⟩
        have hc1 := hc'.out.below hb1 (by omega)
        have hr1 := hr.below hb1 hz
        have hg1 := hg'.out.below hb1 (by omega)
        have hz1 := Nat.lt_of_lt_of_le hz hb1.size
        replace HB := Lib.hid (nextW HB.out hb1)
        clear c0 c1 c2 c3 c4 c5 c6 c7 c8 hc' hg' hb1 hr HT g0 g1 g2 g3 g4 hz
        obtain ⟨c0, c1, c2, c3, c4, c5, c6, c7, c8, -⟩ := hc1
        obtain ⟨R0, R1, R2, R3, R4, R5, R6, R7, R8, G0, G1, G2, G3, G4, G5, G6, G7, G8⟩ := hr1
        go_wp2
        refine bodyPost_ret (v := .tuple #[.agg #[.int .i64 (⟨i0, kd, x0, y0, vx, vy, he, ag, ow⟩ : Ent).id, .int .i64 (⟨i0, kd, x0, y0, vx, vy, he, ag, ow⟩ : Ent).kind, .int .i64 (⟨i0, kd, x0, y0, vx, vy, he, ag, ow⟩ : Ent).x, .int .i64 (⟨i0, kd, x0, y0, vx, vy, he, ag, ow⟩ : Ent).y, .int .i64 (⟨i0, kd, x0, y0, vx, vy, he, ag, ow⟩ : Ent).vx, .int .i64 (⟨i0, kd, x0, y0, vx, vy, he, ag, ow⟩ : Ent).vy, .int .i64 (⟨i0, kd, x0, y0, vx, vy, he, ag, ow⟩ : Ent).health, .int .i64 (⟨i0, kd, x0, y0, vx, vy, he, ag, ow⟩ : Ent).age, .int .i64 (⟨i0, kd, x0, y0, vx, vy, he, ag, ow⟩ : Ent).owner], .bool true]) (by simp [results, Tryz.results97, go_sem, nobody, *]) rfl ⟨rfl, ?_⟩
        repeat (first | (with_reducible refine bset ?_ ?_; rotate_left 1; focus omega) | with_reducible refine Below.drew ?_)
        exact HB.out
  · rw [Bool.not_eq_true] at hR
    rw [hR] at HT
    obtain ⟨e1, e2⟩ := go_no hR
    rw [e1, e2]
    clear e1 e2 hR
    obtain ⟨i0, kd, x0, y0, vx, vy, he, ag, ow⟩ := y
    dsimp only at *
    go_enter Tryz.func97, Tryz.ntmps97
    go_upto_region 1 with fail
    generalize hW : World.alloc (World.alloc (World.alloc w _) _) _ = W0
    have hg : CfgBox W0 w.heap.size ⟨a, b, p, n, s⟩ := by rw [← hW]; exact CfgBox.n3a _ _ _ _ _ rfl
    have hc : EntBox W0 (w.heap.size + 1) ⟨i0, kd, x0, y0, vx, vy, he, ag, ow⟩ := by rw [← hW]; exact EntBox.n3b _ _ _ _ _ rfl
    have hr : EntBox W0 (w.heap.size + 1 + 1) nobody := by rw [← hW]; exact EntBox.n3c _ _ _ _ _ rfl
    have hz : w.heap.size + 1 + 1 < W0.heap.size := by rw [← hW]; simp
    have HB := Lib.hid (show Below w.heap.size w W0 from by rw [← hW]; exact bal3 _ _ _ _)
    clear hW
    have hc' := Lib.hid hc
    have hg' := Lib.hid hg
    obtain ⟨c0, c1, c2, c3, c4, c5, c6, c7, c8, -⟩ := hc
    obtain ⟨g0, g1, g2, g3, g4, -⟩ := hg
    go_wp2_with fail
    refine (HT.out _).mono ?_
    rintro e w1 ⟨rfl, hb1⟩
    have hc1 := hc'.out.below hb1 (by omega)
    have hr1 := hr.below hb1 hz
    have hg1 := hg'.out.below hb1 (by omega)
    have hz1 := Nat.lt_of_lt_of_le hz hb1.size
    replace HB := Lib.hid (nextW HB.out hb1)
    clear c0 c1 c2 c3 c4 c5 c6 c7 c8 hc' hg' hb1 hr HT g0 g1 g2 g3 g4 hz
    obtain ⟨R0, R1, R2, R3, R4, R5, R6, R7, R8, G0, G1, G2, G3, G4, G5, G6, G7, G8⟩ := hr1
    go_wp2
    refine bodyPost_ret (v := .tuple #[.agg #[.int .i64 nobody.id, .int .i64 nobody.kind, .int .i64 nobody.x, .int .i64 nobody.y, .int .i64 nobody.vx, .int .i64 nobody.vy, .int .i64 nobody.health, .int .i64 nobody.age, .int .i64 nobody.owner], .bool false]) (by simp [results, Tryz.results97, go_sem, nobody, *]) rfl ⟨rfl, ?_⟩
    repeat (first | (with_reducible refine bset ?_ ?_; rotate_left 1; focus omega) | with_reducible refine Below.drew ?_)
    exact HB.out

end Go.Proofs.YtfpofegfbinalaaGreat.Fx
namespace Go.Proofs.YtfpofegfbinalaaGreat.Fx
open Go.ChangeShapes Go.WideShapes Go.ChangeAt Go.RowKit
set_option linter.unusedVariables false
set_option maxRecDepth 100000

theorem goL_take {a b p n : Int} {l : List Ent} {k : Nat} {e : Ent} (h : l[k]? = some e) : goL a b p n (l.take (k + 1)) = goL a b p n (l.take k) ++ if goB a b p n e = true then [goE a b p n e] else [] := by
  unfold goL
  rw [take_at h, List.filterMap_append]
  congr 1
  by_cases hg : goB a b p n e = true <;> simp [hg]

theorem goL_le (a b p n : Int) (l : List Ent) : (goL a b p n l).length ≤ l.length := List.length_filterMap_le _ _

theorem zentD (w : World) (t : TypeId) : EntBox (w.alloc (.cells #[.int .i64 0, .int .i64 0, .int .i64 0, .int .i64 0, .int .i64 0, .int .i64 0, .int .i64 0, .int .i64 0, .int .i64 0] t)).drew w.heap.size e0 := (EntBox.n1 w e0 t rfl).drew

set_option maxHeartbeats 4000000 in
theorem tmove_any {B b : Nat} {w : World} {T : Trn} {L : List Ent} {O : List Crs} (h : Turn B w b T L O) (hn : L.length ≤ 1000) :
    Calls Tryz.prog 55 #[.pointer (some ⟨b, 0, none⟩)] w fun z w' => z = .returned (.tuple #[]) ∧ (∃ vl, Turn B w' b ⟨T.cols, T.rows, T.players, T.window, T.seed, T.reg, T.frame, vl, T.made, T.out⟩ (goL T.cols T.rows T.players T.window L) O) ∧ Kept B w w' := by
  have HG := Lib.hid (fun y w => go_any T.cols T.rows T.players T.window T.seed y w)
  have HT := Lib.hid (fun k e (h : L[k]? = some e) => goL_take (a := T.cols) (b := T.rows) (p := T.players) (n := T.window) h)
  have HL := Lib.hid (fun k => goL_le T.cols T.rows T.players T.window (L.take k))
  have HY := Lib.hid h
  have hlt := h.blk.lt
  have hBw := h.size
  obtain ⟨A, c, hA, -, -, hat⟩ := h.sl
  have Hat := Lib.hid hat
  have HA := Lib.hid hA
  obtain ⟨-, -, -, -, -, -, -, c7, -, -⟩ := h.box
  rw [hA] at c7
  obtain ⟨n, hnn⟩ : ∃ n, L.length = n := ⟨_, rfl⟩
  rw [hnn] at hn c7 HA
  have Hn := Lib.hid hnn
  clear h hA hat hnn
  go_enter Tryz.func55, Tryz.ntmps55
  go_wp2
  clear c7
  go_loopw [2, 12] (fun v i wr => ∃ k : Nat, k ≤ n ∧ i = .int .i64 k ∧ wr.ownsRow w.heap.size 45 9 v (goL T.cols T.rows T.players T.window (L.take k)).length ((goL T.cols T.rows T.players T.window (L.take k)).flatMap entC) ∧ Below w.heap.size w wr) (fun _ i _ => n - (intOf i).toNat)
  case atStart => exact ⟨0, Nat.zero_le _, rfl, ⟨by simp [goL], .inl ⟨rfl, rfl⟩⟩, Below.refl _ _⟩
  case round =>
    obtain ⟨k, hk, rfl, hown, hbel⟩ := hrel
    have Hown := Lib.hid hown
    have Hbel := Lib.hid hbel
    clear hown hbel
    by_cases hkn : k < n
    · obtain ⟨x, hx⟩ := getE L k n Hn.out hkn
      have HX := Lib.hid (HT.out _ _ hx)
      have HLk := Lib.hid (show (goL T.cols T.rows T.players T.window (L.take k)).length ≤ k from Nat.le_trans (HL.out k) (by rw [List.length_take]; omega))
      obtain ⟨bb, off, rfl, hc⟩ := elem_Ent (Hat.out.below Hbel.out) hx
      obtain ⟨c0, c1, c2, c3, c4, c5, c6, c7, c8⟩ := hc
      have HGo := Lib.hid (fun w => HG.out x w)
      have BX := Lib.hid (EntBox.n1 wr x 45 rfl)
      have HWb := Lib.hid (show Below w.heap.size w (wr.alloc (.cells (entC x).toArray 45)) from Hbel.out.alloc Hbel.out.size _)
      have HOw := Lib.hid (Hown.out.alloc (.cells (entC x).toArray 45))
      simp only [entC] at HWb HOw
      generalize goB T.cols T.rows T.players T.window x = q at *
      generalize goE T.cols T.rows T.players T.window x = y at *
      clear hx
      go_upto_region 4 with fail
      generalize hW : World.alloc _ _ = W at *
      generalize hgx : wr.heap.size = gx at *
      clear hW hgx c0 c1 c2 c3 c4 c5 c6 c7 c8 Hown Hbel
      have hTb := HY.out.nx HWb.out
      obtain ⟨t0, t1, t2, t3, t4, -⟩ := hTb.box
      have hbW := hTb.blk.lt
      have hgW := BX.out.has
      obtain ⟨x0, x1, x2, x3, x4, x5, x6, x7, x8, -⟩ := BX.out
      clear hTb
      go_cut [5, 6] (fun s5 s6 wx => ∃ blk, s5 = .pointer (some ⟨blk, 0, none⟩) ∧ s6 = .bool q ∧ W.heap.size ≤ blk ∧ EntBox wx blk y ∧ Below W.heap.size W wx)
      case first =>
        refine tree_region (S := (fun w' => (∀ b o, b < (W).heap.size → w'.cell? ⟨b, o, none⟩ = (W).cell? ⟨b, o, none⟩) ∧ (∀ b o, b < (W).heap.size → w'.frozen? ⟨b, o, none⟩ = (W).frozen? ⟨b, o, none⟩) ∧ Below (W).heap.size (W) w')) (.free 0 (.free 1 (.free 2 (.free 3 (.free 4 (.two 5 (.free 6 (.free 7 (.free 8 (.one 9 (.one 10 (.free 11 .done)))))) 9 (.one 5 (.free 6 (.free 7 (.free 8 (.one 10 (.free 11 .done)))))))))))) (by kernel_rfl) (by kernel_rfl) (fun _ _ d _ _ h => by cases d <;> exact h) (keepW0 _) (fun hS => ?_)
        simp only [written, List.getElem?_cons_succ, List.getElem?_cons_zero]
        iterate 5
         refine rw_free (v := ?_) (by rfl) ?_ ?_; rotate_left 1; focus (intro w hSw; (try dsimp only at hSw); go_simp; (try with_reducible rfl))
         (try simp only [Act.put, tA, tB, tC])
        refine rw_two ?_ ?_
        · skip
          refine rw_call (by rfl) (fun K hK => ?_)
          go_simp
          (refine (HGo.out _).mono ?_; rintro e w5 ⟨rfl, hb5⟩)
          (try go_wp2_with fail)
          refine hK.out _ _ ?_ (fun hS' => ?_)
          · (try dsimp only); first | exact keepW (by assumption) (by assumption) | exact keepB (by assumption) (by assumption) | exact keepA (by assumption) | assumption
          clear hS hK K
          have hS := hS'
          clear hS'
          iterate 3
           (try simp only [Act.put, tA, tB, tC])
           refine rw_free (v := ?_) (by rfl) ?_ ?_; rotate_left 1; focus (intro w hSw; (try dsimp only at hSw); go_simp; (try with_reducible rfl))
          (try simp only [Act.put, tA, tB, tC])
          refine rw_call (by rfl) (fun K hK => ?_)
          go_simp
          (skip)
          (try go_wp2_with fail)
          refine hK.out _ _ ?_ (fun hS' => ?_)
          · (try dsimp only); first | exact keepW (by assumption) (by assumption) | exact keepB (by assumption) (by assumption) | exact keepA (by assumption) | assumption
          clear hS hK K
          have hS := hS'
          clear hS'
          (try simp only [Act.put, tA, tB, tC])
          first | (with_reducible have hs := (zentD _ _).nx hb5; have Hs := Lib.hid hs; obtain ⟨n0, n1, n2, n3, n4, n5, n6, n7, n8, m0, m1, m2, m3, m4, m5, m6, m7, m8⟩ := hs) | skip
          refine rw_call (by rfl) (fun K hK => ?_)
          go_simp
          (skip)
          (try go_wp2_with fail)
          refine hK.out _ _ ?_ (fun hS' => ?_)
          · (try dsimp only); first | (have _h := Hs.out; exact keepOf (EntBox.bel hS.2.2 y (by first | exact Nat.le_refl _ | simp) rfl)) | exact keepOf ((nextW (Below.refl _ _).drew hb5).alloc (nextW (Below.refl _ _).drew hb5).size _)
          clear hS hK K
          have hS := hS'
          clear hS'
          (try simp only [Act.put, tA, tB, tC])
          refine rw_free (v := ?_) (by rfl) ?_ ?_; rotate_left 1; focus (intro w hSw; (try dsimp only at hSw); go_simp; (try with_reducible rfl))
          (try simp only [Act.put, tA, tB, tC])
          refine rw_done ?_
          (try clear n0 n1 n2 n3 n4 n5 n6 n7 n8 m0 m1 m2 m3 m4 m5 m6 m7 m8)
          go_wp2_with fail
          go_meet
          exact ⟨_, rfl, rfl, (by first | exact Nat.le_refl _ | exact (nextW (Below.refl _ _).drew hb5).size), (by first | (have _h := Hs.out; exact _h.put y) | exact EntBox.n1 _ _ _ rfl), hS.2.2⟩
        · skip
          refine rw_call (by rfl) (fun K hK => ?_)
          go_simp
          (skip)
          (try go_wp2_with fail)
          refine hK.out _ _ ?_ (fun hS' => ?_)
          · (try dsimp only); first | exact keepW (by assumption) (by assumption) | exact keepB (by assumption) (by assumption) | exact keepA (by assumption) | assumption
          clear hS hK K
          have hS := hS'
          clear hS'
          (try simp only [Act.put, tA, tB, tC])
          refine rw_call (by rfl) (fun K hK => ?_)
          go_simp
          (refine (HGo.out _).mono ?_; rintro e w5 ⟨rfl, hb5⟩)
          (try go_wp2_with fail)
          refine hK.out _ _ ?_ (fun hS' => ?_)
          · (try dsimp only); first | exact keepW (by assumption) (by assumption) | exact keepB (by assumption) (by assumption) | exact keepA (by assumption) | assumption
          clear hS hK K
          have hS := hS'
          clear hS'
          iterate 3
           (try simp only [Act.put, tA, tB, tC])
           refine rw_free (v := ?_) (by rfl) ?_ ?_; rotate_left 1; focus (intro w hSw; (try dsimp only at hSw); go_simp; (try with_reducible rfl))
          (try simp only [Act.put, tA, tB, tC])
          first | (with_reducible have hs := (zentD _ _).nx hb5; have Hs := Lib.hid hs; obtain ⟨n0, n1, n2, n3, n4, n5, n6, n7, n8, m0, m1, m2, m3, m4, m5, m6, m7, m8⟩ := hs) | skip
          refine rw_call (by rfl) (fun K hK => ?_)
          go_simp
          (skip)
          (try go_wp2_with fail)
          refine hK.out _ _ ?_ (fun hS' => ?_)
          · (try dsimp only); first | (have _h := Hs.out; exact keepOf (EntBox.bel hS.2.2 y (by first | exact Nat.le_refl _ | simp) rfl)) | exact keepOf ((nextW (Below.refl _ _).drew hb5).alloc (nextW (Below.refl _ _).drew hb5).size _)
          clear hS hK K
          have hS := hS'
          clear hS'
          (try simp only [Act.put, tA, tB, tC])
          refine rw_free (v := ?_) (by rfl) ?_ ?_; rotate_left 1; focus (intro w hSw; (try dsimp only at hSw); go_simp; (try with_reducible rfl))
          (try simp only [Act.put, tA, tB, tC])
          refine rw_done ?_
          (try clear n0 n1 n2 n3 n4 n5 n6 n7 n8 m0 m1 m2 m3 m4 m5 m6 m7 m8)
          go_wp2_with fail
          go_meet
          exact ⟨_, rfl, rfl, (by first | exact Nat.le_refl _ | exact (nextW (Below.refl _ _).drew hb5).size), (by first | (have _h := Hs.out; exact _h.put y) | exact EntBox.n1 _ _ _ rfl), hS.2.2⟩
      case rest =>
        obtain ⟨be, rfl, rfl, hbe, hey, hb⟩ := hcut
        have Be := Lib.hid hey
        replace HWb := Lib.hid (nextW HWb.out hb)
        replace HOw := Lib.hid (own_below HOw.out hb)
        clear hey hb t0 t1 t2 t3 t4 x0 x1 x2 x3 x4 x5 x6 x7 x8 hbW hgW BX
        cases q with
        | true =>
          rw [if_pos rfl] at HX
          obtain ⟨y0, y1, y2, y3, y4, y5, y6, y7, y8, -⟩ := Be.out
          go_wp2_with (at_builtin; go_must (refine appL_Ent (by rfl) (.tmp 26) (.tmp 28) (by rfl) w.heap.size _ (goL T.cols T.rows T.players T.window (L.take k)) (by rfl) (HOw.out.alloc _) _ [y] (by rfl) (one_Ent _ y _ 1 (by first | rfl | simp) (by omega)) (by have := HLk.out; simp; omega) (by have := HWb.out.size; simp; omega) ?_))
          intro v' w6 hown6 hb6 _
          have HO6 := Lib.hid (show w6.ownsRow w.heap.size 45 9 v' (goL T.cols T.rows T.players T.window (L.take (k + 1))).length ((goL T.cols T.rows T.players T.window (L.take (k + 1))).flatMap entC) from by rw [HX.out]; simpa using hown6)
          have HB6 := Lib.hid ((HWb.out.alloc HWb.out.size _).trans hb6)
          clear hown6 hb6
          go_wp2
          go_roundw
          case rel => exact ⟨k + 1, by omega, by go_num, HO6.out, HB6.out⟩
          case measure => simp [intOf]; omega
        | false =>
          rw [if_neg (by simp), List.append_nil] at HX
          go_wp2
          go_roundw
          case rel => exact ⟨k + 1, by omega, by go_num, by rw [HX.out]; exact HOw.out, HWb.out⟩
          case measure => simp [intOf]; omega
    · obtain rfl : k = n := by omega
      rw [List.take_of_length_le (Nat.le_of_eq Hn.out)] at Hown
      obtain ⟨A5, n5, rfl, -⟩ := owned_sl Hown.out
      have HT5 := Lib.hid (HY.out.nx Hbel.out)
      have t7 := HT5.out.box.c7
      have f7 := HT5.out.box.f7
      have HU := Lib.hid (HT5.out.set7 (Hown.out.mono hBw))
      have HZ := Lib.hid ((Kept.of_below B Hbel.out).grown (grown_set wr b 7 (.slice A5 (goL T.cols T.rows T.players T.window L).length n5)) (fun p hp _ => by cases hp; exact HT5.out.mine))
      go_wp2
      (try simp only [Exit.inBlock, Exit.then])
      refine bodyPost_end (results_none rfl _ _ _) rfl ?_
      exact ⟨rfl, ⟨_, HU.out⟩, HZ.out⟩

end Go.Proofs.YtfpofegfbinalaaGreat.Fx
