/- Package moving's Go: what it returns, for every input; old memory stays. -/
import Derived.Test.YthkgbengmfedjaaMvGo
import Derived.Test.YthkgbengmfedjaaMvGoP
namespace Go.Proofs.Ythkgbengmfedjaa.Fx
open Go.ChangeShapes Go.WideShapes Go.ChangeAt Go.RowKit
set_option linter.unusedVariables false

set_option maxHeartbeats 2000000 in
theorem go_any (a b p n s : Int) (y : Ent) (w : World) :
    Calls Try.prog 11 #[.agg #[.int .i64 a, .int .i64 b, .int .i64 p, .int .i64 n, .int .u64 s], .agg #[.int .i64 y.id, .int .i64 y.kind, .int .i64 y.x, .int .i64 y.y, .int .i64 y.vx, .int .i64 y.vy, .int .i64 y.health, .int .i64 y.age, .int .i64 y.owner]] w fun e w' => e = .returned (.tuple #[.agg #[.int .i64 (goE a b p n y).id, .int .i64 (goE a b p n y).kind, .int .i64 (goE a b p n y).x, .int .i64 (goE a b p n y).y, .int .i64 (goE a b p n y).vx, .int .i64 (goE a b p n y).vy, .int .i64 (goE a b p n y).health, .int .i64 (goE a b p n y).age, .int .i64 (goE a b p n y).owner], .bool (goB a b p n y)]) ∧ Below w.heap.size w w' := by
  have HT := Lib.hid (fun w => eright_any a b p n s y w)
  by_cases hR : erightB a b p n y = true
  · rw [hR] at HT
    have HBD := Lib.hid (right_bds hR)
    have HPL := Lib.hid (fun hk => go_player hR hk)
    have HSH := Lib.hid (fun hk => go_shot hR hk)
    have HOT := Lib.hid (fun h1 h2 => go_other hR h1 h2)
    obtain ⟨i0, kd, x0, y0, vx, vy, he, ag, ow⟩ := y
    dsimp only at *
    clear hR
    by_cases h1 : kd = 1
    · subst h1
      obtain ⟨e1, e2⟩ := HPL.out rfl
      rw [e1, e2]
      (try dsimp only)
      clear e1 e2 HPL HSH HOT
      have HM := Lib.hid (fun w => walk_any a b p n s i0 1 x0 y0 vx vy he ag ow w HBD.out.1 (by have := HBD.out; omega) (by have := HBD.out; omega) (by have := HBD.out; omega) (by have := HBD.out; omega))
      dsimp only at HM
      generalize clamp (x0 + vx) 0 (a * 1024 - 1) = X at *
      generalize clamp (y0 + vy) 0 (b * 1024 - 1) = Y at *
      clear HBD
      go_enter Try.func11, Try.ntmps11
      go_upto_region 1 with fail
      generalize hW : World.alloc (World.alloc (World.alloc w _) _) _ = W0
      have hg : CfgBox W0 w.heap.size ⟨a, b, p, n, s⟩ := by rw [← hW]; exact CfgBox.n3a _ _ _ _ _ rfl
      have hc : EntBox W0 (w.heap.size + 1) ⟨i0, 1, x0, y0, vx, vy, he, ag, ow⟩ := by rw [← hW]; exact EntBox.n3b _ _ _ _ _ rfl
      have hr : EntBox W0 (w.heap.size + 1 + 1) nobody := by rw [← hW]; exact EntBox.n3c _ _ _ _ _ rfl
      have hz : w.heap.size + 1 + 1 < W0.heap.size := by rw [← hW]; simp
      have HB := Lib.hid (show Below w.heap.size w W0 from by rw [← hW]; exact bal3 _ _ _ _)
      clear hW
      have hc' := Lib.hid hc
      have hg' := Lib.hid hg
      obtain ⟨c0, c1, c2, c3, c4, c5, c6, c7, c8, -⟩ := hc
      obtain ⟨g0, g1, g2, g3, g4, -⟩ := hg
      go_wp2_with fail
      refine (HT.out _).mono ?_
      rintro e w1 ⟨rfl, hb1⟩
      have hc1 := hc'.out.below hb1 (by omega)
      have hr1 := hr.below hb1 hz
      have hg1 := hg'.out.below hb1 (by omega)
      have hz1 := Nat.lt_of_lt_of_le hz hb1.size
      replace HB := Lib.hid (nextW HB.out hb1)
      clear c0 c1 c2 c3 c4 c5 c6 c7 c8 hc' hg' hb1 hr HT g0 g1 g2 g3 g4 hz
      obtain ⟨c0, c1, c2, c3, c4, c5, c6, c7, c8, -⟩ := hc1
      obtain ⟨g0, g1, g2, g3, g4, -⟩ := hg1
      go_wp2_with fail
      refine (HM.out _).mono ?_
      rintro e w2 ⟨rfl, hb2⟩
      have hr2 := hr1.below hb2 hz1
      replace HB := Lib.hid (nextW HB.out hb2)
      clear c0 c1 c2 c3 c4 c5 c6 c7 c8 hb2 hr1 HM g0 g1 g2 g3 g4 hz1
      obtain ⟨R0, R1, R2, R3, R4, R5, R6, R7, R8, G0, G1, G2, G3, G4, G5, G6, G7, G8⟩ := hr2
      go_wp2
      refine bodyPost_ret (v := .tuple #[.agg #[.int .i64 (⟨i0, 1, X, Y, vx, vy, he, ag, ow⟩ : Ent).id, .int .i64 (⟨i0, 1, X, Y, vx, vy, he, ag, ow⟩ : Ent).kind, .int .i64 (⟨i0, 1, X, Y, vx, vy, he, ag, ow⟩ : Ent).x, .int .i64 (⟨i0, 1, X, Y, vx, vy, he, ag, ow⟩ : Ent).y, .int .i64 (⟨i0, 1, X, Y, vx, vy, he, ag, ow⟩ : Ent).vx, .int .i64 (⟨i0, 1, X, Y, vx, vy, he, ag, ow⟩ : Ent).vy, .int .i64 (⟨i0, 1, X, Y, vx, vy, he, ag, ow⟩ : Ent).health, .int .i64 (⟨i0, 1, X, Y, vx, vy, he, ag, ow⟩ : Ent).age, .int .i64 (⟨i0, 1, X, Y, vx, vy, he, ag, ow⟩ : Ent).owner], .bool true]) (by simp [results, Try.results11, go_sem, nobody, *]) rfl ⟨rfl, ?_⟩
      repeat (first | (with_reducible refine bset ?_ ?_; rotate_left 1; focus omega) | with_reducible refine Below.drew ?_)
      exact HB.out
    · have h1b : (kd == 1) = false := by simpa using h1
      by_cases h2 : kd = 2
      · subst h2
        obtain ⟨e1, e2⟩ := HSH.out rfl
        rw [e1, e2]
        (try dsimp only)
        clear e1 e2 HPL HSH HOT
        have HM := Lib.hid (fun w => fly_any a b p n s i0 2 x0 y0 vx vy he ag ow _ w rfl (by have := HBD.out; omega) (by have := HBD.out; omega) (by have := HBD.out; omega) (by have := HBD.out; omega) (by have := HBD.out; omega))
        dsimp only at HM
        generalize (decide (12 < ag + 1) || !ins a b p n (x0 + vx) (y0 + vy)) = r at *
        generalize (bif r then nobody else (⟨i0, 2, x0 + vx, y0 + vy, vx, vy, he, ag + 1, ow⟩ : Ent)) = z at *
        obtain ⟨z0, z1, z2, z3, z4, z5, z6, z7, z8⟩ := z
        dsimp only at *
        clear HBD
        go_enter Try.func11, Try.ntmps11
        go_upto_region 1 with fail
        generalize hW : World.alloc (World.alloc (World.alloc w _) _) _ = W0
        have hg : CfgBox W0 w.heap.size ⟨a, b, p, n, s⟩ := by rw [← hW]; exact CfgBox.n3a _ _ _ _ _ rfl
        have hc : EntBox W0 (w.heap.size + 1) ⟨i0, 2, x0, y0, vx, vy, he, ag, ow⟩ := by rw [← hW]; exact EntBox.n3b _ _ _ _ _ rfl
        have hr : EntBox W0 (w.heap.size + 1 + 1) nobody := by rw [← hW]; exact EntBox.n3c _ _ _ _ _ rfl
        have hz : w.heap.size + 1 + 1 < W0.heap.size := by rw [← hW]; simp
        have HB := Lib.hid (show Below w.heap.size w W0 from by rw [← hW]; exact bal3 _ _ _ _)
        clear hW
        have hc' := Lib.hid hc
        have hg' := Lib.hid hg
        obtain ⟨c0, c1, c2, c3, c4, c5, c6, c7, c8, -⟩ := hc
        obtain ⟨g0, g1, g2, g3, g4, -⟩ := hg
        go_wp2_with fail
        refine (HT.out _).mono ?_
        rintro e w1 ⟨rfl, hb1⟩
        have hc1 := hc'.out.below hb1 (by omega)
        have hr1 := hr.below hb1 hz
        have hg1 := hg'.out.below hb1 (by omega)
        have hz1 := Nat.lt_of_lt_of_le hz hb1.size
        replace HB := Lib.hid (nextW HB.out hb1)
        clear c0 c1 c2 c3 c4 c5 c6 c7 c8 hc' hg' hb1 hr HT g0 g1 g2 g3 g4 hz
        obtain ⟨c0, c1, c2, c3, c4, c5, c6, c7, c8, -⟩ := hc1
        obtain ⟨g0, g1, g2, g3, g4, -⟩ := hg1
        go_wp2_with fail
        refine (HM.out _).mono ?_
        rintro e w2 ⟨rfl, hb2⟩
        have hr2 := hr1.below hb2 hz1
        replace HB := Lib.hid (nextW HB.out hb2)
        clear c0 c1 c2 c3 c4 c5 c6 c7 c8 hb2 hr1 HM g0 g1 g2 g3 g4 hz1
        obtain ⟨R0, R1, R2, R3, R4, R5, R6, R7, R8, G0, G1, G2, G3, G4, G5, G6, G7, G8⟩ := hr2
        go_wp2
        refine bodyPost_ret (v := .tuple #[.agg #[.int .i64 (⟨z0, z1, z2, z3, z4, z5, z6, z7, z8⟩ : Ent).id, .int .i64 (⟨z0, z1, z2, z3, z4, z5, z6, z7, z8⟩ : Ent).kind, .int .i64 (⟨z0, z1, z2, z3, z4, z5, z6, z7, z8⟩ : Ent).x, .int .i64 (⟨z0, z1, z2, z3, z4, z5, z6, z7, z8⟩ : Ent).y, .int .i64 (⟨z0, z1, z2, z3, z4, z5, z6, z7, z8⟩ : Ent).vx, .int .i64 (⟨z0, z1, z2, z3, z4, z5, z6, z7, z8⟩ : Ent).vy, .int .i64 (⟨z0, z1, z2, z3, z4, z5, z6, z7, z8⟩ : Ent).health, .int .i64 (⟨z0, z1, z2, z3, z4, z5, z6, z7, z8⟩ : Ent).age, .int .i64 (⟨z0, z1, z2, z3, z4, z5, z6, z7, z8⟩ : Ent).owner], .bool (!r)]) (by simp [results, Try.results11, go_sem, nobody, *]) rfl ⟨rfl, ?_⟩
        repeat (first | (with_reducible refine bset ?_ ?_; rotate_left 1; focus omega) | with_reducible refine Below.drew ?_)
        exact HB.out
      · have h2b : (kd == 2) = false := by simpa using h2
        obtain ⟨e1, e2⟩ := HOT.out h1 h2
        rw [e1, e2]
        (try dsimp only)
        clear e1 e2 HPL HSH HOT
        go_enter Try.func11, Try.ntmps11
        go_upto_region 1 with fail
        generalize hW : World.alloc (World.alloc (World.alloc w _) _) _ = W0
        have hg : CfgBox W0 w.heap.size ⟨a, b, p, n, s⟩ := by rw [← hW]; exact CfgBox.n3a _ _ _ _ _ rfl
        have hc : EntBox W0 (w.heap.size + 1) ⟨i0, kd, x0, y0, vx, vy, he, ag, ow⟩ := by rw [← hW]; exact EntBox.n3b _ _ _ _ _ rfl
        have hr : EntBox W0 (w.heap.size + 1 + 1) nobody := by rw [← hW]; exact EntBox.n3c _ _ _ _ _ rfl
        have hz : w.heap.size + 1 + 1 < W0.heap.size := by rw [← hW]; simp
        have HB := Lib.hid (show Below w.heap.size w W0 from by rw [← hW]; exact bal3 _ _ _ _)
        clear hW
        have hc' := Lib.hid hc
        have hg' := Lib.hid hg
        obtain ⟨c0, c1, c2, c3, c4, c5, c6, c7, c8, -⟩ := hc
        obtain ⟨g0, g1, g2, g3, g4, -⟩ := hg
        go_wp2_with fail
        refine (HT.out _).mono ?_
        rintro e w1 ⟨rfl, hb1⟩
        have hc1 := hc'.out.below hb1 (by omega)
        have hr1 := hr.below hb1 hz
        have hg1 := hg'.out.below hb1 (by omega)
        have hz1 := Nat.lt_of_lt_of_le hz hb1.size
        replace HB := Lib.hid (nextW HB.out hb1)
        clear c0 c1 c2 c3 c4 c5 c6 c7 c8 hc' hg' hb1 hr HT g0 g1 g2 g3 g4 hz
        obtain ⟨c0, c1, c2, c3, c4, c5, c6, c7, c8, -⟩ := hc1
        obtain ⟨R0, R1, R2, R3, R4, R5, R6, R7, R8, G0, G1, G2, G3, G4, G5, G6, G7, G8⟩ := hr1
        go_wp2
        refine bodyPost_ret (v := .tuple #[.agg #[.int .i64 (⟨i0, kd, x0, y0, vx, vy, he, ag, ow⟩ : Ent).id, .int .i64 (⟨i0, kd, x0, y0, vx, vy, he, ag, ow⟩ : Ent).kind, .int .i64 (⟨i0, kd, x0, y0, vx, vy, he, ag, ow⟩ : Ent).x, .int .i64 (⟨i0, kd, x0, y0, vx, vy, he, ag, ow⟩ : Ent).y, .int .i64 (⟨i0, kd, x0, y0, vx, vy, he, ag, ow⟩ : Ent).vx, .int .i64 (⟨i0, kd, x0, y0, vx, vy, he, ag, ow⟩ : Ent).vy, .int .i64 (⟨i0, kd, x0, y0, vx, vy, he, ag, ow⟩ : Ent).health, .int .i64 (⟨i0, kd, x0, y0, vx, vy, he, ag, ow⟩ : Ent).age, .int .i64 (⟨i0, kd, x0, y0, vx, vy, he, ag, ow⟩ : Ent).owner], .bool true]) (by simp [results, Try.results11, go_sem, nobody, *]) rfl ⟨rfl, ?_⟩
        repeat (first | (with_reducible refine bset ?_ ?_; rotate_left 1; focus omega) | with_reducible refine Below.drew ?_)
        exact HB.out
  · rw [Bool.not_eq_true] at hR
    rw [hR] at HT
    obtain ⟨e1, e2⟩ := go_no hR
    rw [e1, e2]
    clear e1 e2 hR
    obtain ⟨i0, kd, x0, y0, vx, vy, he, ag, ow⟩ := y
    dsimp only at *
    go_enter Try.func11, Try.ntmps11
    go_upto_region 1 with fail
    generalize hW : World.alloc (World.alloc (World.alloc w _) _) _ = W0
    have hg : CfgBox W0 w.heap.size ⟨a, b, p, n, s⟩ := by rw [← hW]; exact CfgBox.n3a _ _ _ _ _ rfl
    have hc : EntBox W0 (w.heap.size + 1) ⟨i0, kd, x0, y0, vx, vy, he, ag, ow⟩ := by rw [← hW]; exact EntBox.n3b _ _ _ _ _ rfl
    have hr : EntBox W0 (w.heap.size + 1 + 1) nobody := by rw [← hW]; exact EntBox.n3c _ _ _ _ _ rfl
    have hz : w.heap.size + 1 + 1 < W0.heap.size := by rw [← hW]; simp
    have HB := Lib.hid (show Below w.heap.size w W0 from by rw [← hW]; exact bal3 _ _ _ _)
    clear hW
    have hc' := Lib.hid hc
    have hg' := Lib.hid hg
    obtain ⟨c0, c1, c2, c3, c4, c5, c6, c7, c8, -⟩ := hc
    obtain ⟨g0, g1, g2, g3, g4, -⟩ := hg
    go_wp2_with fail
    refine (HT.out _).mono ?_
    rintro e w1 ⟨rfl, hb1⟩
    have hc1 := hc'.out.below hb1 (by omega)
    have hr1 := hr.below hb1 hz
    have hg1 := hg'.out.below hb1 (by omega)
    have hz1 := Nat.lt_of_lt_of_le hz hb1.size
    replace HB := Lib.hid (nextW HB.out hb1)
    clear c0 c1 c2 c3 c4 c5 c6 c7 c8 hc' hg' hb1 hr HT g0 g1 g2 g3 g4 hz
    obtain ⟨R0, R1, R2, R3, R4, R5, R6, R7, R8, G0, G1, G2, G3, G4, G5, G6, G7, G8⟩ := hr1
    go_wp2
    refine bodyPost_ret (v := .tuple #[.agg #[.int .i64 nobody.id, .int .i64 nobody.kind, .int .i64 nobody.x, .int .i64 nobody.y, .int .i64 nobody.vx, .int .i64 nobody.vy, .int .i64 nobody.health, .int .i64 nobody.age, .int .i64 nobody.owner], .bool false]) (by simp [results, Try.results11, go_sem, nobody, *]) rfl ⟨rfl, ?_⟩
    repeat (first | (with_reducible refine bset ?_ ?_; rotate_left 1; focus omega) | with_reducible refine Below.drew ?_)
    exact HB.out

end Go.Proofs.Ythkgbengmfedjaa.Fx
