/- The document's Go: what it returns, for every input; old memory stays. -/
import Derived.Test.YthkgbengmfedjaaMvGo
import Derived.Test.YthkgbengmfedjaaMvGoP
namespace Go.Proofs.Ythkgbengmfedjaa.Fx
open Go.ChangeShapes Go.WideShapes Go.ChangeAt Go.RowKit
set_option linter.unusedVariables false

set_option maxHeartbeats 2000000 in
theorem rgo_any (a b p n s : Int) (y : Ent) (w : World) :
    Calls Try.prog 12 #[.agg #[.int .i64 a, .int .i64 b, .int .i64 p, .int .i64 n, .int .u64 s], .agg #[.int .i64 y.id, .int .i64 y.kind, .int .i64 y.x, .int .i64 y.y, .int .i64 y.vx, .int .i64 y.vy, .int .i64 y.health, .int .i64 y.age, .int .i64 y.owner]] w fun e w' => e = .returned (.tuple #[.agg #[.int .i64 (goE a b p n y).id, .int .i64 (goE a b p n y).kind, .int .i64 (goE a b p n y).x, .int .i64 (goE a b p n y).y, .int .i64 (goE a b p n y).vx, .int .i64 (goE a b p n y).vy, .int .i64 (goE a b p n y).health, .int .i64 (goE a b p n y).age, .int .i64 (goE a b p n y).owner], .bool (goB a b p n y)]) ∧ Below w.heap.size w w' := by
  have HT := Lib.hid (fun w => rright_any a b p n s y w)
  by_cases hR : erightB a b p n y = true
  · rw [hR] at HT
    have HBD := Lib.hid (right_bds hR)
    have HPL := Lib.hid (fun hk => go_player hR hk)
    have HSH := Lib.hid (fun hk => go_shot hR hk)
    have HOT := Lib.hid (fun h1 h2 => go_other hR h1 h2)
    obtain ⟨i0, kd, x0, y0, vx, vy, he, ag, ow⟩ := y
    dsimp only at *
    clear hR
    by_cases h1 : kd = 1
    · subst h1
      obtain ⟨e1, e2⟩ := HPL.out rfl
      rw [e1, e2]
      (try dsimp only)
      clear e1 e2 HPL HSH HOT
      obtain ⟨r1, r2, r3, r4, -⟩ := rt_bd HBD.out.1
      have hx := HBD.out.2.1
      have hy := HBD.out.2.2.1
      have hvx := HBD.out.2.2.2.1
      have hvy := HBD.out.2.2.2.2.1
      have HC1 := Lib.hid (fun w => rclamp_any (x0 + vx) 0 (a * 1024 - 1) w)
      have HC2 := Lib.hid (fun w => rclamp_any (y0 + vy) 0 (b * 1024 - 1) w)
      clear HBD
      generalize clamp (x0 + vx) 0 (a * 1024 - 1) = X at *
      generalize clamp (y0 + vy) 0 (b * 1024 - 1) = Y at *
      have hm1 : IntKind.i64.wrap (a * 1024) = a * 1024 := by rw [IntKind.wrap_i64]; omega
      have hm2 : IntKind.i64.wrap (b * 1024) = b * 1024 := by rw [IntKind.wrap_i64]; omega
      have hm3 : IntKind.i64.wrap (a * 1024 - 1) = a * 1024 - 1 := by rw [IntKind.wrap_i64]; omega
      have hm4 : IntKind.i64.wrap (b * 1024 - 1) = b * 1024 - 1 := by rw [IntKind.wrap_i64]; omega
      have hm5 : IntKind.i64.wrap (x0 + vx) = x0 + vx := by rw [IntKind.wrap_i64]; omega
      have hm6 : IntKind.i64.wrap (y0 + vy) = y0 + vy := by rw [IntKind.wrap_i64]; omega
      go_enter Try.func12, Try.ntmps12
      go_upto_region 1 with fail
      generalize hW : World.alloc (World.alloc (World.alloc w _) _) _ = W0
      have hg : CfgBox W0 w.heap.size ⟨a, b, p, n, s⟩ := by rw [← hW]; exact CfgBox.n3a _ _ _ _ _ rfl
      have hc : EntBox W0 (w.heap.size + 1) ⟨i0, 1, x0, y0, vx, vy, he, ag, ow⟩ := by rw [← hW]; exact EntBox.n3b _ _ _ _ _ rfl
      have hr : EntBox W0 (w.heap.size + 1 + 1) nobody := by rw [← hW]; exact EntBox.n3c _ _ _ _ _ rfl
      have hz : w.heap.size + 1 + 1 < W0.heap.size := by rw [← hW]; simp
      have HB := Lib.hid (show Below w.heap.size w W0 from by rw [← hW]; exact bal3 _ _ _ _)
      clear hW
      have hc' := Lib.hid hc
      have hg' := Lib.hid hg
      obtain ⟨c0, c1, c2, c3, c4, c5, c6, c7, c8, -⟩ := hc
      obtain ⟨g0, g1, g2, g3, g4, -⟩ := hg
      go_wp2_with fail
      refine (HT.out _).mono ?_
      rintro e w1 ⟨rfl, hb1⟩
      have hc1 := hc'.out.below hb1 (by omega)
      have hr1 := hr.below hb1 hz
      have hg1 := hg'.out.below hb1 (by omega)
      have hz1 := Nat.lt_of_lt_of_le hz hb1.size
      replace HB := Lib.hid (nextW HB.out hb1)
      clear c0 c1 c2 c3 c4 c5 c6 c7 c8 hc' hg' hb1 hr HT g0 g1 g2 g3 g4 hz
      have hza : w.heap.size < w1.heap.size := by omega
      have hzb : w.heap.size + 1 < w1.heap.size := by omega
      have hc1' := Lib.hid hc1
      obtain ⟨c0, c1, c2, c3, c4, c5, c6, c7, c8, -⟩ := hc1
      obtain ⟨g0, g1, g2, g3, g4, -⟩ := hg1
      go_upto_region 5 with fail
      refine tail_region (S := (fun w' => (∀ b o, b < (w1).heap.size → w'.cell? ⟨b, o, none⟩ = (w1).cell? ⟨b, o, none⟩) ∧ (∀ b o, b < (w1).heap.size → w'.frozen? ⟨b, o, none⟩ = (w1).frozen? ⟨b, o, none⟩) ∧ Below (w1).heap.size (w1) w')) 21 (.free 0 (.free 1 (.free 2 (.free 3 (.free 4 (.free 5 (.free 6 (.free 7 (.free 8 (.free 10 (.free 11 (.free 12 (.free 13 (.free 14 (.free 15 (.free 16 (.free 17 (.free 18 (.one 9 (.free 20 (.one 19 .tail))))))))))))))))))))) (by kernel_rfl) (by kernel_rfl) (fun _ _ d _ _ h => by cases d <;> exact h) (keepW0 _) (fun hS => ?_)
      simp only [writtenT, List.drop_succ_cons, List.drop_zero, List.getElem?_cons_succ, List.getElem?_cons_zero]
      refine rz_free (v := ?_) (by rfl) ?_ ?_
      rotate_left 1
      focus (intro w hSw; (try dsimp only at hSw); go_simp; (try with_reducible rfl))
      (try simp only [Act.put, List.setIfInBounds_toArray, List.set_cons_zero, List.set_cons_succ])
      refine rz_free (v := ?_) (by rfl) ?_ ?_
      rotate_left 1
      focus (intro w hSw; (try dsimp only at hSw); go_simp; (try with_reducible rfl))
      (try simp only [Act.put, List.setIfInBounds_toArray, List.set_cons_zero, List.set_cons_succ])
      refine rz_free (v := ?_) (by rfl) ?_ ?_
      rotate_left 1
      focus (intro w hSw; (try dsimp only at hSw); go_simp; (try with_reducible rfl))
      (try simp only [Act.put, List.setIfInBounds_toArray, List.set_cons_zero, List.set_cons_succ])
      refine rz_free (v := ?_) (by rfl) ?_ ?_
      rotate_left 1
      focus (intro w hSw; (try dsimp only at hSw); go_simp; (try with_reducible rfl))
      (try simp only [Act.put, List.setIfInBounds_toArray, List.set_cons_zero, List.set_cons_succ])
      refine rz_free (v := ?_) (by rfl) ?_ ?_
      rotate_left 1
      focus (intro w hSw; (try dsimp only at hSw); go_simp; (try with_reducible rfl))
      (try simp only [Act.put, List.setIfInBounds_toArray, List.set_cons_zero, List.set_cons_succ])
      refine rz_free (v := ?_) (by rfl) ?_ ?_
      rotate_left 1
      focus (intro w hSw; (try dsimp only at hSw); go_simp; (try with_reducible rfl))
      (try simp only [Act.put, List.setIfInBounds_toArray, List.set_cons_zero, List.set_cons_succ])
      refine rz_free (v := ?_) (by rfl) ?_ ?_
      rotate_left 1
      focus (intro w hSw; (try dsimp only at hSw); go_simp; (try with_reducible rfl))
      (try simp only [Act.put, List.setIfInBounds_toArray, List.set_cons_zero, List.set_cons_succ])
      refine rz_free (v := ?_) (by rfl) ?_ ?_
      rotate_left 1
      focus (intro w hSw; (try dsimp only at hSw); go_simp; (try with_reducible rfl))
      (try simp only [Act.put, List.setIfInBounds_toArray, List.set_cons_zero, List.set_cons_succ])
      refine rz_free (v := ?_) (by rfl) ?_ ?_
      rotate_left 1
      focus (intro w hSw; (try dsimp only at hSw); go_simp; (try with_reducible rfl))
      (try simp only [Act.put, List.setIfInBounds_toArray, List.set_cons_zero, List.set_cons_succ])
      refine rz_free (v := ?_) (by rfl) ?_ ?_
      rotate_left 1
      focus (intro w hSw; (try dsimp only at hSw); go_simp; (try with_reducible rfl))
      (try simp only [Act.put, List.setIfInBounds_toArray, List.set_cons_zero, List.set_cons_succ])
      refine rz_free (v := ?_) (by rfl) ?_ ?_
      rotate_left 1
      focus (intro w hSw; (try dsimp only at hSw); go_simp; (try with_reducible rfl))
      (try simp only [Act.put, List.setIfInBounds_toArray, List.set_cons_zero, List.set_cons_succ])
      refine rz_free (v := ?_) (by rfl) ?_ ?_
      rotate_left 1
      focus (intro w hSw; (try dsimp only at hSw); go_simp; (try with_reducible rfl))
      (try simp only [Act.put, List.setIfInBounds_toArray, List.set_cons_zero, List.set_cons_succ])
      refine rz_free (v := ?_) (by rfl) ?_ ?_
      rotate_left 1
      focus (intro w hSw; (try dsimp only at hSw); go_simp; (try with_reducible rfl))
      (try simp only [Act.put, List.setIfInBounds_toArray, List.set_cons_zero, List.set_cons_succ])
      refine rz_free (v := ?_) (by rfl) ?_ ?_
      rotate_left 1
      focus (intro w hSw; (try dsimp only at hSw); go_simp; (try with_reducible rfl))
      (try simp only [Act.put, List.setIfInBounds_toArray, List.set_cons_zero, List.set_cons_succ])
      refine rz_free (v := ?_) (by rfl) ?_ ?_
      rotate_left 1
      focus (intro w hSw; (try dsimp only at hSw); go_simp; (try with_reducible rfl))
      (try simp only [Act.put, List.setIfInBounds_toArray, List.set_cons_zero, List.set_cons_succ])
      refine rz_free (v := ?_) (by rfl) ?_ ?_
      rotate_left 1
      focus (intro w hSw; (try dsimp only at hSw); go_simp; (try with_reducible rfl))
      (try simp only [Act.put, List.setIfInBounds_toArray, List.set_cons_zero, List.set_cons_succ])
      refine rz_free (v := ?_) (by rfl) ?_ ?_
      rotate_left 1
      focus (intro w hSw; (try dsimp only at hSw); go_simp; (try with_reducible rfl))
      (try simp only [Act.put, List.setIfInBounds_toArray, List.set_cons_zero, List.set_cons_succ])
      refine rz_free (v := ?_) (by rfl) ?_ ?_
      rotate_left 1
      focus (intro w hSw; (try dsimp only at hSw); go_simp; (try with_reducible rfl))
      (try simp only [Act.put, List.setIfInBounds_toArray, List.set_cons_zero, List.set_cons_succ])
      refine rz_call (by rfl) (fun K hK => ?_)
      go_simp
      (refine (HC1.out _).mono ?_; rintro e w4 ⟨rfl, rfl⟩)
      (try go_wp2_with fail)
      refine hK.out _ _ ?_ (fun hS' => ?_)
      · (try dsimp only); first | exact keepW (by assumption) (by assumption) | exact keepB (by assumption) (by assumption) | exact keepA (by assumption) | assumption
      clear hS hK K
      have hS := hS'
      clear hS'
      (try simp only [Act.put, List.setIfInBounds_toArray, List.set_cons_zero, List.set_cons_succ])
      refine rz_free (v := ?_) (by rfl) ?_ ?_
      rotate_left 1
      focus (intro w hSw; (try dsimp only at hSw); go_simp; (try with_reducible rfl))
      (try simp only [Act.put, List.setIfInBounds_toArray, List.set_cons_zero, List.set_cons_succ])
      refine rz_call (by rfl) (fun K hK => ?_)
      go_simp
      (refine (HC2.out _).mono ?_; rintro e w5 ⟨rfl, rfl⟩)
      (try go_wp2_with fail)
      refine hK.out _ _ ?_ (fun hS' => ?_)
      · (try dsimp only); first | exact keepW (by assumption) (by assumption) | exact keepB (by assumption) (by assumption) | exact keepA (by assumption) | assumption
      clear hS hK K
      have hS := hS'
      clear hS'
      (try simp only [Act.put, List.setIfInBounds_toArray, List.set_cons_zero, List.set_cons_succ])
      refine rz_done ?_
      have hc2 := hc1'.out
      have hr2 := hr1
      clear hS g0 g1 g2 g3 g4 c0 c1 c2 c3 c4 c5 c6 c7 c8 hza hzb hz1 hr1 HC1 HC2 hc1'
      obtain ⟨c0, c1, c2, c3, c4, c5, c6, c7, c8, f0, f1, f2, f3, f4, f5, f6, f7, f8⟩ := hc2
      obtain ⟨R0, R1, R2, R3, R4, R5, R6, R7, R8, G0, G1, G2, G3, G4, G5, G6, G7, G8⟩ := hr2
      go_wp2
      refine bodyPost_ret (v := .tuple #[.agg #[.int .i64 (⟨i0, 1, X, Y, vx, vy, he, ag, ow⟩ : Ent).id, .int .i64 (⟨i0, 1, X, Y, vx, vy, he, ag, ow⟩ : Ent).kind, .int .i64 (⟨i0, 1, X, Y, vx, vy, he, ag, ow⟩ : Ent).x, .int .i64 (⟨i0, 1, X, Y, vx, vy, he, ag, ow⟩ : Ent).y, .int .i64 (⟨i0, 1, X, Y, vx, vy, he, ag, ow⟩ : Ent).vx, .int .i64 (⟨i0, 1, X, Y, vx, vy, he, ag, ow⟩ : Ent).vy, .int .i64 (⟨i0, 1, X, Y, vx, vy, he, ag, ow⟩ : Ent).health, .int .i64 (⟨i0, 1, X, Y, vx, vy, he, ag, ow⟩ : Ent).age, .int .i64 (⟨i0, 1, X, Y, vx, vy, he, ag, ow⟩ : Ent).owner], .bool true]) (by simp [results, Try.results12, go_sem, nobody, *]) rfl ⟨rfl, ?_⟩
      repeat (first | (with_reducible refine bset ?_ ?_; rotate_left 1; focus omega) | with_reducible refine Below.drew ?_)
      exact HB.out
    · have h1b : (kd == 1) = false := by simpa using h1
      by_cases h2 : kd = 2
      · subst h2
        obtain ⟨e1, e2⟩ := HSH.out rfl
        rw [e1, e2]
        (try dsimp only)
        clear e1 e2 HPL HSH HOT
        have hx := HBD.out.2.1
        have hy := HBD.out.2.2.1
        have hvx := HBD.out.2.2.2.1
        have hvy := HBD.out.2.2.2.2.1
        have hag := HBD.out.2.2.2.2.2
        have HI := Lib.hid (fun w => rinside_any a b p n s (x0 + vx) (y0 + vy) w)
        clear HBD
        generalize ins a b p n (x0 + vx) (y0 + vy) = io at *
        obtain ⟨r, hR⟩ : ∃ r, r = (decide (12 < ag + 1) || !io) := ⟨_, rfl⟩
        rw [← hR]
        have HR := Lib.hid hR
        clear hR
        go_enter Try.func12, Try.ntmps12
        go_upto_region 1 with fail
        generalize hW : World.alloc (World.alloc (World.alloc w _) _) _ = W0
        have hg : CfgBox W0 w.heap.size ⟨a, b, p, n, s⟩ := by rw [← hW]; exact CfgBox.n3a _ _ _ _ _ rfl
        have hc : EntBox W0 (w.heap.size + 1) ⟨i0, 2, x0, y0, vx, vy, he, ag, ow⟩ := by rw [← hW]; exact EntBox.n3b _ _ _ _ _ rfl
        have hr : EntBox W0 (w.heap.size + 1 + 1) nobody := by rw [← hW]; exact EntBox.n3c _ _ _ _ _ rfl
        have hz : w.heap.size + 1 + 1 < W0.heap.size := by rw [← hW]; simp
        have HB := Lib.hid (show Below w.heap.size w W0 from by rw [← hW]; exact bal3 _ _ _ _)
        clear hW
        have hc' := Lib.hid hc
        have hg' := Lib.hid hg
        obtain ⟨c0, c1, c2, c3, c4, c5, c6, c7, c8, -⟩ := hc
        obtain ⟨g0, g1, g2, g3, g4, -⟩ := hg
        go_wp2_with fail
        refine (HT.out _).mono ?_
        rintro e w1 ⟨rfl, hb1⟩
        have hc1 := hc'.out.below hb1 (by omega)
        have hr1 := hr.below hb1 hz
        have hg1 := hg'.out.below hb1 (by omega)
        have hz1 := Nat.lt_of_lt_of_le hz hb1.size
        replace HB := Lib.hid (nextW HB.out hb1)
        clear c0 c1 c2 c3 c4 c5 c6 c7 c8 hc' hg' hb1 hr HT g0 g1 g2 g3 g4 hz
        have hc1' := Lib.hid hc1
        obtain ⟨c0, c1, c2, c3, c4, c5, c6, c7, c8, f0, f1, f2, f3, f4, f5, f6, f7, f8⟩ := hc1
        go_upto_region 8 with fail
        generalize hW : World.setCell _ _ _ = W2
        have hc : EntBox W2 (w.heap.size + 1) ⟨i0, 2, x0 + vx, y0 + vy, vx, vy, he, ag + 1, ow⟩ := by rw [← hW]; exact ((hc1'.out.set2 _).set3 _).set7 _
        have hr : EntBox W2 (w.heap.size + 1 + 1) nobody := by rw [← hW]; exact ((hr1.far (by omega) _ _).far (by omega) _ _).far (by omega) _ _
        have hg : CfgBox W2 w.heap.size ⟨a, b, p, n, s⟩ := by rw [← hW]; exact ((hg1.far (by omega) _ _).far (by omega) _ _).far (by omega) _ _
        have hz : w.heap.size + 1 + 1 < W2.heap.size := by rw [← hW]; simpa using hz1
        replace HB := Lib.hid (show Below w.heap.size w W2 from by rw [← hW]; exact bset (bset (bset HB.out (by omega)) (by omega)) (by omega))
        clear hW hc1' hr1 hg1 hz1 c0 c1 c2 c3 c4 c5 c6 c7 c8 f0 f1 f2 f3 f4 f5 f6 f7 f8
        by_cases h12 : 12 < ag + 1
        · obtain rfl : r = true := by rw [HR.out]; simp [h12]
          clear HR HI hg
          have hd : decide (12 < ag + 1) = true := decide_eq_true h12
          obtain ⟨c0, c1, c2, c3, c4, c5, c6, c7, c8, -⟩ := hc
          obtain ⟨R0, R1, R2, R3, R4, R5, R6, R7, R8, G0, G1, G2, G3, G4, G5, G6, G7, G8⟩ := hr
          go_wp2
          refine bodyPost_ret (v := .tuple #[.agg #[.int .i64 nobody.id, .int .i64 nobody.kind, .int .i64 nobody.x, .int .i64 nobody.y, .int .i64 nobody.vx, .int .i64 nobody.vy, .int .i64 nobody.health, .int .i64 nobody.age, .int .i64 nobody.owner], .bool false]) (by simp [results, Try.results12, go_sem, nobody, *]) rfl ⟨rfl, ?_⟩
          repeat (first | (with_reducible refine bset ?_ ?_; rotate_left 1; focus omega) | with_reducible refine Below.drew ?_)
          exact HB.out
        · have hd : decide (12 < ag + 1) = false := decide_eq_false h12
          have hrio : r = !io := by rw [HR.out, hd]; rfl
          subst hrio
          clear HR
          have hc' := Lib.hid hc
          obtain ⟨c0, c1, c2, c3, c4, c5, c6, c7, c8, -⟩ := hc
          obtain ⟨g0, g1, g2, g3, g4, -⟩ := hg
          go_wp2_with fail
          refine (HI.out _).mono ?_
          rintro e w2 ⟨rfl, hb1⟩
          have hc1 := hc'.out.below hb1 (by omega)
          have hr1 := hr.below hb1 hz
          replace HB := Lib.hid (nextW HB.out hb1)
          clear c0 c1 c2 c3 c4 c5 c6 c7 c8 hc' hb1 hr HI g0 g1 g2 g3 g4
          obtain ⟨c0, c1, c2, c3, c4, c5, c6, c7, c8, -⟩ := hc1
          obtain ⟨R0, R1, R2, R3, R4, R5, R6, R7, R8, G0, G1, G2, G3, G4, G5, G6, G7, G8⟩ := hr1
          cases io
          · skip
            go_wp2
            refine bodyPost_ret (v := .tuple #[.agg #[.int .i64 nobody.id, .int .i64 nobody.kind, .int .i64 nobody.x, .int .i64 nobody.y, .int .i64 nobody.vx, .int .i64 nobody.vy, .int .i64 nobody.health, .int .i64 nobody.age, .int .i64 nobody.owner], .bool false]) (by simp [results, Try.results12, go_sem, nobody, *]) rfl ⟨rfl, ?_⟩
            repeat (first | (with_reducible refine bset ?_ ?_; rotate_left 1; focus omega) | with_reducible refine Below.drew ?_)
            exact HB.out
          · skip
            go_wp2
            refine bodyPost_ret (v := .tuple #[.agg #[.int .i64 (⟨i0, 2, x0 + vx, y0 + vy, vx, vy, he, ag + 1, ow⟩ : Ent).id, .int .i64 (⟨i0, 2, x0 + vx, y0 + vy, vx, vy, he, ag + 1, ow⟩ : Ent).kind, .int .i64 (⟨i0, 2, x0 + vx, y0 + vy, vx, vy, he, ag + 1, ow⟩ : Ent).x, .int .i64 (⟨i0, 2, x0 + vx, y0 + vy, vx, vy, he, ag + 1, ow⟩ : Ent).y, .int .i64 (⟨i0, 2, x0 + vx, y0 + vy, vx, vy, he, ag + 1, ow⟩ : Ent).vx, .int .i64 (⟨i0, 2, x0 + vx, y0 + vy, vx, vy, he, ag + 1, ow⟩ : Ent).vy, .int .i64 (⟨i0, 2, x0 + vx, y0 + vy, vx, vy, he, ag + 1, ow⟩ : Ent).health, .int .i64 (⟨i0, 2, x0 + vx, y0 + vy, vx, vy, he, ag + 1, ow⟩ : Ent).age, .int .i64 (⟨i0, 2, x0 + vx, y0 + vy, vx, vy, he, ag + 1, ow⟩ : Ent).owner], .bool true]) (by simp [results, Try.results12, go_sem, nobody, *]) rfl ⟨rfl, ?_⟩
            repeat (first | (with_reducible refine bset ?_ ?_; rotate_left 1; focus omega) | with_reducible refine Below.drew ?_)
            exact HB.out
      · have h2b : (kd == 2) = false := by simpa using h2
        obtain ⟨e1, e2⟩ := HOT.out h1 h2
        rw [e1, e2]
        (try dsimp only)
        clear e1 e2 HPL HSH HOT
        go_enter Try.func12, Try.ntmps12
        go_upto_region 1 with fail
        generalize hW : World.alloc (World.alloc (World.alloc w _) _) _ = W0
        have hg : CfgBox W0 w.heap.size ⟨a, b, p, n, s⟩ := by rw [← hW]; exact CfgBox.n3a _ _ _ _ _ rfl
        have hc : EntBox W0 (w.heap.size + 1) ⟨i0, kd, x0, y0, vx, vy, he, ag, ow⟩ := by rw [← hW]; exact EntBox.n3b _ _ _ _ _ rfl
        have hr : EntBox W0 (w.heap.size + 1 + 1) nobody := by rw [← hW]; exact EntBox.n3c _ _ _ _ _ rfl
        have hz : w.heap.size + 1 + 1 < W0.heap.size := by rw [← hW]; simp
        have HB := Lib.hid (show Below w.heap.size w W0 from by rw [← hW]; exact bal3 _ _ _ _)
        clear hW
        have hc' := Lib.hid hc
        have hg' := Lib.hid hg
        obtain ⟨c0, c1, c2, c3, c4, c5, c6, c7, c8, -⟩ := hc
        obtain ⟨g0, g1, g2, g3, g4, -⟩ := hg
        go_wp2_with fail
        refine (HT.out _).mono ?_
        rintro e w1 ⟨rfl, hb1⟩
        have hc1 := hc'.out.below hb1 (by omega)
        have hr1 := hr.below hb1 hz
        have hg1 := hg'.out.below hb1 (by omega)
        have hz1 := Nat.lt_of_lt_of_le hz hb1.size
        replace HB := Lib.hid (nextW HB.out hb1)
        clear c0 c1 c2 c3 c4 c5 c6 c7 c8 hc' hg' hb1 hr HT g0 g1 g2 g3 g4 hz
        obtain ⟨c0, c1, c2, c3, c4, c5, c6, c7, c8, -⟩ := hc1
        obtain ⟨R0, R1, R2, R3, R4, R5, R6, R7, R8, G0, G1, G2, G3, G4, G5, G6, G7, G8⟩ := hr1
        go_wp2
        refine bodyPost_ret (v := .tuple #[.agg #[.int .i64 (⟨i0, kd, x0, y0, vx, vy, he, ag, ow⟩ : Ent).id, .int .i64 (⟨i0, kd, x0, y0, vx, vy, he, ag, ow⟩ : Ent).kind, .int .i64 (⟨i0, kd, x0, y0, vx, vy, he, ag, ow⟩ : Ent).x, .int .i64 (⟨i0, kd, x0, y0, vx, vy, he, ag, ow⟩ : Ent).y, .int .i64 (⟨i0, kd, x0, y0, vx, vy, he, ag, ow⟩ : Ent).vx, .int .i64 (⟨i0, kd, x0, y0, vx, vy, he, ag, ow⟩ : Ent).vy, .int .i64 (⟨i0, kd, x0, y0, vx, vy, he, ag, ow⟩ : Ent).health, .int .i64 (⟨i0, kd, x0, y0, vx, vy, he, ag, ow⟩ : Ent).age, .int .i64 (⟨i0, kd, x0, y0, vx, vy, he, ag, ow⟩ : Ent).owner], .bool true]) (by simp [results, Try.results12, go_sem, nobody, *]) rfl ⟨rfl, ?_⟩
        repeat (first | (with_reducible refine bset ?_ ?_; rotate_left 1; focus omega) | with_reducible refine Below.drew ?_)
        exact HB.out
  · rw [Bool.not_eq_true] at hR
    rw [hR] at HT
    obtain ⟨e1, e2⟩ := go_no hR
    rw [e1, e2]
    clear e1 e2 hR
    obtain ⟨i0, kd, x0, y0, vx, vy, he, ag, ow⟩ := y
    dsimp only at *
    go_enter Try.func12, Try.ntmps12
    go_upto_region 1 with fail
    generalize hW : World.alloc (World.alloc (World.alloc w _) _) _ = W0
    have hg : CfgBox W0 w.heap.size ⟨a, b, p, n, s⟩ := by rw [← hW]; exact CfgBox.n3a _ _ _ _ _ rfl
    have hc : EntBox W0 (w.heap.size + 1) ⟨i0, kd, x0, y0, vx, vy, he, ag, ow⟩ := by rw [← hW]; exact EntBox.n3b _ _ _ _ _ rfl
    have hr : EntBox W0 (w.heap.size + 1 + 1) nobody := by rw [← hW]; exact EntBox.n3c _ _ _ _ _ rfl
    have hz : w.heap.size + 1 + 1 < W0.heap.size := by rw [← hW]; simp
    have HB := Lib.hid (show Below w.heap.size w W0 from by rw [← hW]; exact bal3 _ _ _ _)
    clear hW
    have hc' := Lib.hid hc
    have hg' := Lib.hid hg
    obtain ⟨c0, c1, c2, c3, c4, c5, c6, c7, c8, -⟩ := hc
    obtain ⟨g0, g1, g2, g3, g4, -⟩ := hg
    go_wp2_with fail
    refine (HT.out _).mono ?_
    rintro e w1 ⟨rfl, hb1⟩
    have hc1 := hc'.out.below hb1 (by omega)
    have hr1 := hr.below hb1 hz
    have hg1 := hg'.out.below hb1 (by omega)
    have hz1 := Nat.lt_of_lt_of_le hz hb1.size
    replace HB := Lib.hid (nextW HB.out hb1)
    clear c0 c1 c2 c3 c4 c5 c6 c7 c8 hc' hg' hb1 hr HT g0 g1 g2 g3 g4 hz
    obtain ⟨R0, R1, R2, R3, R4, R5, R6, R7, R8, G0, G1, G2, G3, G4, G5, G6, G7, G8⟩ := hr1
    go_wp2
    refine bodyPost_ret (v := .tuple #[.agg #[.int .i64 nobody.id, .int .i64 nobody.kind, .int .i64 nobody.x, .int .i64 nobody.y, .int .i64 nobody.vx, .int .i64 nobody.vy, .int .i64 nobody.health, .int .i64 nobody.age, .int .i64 nobody.owner], .bool false]) (by simp [results, Try.results12, go_sem, nobody, *]) rfl ⟨rfl, ?_⟩
    repeat (first | (with_reducible refine bset ?_ ?_; rotate_left 1; focus omega) | with_reducible refine Below.drew ?_)
    exact HB.out

end Go.Proofs.Ythkgbengmfedjaa.Fx
