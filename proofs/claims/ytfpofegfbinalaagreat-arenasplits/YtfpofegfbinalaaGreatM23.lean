/- Package moving's Shoot and the document's: what they return, for every input; old memory stays. -/
import Derived.Test.YtfpofegfbinalaaGreatM20
import Derived.Test.YtfpofegfbinalaaGreatM01
import Derived.Test.YtfpofegfbinalaaGreatM03
import Derived.Deep.DeepCutAuto
namespace Go.Proofs.YtfpofegfbinalaaGreat.Fx
open Go.ChangeShapes Go.WideShapes Go.ChangeAt Go.RowKit
set_option linter.unusedVariables false
set_option maxRecDepth 100000

theorem shoot_eq (y : Ent) (dx dy id : Int) : shootE y dx dy id = ⟨id, 2, y.x, y.y, if sgn dx = 0 ∧ sgn dy = 0 then 160 else sgn dx * 160, sgn dy * 160, 1, 0, y.id⟩ := rfl

theorem ne_of_lt' {a b : Nat} (h : a < b) : ¬ a = b := by omega

theorem ne_of_lt'' {a b : Nat} (h : a < b) : ¬ b = a := by omega

set_option maxHeartbeats 4000000 in
theorem shoot_any (y : Ent) (dx dy : Int) (f : Bool) (id : Int) (w : World) :
    Calls Tryz.prog 143 #[.agg #[.int .i64 y.id, .int .i64 y.kind, .int .i64 y.x, .int .i64 y.y, .int .i64 y.vx, .int .i64 y.vy, .int .i64 y.health, .int .i64 y.age, .int .i64 y.owner], .agg #[.int .i64 dx, .int .i64 dy, .bool f], .int .i64 id] w fun e w' => e = .returned (.agg #[.int .i64 (shootE y dx dy id).id, .int .i64 (shootE y dx dy id).kind, .int .i64 (shootE y dx dy id).x, .int .i64 (shootE y dx dy id).y, .int .i64 (shootE y dx dy id).vx, .int .i64 (shootE y dx dy id).vy, .int .i64 (shootE y dx dy id).health, .int .i64 (shootE y dx dy id).age, .int .i64 (shootE y dx dy id).owner]) ∧ Below w.heap.size w w' := by
  have H1 := Lib.hid (fun w => flight_any dx w)
  have H2 := Lib.hid (fun w => flight_any dy w)
  have hp := sgn_bd dx
  have hq := sgn_bd dy
  rw [shoot_eq]
  obtain ⟨i0, kd, x0, y0, vx, vy, he, ag, ow⟩ := y
  dsimp only at *
  generalize sgn dx = p at *
  generalize sgn dy = q at *
  obtain ⟨vv, hvv⟩ : ∃ vv, vv = if p = 0 ∧ q = 0 then 160 else p * 160 := ⟨_, rfl⟩
  rw [← hvv]
  have HV := Lib.hid hvv
  clear hvv
  go_enter Tryz.func143, Tryz.ntmps143
  go_upto_region 1 with fail
  generalize hW : World.alloc (World.alloc (World.alloc w _) _) _ = W0
  have hc : EntBox W0 w.heap.size ⟨i0, kd, x0, y0, vx, vy, he, ag, ow⟩ := by rw [← hW]; exact EntBox.n3a _ _ _ _ _ rfl
  have hd : InpBox W0 (w.heap.size + 1) ⟨dx, dy, f⟩ := by rw [← hW]; exact InpBox.n3b _ _ _ _ _ rfl
  have hr : EntBox W0 (w.heap.size + 1 + 1) nobody := by rw [← hW]; exact EntBox.n3c _ _ _ _ _ rfl
  have hz : w.heap.size + 1 + 1 < W0.heap.size := by rw [← hW]; simp
  have hza : w.heap.size < W0.heap.size := by omega
  have hzb : w.heap.size + 1 < W0.heap.size := by omega
  have HB := Lib.hid (show Below w.heap.size w W0 from by rw [← hW]; exact bal3 _ _ _ _)
  clear hW
  go_cut [7] (fun s7 wx => s7 = .pointer (some ⟨W0.heap.size, 0, none⟩) ∧ EntBox wx W0.heap.size ⟨id, 2, x0, y0, p * 160, q * 160, 1, 0, i0⟩ ∧ Below W0.heap.size W0 wx)
  case first =>
    obtain ⟨c0, c1, c2, c3, c4, c5, c6, c7, c8, -⟩ := hc
    obtain ⟨d0, d1, d2, -⟩ := hd
    clear hr
    have hw1 : IntKind.i64.wrap (p * 160) = p * 160 := by rw [IntKind.wrap_i64]; omega
    have hw2 : IntKind.i64.wrap (q * 160) = q * 160 := by rw [IntKind.wrap_i64]; omega
    refine tree_region (S := (fun w' => (∀ b o, b < (W0).heap.size → w'.cell? ⟨b, o, none⟩ = (W0).cell? ⟨b, o, none⟩) ∧ (∀ b o, b < (W0).heap.size → w'.frozen? ⟨b, o, none⟩ = (W0).frozen? ⟨b, o, none⟩) ∧ Below (W0).heap.size (W0) w')) (.free 0 (.free 1 (.free 2 (.free 3 (.free 4 (.free 5 (.free 6 (.free 8 (.free 9 (.free 11 (.free 12 (.two 7 (.two 10 (.free 13 (.one 14 (.one 15 .done))) 14 (.one 10 (.free 13 (.one 15 .done)))) 14 (.one 7 (.one 10 (.free 13 (.one 15 .done)))))))))))))))) (by kernel_rfl) (by kernel_rfl) (fun _ _ d _ _ h => by cases d <;> exact h) (keepW0 _) (fun hS => ?_)
    simp only [written, List.getElem?_cons_succ, List.getElem?_cons_zero]
    iterate 11
     refine rw_free (v := ?_) (by rfl) ?_ ?_; rotate_left 1; focus (intro w hSw; (try dsimp only at hSw); go_simp; (try with_reducible rfl))
     (try simp only [Act.put, tA, tB, tC])
    refine rw_two ?_ ?_
    · skip
      refine rw_call (by rfl) (fun K hK => ?_)
      go_simp
      (refine (H1.out _).mono ?_; rintro e w4 ⟨rfl, rfl⟩)
      (try go_wp2_with fail)
      refine hK.out _ _ ?_ (fun hS' => ?_)
      · (try dsimp only); first | assumption | exact keepA (by assumption) | exact keepOf (((Below.refl _ _).alloc (Nat.le_refl _) _).drew) | exact keepOf ((Below.refl _ _).drew.alloc (Nat.le_refl _) _)
      clear hS hK K
      have hS := hS'
      clear hS'
      (try simp only [Act.put, tA, tB, tC])
      refine rw_two ?_ ?_
      · skip
        refine rw_call (by rfl) (fun K hK => ?_)
        go_simp
        (refine (H2.out _).mono ?_; rintro e w4 ⟨rfl, rfl⟩)
        (try go_wp2_with fail)
        refine hK.out _ _ ?_ (fun hS' => ?_)
        · (try dsimp only); first | assumption | exact keepA (by assumption) | exact keepOf (((Below.refl _ _).alloc (Nat.le_refl _) _).drew) | exact keepOf ((Below.refl _ _).drew.alloc (Nat.le_refl _) _)
        clear hS hK K
        have hS := hS'
        clear hS'
        (try simp only [Act.put, tA, tB, tC])
        refine rw_free (v := ?_) (by rfl) ?_ ?_; rotate_left 1; focus (intro w hSw; (try dsimp only at hSw); go_simp; (try with_reducible rfl))
        (try simp only [Act.put, tA, tB, tC])
        refine rw_call (by rfl) (fun K hK => ?_)
        go_simp
        (skip)
        (try go_wp2_with fail)
        refine hK.out _ _ ?_ (fun hS' => ?_)
        · (try dsimp only); first | assumption | exact keepA (by assumption) | exact keepOf (((Below.refl _ _).alloc (Nat.le_refl _) _).drew) | exact keepOf ((Below.refl _ _).drew.alloc (Nat.le_refl _) _)
        clear hS hK K
        have hS := hS'
        clear hS'
        (try simp only [Act.put, tA, tB, tC])
        refine rw_call (by rfl) (fun K hK => ?_)
        go_simp
        (skip)
        (try go_wp2_with fail)
        refine hK.out _ _ ?_ (fun hS' => ?_)
        · (try dsimp only); first | assumption | exact keepA (by assumption) | exact keepOf (((Below.refl _ _).alloc (Nat.le_refl _) _).drew) | exact keepOf ((Below.refl _ _).drew.alloc (Nat.le_refl _) _)
        clear hS hK K
        have hS := hS'
        clear hS'
        (try simp only [Act.put, tA, tB, tC])
        refine rw_done ?_
        go_wp2_with fail
        go_meet
        exact ⟨rfl, (by first | exact EntBox.drew (EntBox.n1 _ _ _ rfl) | exact EntBox.n1 _ _ _ rfl), hS.2.2⟩
      · skip
        refine rw_call (by rfl) (fun K hK => ?_)
        go_simp
        (skip)
        (try go_wp2_with fail)
        refine hK.out _ _ ?_ (fun hS' => ?_)
        · (try dsimp only); first | assumption | exact keepA (by assumption) | exact keepOf (((Below.refl _ _).alloc (Nat.le_refl _) _).drew) | exact keepOf ((Below.refl _ _).drew.alloc (Nat.le_refl _) _)
        clear hS hK K
        have hS := hS'
        clear hS'
        (try simp only [Act.put, tA, tB, tC])
        refine rw_call (by rfl) (fun K hK => ?_)
        go_simp
        (refine (H2.out _).mono ?_; rintro e w4 ⟨rfl, rfl⟩)
        (try go_wp2_with fail)
        refine hK.out _ _ ?_ (fun hS' => ?_)
        · (try dsimp only); first | assumption | exact keepA (by assumption) | exact keepOf (((Below.refl _ _).alloc (Nat.le_refl _) _).drew) | exact keepOf ((Below.refl _ _).drew.alloc (Nat.le_refl _) _)
        clear hS hK K
        have hS := hS'
        clear hS'
        (try simp only [Act.put, tA, tB, tC])
        refine rw_free (v := ?_) (by rfl) ?_ ?_; rotate_left 1; focus (intro w hSw; (try dsimp only at hSw); go_simp; (try with_reducible rfl))
        (try simp only [Act.put, tA, tB, tC])
        refine rw_call (by rfl) (fun K hK => ?_)
        go_simp
        (skip)
        (try go_wp2_with fail)
        refine hK.out _ _ ?_ (fun hS' => ?_)
        · (try dsimp only); first | assumption | exact keepA (by assumption) | exact keepOf (((Below.refl _ _).alloc (Nat.le_refl _) _).drew) | exact keepOf ((Below.refl _ _).drew.alloc (Nat.le_refl _) _)
        clear hS hK K
        have hS := hS'
        clear hS'
        (try simp only [Act.put, tA, tB, tC])
        refine rw_done ?_
        go_wp2_with fail
        go_meet
        exact ⟨rfl, (by first | exact EntBox.drew (EntBox.n1 _ _ _ rfl) | exact EntBox.n1 _ _ _ rfl), hS.2.2⟩
    · skip
      refine rw_call (by rfl) (fun K hK => ?_)
      go_simp
      (skip)
      (try go_wp2_with fail)
      refine hK.out _ _ ?_ (fun hS' => ?_)
      · (try dsimp only); first | assumption | exact keepA (by assumption) | exact keepOf (((Below.refl _ _).alloc (Nat.le_refl _) _).drew) | exact keepOf ((Below.refl _ _).drew.alloc (Nat.le_refl _) _)
      clear hS hK K
      have hS := hS'
      clear hS'
      (try simp only [Act.put, tA, tB, tC])
      refine rw_call (by rfl) (fun K hK => ?_)
      go_simp
      (refine (H1.out _).mono ?_; rintro e w4 ⟨rfl, rfl⟩)
      (try go_wp2_with fail)
      refine hK.out _ _ ?_ (fun hS' => ?_)
      · (try dsimp only); first | assumption | exact keepA (by assumption) | exact keepOf (((Below.refl _ _).alloc (Nat.le_refl _) _).drew) | exact keepOf ((Below.refl _ _).drew.alloc (Nat.le_refl _) _)
      clear hS hK K
      have hS := hS'
      clear hS'
      (try simp only [Act.put, tA, tB, tC])
      refine rw_call (by rfl) (fun K hK => ?_)
      go_simp
      (refine (H2.out _).mono ?_; rintro e w4 ⟨rfl, rfl⟩)
      (try go_wp2_with fail)
      refine hK.out _ _ ?_ (fun hS' => ?_)
      · (try dsimp only); first | assumption | exact keepA (by assumption) | exact keepOf (((Below.refl _ _).alloc (Nat.le_refl _) _).drew) | exact keepOf ((Below.refl _ _).drew.alloc (Nat.le_refl _) _)
      clear hS hK K
      have hS := hS'
      clear hS'
      (try simp only [Act.put, tA, tB, tC])
      refine rw_free (v := ?_) (by rfl) ?_ ?_; rotate_left 1; focus (intro w hSw; (try dsimp only at hSw); go_simp; (try with_reducible rfl))
      (try simp only [Act.put, tA, tB, tC])
      refine rw_call (by rfl) (fun K hK => ?_)
      go_simp
      (skip)
      (try go_wp2_with fail)
      refine hK.out _ _ ?_ (fun hS' => ?_)
      · (try dsimp only); first | assumption | exact keepA (by assumption) | exact keepOf (((Below.refl _ _).alloc (Nat.le_refl _) _).drew) | exact keepOf ((Below.refl _ _).drew.alloc (Nat.le_refl _) _)
      clear hS hK K
      have hS := hS'
      clear hS'
      (try simp only [Act.put, tA, tB, tC])
      refine rw_done ?_
      go_wp2_with fail
      go_meet
      exact ⟨rfl, (by first | exact EntBox.drew (EntBox.n1 _ _ _ rfl) | exact EntBox.n1 _ _ _ rfl), hS.2.2⟩
  case rest =>
    obtain ⟨rfl, hs, hb⟩ := hcut
    have HB2 := Lib.hid (nextW HB.out hb)
    have hr2 := hr.below hb hz
    obtain ⟨s0, s1, s2, s3, s4, s5, s6, s7, s8, F0, F1, F2, F3, F4, F5, F6, F7, F8⟩ := hs
    obtain ⟨R0, R1, R2, R3, R4, R5, R6, R7, R8, G0, G1, G2, G3, G4, G5, G6, G7, G8⟩ := hr2
    have hzc := ne_of_lt' hz
    have hzd := ne_of_lt'' hz
    simp only at s0 s1 s2 s3 s4 s5 s6 s7 s8
    clear hb hr hc hd HB H1 H2
    by_cases hp0 : p = 0
    · subst hp0
      by_cases hq0 : q = 0
      · subst hq0
        obtain rfl : vv = 160 := by rw [HV.out]; exact if_pos ⟨rfl, rfl⟩
        clear HV
        go_wp2
        refine bodyPost_ret (v := .agg #[.int .i64 (⟨id, 2, x0, y0, 160, 0, 1, 0, i0⟩ : Ent).id, .int .i64 (⟨id, 2, x0, y0, 160, 0, 1, 0, i0⟩ : Ent).kind, .int .i64 (⟨id, 2, x0, y0, 160, 0, 1, 0, i0⟩ : Ent).x, .int .i64 (⟨id, 2, x0, y0, 160, 0, 1, 0, i0⟩ : Ent).y, .int .i64 (⟨id, 2, x0, y0, 160, 0, 1, 0, i0⟩ : Ent).vx, .int .i64 (⟨id, 2, x0, y0, 160, 0, 1, 0, i0⟩ : Ent).vy, .int .i64 (⟨id, 2, x0, y0, 160, 0, 1, 0, i0⟩ : Ent).health, .int .i64 (⟨id, 2, x0, y0, 160, 0, 1, 0, i0⟩ : Ent).age, .int .i64 (⟨id, 2, x0, y0, 160, 0, 1, 0, i0⟩ : Ent).owner]) (by simp [results, Tryz.results143, go_sem, R0, R1, R2, R3, R4, R5, R6, R7, R8]) rfl ⟨rfl, ?_⟩
        iterate 10 (refine bset ?_ (by omega))
        exact HB2.out
      · obtain rfl : vv = 0 := by rw [HV.out, if_neg (fun h => hq0 h.2)]; rfl
        clear HV
        have hqb : (q * 160 == 0) = false := by simp; omega
        go_wp2
        refine bodyPost_ret (v := .agg #[.int .i64 (⟨id, 2, x0, y0, 0, q * 160, 1, 0, i0⟩ : Ent).id, .int .i64 (⟨id, 2, x0, y0, 0, q * 160, 1, 0, i0⟩ : Ent).kind, .int .i64 (⟨id, 2, x0, y0, 0, q * 160, 1, 0, i0⟩ : Ent).x, .int .i64 (⟨id, 2, x0, y0, 0, q * 160, 1, 0, i0⟩ : Ent).y, .int .i64 (⟨id, 2, x0, y0, 0, q * 160, 1, 0, i0⟩ : Ent).vx, .int .i64 (⟨id, 2, x0, y0, 0, q * 160, 1, 0, i0⟩ : Ent).vy, .int .i64 (⟨id, 2, x0, y0, 0, q * 160, 1, 0, i0⟩ : Ent).health, .int .i64 (⟨id, 2, x0, y0, 0, q * 160, 1, 0, i0⟩ : Ent).age, .int .i64 (⟨id, 2, x0, y0, 0, q * 160, 1, 0, i0⟩ : Ent).owner]) (by simp [results, Tryz.results143, go_sem, R0, R1, R2, R3, R4, R5, R6, R7, R8]) rfl ⟨rfl, ?_⟩
        iterate 9 (refine bset ?_ (by omega))
        exact HB2.out
    · obtain rfl : vv = p * 160 := by rw [HV.out, if_neg (fun h => hp0 h.1)]
      clear HV
      have hpb : (p * 160 == 0) = false := by simp; omega
      go_wp2
      refine bodyPost_ret (v := .agg #[.int .i64 (⟨id, 2, x0, y0, p * 160, q * 160, 1, 0, i0⟩ : Ent).id, .int .i64 (⟨id, 2, x0, y0, p * 160, q * 160, 1, 0, i0⟩ : Ent).kind, .int .i64 (⟨id, 2, x0, y0, p * 160, q * 160, 1, 0, i0⟩ : Ent).x, .int .i64 (⟨id, 2, x0, y0, p * 160, q * 160, 1, 0, i0⟩ : Ent).y, .int .i64 (⟨id, 2, x0, y0, p * 160, q * 160, 1, 0, i0⟩ : Ent).vx, .int .i64 (⟨id, 2, x0, y0, p * 160, q * 160, 1, 0, i0⟩ : Ent).vy, .int .i64 (⟨id, 2, x0, y0, p * 160, q * 160, 1, 0, i0⟩ : Ent).health, .int .i64 (⟨id, 2, x0, y0, p * 160, q * 160, 1, 0, i0⟩ : Ent).age, .int .i64 (⟨id, 2, x0, y0, p * 160, q * 160, 1, 0, i0⟩ : Ent).owner]) (by simp [results, Tryz.results143, go_sem, R0, R1, R2, R3, R4, R5, R6, R7, R8]) rfl ⟨rfl, ?_⟩
      iterate 9 (refine bset ?_ (by omega))
      exact HB2.out

set_option maxHeartbeats 4000000 in
theorem rshoot_any (y : Ent) (dx dy : Int) (f : Bool) (id : Int) (w : World) :
    Calls Tryz.prog 77 #[.agg #[.int .i64 y.id, .int .i64 y.kind, .int .i64 y.x, .int .i64 y.y, .int .i64 y.vx, .int .i64 y.vy, .int .i64 y.health, .int .i64 y.age, .int .i64 y.owner], .agg #[.int .i64 dx, .int .i64 dy, .bool f], .int .i64 id] w fun e w' => e = .returned (.agg #[.int .i64 (shootE y dx dy id).id, .int .i64 (shootE y dx dy id).kind, .int .i64 (shootE y dx dy id).x, .int .i64 (shootE y dx dy id).y, .int .i64 (shootE y dx dy id).vx, .int .i64 (shootE y dx dy id).vy, .int .i64 (shootE y dx dy id).health, .int .i64 (shootE y dx dy id).age, .int .i64 (shootE y dx dy id).owner]) ∧ Below w.heap.size w w' := by
  have H1 := Lib.hid (fun w => rsign_any dx w)
  have H2 := Lib.hid (fun w => rsign_any dy w)
  have hp := sgn_bd dx
  have hq := sgn_bd dy
  rw [shoot_eq]
  obtain ⟨i0, kd, x0, y0, vx, vy, he, ag, ow⟩ := y
  dsimp only at *
  generalize sgn dx = p at *
  generalize sgn dy = q at *
  obtain ⟨vv, hvv⟩ : ∃ vv, vv = if p = 0 ∧ q = 0 then 160 else p * 160 := ⟨_, rfl⟩
  rw [← hvv]
  have HV := Lib.hid hvv
  clear hvv
  go_enter Tryz.func77, Tryz.ntmps77
  go_upto_region 1 with fail
  generalize hW : World.alloc (World.alloc (World.alloc w _) _) _ = W0
  have hc : EntBox W0 w.heap.size ⟨i0, kd, x0, y0, vx, vy, he, ag, ow⟩ := by rw [← hW]; exact EntBox.n3a _ _ _ _ _ rfl
  have hd : InpBox W0 (w.heap.size + 1) ⟨dx, dy, f⟩ := by rw [← hW]; exact InpBox.n3b _ _ _ _ _ rfl
  have hr : EntBox W0 (w.heap.size + 1 + 1) nobody := by rw [← hW]; exact EntBox.n3c _ _ _ _ _ rfl
  have hz : w.heap.size + 1 + 1 < W0.heap.size := by rw [← hW]; simp
  have hza : w.heap.size < W0.heap.size := by omega
  have hzb : w.heap.size + 1 < W0.heap.size := by omega
  have HB := Lib.hid (show Below w.heap.size w W0 from by rw [← hW]; exact bal3 _ _ _ _)
  clear hW
  go_cut [7] (fun s7 wx => s7 = .pointer (some ⟨W0.heap.size, 0, none⟩) ∧ EntBox wx W0.heap.size ⟨id, 2, x0, y0, p * 160, q * 160, 1, 0, i0⟩ ∧ Below W0.heap.size W0 wx)
  case first =>
    obtain ⟨c0, c1, c2, c3, c4, c5, c6, c7, c8, -⟩ := hc
    obtain ⟨d0, d1, d2, -⟩ := hd
    clear hr
    have hw1 : IntKind.i64.wrap (p * 160) = p * 160 := by rw [IntKind.wrap_i64]; omega
    have hw2 : IntKind.i64.wrap (q * 160) = q * 160 := by rw [IntKind.wrap_i64]; omega
    refine tree_region (S := (fun w' => (∀ b o, b < (W0).heap.size → w'.cell? ⟨b, o, none⟩ = (W0).cell? ⟨b, o, none⟩) ∧ (∀ b o, b < (W0).heap.size → w'.frozen? ⟨b, o, none⟩ = (W0).frozen? ⟨b, o, none⟩) ∧ Below (W0).heap.size (W0) w')) (.free 0 (.free 1 (.free 2 (.free 3 (.free 4 (.free 5 (.free 6 (.free 9 (.free 10 (.free 13 (.free 14 (.two 7 (.free 8 (.two 11 (.free 12 (.free 15 (.one 16 (.one 17 .done)))) 16 (.one 11 (.free 12 (.free 15 (.one 17 .done)))))) 16 (.one 7 (.free 8 (.one 11 (.free 12 (.free 15 (.one 17 .done)))))))))))))))))) (by kernel_rfl) (by kernel_rfl) (fun _ _ d _ _ h => by cases d <;> exact h) (keepW0 _) (fun hS => ?_)
    simp only [written, List.getElem?_cons_succ, List.getElem?_cons_zero]
    iterate 11
     refine rw_free (v := ?_) (by rfl) ?_ ?_; rotate_left 1; focus (intro w hSw; (try dsimp only at hSw); go_simp; (try with_reducible rfl))
     (try simp only [Act.put, tA, tB, tC])
    refine rw_two ?_ ?_
    · skip
      refine rw_call (by rfl) (fun K hK => ?_)
      go_simp
      (refine (H1.out _).mono ?_; rintro e w4 ⟨rfl, rfl⟩)
      (try go_wp2_with fail)
      refine hK.out _ _ ?_ (fun hS' => ?_)
      · (try dsimp only); first | assumption | exact keepA (by assumption) | exact keepOf (((Below.refl _ _).alloc (Nat.le_refl _) _).drew) | exact keepOf ((Below.refl _ _).drew.alloc (Nat.le_refl _) _)
      clear hS hK K
      have hS := hS'
      clear hS'
      (try simp only [Act.put, tA, tB, tC])
      refine rw_free (v := ?_) (by rfl) ?_ ?_; rotate_left 1; focus (intro w hSw; (try dsimp only at hSw); go_simp; (try with_reducible rfl))
      (try simp only [Act.put, tA, tB, tC])
      refine rw_two ?_ ?_
      · skip
        refine rw_call (by rfl) (fun K hK => ?_)
        go_simp
        (refine (H2.out _).mono ?_; rintro e w4 ⟨rfl, rfl⟩)
        (try go_wp2_with fail)
        refine hK.out _ _ ?_ (fun hS' => ?_)
        · (try dsimp only); first | assumption | exact keepA (by assumption) | exact keepOf (((Below.refl _ _).alloc (Nat.le_refl _) _).drew) | exact keepOf ((Below.refl _ _).drew.alloc (Nat.le_refl _) _)
        clear hS hK K
        have hS := hS'
        clear hS'
        iterate 2
         (try simp only [Act.put, tA, tB, tC])
         refine rw_free (v := ?_) (by rfl) ?_ ?_; rotate_left 1; focus (intro w hSw; (try dsimp only at hSw); go_simp; (try with_reducible rfl))
        (try simp only [Act.put, tA, tB, tC])
        refine rw_call (by rfl) (fun K hK => ?_)
        go_simp
        (skip)
        (try go_wp2_with fail)
        refine hK.out _ _ ?_ (fun hS' => ?_)
        · (try dsimp only); first | assumption | exact keepA (by assumption) | exact keepOf (((Below.refl _ _).alloc (Nat.le_refl _) _).drew) | exact keepOf ((Below.refl _ _).drew.alloc (Nat.le_refl _) _)
        clear hS hK K
        have hS := hS'
        clear hS'
        (try simp only [Act.put, tA, tB, tC])
        refine rw_call (by rfl) (fun K hK => ?_)
        go_simp
        (skip)
        (try go_wp2_with fail)
        refine hK.out _ _ ?_ (fun hS' => ?_)
        · (try dsimp only); first | assumption | exact keepA (by assumption) | exact keepOf (((Below.refl _ _).alloc (Nat.le_refl _) _).drew) | exact keepOf ((Below.refl _ _).drew.alloc (Nat.le_refl _) _)
        clear hS hK K
        have hS := hS'
        clear hS'
        (try simp only [Act.put, tA, tB, tC])
        refine rw_done ?_
        go_wp2_with fail
        go_meet
        exact ⟨rfl, (by first | exact EntBox.drew (EntBox.n1 _ _ _ rfl) | exact EntBox.n1 _ _ _ rfl), hS.2.2⟩
      · skip
        refine rw_call (by rfl) (fun K hK => ?_)
        go_simp
        (skip)
        (try go_wp2_with fail)
        refine hK.out _ _ ?_ (fun hS' => ?_)
        · (try dsimp only); first | assumption | exact keepA (by assumption) | exact keepOf (((Below.refl _ _).alloc (Nat.le_refl _) _).drew) | exact keepOf ((Below.refl _ _).drew.alloc (Nat.le_refl _) _)
        clear hS hK K
        have hS := hS'
        clear hS'
        (try simp only [Act.put, tA, tB, tC])
        refine rw_call (by rfl) (fun K hK => ?_)
        go_simp
        (refine (H2.out _).mono ?_; rintro e w4 ⟨rfl, rfl⟩)
        (try go_wp2_with fail)
        refine hK.out _ _ ?_ (fun hS' => ?_)
        · (try dsimp only); first | assumption | exact keepA (by assumption) | exact keepOf (((Below.refl _ _).alloc (Nat.le_refl _) _).drew) | exact keepOf ((Below.refl _ _).drew.alloc (Nat.le_refl _) _)
        clear hS hK K
        have hS := hS'
        clear hS'
        iterate 2
         (try simp only [Act.put, tA, tB, tC])
         refine rw_free (v := ?_) (by rfl) ?_ ?_; rotate_left 1; focus (intro w hSw; (try dsimp only at hSw); go_simp; (try with_reducible rfl))
        (try simp only [Act.put, tA, tB, tC])
        refine rw_call (by rfl) (fun K hK => ?_)
        go_simp
        (skip)
        (try go_wp2_with fail)
        refine hK.out _ _ ?_ (fun hS' => ?_)
        · (try dsimp only); first | assumption | exact keepA (by assumption) | exact keepOf (((Below.refl _ _).alloc (Nat.le_refl _) _).drew) | exact keepOf ((Below.refl _ _).drew.alloc (Nat.le_refl _) _)
        clear hS hK K
        have hS := hS'
        clear hS'
        (try simp only [Act.put, tA, tB, tC])
        refine rw_done ?_
        go_wp2_with fail
        go_meet
        exact ⟨rfl, (by first | exact EntBox.drew (EntBox.n1 _ _ _ rfl) | exact EntBox.n1 _ _ _ rfl), hS.2.2⟩
    · skip
      refine rw_call (by rfl) (fun K hK => ?_)
      go_simp
      (skip)
      (try go_wp2_with fail)
      refine hK.out _ _ ?_ (fun hS' => ?_)
      · (try dsimp only); first | assumption | exact keepA (by assumption) | exact keepOf (((Below.refl _ _).alloc (Nat.le_refl _) _).drew) | exact keepOf ((Below.refl _ _).drew.alloc (Nat.le_refl _) _)
      clear hS hK K
      have hS := hS'
      clear hS'
      (try simp only [Act.put, tA, tB, tC])
      refine rw_call (by rfl) (fun K hK => ?_)
      go_simp
      (refine (H1.out _).mono ?_; rintro e w4 ⟨rfl, rfl⟩)
      (try go_wp2_with fail)
      refine hK.out _ _ ?_ (fun hS' => ?_)
      · (try dsimp only); first | assumption | exact keepA (by assumption) | exact keepOf (((Below.refl _ _).alloc (Nat.le_refl _) _).drew) | exact keepOf ((Below.refl _ _).drew.alloc (Nat.le_refl _) _)
      clear hS hK K
      have hS := hS'
      clear hS'
      (try simp only [Act.put, tA, tB, tC])
      refine rw_free (v := ?_) (by rfl) ?_ ?_; rotate_left 1; focus (intro w hSw; (try dsimp only at hSw); go_simp; (try with_reducible rfl))
      (try simp only [Act.put, tA, tB, tC])
      refine rw_call (by rfl) (fun K hK => ?_)
      go_simp
      (refine (H2.out _).mono ?_; rintro e w4 ⟨rfl, rfl⟩)
      (try go_wp2_with fail)
      refine hK.out _ _ ?_ (fun hS' => ?_)
      · (try dsimp only); first | assumption | exact keepA (by assumption) | exact keepOf (((Below.refl _ _).alloc (Nat.le_refl _) _).drew) | exact keepOf ((Below.refl _ _).drew.alloc (Nat.le_refl _) _)
      clear hS hK K
      have hS := hS'
      clear hS'
      iterate 2
       (try simp only [Act.put, tA, tB, tC])
       refine rw_free (v := ?_) (by rfl) ?_ ?_; rotate_left 1; focus (intro w hSw; (try dsimp only at hSw); go_simp; (try with_reducible rfl))
      (try simp only [Act.put, tA, tB, tC])
      refine rw_call (by rfl) (fun K hK => ?_)
      go_simp
      (skip)
      (try go_wp2_with fail)
      refine hK.out _ _ ?_ (fun hS' => ?_)
      · (try dsimp only); first | assumption | exact keepA (by assumption) | exact keepOf (((Below.refl _ _).alloc (Nat.le_refl _) _).drew) | exact keepOf ((Below.refl _ _).drew.alloc (Nat.le_refl _) _)
      clear hS hK K
      have hS := hS'
      clear hS'
      (try simp only [Act.put, tA, tB, tC])
      refine rw_done ?_
      go_wp2_with fail
      go_meet
      exact ⟨rfl, (by first | exact EntBox.drew (EntBox.n1 _ _ _ rfl) | exact EntBox.n1 _ _ _ rfl), hS.2.2⟩
  case rest =>
    obtain ⟨rfl, hs, hb⟩ := hcut
    have HB2 := Lib.hid (nextW HB.out hb)
    have hr2 := hr.below hb hz
    obtain ⟨s0, s1, s2, s3, s4, s5, s6, s7, s8, F0, F1, F2, F3, F4, F5, F6, F7, F8⟩ := hs
    obtain ⟨R0, R1, R2, R3, R4, R5, R6, R7, R8, G0, G1, G2, G3, G4, G5, G6, G7, G8⟩ := hr2
    have hzc := ne_of_lt' hz
    have hzd := ne_of_lt'' hz
    simp only at s0 s1 s2 s3 s4 s5 s6 s7 s8
    clear hb hr hc hd HB H1 H2
    by_cases hp0 : p = 0
    · subst hp0
      by_cases hq0 : q = 0
      · subst hq0
        obtain rfl : vv = 160 := by rw [HV.out]; exact if_pos ⟨rfl, rfl⟩
        clear HV
        go_wp2
        refine bodyPost_ret (v := .agg #[.int .i64 (⟨id, 2, x0, y0, 160, 0, 1, 0, i0⟩ : Ent).id, .int .i64 (⟨id, 2, x0, y0, 160, 0, 1, 0, i0⟩ : Ent).kind, .int .i64 (⟨id, 2, x0, y0, 160, 0, 1, 0, i0⟩ : Ent).x, .int .i64 (⟨id, 2, x0, y0, 160, 0, 1, 0, i0⟩ : Ent).y, .int .i64 (⟨id, 2, x0, y0, 160, 0, 1, 0, i0⟩ : Ent).vx, .int .i64 (⟨id, 2, x0, y0, 160, 0, 1, 0, i0⟩ : Ent).vy, .int .i64 (⟨id, 2, x0, y0, 160, 0, 1, 0, i0⟩ : Ent).health, .int .i64 (⟨id, 2, x0, y0, 160, 0, 1, 0, i0⟩ : Ent).age, .int .i64 (⟨id, 2, x0, y0, 160, 0, 1, 0, i0⟩ : Ent).owner]) (by simp [results, Tryz.results77, go_sem, R0, R1, R2, R3, R4, R5, R6, R7, R8]) rfl ⟨rfl, ?_⟩
        iterate 10 (refine bset ?_ (by omega))
        exact HB2.out
      · obtain rfl : vv = 0 := by rw [HV.out, if_neg (fun h => hq0 h.2)]; rfl
        clear HV
        have hqb : (q * 160 == 0) = false := by simp; omega
        go_wp2
        refine bodyPost_ret (v := .agg #[.int .i64 (⟨id, 2, x0, y0, 0, q * 160, 1, 0, i0⟩ : Ent).id, .int .i64 (⟨id, 2, x0, y0, 0, q * 160, 1, 0, i0⟩ : Ent).kind, .int .i64 (⟨id, 2, x0, y0, 0, q * 160, 1, 0, i0⟩ : Ent).x, .int .i64 (⟨id, 2, x0, y0, 0, q * 160, 1, 0, i0⟩ : Ent).y, .int .i64 (⟨id, 2, x0, y0, 0, q * 160, 1, 0, i0⟩ : Ent).vx, .int .i64 (⟨id, 2, x0, y0, 0, q * 160, 1, 0, i0⟩ : Ent).vy, .int .i64 (⟨id, 2, x0, y0, 0, q * 160, 1, 0, i0⟩ : Ent).health, .int .i64 (⟨id, 2, x0, y0, 0, q * 160, 1, 0, i0⟩ : Ent).age, .int .i64 (⟨id, 2, x0, y0, 0, q * 160, 1, 0, i0⟩ : Ent).owner]) (by simp [results, Tryz.results77, go_sem, R0, R1, R2, R3, R4, R5, R6, R7, R8]) rfl ⟨rfl, ?_⟩
        iterate 9 (refine bset ?_ (by omega))
        exact HB2.out
    · obtain rfl : vv = p * 160 := by rw [HV.out, if_neg (fun h => hp0 h.1)]
      clear HV
      have hpb : (p * 160 == 0) = false := by simp; omega
      go_wp2
      refine bodyPost_ret (v := .agg #[.int .i64 (⟨id, 2, x0, y0, p * 160, q * 160, 1, 0, i0⟩ : Ent).id, .int .i64 (⟨id, 2, x0, y0, p * 160, q * 160, 1, 0, i0⟩ : Ent).kind, .int .i64 (⟨id, 2, x0, y0, p * 160, q * 160, 1, 0, i0⟩ : Ent).x, .int .i64 (⟨id, 2, x0, y0, p * 160, q * 160, 1, 0, i0⟩ : Ent).y, .int .i64 (⟨id, 2, x0, y0, p * 160, q * 160, 1, 0, i0⟩ : Ent).vx, .int .i64 (⟨id, 2, x0, y0, p * 160, q * 160, 1, 0, i0⟩ : Ent).vy, .int .i64 (⟨id, 2, x0, y0, p * 160, q * 160, 1, 0, i0⟩ : Ent).health, .int .i64 (⟨id, 2, x0, y0, p * 160, q * 160, 1, 0, i0⟩ : Ent).age, .int .i64 (⟨id, 2, x0, y0, p * 160, q * 160, 1, 0, i0⟩ : Ent).owner]) (by simp [results, Tryz.results77, go_sem, R0, R1, R2, R3, R4, R5, R6, R7, R8]) rfl ⟨rfl, ?_⟩
      iterate 9 (refine bset ?_ (by omega))
      exact HB2.out

end Go.Proofs.YtfpofegfbinalaaGreat.Fx
