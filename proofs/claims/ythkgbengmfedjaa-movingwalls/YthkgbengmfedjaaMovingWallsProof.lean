/- joustlaw07.MovingWalls returns true for every input; no conditions. -/
import Derived.Test.YthkgbengmfedjaaMvLaw
import Derived.Deep.LoopGhost
import Derived.Test.YthkgbengmfedjaaRows
import Derived.WalkKit
import Derived.ProofKit
import Derived.OpenShut
import Derived.ShutString
import Derived.ChangeOld
import Derived.Below
import Derived.Deep.Slices
namespace Go.Proofs.Ythkgbengmfedjaa.movingWalls
open Go.ChangeShapes Go.WideShapes Go.ChangeAt Go.RowKit
open Go.ChangeMaps (open_string shut_string)
set_option linter.unusedVariables false

theorem own : ownKnob Try.prog.godebug = none := by kernel_rfl
theorem laidOut : laidOutB Try.prog = true := by kernel_rfl
open Fx (IsRow)
theorem open_T24 {H : Type} {enc : TypeId × Value → H} {W : World} {fuel : Nat} {cs : List Value} {x : DataW H × List MemPlace} (h : DataW.trod enc Try.prog W 0 (fun _ => true) true fuel 24 cs = some x) :
    ∃ (a0 : Int) (a1 : Int) (a2 : Int) (a3 : Int) (a4 : Int), cs = [.int .i64 a0, .int .i64 a1, .int .i64 a2, .int .i64 a3, .int .u64 a4] ∧ (Lit.int .i64 a0).wf = true ∧ (Lit.int .i64 a1).wf = true ∧ (Lit.int .i64 a2).wf = true ∧ (Lit.int .i64 a3).wf = true ∧ (Lit.int .u64 a4).wf = true := by
  obtain ⟨xs, n, -, -, hl, hxl, hg⟩ := DataW.trod_struct Try.underlying24 h
  have hl' : cs.length = 5 := hl.trans (by kernel_rfl)
  have c3 : Try.prog.cellsOf 3 = 1 := by kernel_rfl
  have c22 : Try.prog.cellsOf 22 = 1 := by kernel_rfl
  clear hl h
  match cs, hl' with
  | [z0, z1, z2, z3, z4], _ =>
    have g0 : DataW.trod enc Try.prog W 0 (fun _ => true) true n 3 (([z0, z1, z2, z3, z4].drop 0).take (Try.prog.cellsOf 3)) = xs[0]? := hg 0 _ rfl
    rw [c3, List.getElem?_eq_getElem (show 0 < xs.length by rw [hxl]; decide)] at g0
    have g1 : DataW.trod enc Try.prog W 0 (fun _ => true) true n 3 (([z0, z1, z2, z3, z4].drop 1).take (Try.prog.cellsOf 3)) = xs[1]? := hg 1 _ rfl
    rw [c3, List.getElem?_eq_getElem (show 1 < xs.length by rw [hxl]; decide)] at g1
    have g2 : DataW.trod enc Try.prog W 0 (fun _ => true) true n 3 (([z0, z1, z2, z3, z4].drop 2).take (Try.prog.cellsOf 3)) = xs[2]? := hg 2 _ rfl
    rw [c3, List.getElem?_eq_getElem (show 2 < xs.length by rw [hxl]; decide)] at g2
    have g3 : DataW.trod enc Try.prog W 0 (fun _ => true) true n 3 (([z0, z1, z2, z3, z4].drop 3).take (Try.prog.cellsOf 3)) = xs[3]? := hg 3 _ rfl
    rw [c3, List.getElem?_eq_getElem (show 3 < xs.length by rw [hxl]; decide)] at g3
    have g4 : DataW.trod enc Try.prog W 0 (fun _ => true) true n 22 (([z0, z1, z2, z3, z4].drop 4).take (Try.prog.cellsOf 22)) = xs[4]? := hg 4 _ rfl
    rw [c22, List.getElem?_eq_getElem (show 4 < xs.length by rw [hxl]; decide)] at g4
    obtain ⟨a0, e0, -, w0⟩ := DataW.trod_int (cs := [z0]) Try.underlying3 g0
    simp only [List.cons.injEq, and_true] at e0
    subst e0
    clear g0
    obtain ⟨a1, e1, -, w1⟩ := DataW.trod_int (cs := [z1]) Try.underlying3 g1
    simp only [List.cons.injEq, and_true] at e1
    subst e1
    clear g1
    obtain ⟨a2, e2, -, w2⟩ := DataW.trod_int (cs := [z2]) Try.underlying3 g2
    simp only [List.cons.injEq, and_true] at e2
    subst e2
    clear g2
    obtain ⟨a3, e3, -, w3⟩ := DataW.trod_int (cs := [z3]) Try.underlying3 g3
    simp only [List.cons.injEq, and_true] at e3
    subst e3
    clear g3
    obtain ⟨a4, e4, -, w4⟩ := DataW.trod_int (cs := [z4]) Try.underlying22 g4
    simp only [List.cons.injEq, and_true] at e4
    subst e4
    clear g4
    exact ⟨a0, a1, a2, a3, a4, rfl, w0, w1, w2, w3, w4⟩

theorem open_T28 {H : Type} {enc : TypeId × Value → H} {W : World} {fuel : Nat} {cs : List Value} {x : DataW H × List MemPlace} (h : DataW.trod enc Try.prog W 0 (fun _ => true) true fuel 28 cs = some x) :
    ∃ (a0 : Int) (a1 : Int) (a2 : Bool), cs = [.int .i64 a0, .int .i64 a1, .bool a2] ∧ (Lit.int .i64 a0).wf = true ∧ (Lit.int .i64 a1).wf = true := by
  obtain ⟨xs, n, -, -, hl, hxl, hg⟩ := DataW.trod_struct Try.underlying28 h
  have hl' : cs.length = 3 := hl.trans (by kernel_rfl)
  have c3 : Try.prog.cellsOf 3 = 1 := by kernel_rfl
  have c4 : Try.prog.cellsOf 4 = 1 := by kernel_rfl
  clear hl h
  match cs, hl' with
  | [z0, z1, z2], _ =>
    have g0 : DataW.trod enc Try.prog W 0 (fun _ => true) true n 3 (([z0, z1, z2].drop 0).take (Try.prog.cellsOf 3)) = xs[0]? := hg 0 _ rfl
    rw [c3, List.getElem?_eq_getElem (show 0 < xs.length by rw [hxl]; decide)] at g0
    have g1 : DataW.trod enc Try.prog W 0 (fun _ => true) true n 3 (([z0, z1, z2].drop 1).take (Try.prog.cellsOf 3)) = xs[1]? := hg 1 _ rfl
    rw [c3, List.getElem?_eq_getElem (show 1 < xs.length by rw [hxl]; decide)] at g1
    have g2 : DataW.trod enc Try.prog W 0 (fun _ => true) true n 4 (([z0, z1, z2].drop 2).take (Try.prog.cellsOf 4)) = xs[2]? := hg 2 _ rfl
    rw [c4, List.getElem?_eq_getElem (show 2 < xs.length by rw [hxl]; decide)] at g2
    obtain ⟨a0, e0, -, w0⟩ := DataW.trod_int (cs := [z0]) Try.underlying3 g0
    simp only [List.cons.injEq, and_true] at e0
    subst e0
    clear g0
    obtain ⟨a1, e1, -, w1⟩ := DataW.trod_int (cs := [z1]) Try.underlying3 g1
    simp only [List.cons.injEq, and_true] at e1
    subst e1
    clear g1
    obtain ⟨a2, e2, -⟩ := DataW.trod_bool (cs := [z2]) Try.underlying4 g2
    simp only [List.cons.injEq, and_true] at e2
    subst e2
    clear g2
    exact ⟨a0, a1, a2, rfl, w0, w1⟩

theorem open_sl51 {H : Type} {enc : TypeId × Value → H} {W : World} {fuel : Nat} {v : Value} {x : DataW H × List MemPlace} (h : DataW.trod enc Try.prog W 0 (fun _ => true) true fuel 51 [v] = some x) :
    ∃ l : List Fx.Inp, Fx.IsSl Fx.inpC W v l ∧ ∀ e ∈ l, Fx.Inp.ok e := by
  rcases Go.Deep.open_slice Try.underlying51 h with ⟨hcs, _⟩ | ⟨a, len, cap, m, n, D, Pl, hcs, _, hl, hm, hmm, _, hel⟩
  · simp at hcs
    subst hcs
    exact ⟨[], Fx.IsSl.nil _ _, by simp⟩
  · simp at hcs
    subst hcs
    have hmc : m = cap := hmm
    have hce : Try.prog.cellsOf 28 = 3 := by kernel_rfl
    refine Fx.sl_of_cells (base := 0) default 3 Fx.inpC_len (by omega) hl fun i hi => ?_
    obtain ⟨cs', hc, ht⟩ := hel i (by omega)
    rw [hce] at hc
    obtain ⟨a0, a1, a2, rfl, w0, w1⟩ := open_T28 ht
    exact ⟨⟨a0, a1, a2⟩, ⟨w0, w1⟩, hc⟩

open Fx

theorem first_right {a b p n X Y h : Int} (hr : rt a b p n = true) (hX : 0 ≤ X ∧ X < a * 1024) (hY : 0 ≤ Y ∧ Y < b * 1024) (h1 : 1 ≤ h ∧ h ≤ 100) : erightB a b p n ⟨1, 1, X, Y, 0, 0, h, 0, 0⟩ = true := by
  obtain ⟨-, -, -, -, r5, -⟩ := rt_bd hr
  unfold erightB
  rw [Bool.and_eq_true]
  refine ⟨(ins_iff hr).2 ⟨hX.1, hX.2, hY.1, hY.2⟩, ?_⟩
  unfold eok
  simp only [wi, if_true, Bool.and_eq_true, decide_eq_true_eq]
  exact ⟨⟨by decide, r5⟩, by decide, by decide, h1, by decide, trivial⟩

theorem steer_moves {y : Ent} {dx dy : Int} (f : Bool) (hk : y.kind = 1) (hi : irt dx dy = true) : (steerE y dx dy f).kind = 1 ∧ (steerE y dx dy f).x = y.x ∧ (steerE y dx dy f).y = y.y ∧ (steerE y dx dy f).vx = dx * 32 ∧ (steerE y dx dy f).vy = dy * 32 := by
  unfold steerE
  rw [if_pos ⟨hk, hi⟩]
  exact ⟨hk, rfl, rfl, rfl, rfl⟩

set_option maxRecDepth 100000 in
set_option maxHeartbeats 8000000 in
theorem walk (a0 : Fx.Cfg) (a1 : Int) (a2 : Int) (v3 : Value) (l3 : List Fx.Inp) (w : World) (w0 : Fx.Cfg.ok a0) (w1 : (Lit.int .i64 a1).wf = true) (w2 : (Lit.int .i64 a2).wf = true) (w3 : Fx.IsSl Fx.inpC w v3 l3) (k3 : ∀ e ∈ l3, Fx.Inp.ok e) :
    Calls Try.prog 6 #[.agg #[.int .i64 a0.cols, .int .i64 a0.rows, .int .i64 a0.players, .int .i64 a0.window, .int .u64 a0.seed], .int .i64 a1, .int .i64 a2, v3] w fun e w' => e = .returned (.bool true) ∧ Below w.heap.size w w' := by
  have b1 := bounds_i64 w1
  have b2 := bounds_i64 w2
  clear w0 w1 w2 k3
  have HA := Lib.hid awake_mv
  go_enter Try.func6, Try.ntmps6
  go_upto_region 1 with fail
  generalize hW : World.alloc w _ = W0
  have Bc := Lib.hid (show CfgBox W0 w.heap.size a0 from by rw [← hW]; exact CfgBox.n1 _ _ _ rfl)
  have HB := Lib.hid (show Below w.heap.size w W0 from by rw [← hW]; exact (Below.refl _ _).alloc (Nat.le_refl _) _)
  clear hW
  have c0 := Bc.out.c0
  have c1 := Bc.out.c1
  have c2 := Bc.out.c2
  have c3 := Bc.out.c3
  have c4 := Bc.out.c4
  go_wp2_with fail
  refine (config_any _ _ _ _ _ _).mono ?_
  rintro e v' ⟨a, b, p, n, rfl, hsm, hb⟩
  clear c0 c1 c2 c3 c4
  have Bn := Bc.out.nx hb
  obtain ⟨n0, n1, n2, n3, n4, m0, m1, m2, m3, m4⟩ := Bn
  go_upto_region 2 with fail
  clear n0 m0 n1 m1 n2 m2 n3 m3 n4 m4
  generalize hW : World.setCell _ _ _ = W1
  have hO := CfgBox.off (⟨a, b, p, n, a0.seed⟩) hW
  replace Bc := Lib.hid (Bc.out.nxs hb (⟨a, b, p, n, a0.seed⟩) hW)
  replace HB := Lib.hid (CfgBox.bel (nextW HB.out hb) (⟨a, b, p, n, a0.seed⟩) (Nat.le_refl _) hW)
  clear hW hb hO v'
  have Hrt := Lib.hid hsm.1
  have HN := Lib.hid (fun w => new_yes a b p n a0.seed w hsm.1)
  obtain ⟨r1, r2, r3, r4, r5, -⟩ := rt_bd hsm.1
  clear hsm
  have c0 := Bc.out.c0
  have c1 := Bc.out.c1
  have c2 := Bc.out.c2
  have c3 := Bc.out.c3
  have c4 := Bc.out.c4
  go_wp2_with fail
  refine (HN.out _).mono ?_
  rintro e v' ⟨rfl, hb⟩
  clear c0 c1 c2 c3 c4
  go_upto_region 3 with fail
  generalize hW : World.alloc _ _ = W2
  replace Bc := Lib.hid (Bc.out.nxa hb hW)
  have Bg := Lib.hid (CfgBox.nb hW (⟨a, b, p, n, a0.seed⟩) rfl)
  generalize v'.heap.size = bg at *
  replace HB := Lib.hid (below_nxa HB.out hb hW)
  clear hW hb v'
  clear HN
  go_wp2_with fail
  refine (HA.out _).mono ?_
  rintro e W3 ⟨rfl, hb⟩
  go_upto_region 5 with fail
  replace Bc := Lib.hid (Bc.out.nx hb)
  replace Bg := Lib.hid (Bg.out.nx hb)
  replace HB := Lib.hid (nextW HB.out hb)
  clear hb
  have HW := Lib.hid (fun w => width_any a b p n a0.seed w)
  have HH := Lib.hid (fun w => height_any a b p n a0.seed w)
  have hwi : wid a b p n = a * 1024 := by unfold wid; rw [if_pos Hrt.out]
  have hhe : hei a b p n = b * 1024 := by unfold hei; rw [if_pos Hrt.out]
  rw [hwi] at HW
  rw [hhe] at HH
  clear hwi hhe HA
  obtain ⟨X, hX, eX⟩ : ∃ X : Int, (0 ≤ X ∧ X < a * 1024) ∧ IntKind.i64.wrap ((IntKind.u64.wrap a1).tmod (a * 1024)) = X := ⟨_, (umodR a1 (a * 1024) (by omega) (by omega)).2, rfl⟩
  obtain ⟨Y, hY, eY⟩ : ∃ Y : Int, (0 ≤ Y ∧ Y < b * 1024) ∧ IntKind.i64.wrap ((IntKind.u64.wrap a2).tmod (b * 1024)) = Y := ⟨_, (umodR a2 (b * 1024) (by omega) (by omega)).2, rfl⟩
  have z1 : ¬ a * 1024 = 0 := by omega
  have z2 : ¬ b * 1024 = 0 := by omega
  have u1 : IntKind.u64.wrap (a * 1024) = a * 1024 := by rw [IntKind.wrap_u64]; omega
  have u2 : IntKind.u64.wrap (b * 1024) = b * 1024 := by rw [IntKind.wrap_u64]; omega
  have zg := Bg.out.has
  go_cut [11] (fun s11 wx => ∃ blk X Y, s11 = .pointer (some ⟨blk, 0, none⟩) ∧ (0 ≤ X ∧ X < a * 1024) ∧ (0 ≤ Y ∧ Y < b * 1024) ∧ W3.heap.size ≤ blk ∧ EntBox wx blk ⟨1, 1, X, Y, 0, 0, 9, 0, 0⟩ ∧ Below W3.heap.size W3 wx)
  case first =>
    have g0 := Bg.out.c0
    have g1 := Bg.out.c1
    have g2 := Bg.out.c2
    have g3 := Bg.out.c3
    have g4 := Bg.out.c4
    refine tree_region (S := (fun w' => (∀ b o, b < (W3).heap.size → w'.cell? ⟨b, o, none⟩ = (W3).cell? ⟨b, o, none⟩) ∧ (∀ b o, b < (W3).heap.size → w'.frozen? ⟨b, o, none⟩ = (W3).frozen? ⟨b, o, none⟩) ∧ Below (W3).heap.size (W3) w')) (.free 0 (.free 1 (.free 2 (.free 7 (.free 8 (.free 9 (.two 3 (.free 4 (.free 5 (.free 6 (.two 10 (.free 11 (.free 12 (.free 13 (.free 14 (.one 15 (.one 16 .done)))))) 15 (.one 10 (.free 11 (.free 12 (.free 13 (.free 14 (.one 16 .done)))))))))) 15 (.one 3 (.free 4 (.free 5 (.free 6 (.one 10 (.free 11 (.free 12 (.free 13 (.free 14 (.one 16 .done))))))))))))))))) (by kernel_rfl) (by kernel_rfl) (fun _ _ d _ _ h => by cases d <;> exact h) (keepW0 _) (fun hS => ?_)
    simp only [written, List.getElem?_cons_succ, List.getElem?_cons_zero]
    refine rw_free (v := ?_) (by rfl) ?_ ?_
    rotate_left 1
    focus (intro w hSw; (try dsimp only at hSw); go_simp; (try with_reducible rfl))
    (try simp only [Act.put, List.setIfInBounds_toArray, List.set_cons_zero, List.set_cons_succ])
    refine rw_free (v := ?_) (by rfl) ?_ ?_
    rotate_left 1
    focus (intro w hSw; (try dsimp only at hSw); go_simp; (try with_reducible rfl))
    (try simp only [Act.put, List.setIfInBounds_toArray, List.set_cons_zero, List.set_cons_succ])
    refine rw_free (v := ?_) (by rfl) ?_ ?_
    rotate_left 1
    focus (intro w hSw; (try dsimp only at hSw); go_simp; (try with_reducible rfl))
    (try simp only [Act.put, List.setIfInBounds_toArray, List.set_cons_zero, List.set_cons_succ])
    refine rw_free (v := ?_) (by rfl) ?_ ?_
    rotate_left 1
    focus (intro w hSw; (try dsimp only at hSw); go_simp; (try with_reducible rfl))
    (try simp only [Act.put, List.setIfInBounds_toArray, List.set_cons_zero, List.set_cons_succ])
    refine rw_free (v := ?_) (by rfl) ?_ ?_
    rotate_left 1
    focus (intro w hSw; (try dsimp only at hSw); go_simp; (try with_reducible rfl))
    (try simp only [Act.put, List.setIfInBounds_toArray, List.set_cons_zero, List.set_cons_succ])
    refine rw_free (v := ?_) (by rfl) ?_ ?_
    rotate_left 1
    focus (intro w hSw; (try dsimp only at hSw); go_simp; (try with_reducible rfl))
    (try simp only [Act.put, List.setIfInBounds_toArray, List.set_cons_zero, List.set_cons_succ])
    refine rw_two ?_ ?_
    · skip
      refine rw_call (by rfl) (fun K hK => ?_)
      go_simp
      (refine (HW.out _).mono ?_; rintro e v1 ⟨rfl, hb1⟩)
      (try go_wp2_with fail)
      refine hK.out _ _ ?_ (fun hS' => ?_)
      · (try dsimp only); first | exact keepW (by assumption) (by assumption) | exact keepB (by assumption) (by assumption) | exact keepA (by assumption) | assumption
      clear hS hK K
      have hS := hS'
      clear hS'
      (try simp only [Act.put, List.setIfInBounds_toArray, List.set_cons_zero, List.set_cons_succ])
      refine rw_free (v := ?_) (by rfl) ?_ ?_
      rotate_left 1
      focus (intro w hSw; (try dsimp only at hSw); go_simp; (try with_reducible rfl))
      (try simp only [Act.put, List.setIfInBounds_toArray, List.set_cons_zero, List.set_cons_succ])
      refine rw_free (v := ?_) (by rfl) ?_ ?_
      rotate_left 1
      focus (intro w hSw; (try dsimp only at hSw); go_simp; (try with_reducible rfl))
      (try simp only [Act.put, List.setIfInBounds_toArray, List.set_cons_zero, List.set_cons_succ])
      refine rw_free (v := ?_) (by rfl) ?_ ?_
      rotate_left 1
      focus (intro w hSw; (try dsimp only at hSw); go_simp; (try with_reducible rfl))
      (try simp only [Act.put, List.setIfInBounds_toArray, List.set_cons_zero, List.set_cons_succ])
      refine rw_two ?_ ?_
      · skip
        refine rw_call (by rfl) (fun K hK => ?_)
        go_simp
        (refine (HH.out _).mono ?_; rintro e v2 ⟨rfl, hb2⟩)
        (try go_wp2_with fail)
        refine hK.out _ _ ?_ (fun hS' => ?_)
        · (try dsimp only); first | exact keepW (by assumption) (by assumption) | exact keepB (by assumption) (by assumption) | exact keepA (by assumption) | assumption
        clear hS hK K
        have hS := hS'
        clear hS'
        (try simp only [Act.put, List.setIfInBounds_toArray, List.set_cons_zero, List.set_cons_succ])
        refine rw_free (v := ?_) (by rfl) ?_ ?_
        rotate_left 1
        focus (intro w hSw; (try dsimp only at hSw); go_simp; (try with_reducible rfl))
        (try simp only [Act.put, List.setIfInBounds_toArray, List.set_cons_zero, List.set_cons_succ])
        refine rw_free (v := ?_) (by rfl) ?_ ?_
        rotate_left 1
        focus (intro w hSw; (try dsimp only at hSw); go_simp; (try with_reducible rfl))
        (try simp only [Act.put, List.setIfInBounds_toArray, List.set_cons_zero, List.set_cons_succ])
        refine rw_free (v := ?_) (by rfl) ?_ ?_
        rotate_left 1
        focus (intro w hSw; (try dsimp only at hSw); go_simp; (try with_reducible rfl))
        (try simp only [Act.put, List.setIfInBounds_toArray, List.set_cons_zero, List.set_cons_succ])
        refine rw_free (v := ?_) (by rfl) ?_ ?_
        rotate_left 1
        focus (intro w hSw; (try dsimp only at hSw); go_simp; (try with_reducible rfl))
        (try simp only [Act.put, List.setIfInBounds_toArray, List.set_cons_zero, List.set_cons_succ])
        refine rw_call (by rfl) (fun K hK => ?_)
        go_simp
        (skip)
        (try go_wp2_with fail)
        refine hK.out _ _ ?_ (fun hS' => ?_)
        · (try dsimp only); first | exact keepW (by assumption) (by assumption) | exact keepB (by assumption) (by assumption) | exact keepA (by assumption) | assumption
        clear hS hK K
        have hS := hS'
        clear hS'
        (try simp only [Act.put, List.setIfInBounds_toArray, List.set_cons_zero, List.set_cons_succ])
        first | (with_reducible have hs := ((zbox _ _).drew.nx hb1).nx hb2; have Hs := Lib.hid hs; obtain ⟨n0, n1, n2, n3, n4, n5, n6, n7, n8, m0, m1, m2, m3, m4, m5, m6, m7, m8⟩ := hs) | (with_reducible have hs := ((zbox _ _).nx hb1).nx hb2; have Hs := Lib.hid hs; obtain ⟨n0, n1, n2, n3, n4, n5, n6, n7, n8, m0, m1, m2, m3, m4, m5, m6, m7, m8⟩ := hs) | (with_reducible have hs := (zbox _ _).nx hb2; have Hs := Lib.hid hs; obtain ⟨n0, n1, n2, n3, n4, n5, n6, n7, n8, m0, m1, m2, m3, m4, m5, m6, m7, m8⟩ := hs) | skip
        refine rw_call (by rfl) (fun K hK => ?_)
        go_simp
        (skip)
        (try go_wp2_with fail)
        refine hK.out _ _ ?_ (fun hS' => ?_)
        · (try dsimp only); first | (have _h := Hs.out; exact keepOf (EntBox.bel hS.2.2 (⟨1, 1, X, Y, 0, 0, 9, 0, 0⟩ : Ent) (by first | exact Nat.le_refl _ | exact (nextW (Below.refl _ _).drew hb1).size) rfl)) | exact keepOf (below_nxa (nextW (Below.refl _ _).drew hb1) hb2 rfl)
        clear hS hK K
        have hS := hS'
        clear hS'
        (try simp only [Act.put, List.setIfInBounds_toArray, List.set_cons_zero, List.set_cons_succ])
        refine rw_done ?_
        (try clear n0 n1 n2 n3 n4 n5 n6 n7 n8 m0 m1 m2 m3 m4 m5 m6 m7 m8)
        go_wp2_with fail
        go_meet
        exact ⟨_, X, Y, rfl, hX, hY, (by first | exact Nat.le_refl _ | exact (nextW (Below.refl _ _).drew hb1).size | exact (nextW (nextW (Below.refl _ _).drew hb1) hb2).size), (by first | (have _h := Hs.out; exact _h.put (⟨1, 1, X, Y, 0, 0, 9, 0, 0⟩ : Ent)) | exact EntBox.n1 _ _ _ rfl | exact (EntBox.n1 _ _ _ rfl).drew), hS.2.2⟩
      · skip
        refine rw_call (by rfl) (fun K hK => ?_)
        go_simp
        (skip)
        (try go_wp2_with fail)
        refine hK.out _ _ ?_ (fun hS' => ?_)
        · (try dsimp only); first | exact keepW (by assumption) (by assumption) | exact keepB (by assumption) (by assumption) | exact keepA (by assumption) | assumption
        clear hS hK K
        have hS := hS'
        clear hS'
        (try simp only [Act.put, List.setIfInBounds_toArray, List.set_cons_zero, List.set_cons_succ])
        refine rw_call (by rfl) (fun K hK => ?_)
        go_simp
        (refine (HH.out _).mono ?_; rintro e v2 ⟨rfl, hb2⟩)
        (try go_wp2_with fail)
        refine hK.out _ _ ?_ (fun hS' => ?_)
        · (try dsimp only); first | exact keepW (by assumption) (by assumption) | exact keepB (by assumption) (by assumption) | exact keepA (by assumption) | assumption
        clear hS hK K
        have hS := hS'
        clear hS'
        (try simp only [Act.put, List.setIfInBounds_toArray, List.set_cons_zero, List.set_cons_succ])
        refine rw_free (v := ?_) (by rfl) ?_ ?_
        rotate_left 1
        focus (intro w hSw; (try dsimp only at hSw); go_simp; (try with_reducible rfl))
        (try simp only [Act.put, List.setIfInBounds_toArray, List.set_cons_zero, List.set_cons_succ])
        refine rw_free (v := ?_) (by rfl) ?_ ?_
        rotate_left 1
        focus (intro w hSw; (try dsimp only at hSw); go_simp; (try with_reducible rfl))
        (try simp only [Act.put, List.setIfInBounds_toArray, List.set_cons_zero, List.set_cons_succ])
        refine rw_free (v := ?_) (by rfl) ?_ ?_
        rotate_left 1
        focus (intro w hSw; (try dsimp only at hSw); go_simp; (try with_reducible rfl))
        (try simp only [Act.put, List.setIfInBounds_toArray, List.set_cons_zero, List.set_cons_succ])
        refine rw_free (v := ?_) (by rfl) ?_ ?_
        rotate_left 1
        focus (intro w hSw; (try dsimp only at hSw); go_simp; (try with_reducible rfl))
        (try simp only [Act.put, List.setIfInBounds_toArray, List.set_cons_zero, List.set_cons_succ])
        first | (with_reducible have hs := ((zbox _ _).drew.nx hb1).nx hb2; have Hs := Lib.hid hs; obtain ⟨n0, n1, n2, n3, n4, n5, n6, n7, n8, m0, m1, m2, m3, m4, m5, m6, m7, m8⟩ := hs) | (with_reducible have hs := ((zbox _ _).nx hb1).nx hb2; have Hs := Lib.hid hs; obtain ⟨n0, n1, n2, n3, n4, n5, n6, n7, n8, m0, m1, m2, m3, m4, m5, m6, m7, m8⟩ := hs) | (with_reducible have hs := (zbox _ _).nx hb2; have Hs := Lib.hid hs; obtain ⟨n0, n1, n2, n3, n4, n5, n6, n7, n8, m0, m1, m2, m3, m4, m5, m6, m7, m8⟩ := hs) | skip
        refine rw_call (by rfl) (fun K hK => ?_)
        go_simp
        (skip)
        (try go_wp2_with fail)
        refine hK.out _ _ ?_ (fun hS' => ?_)
        · (try dsimp only); first | (have _h := Hs.out; exact keepOf (EntBox.bel hS.2.2 (⟨1, 1, X, Y, 0, 0, 9, 0, 0⟩ : Ent) (by first | exact Nat.le_refl _ | exact (nextW (Below.refl _ _).drew hb1).size) rfl)) | exact keepOf (below_nxa (nextW (Below.refl _ _).drew hb1) hb2 rfl)
        clear hS hK K
        have hS := hS'
        clear hS'
        (try simp only [Act.put, List.setIfInBounds_toArray, List.set_cons_zero, List.set_cons_succ])
        refine rw_done ?_
        (try clear n0 n1 n2 n3 n4 n5 n6 n7 n8 m0 m1 m2 m3 m4 m5 m6 m7 m8)
        go_wp2_with fail
        go_meet
        exact ⟨_, X, Y, rfl, hX, hY, (by first | exact Nat.le_refl _ | exact (nextW (Below.refl _ _).drew hb1).size | exact (nextW (nextW (Below.refl _ _).drew hb1) hb2).size), (by first | (have _h := Hs.out; exact _h.put (⟨1, 1, X, Y, 0, 0, 9, 0, 0⟩ : Ent)) | exact EntBox.n1 _ _ _ rfl | exact (EntBox.n1 _ _ _ rfl).drew), hS.2.2⟩
    · skip
      refine rw_call (by rfl) (fun K hK => ?_)
      go_simp
      (skip)
      (try go_wp2_with fail)
      refine hK.out _ _ ?_ (fun hS' => ?_)
      · (try dsimp only); first | exact keepW (by assumption) (by assumption) | exact keepB (by assumption) (by assumption) | exact keepA (by assumption) | assumption
      clear hS hK K
      have hS := hS'
      clear hS'
      (try simp only [Act.put, List.setIfInBounds_toArray, List.set_cons_zero, List.set_cons_succ])
      refine rw_call (by rfl) (fun K hK => ?_)
      go_simp
      (refine (HW.out _).mono ?_; rintro e v1 ⟨rfl, hb1⟩)
      (try go_wp2_with fail)
      refine hK.out _ _ ?_ (fun hS' => ?_)
      · (try dsimp only); first | exact keepW (by assumption) (by assumption) | exact keepB (by assumption) (by assumption) | exact keepA (by assumption) | assumption
      clear hS hK K
      have hS := hS'
      clear hS'
      (try simp only [Act.put, List.setIfInBounds_toArray, List.set_cons_zero, List.set_cons_succ])
      refine rw_free (v := ?_) (by rfl) ?_ ?_
      rotate_left 1
      focus (intro w hSw; (try dsimp only at hSw); go_simp; (try with_reducible rfl))
      (try simp only [Act.put, List.setIfInBounds_toArray, List.set_cons_zero, List.set_cons_succ])
      refine rw_free (v := ?_) (by rfl) ?_ ?_
      rotate_left 1
      focus (intro w hSw; (try dsimp only at hSw); go_simp; (try with_reducible rfl))
      (try simp only [Act.put, List.setIfInBounds_toArray, List.set_cons_zero, List.set_cons_succ])
      refine rw_free (v := ?_) (by rfl) ?_ ?_
      rotate_left 1
      focus (intro w hSw; (try dsimp only at hSw); go_simp; (try with_reducible rfl))
      (try simp only [Act.put, List.setIfInBounds_toArray, List.set_cons_zero, List.set_cons_succ])
      refine rw_call (by rfl) (fun K hK => ?_)
      go_simp
      (refine (HH.out _).mono ?_; rintro e v2 ⟨rfl, hb2⟩)
      (try go_wp2_with fail)
      refine hK.out _ _ ?_ (fun hS' => ?_)
      · (try dsimp only); first | exact keepW (by assumption) (by assumption) | exact keepB (by assumption) (by assumption) | exact keepA (by assumption) | assumption
      clear hS hK K
      have hS := hS'
      clear hS'
      (try simp only [Act.put, List.setIfInBounds_toArray, List.set_cons_zero, List.set_cons_succ])
      refine rw_free (v := ?_) (by rfl) ?_ ?_
      rotate_left 1
      focus (intro w hSw; (try dsimp only at hSw); go_simp; (try with_reducible rfl))
      (try simp only [Act.put, List.setIfInBounds_toArray, List.set_cons_zero, List.set_cons_succ])
      refine rw_free (v := ?_) (by rfl) ?_ ?_
      rotate_left 1
      focus (intro w hSw; (try dsimp only at hSw); go_simp; (try with_reducible rfl))
      (try simp only [Act.put, List.setIfInBounds_toArray, List.set_cons_zero, List.set_cons_succ])
      refine rw_free (v := ?_) (by rfl) ?_ ?_
      rotate_left 1
      focus (intro w hSw; (try dsimp only at hSw); go_simp; (try with_reducible rfl))
      (try simp only [Act.put, List.setIfInBounds_toArray, List.set_cons_zero, List.set_cons_succ])
      refine rw_free (v := ?_) (by rfl) ?_ ?_
      rotate_left 1
      focus (intro w hSw; (try dsimp only at hSw); go_simp; (try with_reducible rfl))
      (try simp only [Act.put, List.setIfInBounds_toArray, List.set_cons_zero, List.set_cons_succ])
      first | (with_reducible have hs := ((zbox _ _).drew.nx hb1).nx hb2; have Hs := Lib.hid hs; obtain ⟨n0, n1, n2, n3, n4, n5, n6, n7, n8, m0, m1, m2, m3, m4, m5, m6, m7, m8⟩ := hs) | (with_reducible have hs := ((zbox _ _).nx hb1).nx hb2; have Hs := Lib.hid hs; obtain ⟨n0, n1, n2, n3, n4, n5, n6, n7, n8, m0, m1, m2, m3, m4, m5, m6, m7, m8⟩ := hs) | (with_reducible have hs := (zbox _ _).nx hb2; have Hs := Lib.hid hs; obtain ⟨n0, n1, n2, n3, n4, n5, n6, n7, n8, m0, m1, m2, m3, m4, m5, m6, m7, m8⟩ := hs) | skip
      refine rw_call (by rfl) (fun K hK => ?_)
      go_simp
      (skip)
      (try go_wp2_with fail)
      refine hK.out _ _ ?_ (fun hS' => ?_)
      · (try dsimp only); first | (have _h := Hs.out; exact keepOf (EntBox.bel hS.2.2 (⟨1, 1, X, Y, 0, 0, 9, 0, 0⟩ : Ent) (by first | exact Nat.le_refl _ | exact (nextW (Below.refl _ _).drew hb1).size) rfl)) | exact keepOf (below_nxa (nextW (Below.refl _ _).drew hb1) hb2 rfl)
      clear hS hK K
      have hS := hS'
      clear hS'
      (try simp only [Act.put, List.setIfInBounds_toArray, List.set_cons_zero, List.set_cons_succ])
      refine rw_done ?_
      (try clear n0 n1 n2 n3 n4 n5 n6 n7 n8 m0 m1 m2 m3 m4 m5 m6 m7 m8)
      go_wp2_with fail
      go_meet
      exact ⟨_, X, Y, rfl, hX, hY, (by first | exact Nat.le_refl _ | exact (nextW (Below.refl _ _).drew hb1).size | exact (nextW (nextW (Below.refl _ _).drew hb1) hb2).size), (by first | (have _h := Hs.out; exact _h.put (⟨1, 1, X, Y, 0, 0, 9, 0, 0⟩ : Ent)) | exact EntBox.n1 _ _ _ rfl | exact (EntBox.n1 _ _ _ rfl).drew), hS.2.2⟩
  case rest =>
    obtain ⟨be, X, Y, rfl, hX, hY, hbe, hs, hb⟩ := hcut
    have hle : w.heap.size ≤ be := Nat.le_trans HB.out.size hbe
    have hgb : bg ≠ be := by omega
    have Be := Lib.hid hs
    replace Bg := Lib.hid (Bg.out.nx hb)
    replace HB := Lib.hid (nextW HB.out hb)
    have HFr := Lib.hid (first_right (h := 9) Hrt.out hX hY (by omega))
    clear hs hb zg Bc hX hY u1 u2 z1 z2 hbe
    clear eX eY
    have HSl := Lib.hid w3
    obtain ⟨A, c, rfl, hlen, -, -⟩ := w3
    clear hlen
    obtain ⟨N, hN⟩ : ∃ N, l3.length = N := ⟨_, rfl⟩
    rw [hN] at HSl ⊢
    have HN := Lib.hid hN
    clear hN
    have hrt : wid a b p n = a * 1024 ∧ hei a b p n = b * 1024 := by unfold wid hei; rw [if_pos Hrt.out, if_pos Hrt.out]; exact ⟨rfl, rfl⟩
    have HIn := Lib.hid (fun x y w => inside_any a b p n a0.seed x y w)
    go_wp2_with fail
    go_loopw [12] (fun i wr => ∃ (k : Nat) (E : Ent), k ≤ N ∧ k ≤ 40 ∧ i = .int .i64 k ∧ (erightB a b p n E = true ∧ E.kind = 1) ∧ EntBox wr be E ∧ CfgBox wr bg ⟨a, b, p, n, a0.seed⟩ ∧ Below w.heap.size w wr) (fun i _ => N - (intOf i).toNat)
    case atStart => exact ⟨0, _, Nat.zero_le _, by omega, rfl, ⟨HFr.out, rfl⟩, Be.out, Bg.out, HB.out⟩
    case round =>
      clear Be Bg HB HFr
      obtain ⟨k, E, hk, hk40, rfl, hE, hbx, hgx, hbel⟩ := hrel
      have Be := Lib.hid hbx
      have Bg := Lib.hid hgx
      have HB := Lib.hid hbel
      have HE := Lib.hid hE
      clear hbx hgx hbel hE
      by_cases hlt : k < N
      · by_cases h40 : k < 40
        · obtain ⟨x, hx⟩ : ∃ x, l3[k]? = some x := ⟨_, List.getElem?_eq_getElem (by rw [HN.out]; exact hlt)⟩
          obtain ⟨bl, off, rfl, hc⟩ := elem_Inp (HSl.out.below HB.out).at hx
          obtain ⟨c0, c1, c2⟩ := hc
          clear hx
          have hd1 : decide ((k : Int) < N) = true := decide_eq_true (by omega)
          have hd2 : decide ((k : Int) < 40) = true := decide_eq_true (by omega)
          go_wp2_with fail
          refine (pinput_any _ _ _ _).mono ?_
          rintro e v' ⟨x1, y1, rfl, hi, hb⟩
          go_upto_region 10 with fail
          generalize hW : World.alloc _ _ = Wa
          replace Be := Lib.hid (Be.out.nxa hb hW)
          replace Bg := Lib.hid (Bg.out.nxa hb hW)
          have Bi := Lib.hid (InpBox.nb hW (⟨x1, y1, x.fire⟩) rfl)
          generalize v'.heap.size = bi at *
          replace HB := Lib.hid (below_nxa HB.out hb hW)
          clear hW hb v'
          clear c0 c1 c2
          have hib := irt_bd hi
          have HBD := Lib.hid (right_bds HE.out.1)
          have HS := Lib.hid (fun w => steer_any E x1 y1 x.fire w (by have := HBD.out; omega))
          have HSM := Lib.hid (steer_moves (y := E) x.fire HE.out.2 hi)
          have HSR := Lib.hid (steer_right x1 y1 x.fire HE.out.1)
          generalize steerE E x1 y1 x.fire = S at *
          generalize steerB E x1 y1 x.fire = F at *
          have e0 := Be.out.c0
          have e1 := Be.out.c1
          have e2 := Be.out.c2
          have e3 := Be.out.c3
          have e4 := Be.out.c4
          have e5 := Be.out.c5
          have e6 := Be.out.c6
          have e7 := Be.out.c7
          have e8 := Be.out.c8
          have i0 := Bi.out.c0
          have i1 := Bi.out.c1
          have i2 := Bi.out.c2
          go_wp2_with fail
          refine (HS.out _).mono ?_
          rintro e v' ⟨rfl, hb⟩
          clear e0 e1 e2 e3 e4 e5 e6 e7 e8 i0 i1 i2
          go_upto_region 11 with fail
          generalize hW : World.alloc _ _ = Wb
          replace Be := Lib.hid (Be.out.nxa hb hW)
          replace Bg := Lib.hid (Bg.out.nxa hb hW)
          replace Bi := Lib.hid (Bi.out.nxa hb hW)
          have Bs := Lib.hid (EntBox.nb hW (S) rfl)
          generalize v'.heap.size = bs at *
          replace HB := Lib.hid (below_nxa HB.out hb hW)
          clear hW hb v'
          clear HS
          have HG := Lib.hid (fun w => go_any a b p n a0.seed S w)
          obtain ⟨g1, g2⟩ := go_player HSR.out HSM.out.1
          have HGR := Lib.hid (go_right Hrt.out g2)
          have HGx := Lib.hid (show (goE a b p n S).kind = 1 ∧ (goE a b p n S).x = max 0 (min (E.x + x1 * 32) (a * 1024 - 1)) ∧ (goE a b p n S).y = max 0 (min (E.y + y1 * 32) (b * 1024 - 1)) from by
            rw [g1]
            obtain ⟨s1, s2, s3, s4, s5⟩ := HSM.out
            refine ⟨s1, ?_, ?_⟩
            · simp only [s2, s4, clamp]; omega
            · simp only [s3, s5, clamp]; omega)
          rw [g2] at HG
          clear g1 g2
          generalize goE a b p n S = G at *
          have g0 := Bg.out.c0
          have g1 := Bg.out.c1
          have g2 := Bg.out.c2
          have g3 := Bg.out.c3
          have g4 := Bg.out.c4
          have s0 := Bs.out.c0
          have s1 := Bs.out.c1
          have s2 := Bs.out.c2
          have s3 := Bs.out.c3
          have s4 := Bs.out.c4
          have s5 := Bs.out.c5
          have s6 := Bs.out.c6
          have s7 := Bs.out.c7
          have s8 := Bs.out.c8
          go_wp2_with fail
          refine (HG.out _).mono ?_
          rintro e v' ⟨rfl, hb⟩
          clear g0 g1 g2 g3 g4 s0 s1 s2 s3 s4 s5 s6 s7 s8
          go_upto_region 12 with fail
          generalize hW : World.alloc _ _ = Wc
          replace Be := Lib.hid (Be.out.nxa hb hW)
          replace Bg := Lib.hid (Bg.out.nxa hb hW)
          replace Bi := Lib.hid (Bi.out.nxa hb hW)
          have Bn := Lib.hid (EntBox.nb hW (G) rfl)
          generalize v'.heap.size = bn at *
          replace HB := Lib.hid (below_nxa HB.out hb hW)
          clear hW hb v'
          clear HG HSM HSR Bs
          have hxb := HBD.out.2.1
          have hyb := HBD.out.2.2.1
          have m1 : IntKind.i64.wrap (x1 * 32) = x1 * 32 := by rw [IntKind.wrap_i64]; omega
          have m2 : IntKind.i64.wrap (y1 * 32) = y1 * 32 := by rw [IntKind.wrap_i64]; omega
          have m3 : IntKind.i64.wrap (E.x + x1 * 32) = E.x + x1 * 32 := by rw [IntKind.wrap_i64]; omega
          have m4 : IntKind.i64.wrap (E.y + y1 * 32) = E.y + y1 * 32 := by rw [IntKind.wrap_i64]; omega
          have m5 : IntKind.i64.wrap (a * 1024 - 1) = a * 1024 - 1 := by rw [IntKind.wrap_i64]; omega
          have m6 : IntKind.i64.wrap (b * 1024 - 1) = b * 1024 - 1 := by rw [IntKind.wrap_i64]; omega
          have ze := Be.out.has
          have zi := Bi.out.has
          have zg := Bg.out.has
          have e0 := Be.out.c0
          have e1 := Be.out.c1
          have e2 := Be.out.c2
          have e3 := Be.out.c3
          have e4 := Be.out.c4
          have e5 := Be.out.c5
          have e6 := Be.out.c6
          have e7 := Be.out.c7
          have e8 := Be.out.c8
          have i0 := Bi.out.c0
          have i1 := Bi.out.c1
          have i2 := Bi.out.c2
          have g0 := Bg.out.c0
          have g1 := Bg.out.c1
          have g2 := Bg.out.c2
          have g3 := Bg.out.c3
          have g4 := Bg.out.c4
          refine plan_region' (S := (fun w' => (∀ b o, b < (Wc).heap.size → w'.cell? ⟨b, o, none⟩ = (Wc).cell? ⟨b, o, none⟩) ∧ (∀ b o, b < (Wc).heap.size → w'.frozen? ⟨b, o, none⟩ = (Wc).frozen? ⟨b, o, none⟩) ∧ Below (Wc).heap.size (Wc) w')) [(0, true), (1, true), (2, true), (3, true), (4, true), (5, true), (6, true), (11, true), (12, true), (13, true), (14, true), (15, true), (16, true), (17, true), (7, false), (8, true), (9, true), (10, true), (18, false), (19, true), (20, true), (21, true), (22, true), (23, true)] (by kernel_rfl) (by kernel_rfl) (fun _ _ d _ _ h => by cases d <;> exact h) (keepW0 _) (fun hS => ?_)
          simp only [picked, List.getElem?_cons_succ, List.getElem?_cons_zero]
          refine row_free (v := ?_) (by rfl) ?_ ?_
          rotate_left 1
          focus (intro w hSw; (try dsimp only at hSw); go_simp; (try with_reducible rfl))
          (try simp only [Act.put, List.setIfInBounds_toArray, List.set_cons_zero, List.set_cons_succ])
          refine row_free (v := ?_) (by rfl) ?_ ?_
          rotate_left 1
          focus (intro w hSw; (try dsimp only at hSw); go_simp; (try with_reducible rfl))
          (try simp only [Act.put, List.setIfInBounds_toArray, List.set_cons_zero, List.set_cons_succ])
          refine row_free (v := ?_) (by rfl) ?_ ?_
          rotate_left 1
          focus (intro w hSw; (try dsimp only at hSw); go_simp; (try with_reducible rfl))
          (try simp only [Act.put, List.setIfInBounds_toArray, List.set_cons_zero, List.set_cons_succ])
          refine row_free (v := ?_) (by rfl) ?_ ?_
          rotate_left 1
          focus (intro w hSw; (try dsimp only at hSw); go_simp; (try with_reducible rfl))
          (try simp only [Act.put, List.setIfInBounds_toArray, List.set_cons_zero, List.set_cons_succ])
          refine row_free (v := ?_) (by rfl) ?_ ?_
          rotate_left 1
          focus (intro w hSw; (try dsimp only at hSw); go_simp; (try with_reducible rfl))
          (try simp only [Act.put, List.setIfInBounds_toArray, List.set_cons_zero, List.set_cons_succ])
          refine row_free (v := ?_) (by rfl) ?_ ?_
          rotate_left 1
          focus (intro w hSw; (try dsimp only at hSw); go_simp; (try with_reducible rfl))
          (try simp only [Act.put, List.setIfInBounds_toArray, List.set_cons_zero, List.set_cons_succ])
          refine row_free (v := ?_) (by rfl) ?_ ?_
          rotate_left 1
          focus (intro w hSw; (try dsimp only at hSw); go_simp; (try with_reducible rfl))
          (try simp only [Act.put, List.setIfInBounds_toArray, List.set_cons_zero, List.set_cons_succ])
          refine row_free (v := ?_) (by rfl) ?_ ?_
          rotate_left 1
          focus (intro w hSw; (try dsimp only at hSw); go_simp; (try with_reducible rfl))
          (try simp only [Act.put, List.setIfInBounds_toArray, List.set_cons_zero, List.set_cons_succ])
          refine row_free (v := ?_) (by rfl) ?_ ?_
          rotate_left 1
          focus (intro w hSw; (try dsimp only at hSw); go_simp; (try with_reducible rfl))
          (try simp only [Act.put, List.setIfInBounds_toArray, List.set_cons_zero, List.set_cons_succ])
          refine row_free (v := ?_) (by rfl) ?_ ?_
          rotate_left 1
          focus (intro w hSw; (try dsimp only at hSw); go_simp; (try with_reducible rfl))
          (try simp only [Act.put, List.setIfInBounds_toArray, List.set_cons_zero, List.set_cons_succ])
          refine row_free (v := ?_) (by rfl) ?_ ?_
          rotate_left 1
          focus (intro w hSw; (try dsimp only at hSw); go_simp; (try with_reducible rfl))
          (try simp only [Act.put, List.setIfInBounds_toArray, List.set_cons_zero, List.set_cons_succ])
          refine row_free (v := ?_) (by rfl) ?_ ?_
          rotate_left 1
          focus (intro w hSw; (try dsimp only at hSw); go_simp; (try with_reducible rfl))
          (try simp only [Act.put, List.setIfInBounds_toArray, List.set_cons_zero, List.set_cons_succ])
          refine row_free (v := ?_) (by rfl) ?_ ?_
          rotate_left 1
          focus (intro w hSw; (try dsimp only at hSw); go_simp; (try with_reducible rfl))
          (try simp only [Act.put, List.setIfInBounds_toArray, List.set_cons_zero, List.set_cons_succ])
          refine row_free (v := ?_) (by rfl) ?_ ?_
          rotate_left 1
          focus (intro w hSw; (try dsimp only at hSw); go_simp; (try with_reducible rfl))
          (try simp only [Act.put, List.setIfInBounds_toArray, List.set_cons_zero, List.set_cons_succ])
          refine row_call (by rfl) (fun K hK => ?_)
          go_simp
          (refine (HW.out _).mono ?_; rintro e v1 ⟨rfl, hb1⟩)
          (try go_wp2_with fail)
          refine hK.out _ _ ?_ (fun hS' => ?_)
          · (try dsimp only); first | exact keepW (by assumption) (by assumption) | exact keepB (by assumption) (by assumption) | exact keepA (by assumption) | assumption
          clear hS hK K
          have hS := hS'
          clear hS'
          (try simp only [Act.put, List.setIfInBounds_toArray, List.set_cons_zero, List.set_cons_succ])
          refine row_free (v := ?_) (by rfl) ?_ ?_
          rotate_left 1
          focus (intro w hSw; (try dsimp only at hSw); go_simp; (try with_reducible rfl))
          (try simp only [Act.put, List.setIfInBounds_toArray, List.set_cons_zero, List.set_cons_succ])
          refine row_free (v := ?_) (by rfl) ?_ ?_
          rotate_left 1
          focus (intro w hSw; (try dsimp only at hSw); go_simp; (try with_reducible rfl))
          (try simp only [Act.put, List.setIfInBounds_toArray, List.set_cons_zero, List.set_cons_succ])
          refine row_free (v := ?_) (by rfl) ?_ ?_
          rotate_left 1
          focus (intro w hSw; (try dsimp only at hSw); go_simp; (try with_reducible rfl))
          (try simp only [Act.put, List.setIfInBounds_toArray, List.set_cons_zero, List.set_cons_succ])
          refine row_call (by rfl) (fun K hK => ?_)
          go_simp
          (refine (HH.out _).mono ?_; rintro e v2 ⟨rfl, hb2⟩)
          (try go_wp2_with fail)
          refine hK.out _ _ ?_ (fun hS' => ?_)
          · (try dsimp only); first | exact keepW (by assumption) (by assumption) | exact keepB (by assumption) (by assumption) | exact keepA (by assumption) | assumption
          clear hS hK K
          have hS := hS'
          clear hS'
          (try simp only [Act.put, List.setIfInBounds_toArray, List.set_cons_zero, List.set_cons_succ])
          refine row_free (v := ?_) (by rfl) ?_ ?_
          rotate_left 1
          focus (intro w hSw; (try dsimp only at hSw); go_simp; (try with_reducible rfl))
          (try simp only [Act.put, List.setIfInBounds_toArray, List.set_cons_zero, List.set_cons_succ])
          refine row_free (v := ?_) (by rfl) ?_ ?_
          rotate_left 1
          focus (intro w hSw; (try dsimp only at hSw); go_simp; (try with_reducible rfl))
          (try simp only [Act.put, List.setIfInBounds_toArray, List.set_cons_zero, List.set_cons_succ])
          refine row_free (v := ?_) (by rfl) ?_ ?_
          rotate_left 1
          focus (intro w hSw; (try dsimp only at hSw); go_simp; (try with_reducible rfl))
          (try simp only [Act.put, List.setIfInBounds_toArray, List.set_cons_zero, List.set_cons_succ])
          refine row_free (v := ?_) (by rfl) ?_ ?_
          rotate_left 1
          focus (intro w hSw; (try dsimp only at hSw); go_simp; (try with_reducible rfl))
          (try simp only [Act.put, List.setIfInBounds_toArray, List.set_cons_zero, List.set_cons_succ])
          refine row_free (v := ?_) (by rfl) ?_ ?_
          rotate_left 1
          focus (intro w hSw; (try dsimp only at hSw); go_simp; (try with_reducible rfl))
          (try simp only [Act.put, List.setIfInBounds_toArray, List.set_cons_zero, List.set_cons_succ])
          refine row_done ?_
          replace Be := Lib.hid (Be.out.nx hS.2.2)
          replace Bg := Lib.hid (Bg.out.nx hS.2.2)
          replace Bn := Lib.hid (Bn.out.nx hS.2.2)
          replace HB := Lib.hid (nextW HB.out hS.2.2)
          clear hS hb1 hb2 ze zi zg e0 e1 e2 e3 e4 e5 e6 e7 e8 i0 i1 i2 g0 g1 g2 g3 g4 m1 m2 m3 m4 m5 m6 Bi hxb hyb HBD HE
          have HI := Lib.hid (fun w => HIn.out G.x G.y w)
          rw [(eright_ins HGR.out).1] at HI
          generalize max 0 (min (E.x + x1 * 32) (a * 1024 - 1)) = PX at *
          generalize max 0 (min (E.y + y1 * 32) (b * 1024 - 1)) = PY at *
          have q1 : (G.x != PX) = false := by rw [HGx.out.2.1]; simp
          have q2 : (G.y != PY) = false := by rw [HGx.out.2.2]; simp
          have g0 := Bg.out.c0
          have g1 := Bg.out.c1
          have g2 := Bg.out.c2
          have g3 := Bg.out.c3
          have g4 := Bg.out.c4
          have n0 := Bn.out.c0
          have n1 := Bn.out.c1
          have n2 := Bn.out.c2
          have n3 := Bn.out.c3
          have n4 := Bn.out.c4
          have n5 := Bn.out.c5
          have n6 := Bn.out.c6
          have n7 := Bn.out.c7
          have n8 := Bn.out.c8
          go_wp2_with fail
          refine (HI.out _).mono ?_
          rintro e v3 ⟨rfl, hb⟩
          clear g0 g1 g2 g3 g4 n0 n1 n2 n3 n4 n5 n6 n7 n8
          skip
          replace Be := Lib.hid (Be.out.nx hb)
          replace Bg := Lib.hid (Bg.out.nx hb)
          replace Bn := Lib.hid (Bn.out.nx hb)
          replace HB := Lib.hid (nextW HB.out hb)
          clear hb
          have e0 := Be.out.c0
          have e1 := Be.out.c1
          have e2 := Be.out.c2
          have e3 := Be.out.c3
          have e4 := Be.out.c4
          have e5 := Be.out.c5
          have e6 := Be.out.c6
          have e7 := Be.out.c7
          have e8 := Be.out.c8
          have n0 := Bn.out.c0
          have n1 := Bn.out.c1
          have n2 := Bn.out.c2
          have n3 := Bn.out.c3
          have n4 := Bn.out.c4
          have n5 := Bn.out.c5
          have n6 := Bn.out.c6
          have n7 := Bn.out.c7
          have n8 := Bn.out.c8
          have fe0 := Be.out.f0
          have fe1 := Be.out.f1
          have fe2 := Be.out.f2
          have fe3 := Be.out.f3
          have fe4 := Be.out.f4
          have fe5 := Be.out.f5
          have fe6 := Be.out.f6
          have fe7 := Be.out.f7
          have fe8 := Be.out.f8
          go_wp2_with fail
          go_roundw
          case rel => exact ⟨k + 1, G, by omega, by omega, by go_num, ⟨HGR.out, HGx.out.1⟩, Be.out.put G, Bg.out.nf (EntBox.off G rfl) (Ne.symm hgb), EntBox.bel HB.out G hle rfl⟩
          case measure => simp [intOf]; omega
        · have hd1 : decide ((k : Int) < N) = true := decide_eq_true (by omega)
          have hd2 : decide ((k : Int) < 40) = false := decide_eq_false (by omega)
          go_wp2
          go_ret
          exact ⟨rfl, HB.out⟩
      · have hd1 : decide ((k : Int) < N) = false := decide_eq_false (by omega)
        go_wp2
        go_ret
        exact ⟨rfl, HB.out⟩

set_option maxRecDepth 100000 in
theorem lifted (os : Os) (started : os.Started) (H : Type) (enc : TypeId × Value → H) :
    ReturnsInHanded {} Try.checked os 6 .any (Rows.movingWallsSpec.pre6 enc Try.prog Try.f6 Rows.movingWallsRow.domain false) (Rows.movingWallsSpec.post enc Try.prog Try.f6 false true false false) := by
  refine returnsInHanded_of_change (C := Try.checked) own started (by kernel_rfl) Try.func6
    (ChangeSpec.witness6 (enc := enc) (C := Try.checked) false ⟨#[], #[.agg #[.int .i64 0, .int .i64 0, .int .i64 0, .int .i64 0, .int .u64 0], .int .i64 0, .int .i64 0, .slice none 0 0], []⟩ 8 (by kernel_rfl) (by kernel_rfl) (by kernel_rfl) (by kernel_rfl)) ?_
  intro W base args ds gs before hval0 hW hcnd _
  have hval : ∀ (j : Nat) t v, Try.f6.params[j]? = some t → args[j]? = some v → Value.okWide Try.prog W .any base t v := hval0
  have hW' := hW
  obtain ⟨p, q, hA0, hV, rfl, hfz, hnd⟩ := hW
  have hA : DataW.TrodAll enc Try.prog W 0 (fun _ => true) true Try.f6.params.toList args.toList ds p := hA0
  rw [Try.params6] at hA hval
  obtain ⟨v0, vs0, d0, ds0, p0, q0, hargs, rfl, rfl, h0, r0⟩ := trodAll_cons hA
  obtain ⟨v1, vs1, d1, ds1, p1, q1, rfl, rfl, rfl, h1, r1⟩ := trodAll_cons r0
  obtain ⟨v2, vs2, d2, ds2, p2, q2, rfl, rfl, rfl, h2, r2⟩ := trodAll_cons r1
  obtain ⟨v3, vs3, d3, ds3, p3, q3, rfl, rfl, rfl, h3, r3⟩ := trodAll_cons r2
  obtain ⟨rfl, rfl, rfl⟩ := trodAll_nil r3
  obtain rfl : args = #[v0, v1, v2, v3] := by cases args; simp_all
  obtain ⟨rfl, rfl⟩ := trodVars_none hV
  obtain ⟨cs0, rfl, -⟩ := okWide_struct Try.underlying24 (hval 0 24 v0 rfl rfl)
  have k0 := h0
  have lt0 : ∀ x ∈ p0, x.block < W.heap.size := by obtain ⟨m, hm⟩ := k0; exact DataW.trod_lt m _ _ _ hm
  obtain ⟨fuel0, hf0⟩ := h0
  obtain ⟨l0⟩ := cs0
  obtain ⟨a0_0, a0_1, a0_2, a0_3, a0_4, rfl, w0_0, w0_1, w0_2, w0_3, w0_4⟩ := open_T24 (cs := l0) hf0
  obtain ⟨a1, rfl, rfl, rfl, w1⟩ := open_int Try.underlying3 (hval 1 3 v1 rfl rfl) h1
  obtain ⟨a2, rfl, rfl, rfl, w2⟩ := open_int Try.underlying3 (hval 2 3 v2 rfl rfl) h2
  obtain ⟨A3, len3, cap3, rfl⟩ := okWide_slice Try.underlying51 (hval 3 51 v3 rfl rfl)
  have k3 := h3
  have lt3 : ∀ x ∈ p3, x.block < W.heap.size := by obtain ⟨m, hm⟩ := k3; exact DataW.trod_lt m _ _ _ hm
  obtain ⟨l3, w3, o3⟩ : ∃ l : List Fx.Inp, Fx.IsSl Fx.inpC W (.slice A3 len3 cap3) l ∧ ∀ e ∈ l, Fx.Inp.ok e := by
    obtain ⟨fuel, hf⟩ := h3
    exact open_sl51 hf
  clear hA0 hval0
  refine (walk ⟨a0_0, a0_1, a0_2, a0_3, a0_4⟩ a1 a2 _ l3 W ⟨w0_0, w0_1, w0_2, w0_3, w0_4⟩ w1 w2 w3 o3).mono fun e W' ⟨he, bel⟩ => ?_
  subst he
  exact ⟨_, rfl, _, _, _, [], _, [], hW', trodAll_mk1 (shut_bool Try.underlying4 _), (trodAll_cons_mk (Below.trod laidOut (by kernel_rfl) (of_decide_eq_true (by kernel_rfl)) k0 bel lt0) (trodAll_cons_mk (shut_int Try.underlying3 w1) (trodAll_cons_mk (shut_int Try.underlying3 w2) (trodAll_cons_mk (Below.trod laidOut (by kernel_rfl) (of_decide_eq_true (by kernel_rfl)) k3 bel lt3) trodAll_mk0)))), rfl, bel.frame _, fun h => by cases h⟩

theorem over : Rows.movingWallsRow.holds Try.pinned (OpenSpec.ofChange Rows.movingWallsSpec) :=
  OpenClaim.holds_of_wide 6 Try.f6 rfl rfl rfl rfl rfl rfl rfl ⟨rfl, rfl, rfl, rfl, rfl⟩ rfl rfl rfl rfl rfl (by kernel_rfl) Try.func6 (by kernel_rfl)
    (of_decide_eq_true (by kernel_rfl)) (by unfold Func.isWrapper; first | (rw [if_pos (by decide +kernel)]; kernel_rfl) | (rw [if_neg (by decide +kernel)]; exact ⟨rfl, rfl⟩))
    (fun os started H enc _ => lifted os started H enc)

end Go.Proofs.Ythkgbengmfedjaa.movingWalls
namespace Go.Proofs.Ythkgbengmfedjaa
theorem movingWalls_proved : Rows.MovingWallsSaid := movingWalls.over
end Go.Proofs.Ythkgbengmfedjaa
