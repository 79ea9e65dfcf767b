/- joustlaw07.MovingShots returns true for every input; no conditions. -/
import Derived.Test.YthkgbengmfedjaaMvLaw
import Derived.Deep.LoopGhost
import Derived.Test.YthkgbengmfedjaaRows
import Derived.WalkKit
import Derived.ProofKit
import Derived.OpenShut
import Derived.ShutString
import Derived.ChangeOld
import Derived.Below
namespace Go.Proofs.Ythkgbengmfedjaa.movingShots
open Go.ChangeShapes Go.WideShapes Go.ChangeAt Go.RowKit
open Go.ChangeMaps (open_string shut_string)
set_option linter.unusedVariables false

theorem own : ownKnob Try.prog.godebug = none := by kernel_rfl
theorem laidOut : laidOutB Try.prog = true := by kernel_rfl

theorem open_T24 {H : Type} {enc : TypeId × Value → H} {W : World} {fuel : Nat} {cs : List Value} {x : DataW H × List MemPlace} (h : DataW.trod enc Try.prog W 0 (fun _ => true) true fuel 24 cs = some x) :
    ∃ (a0 : Int) (a1 : Int) (a2 : Int) (a3 : Int) (a4 : Int), cs = [.int .i64 a0, .int .i64 a1, .int .i64 a2, .int .i64 a3, .int .u64 a4] ∧ (Lit.int .i64 a0).wf = true ∧ (Lit.int .i64 a1).wf = true ∧ (Lit.int .i64 a2).wf = true ∧ (Lit.int .i64 a3).wf = true ∧ (Lit.int .u64 a4).wf = true := by
  obtain ⟨xs, n, -, -, hl, hxl, hg⟩ := DataW.trod_struct Try.underlying24 h
  have hl' : cs.length = 5 := hl.trans (by kernel_rfl)
  have c3 : Try.prog.cellsOf 3 = 1 := by kernel_rfl
  have c22 : Try.prog.cellsOf 22 = 1 := by kernel_rfl
  clear hl h
  match cs, hl' with
  | [z0, z1, z2, z3, z4], _ =>
    have g0 : DataW.trod enc Try.prog W 0 (fun _ => true) true n 3 (([z0, z1, z2, z3, z4].drop 0).take (Try.prog.cellsOf 3)) = xs[0]? := hg 0 _ rfl
    rw [c3, List.getElem?_eq_getElem (show 0 < xs.length by rw [hxl]; decide)] at g0
    have g1 : DataW.trod enc Try.prog W 0 (fun _ => true) true n 3 (([z0, z1, z2, z3, z4].drop 1).take (Try.prog.cellsOf 3)) = xs[1]? := hg 1 _ rfl
    rw [c3, List.getElem?_eq_getElem (show 1 < xs.length by rw [hxl]; decide)] at g1
    have g2 : DataW.trod enc Try.prog W 0 (fun _ => true) true n 3 (([z0, z1, z2, z3, z4].drop 2).take (Try.prog.cellsOf 3)) = xs[2]? := hg 2 _ rfl
    rw [c3, List.getElem?_eq_getElem (show 2 < xs.length by rw [hxl]; decide)] at g2
    have g3 : DataW.trod enc Try.prog W 0 (fun _ => true) true n 3 (([z0, z1, z2, z3, z4].drop 3).take (Try.prog.cellsOf 3)) = xs[3]? := hg 3 _ rfl
    rw [c3, List.getElem?_eq_getElem (show 3 < xs.length by rw [hxl]; decide)] at g3
    have g4 : DataW.trod enc Try.prog W 0 (fun _ => true) true n 22 (([z0, z1, z2, z3, z4].drop 4).take (Try.prog.cellsOf 22)) = xs[4]? := hg 4 _ rfl
    rw [c22, List.getElem?_eq_getElem (show 4 < xs.length by rw [hxl]; decide)] at g4
    obtain ⟨a0, e0, -, w0⟩ := DataW.trod_int (cs := [z0]) Try.underlying3 g0
    simp only [List.cons.injEq, and_true] at e0
    subst e0
    clear g0
    obtain ⟨a1, e1, -, w1⟩ := DataW.trod_int (cs := [z1]) Try.underlying3 g1
    simp only [List.cons.injEq, and_true] at e1
    subst e1
    clear g1
    obtain ⟨a2, e2, -, w2⟩ := DataW.trod_int (cs := [z2]) Try.underlying3 g2
    simp only [List.cons.injEq, and_true] at e2
    subst e2
    clear g2
    obtain ⟨a3, e3, -, w3⟩ := DataW.trod_int (cs := [z3]) Try.underlying3 g3
    simp only [List.cons.injEq, and_true] at e3
    subst e3
    clear g3
    obtain ⟨a4, e4, -, w4⟩ := DataW.trod_int (cs := [z4]) Try.underlying22 g4
    simp only [List.cons.injEq, and_true] at e4
    subst e4
    clear g4
    exact ⟨a0, a1, a2, a3, a4, rfl, w0, w1, w2, w3, w4⟩

theorem open_T28 {H : Type} {enc : TypeId × Value → H} {W : World} {fuel : Nat} {cs : List Value} {x : DataW H × List MemPlace} (h : DataW.trod enc Try.prog W 0 (fun _ => true) true fuel 28 cs = some x) :
    ∃ (a0 : Int) (a1 : Int) (a2 : Bool), cs = [.int .i64 a0, .int .i64 a1, .bool a2] ∧ (Lit.int .i64 a0).wf = true ∧ (Lit.int .i64 a1).wf = true := by
  obtain ⟨xs, n, -, -, hl, hxl, hg⟩ := DataW.trod_struct Try.underlying28 h
  have hl' : cs.length = 3 := hl.trans (by kernel_rfl)
  have c3 : Try.prog.cellsOf 3 = 1 := by kernel_rfl
  have c4 : Try.prog.cellsOf 4 = 1 := by kernel_rfl
  clear hl h
  match cs, hl' with
  | [z0, z1, z2], _ =>
    have g0 : DataW.trod enc Try.prog W 0 (fun _ => true) true n 3 (([z0, z1, z2].drop 0).take (Try.prog.cellsOf 3)) = xs[0]? := hg 0 _ rfl
    rw [c3, List.getElem?_eq_getElem (show 0 < xs.length by rw [hxl]; decide)] at g0
    have g1 : DataW.trod enc Try.prog W 0 (fun _ => true) true n 3 (([z0, z1, z2].drop 1).take (Try.prog.cellsOf 3)) = xs[1]? := hg 1 _ rfl
    rw [c3, List.getElem?_eq_getElem (show 1 < xs.length by rw [hxl]; decide)] at g1
    have g2 : DataW.trod enc Try.prog W 0 (fun _ => true) true n 4 (([z0, z1, z2].drop 2).take (Try.prog.cellsOf 4)) = xs[2]? := hg 2 _ rfl
    rw [c4, List.getElem?_eq_getElem (show 2 < xs.length by rw [hxl]; decide)] at g2
    obtain ⟨a0, e0, -, w0⟩ := DataW.trod_int (cs := [z0]) Try.underlying3 g0
    simp only [List.cons.injEq, and_true] at e0
    subst e0
    clear g0
    obtain ⟨a1, e1, -, w1⟩ := DataW.trod_int (cs := [z1]) Try.underlying3 g1
    simp only [List.cons.injEq, and_true] at e1
    subst e1
    clear g1
    obtain ⟨a2, e2, -⟩ := DataW.trod_bool (cs := [z2]) Try.underlying4 g2
    simp only [List.cons.injEq, and_true] at e2
    subst e2
    clear g2
    exact ⟨a0, a1, a2, rfl, w0, w1⟩

open Fx

theorem first_right {a b p n X Y h : Int} (hr : rt a b p n = true) (hX : 0 ≤ X ∧ X < a * 1024) (hY : 0 ≤ Y ∧ Y < b * 1024) (h1 : 1 ≤ h ∧ h ≤ 100) : erightB a b p n ⟨1, 1, X, Y, 0, 0, h, 0, 0⟩ = true := by
  obtain ⟨-, -, -, -, r5, -⟩ := rt_bd hr
  unfold erightB
  rw [Bool.and_eq_true]
  refine ⟨(ins_iff hr).2 ⟨hX.1, hX.2, hY.1, hY.2⟩, ?_⟩
  unfold eok
  simp only [wi, if_true, Bool.and_eq_true, decide_eq_true_eq]
  exact ⟨⟨by decide, r5⟩, by decide, by decide, h1, by decide, trivial⟩


/-- The shot when it has gone k frames. -/
def shotAt (X Y vx vy : Int) (k : Nat) : Ent := ⟨1000, 2, X + k * vx, Y + k * vy, vx, vy, 1, k, 1⟩

theorem shot_first {a b p n X Y : Int} (hr : rt a b p n = true) (hX : 0 ≤ X ∧ X < a * 1024) (hY : 0 ≤ Y ∧ Y < b * 1024) (dx dy : Int) :
    shootE ⟨1, 1, X, Y, 0, 0, 5, 0, 0⟩ dx dy 1000 = shotAt X Y (shootE ⟨1, 1, X, Y, 0, 0, 5, 0, 0⟩ dx dy 1000).vx (shootE ⟨1, 1, X, Y, 0, 0, 5, 0, 0⟩ dx dy 1000).vy 0 ∧ erightB a b p n (shootE ⟨1, 1, X, Y, 0, 0, 5, 0, 0⟩ dx dy 1000) = true := by
  obtain ⟨-, -, -, -, r5, -⟩ := rt_bd hr
  refine ⟨by simp [shotAt, shootE], ?_⟩
  unfold erightB
  rw [Bool.and_eq_true]
  refine ⟨(ins_iff hr).2 ⟨hX.1, hX.2, hY.1, hY.2⟩, ?_⟩
  have h1 := sgn_bd dx
  have h2 := sgn_bd dy
  unfold shootE
  generalize sgn dx = u at *
  generalize sgn dy = v at *
  unfold eok
  simp only [wi, stp, show ¬ ((2 : Int) = 1) by omega, if_false, if_true, Bool.and_eq_true, decide_eq_true_eq]
  refine ⟨by decide, ?_, by omega, ?_, trivial, by decide, by omega⟩
  · split <;> omega
  · split <;> omega

theorem shot_next {a b p n X Y vx vy : Int} {k : Nat} (hr : rt a b p n = true) (h : erightB a b p n (shotAt X Y vx vy k) = true) :
    (goB a b p n (shotAt X Y vx vy k) = false ∧ goE a b p n (shotAt X Y vx vy k) = nobody) ∨ (goB a b p n (shotAt X Y vx vy k) = true ∧ k + 1 ≤ 12 ∧ goE a b p n (shotAt X Y vx vy k) = shotAt X Y vx vy (k + 1) ∧ erightB a b p n (shotAt X Y vx vy (k + 1)) = true) := by
  cases hb : goB a b p n (shotAt X Y vx vy k)
  · exact .inl ⟨rfl, by unfold goE; rw [hb]; rfl⟩
  · refine .inr ⟨rfl, ?_⟩
    obtain ⟨-, h2⟩ := goB_right hb
    have hg := go_right hr hb
    have he : goE a b p n (shotAt X Y vx vy k) = shotAt X Y vx vy (k + 1) := by
      unfold goE
      rw [hb, if_pos rfl, if_neg (by simp [shotAt]), if_pos (show (shotAt X Y vx vy k).kind = 2 from rfl)]
      simp only [shotAt, Ent.mk.injEq, true_and, and_true]
      push_cast
      exact ⟨by rw [Int.add_mul]; omega, by rw [Int.add_mul]; omega, rfl⟩
    have h3 := (h2 rfl).1
    simp only [shotAt] at h3
    exact ⟨by omega, he, by rw [← he]; exact hg⟩

theorem shot_bd {a b p n X Y vx vy : Int} {k : Nat} (h : erightB a b p n (shotAt X Y vx vy k) = true) : k ≤ 12 ∧ (-160 ≤ vx ∧ vx ≤ 160) ∧ (-160 ≤ vy ∧ vy ≤ 160) := by
  obtain ⟨-, -, -, h1, h2, h3⟩ := right_bds h
  simp only [shotAt] at h1 h2 h3
  exact ⟨by omega, h1, h2⟩

/-- How old a player is who has always fired, for k frames. -/
def ageAt (k : Nat) : Int := ((7 - k % 7) % 7 : Nat)

def shotsAt (k : Nat) : Int := ((k + 6) / 7 : Nat)

theorem age_next (x0 y0 X Y VX VY dx dy : Int) (k : Nat) (hi : irt dx dy = true) :
    steerE ⟨x0, 1, X, Y, VX, VY, y0, ageAt k, 0⟩ dx dy true = ⟨x0, 1, X, Y, dx * 32, dy * 32, y0, ageAt (k + 1), 0⟩ ∧ shotsAt (k + 1) = shotsAt k + (if steerB ⟨x0, 1, X, Y, VX, VY, y0, ageAt k, 0⟩ dx dy true = true then 1 else 0) := by
  unfold steerE steerB ageAt shotsAt
  simp only [hi, and_self, if_true, true_and, Ent.mk.injEq, decide_eq_true_eq]
  have h7 : k % 7 < 7 := Nat.mod_lt _ (by omega)
  have e1 : (k + 1) % 7 = (k % 7 + 1) % 7 := by omega
  have e2 : k = 7 * (k / 7) + k % 7 := by omega
  constructor
  · refine ⟨?_, trivial⟩
    rw [e1]
    generalize k % 7 = m at *
    split <;> omega
  · split <;> omega

theorem mul_bd13 {m v : Int} (h0 : 0 ≤ m) (h1 : m ≤ 13) (h2 : -160 ≤ v ∧ v ≤ 160) : -2080 ≤ m * v ∧ m * v ≤ 2080 := by
  have e1 := Int.mul_le_mul_of_nonneg_left h2.1 h0
  have e2 := Int.mul_le_mul_of_nonneg_left h2.2 h0
  omega

set_option maxRecDepth 100000 in
set_option maxHeartbeats 8000000 in
theorem walk (a0 : Fx.Cfg) (a1 : Int) (a2 : Int) (a3 : Fx.Inp) (w : World) (w0 : Fx.Cfg.ok a0) (w1 : (Lit.int .i64 a1).wf = true) (w2 : (Lit.int .i64 a2).wf = true) (w3 : Fx.Inp.ok a3) :
    Calls Try.prog 5 #[.agg #[.int .i64 a0.cols, .int .i64 a0.rows, .int .i64 a0.players, .int .i64 a0.window, .int .u64 a0.seed], .int .i64 a1, .int .i64 a2, .agg #[.int .i64 a3.dx, .int .i64 a3.dy, .bool a3.fire]] w fun e w' => e = .returned (.bool true) ∧ Below w.heap.size w w' := by
  have b1 := bounds_i64 w1
  have b2 := bounds_i64 w2
  clear w0 w1 w2 w3
  have HA := Lib.hid awake_mv
  go_enter Try.func5, Try.ntmps5
  go_upto_region 1 with fail
  generalize hW : World.alloc (World.alloc w _) _ = W0
  have Bc := Lib.hid (show CfgBox W0 w.heap.size a0 from by rw [← hW]; exact CfgBox.n2a _ _ _ _ rfl)
  have Bi := Lib.hid (show InpBox W0 (w.heap.size + 1) a3 from by rw [← hW]; exact InpBox.n2b _ _ _ _ rfl)
  have HB := Lib.hid (show Below w.heap.size w W0 from by rw [← hW]; exact ((Below.refl _ _).alloc (Nat.le_refl _) _).alloc (by simp) _)
  clear hW
  have c0 := Bc.out.c0
  have c1 := Bc.out.c1
  have c2 := Bc.out.c2
  have c3 := Bc.out.c3
  have c4 := Bc.out.c4
  go_wp2_with fail
  refine (config_any _ _ _ _ _ _).mono ?_
  rintro e v' ⟨a, b, p, n, rfl, hsm, hb⟩
  clear c0 c1 c2 c3 c4
  have Bn := Bc.out.nx hb
  obtain ⟨n0, n1, n2, n3, n4, m0, m1, m2, m3, m4⟩ := Bn
  go_upto_region 2 with fail
  clear n0 m0 n1 m1 n2 m2 n3 m3 n4 m4
  generalize hW : World.setCell _ _ _ = W1
  have hO := CfgBox.off (⟨a, b, p, n, a0.seed⟩) hW
  replace Bi := Lib.hid (Bi.out.nxf hb hO (by omega))
  replace Bc := Lib.hid (Bc.out.nxs hb (⟨a, b, p, n, a0.seed⟩) hW)
  replace HB := Lib.hid (CfgBox.bel (nextW HB.out hb) (⟨a, b, p, n, a0.seed⟩) (Nat.le_refl _) hW)
  clear hW hb hO v'
  have Hrt := Lib.hid hsm.1
  have HN := Lib.hid (fun w => new_yes a b p n a0.seed w hsm.1)
  obtain ⟨r1, r2, r3, r4, r5, -⟩ := rt_bd hsm.1
  clear hsm
  have c0 := Bc.out.c0
  have c1 := Bc.out.c1
  have c2 := Bc.out.c2
  have c3 := Bc.out.c3
  have c4 := Bc.out.c4
  go_wp2_with fail
  refine (HN.out _).mono ?_
  rintro e v' ⟨rfl, hb⟩
  clear c0 c1 c2 c3 c4
  go_upto_region 3 with fail
  have lgc := (Bc.out.nx hb).has
  have lgi := (Bi.out.nx hb).has
  generalize hW : World.alloc _ _ = W2
  replace Bc := Lib.hid (Bc.out.nxa hb hW)
  replace Bi := Lib.hid (Bi.out.nxa hb hW)
  have Bg := Lib.hid (CfgBox.nb hW (⟨a, b, p, n, a0.seed⟩) rfl)
  generalize v'.heap.size = bg at *
  replace HB := Lib.hid (below_nxa HB.out hb hW)
  clear hW hb v'
  clear HN
  go_wp2_with fail
  refine (HA.out _).mono ?_
  rintro e W3 ⟨rfl, hb⟩
  go_upto_region 5 with fail
  replace Bc := Lib.hid (Bc.out.nx hb)
  replace Bi := Lib.hid (Bi.out.nx hb)
  replace Bg := Lib.hid (Bg.out.nx hb)
  replace HB := Lib.hid (nextW HB.out hb)
  clear hb
  clear HA Bc
  have i0 := Bi.out.c0
  have i1 := Bi.out.c1
  have i2 := Bi.out.c2
  go_wp2_with fail
  refine (pinput_any _ _ _ _).mono ?_
  rintro e v' ⟨x1, y1, rfl, hi, hb⟩
  clear i0 i1 i2
  have Bn := Bi.out.nx hb
  obtain ⟨n0, n1, n2, m0, m1, m2⟩ := Bn
  go_upto_region 6 with fail
  clear n0 m0 n1 m1 n2 m2
  generalize hW : World.setCell _ _ _ = W4
  have hO := InpBox.off (⟨x1, y1, a3.fire⟩) hW
  replace Bg := Lib.hid (Bg.out.nxf hb hO (by omega))
  replace Bi := Lib.hid (Bi.out.nxs hb (⟨x1, y1, a3.fire⟩) hW)
  replace HB := Lib.hid (InpBox.bel (nextW HB.out hb) (⟨x1, y1, a3.fire⟩) (Nat.le_succ _) hW)
  clear hW hb hO v'
  have HW := Lib.hid (fun w => width_any a b p n a0.seed w)
  have HH := Lib.hid (fun w => height_any a b p n a0.seed w)
  have hwi : wid a b p n = a * 1024 := by unfold wid; rw [if_pos Hrt.out]
  have hhe : hei a b p n = b * 1024 := by unfold hei; rw [if_pos Hrt.out]
  rw [hwi] at HW
  rw [hhe] at HH
  clear hwi hhe
  obtain ⟨X, hX, eX⟩ : ∃ X : Int, (0 ≤ X ∧ X < a * 1024) ∧ IntKind.i64.wrap ((IntKind.u64.wrap a1).tmod (a * 1024)) = X := ⟨_, (umodR a1 (a * 1024) (by omega) (by omega)).2, rfl⟩
  obtain ⟨Y, hY, eY⟩ : ∃ Y : Int, (0 ≤ Y ∧ Y < b * 1024) ∧ IntKind.i64.wrap ((IntKind.u64.wrap a2).tmod (b * 1024)) = Y := ⟨_, (umodR a2 (b * 1024) (by omega) (by omega)).2, rfl⟩
  have z1 : ¬ a * 1024 = 0 := by omega
  have z2 : ¬ b * 1024 = 0 := by omega
  have u1 : IntKind.u64.wrap (a * 1024) = a * 1024 := by rw [IntKind.wrap_u64]; omega
  have u2 : IntKind.u64.wrap (b * 1024) = b * 1024 := by rw [IntKind.wrap_u64]; omega
  have zi := Bi.out.has
  have zg := Bg.out.has
  go_cut [11] (fun s11 wx => ∃ blk X Y, s11 = .pointer (some ⟨blk, 0, none⟩) ∧ (0 ≤ X ∧ X < a * 1024) ∧ (0 ≤ Y ∧ Y < b * 1024) ∧ W4.heap.size ≤ blk ∧ EntBox wx blk ⟨1, 1, X, Y, 0, 0, 5, 0, 0⟩ ∧ Below W4.heap.size W4 wx)
  case first =>
    have g0 := Bg.out.c0
    have g1 := Bg.out.c1
    have g2 := Bg.out.c2
    have g3 := Bg.out.c3
    have g4 := Bg.out.c4
    refine tree_region (S := (fun w' => (∀ b o, b < (W4).heap.size → w'.cell? ⟨b, o, none⟩ = (W4).cell? ⟨b, o, none⟩) ∧ (∀ b o, b < (W4).heap.size → w'.frozen? ⟨b, o, none⟩ = (W4).frozen? ⟨b, o, none⟩) ∧ Below (W4).heap.size (W4) w')) (.free 0 (.free 1 (.free 2 (.free 7 (.free 8 (.free 9 (.two 3 (.free 4 (.free 5 (.free 6 (.two 10 (.free 11 (.free 12 (.free 13 (.free 14 (.one 15 (.one 16 .done)))))) 15 (.one 10 (.free 11 (.free 12 (.free 13 (.free 14 (.one 16 .done)))))))))) 15 (.one 3 (.free 4 (.free 5 (.free 6 (.one 10 (.free 11 (.free 12 (.free 13 (.free 14 (.one 16 .done))))))))))))))))) (by kernel_rfl) (by kernel_rfl) (fun _ _ d _ _ h => by cases d <;> exact h) (keepW0 _) (fun hS => ?_)
    simp only [written, List.getElem?_cons_succ, List.getElem?_cons_zero]
    refine rw_free (v := ?_) (by rfl) ?_ ?_
    rotate_left 1
    focus (intro w hSw; (try dsimp only at hSw); go_simp; (try with_reducible rfl))
    (try simp only [Act.put, List.setIfInBounds_toArray, List.set_cons_zero, List.set_cons_succ])
    refine rw_free (v := ?_) (by rfl) ?_ ?_
    rotate_left 1
    focus (intro w hSw; (try dsimp only at hSw); go_simp; (try with_reducible rfl))
    (try simp only [Act.put, List.setIfInBounds_toArray, List.set_cons_zero, List.set_cons_succ])
    refine rw_free (v := ?_) (by rfl) ?_ ?_
    rotate_left 1
    focus (intro w hSw; (try dsimp only at hSw); go_simp; (try with_reducible rfl))
    (try simp only [Act.put, List.setIfInBounds_toArray, List.set_cons_zero, List.set_cons_succ])
    refine rw_free (v := ?_) (by rfl) ?_ ?_
    rotate_left 1
    focus (intro w hSw; (try dsimp only at hSw); go_simp; (try with_reducible rfl))
    (try simp only [Act.put, List.setIfInBounds_toArray, List.set_cons_zero, List.set_cons_succ])
    refine rw_free (v := ?_) (by rfl) ?_ ?_
    rotate_left 1
    focus (intro w hSw; (try dsimp only at hSw); go_simp; (try with_reducible rfl))
    (try simp only [Act.put, List.setIfInBounds_toArray, List.set_cons_zero, List.set_cons_succ])
    refine rw_free (v := ?_) (by rfl) ?_ ?_
    rotate_left 1
    focus (intro w hSw; (try dsimp only at hSw); go_simp; (try with_reducible rfl))
    (try simp only [Act.put, List.setIfInBounds_toArray, List.set_cons_zero, List.set_cons_succ])
    refine rw_two ?_ ?_
    · skip
      refine rw_call (by rfl) (fun K hK => ?_)
      go_simp
      (refine (HW.out _).mono ?_; rintro e v1 ⟨rfl, hb1⟩)
      (try go_wp2_with fail)
      refine hK.out _ _ ?_ (fun hS' => ?_)
      · (try dsimp only); first | exact keepW (by assumption) (by assumption) | exact keepB (by assumption) (by assumption) | exact keepA (by assumption) | assumption
      clear hS hK K
      have hS := hS'
      clear hS'
      (try simp only [Act.put, List.setIfInBounds_toArray, List.set_cons_zero, List.set_cons_succ])
      refine rw_free (v := ?_) (by rfl) ?_ ?_
      rotate_left 1
      focus (intro w hSw; (try dsimp only at hSw); go_simp; (try with_reducible rfl))
      (try simp only [Act.put, List.setIfInBounds_toArray, List.set_cons_zero, List.set_cons_succ])
      refine rw_free (v := ?_) (by rfl) ?_ ?_
      rotate_left 1
      focus (intro w hSw; (try dsimp only at hSw); go_simp; (try with_reducible rfl))
      (try simp only [Act.put, List.setIfInBounds_toArray, List.set_cons_zero, List.set_cons_succ])
      refine rw_free (v := ?_) (by rfl) ?_ ?_
      rotate_left 1
      focus (intro w hSw; (try dsimp only at hSw); go_simp; (try with_reducible rfl))
      (try simp only [Act.put, List.setIfInBounds_toArray, List.set_cons_zero, List.set_cons_succ])
      refine rw_two ?_ ?_
      · skip
        refine rw_call (by rfl) (fun K hK => ?_)
        go_simp
        (refine (HH.out _).mono ?_; rintro e v2 ⟨rfl, hb2⟩)
        (try go_wp2_with fail)
        refine hK.out _ _ ?_ (fun hS' => ?_)
        · (try dsimp only); first | exact keepW (by assumption) (by assumption) | exact keepB (by assumption) (by assumption) | exact keepA (by assumption) | assumption
        clear hS hK K
        have hS := hS'
        clear hS'
        (try simp only [Act.put, List.setIfInBounds_toArray, List.set_cons_zero, List.set_cons_succ])
        refine rw_free (v := ?_) (by rfl) ?_ ?_
        rotate_left 1
        focus (intro w hSw; (try dsimp only at hSw); go_simp; (try with_reducible rfl))
        (try simp only [Act.put, List.setIfInBounds_toArray, List.set_cons_zero, List.set_cons_succ])
        refine rw_free (v := ?_) (by rfl) ?_ ?_
        rotate_left 1
        focus (intro w hSw; (try dsimp only at hSw); go_simp; (try with_reducible rfl))
        (try simp only [Act.put, List.setIfInBounds_toArray, List.set_cons_zero, List.set_cons_succ])
        refine rw_free (v := ?_) (by rfl) ?_ ?_
        rotate_left 1
        focus (intro w hSw; (try dsimp only at hSw); go_simp; (try with_reducible rfl))
        (try simp only [Act.put, List.setIfInBounds_toArray, List.set_cons_zero, List.set_cons_succ])
        refine rw_free (v := ?_) (by rfl) ?_ ?_
        rotate_left 1
        focus (intro w hSw; (try dsimp only at hSw); go_simp; (try with_reducible rfl))
        (try simp only [Act.put, List.setIfInBounds_toArray, List.set_cons_zero, List.set_cons_succ])
        refine rw_call (by rfl) (fun K hK => ?_)
        go_simp
        (skip)
        (try go_wp2_with fail)
        refine hK.out _ _ ?_ (fun hS' => ?_)
        · (try dsimp only); first | exact keepW (by assumption) (by assumption) | exact keepB (by assumption) (by assumption) | exact keepA (by assumption) | assumption
        clear hS hK K
        have hS := hS'
        clear hS'
        (try simp only [Act.put, List.setIfInBounds_toArray, List.set_cons_zero, List.set_cons_succ])
        first | (with_reducible have hs := ((zbox _ _).drew.nx hb1).nx hb2; have Hs := Lib.hid hs; obtain ⟨n0, n1, n2, n3, n4, n5, n6, n7, n8, m0, m1, m2, m3, m4, m5, m6, m7, m8⟩ := hs) | (with_reducible have hs := ((zbox _ _).nx hb1).nx hb2; have Hs := Lib.hid hs; obtain ⟨n0, n1, n2, n3, n4, n5, n6, n7, n8, m0, m1, m2, m3, m4, m5, m6, m7, m8⟩ := hs) | (with_reducible have hs := (zbox _ _).nx hb2; have Hs := Lib.hid hs; obtain ⟨n0, n1, n2, n3, n4, n5, n6, n7, n8, m0, m1, m2, m3, m4, m5, m6, m7, m8⟩ := hs) | skip
        refine rw_call (by rfl) (fun K hK => ?_)
        go_simp
        (skip)
        (try go_wp2_with fail)
        refine hK.out _ _ ?_ (fun hS' => ?_)
        · (try dsimp only); first | (have _h := Hs.out; exact keepOf (EntBox.bel hS.2.2 (⟨1, 1, X, Y, 0, 0, 5, 0, 0⟩ : Ent) (by first | exact Nat.le_refl _ | exact (nextW (Below.refl _ _).drew hb1).size) rfl)) | exact keepOf (below_nxa (nextW (Below.refl _ _).drew hb1) hb2 rfl)
        clear hS hK K
        have hS := hS'
        clear hS'
        (try simp only [Act.put, List.setIfInBounds_toArray, List.set_cons_zero, List.set_cons_succ])
        refine rw_done ?_
        (try clear n0 n1 n2 n3 n4 n5 n6 n7 n8 m0 m1 m2 m3 m4 m5 m6 m7 m8)
        go_wp2_with fail
        go_meet
        exact ⟨_, X, Y, rfl, hX, hY, (by first | exact Nat.le_refl _ | exact (nextW (Below.refl _ _).drew hb1).size | exact (nextW (nextW (Below.refl _ _).drew hb1) hb2).size), (by first | (have _h := Hs.out; exact _h.put (⟨1, 1, X, Y, 0, 0, 5, 0, 0⟩ : Ent)) | exact EntBox.n1 _ _ _ rfl | exact (EntBox.n1 _ _ _ rfl).drew), hS.2.2⟩
      · skip
        refine rw_call (by rfl) (fun K hK => ?_)
        go_simp
        (skip)
        (try go_wp2_with fail)
        refine hK.out _ _ ?_ (fun hS' => ?_)
        · (try dsimp only); first | exact keepW (by assumption) (by assumption) | exact keepB (by assumption) (by assumption) | exact keepA (by assumption) | assumption
        clear hS hK K
        have hS := hS'
        clear hS'
        (try simp only [Act.put, List.setIfInBounds_toArray, List.set_cons_zero, List.set_cons_succ])
        refine rw_call (by rfl) (fun K hK => ?_)
        go_simp
        (refine (HH.out _).mono ?_; rintro e v2 ⟨rfl, hb2⟩)
        (try go_wp2_with fail)
        refine hK.out _ _ ?_ (fun hS' => ?_)
        · (try dsimp only); first | exact keepW (by assumption) (by assumption) | exact keepB (by assumption) (by assumption) | exact keepA (by assumption) | assumption
        clear hS hK K
        have hS := hS'
        clear hS'
        (try simp only [Act.put, List.setIfInBounds_toArray, List.set_cons_zero, List.set_cons_succ])
        refine rw_free (v := ?_) (by rfl) ?_ ?_
        rotate_left 1
        focus (intro w hSw; (try dsimp only at hSw); go_simp; (try with_reducible rfl))
        (try simp only [Act.put, List.setIfInBounds_toArray, List.set_cons_zero, List.set_cons_succ])
        refine rw_free (v := ?_) (by rfl) ?_ ?_
        rotate_left 1
        focus (intro w hSw; (try dsimp only at hSw); go_simp; (try with_reducible rfl))
        (try simp only [Act.put, List.setIfInBounds_toArray, List.set_cons_zero, List.set_cons_succ])
        refine rw_free (v := ?_) (by rfl) ?_ ?_
        rotate_left 1
        focus (intro w hSw; (try dsimp only at hSw); go_simp; (try with_reducible rfl))
        (try simp only [Act.put, List.setIfInBounds_toArray, List.set_cons_zero, List.set_cons_succ])
        refine rw_free (v := ?_) (by rfl) ?_ ?_
        rotate_left 1
        focus (intro w hSw; (try dsimp only at hSw); go_simp; (try with_reducible rfl))
        (try simp only [Act.put, List.setIfInBounds_toArray, List.set_cons_zero, List.set_cons_succ])
        first | (with_reducible have hs := ((zbox _ _).drew.nx hb1).nx hb2; have Hs := Lib.hid hs; obtain ⟨n0, n1, n2, n3, n4, n5, n6, n7, n8, m0, m1, m2, m3, m4, m5, m6, m7, m8⟩ := hs) | (with_reducible have hs := ((zbox _ _).nx hb1).nx hb2; have Hs := Lib.hid hs; obtain ⟨n0, n1, n2, n3, n4, n5, n6, n7, n8, m0, m1, m2, m3, m4, m5, m6, m7, m8⟩ := hs) | (with_reducible have hs := (zbox _ _).nx hb2; have Hs := Lib.hid hs; obtain ⟨n0, n1, n2, n3, n4, n5, n6, n7, n8, m0, m1, m2, m3, m4, m5, m6, m7, m8⟩ := hs) | skip
        refine rw_call (by rfl) (fun K hK => ?_)
        go_simp
        (skip)
        (try go_wp2_with fail)
        refine hK.out _ _ ?_ (fun hS' => ?_)
        · (try dsimp only); first | (have _h := Hs.out; exact keepOf (EntBox.bel hS.2.2 (⟨1, 1, X, Y, 0, 0, 5, 0, 0⟩ : Ent) (by first | exact Nat.le_refl _ | exact (nextW (Below.refl _ _).drew hb1).size) rfl)) | exact keepOf (below_nxa (nextW (Below.refl _ _).drew hb1) hb2 rfl)
        clear hS hK K
        have hS := hS'
        clear hS'
        (try simp only [Act.put, List.setIfInBounds_toArray, List.set_cons_zero, List.set_cons_succ])
        refine rw_done ?_
        (try clear n0 n1 n2 n3 n4 n5 n6 n7 n8 m0 m1 m2 m3 m4 m5 m6 m7 m8)
        go_wp2_with fail
        go_meet
        exact ⟨_, X, Y, rfl, hX, hY, (by first | exact Nat.le_refl _ | exact (nextW (Below.refl _ _).drew hb1).size | exact (nextW (nextW (Below.refl _ _).drew hb1) hb2).size), (by first | (have _h := Hs.out; exact _h.put (⟨1, 1, X, Y, 0, 0, 5, 0, 0⟩ : Ent)) | exact EntBox.n1 _ _ _ rfl | exact (EntBox.n1 _ _ _ rfl).drew), hS.2.2⟩
    · skip
      refine rw_call (by rfl) (fun K hK => ?_)
      go_simp
      (skip)
      (try go_wp2_with fail)
      refine hK.out _ _ ?_ (fun hS' => ?_)
      · (try dsimp only); first | exact keepW (by assumption) (by assumption) | exact keepB (by assumption) (by assumption) | exact keepA (by assumption) | assumption
      clear hS hK K
      have hS := hS'
      clear hS'
      (try simp only [Act.put, List.setIfInBounds_toArray, List.set_cons_zero, List.set_cons_succ])
      refine rw_call (by rfl) (fun K hK => ?_)
      go_simp
      (refine (HW.out _).mono ?_; rintro e v1 ⟨rfl, hb1⟩)
      (try go_wp2_with fail)
      refine hK.out _ _ ?_ (fun hS' => ?_)
      · (try dsimp only); first | exact keepW (by assumption) (by assumption) | exact keepB (by assumption) (by assumption) | exact keepA (by assumption) | assumption
      clear hS hK K
      have hS := hS'
      clear hS'
      (try simp only [Act.put, List.setIfInBounds_toArray, List.set_cons_zero, List.set_cons_succ])
      refine rw_free (v := ?_) (by rfl) ?_ ?_
      rotate_left 1
      focus (intro w hSw; (try dsimp only at hSw); go_simp; (try with_reducible rfl))
      (try simp only [Act.put, List.setIfInBounds_toArray, List.set_cons_zero, List.set_cons_succ])
      refine rw_free (v := ?_) (by rfl) ?_ ?_
      rotate_left 1
      focus (intro w hSw; (try dsimp only at hSw); go_simp; (try with_reducible rfl))
      (try simp only [Act.put, List.setIfInBounds_toArray, List.set_cons_zero, List.set_cons_succ])
      refine rw_free (v := ?_) (by rfl) ?_ ?_
      rotate_left 1
      focus (intro w hSw; (try dsimp only at hSw); go_simp; (try with_reducible rfl))
      (try simp only [Act.put, List.setIfInBounds_toArray, List.set_cons_zero, List.set_cons_succ])
      refine rw_call (by rfl) (fun K hK => ?_)
      go_simp
      (refine (HH.out _).mono ?_; rintro e v2 ⟨rfl, hb2⟩)
      (try go_wp2_with fail)
      refine hK.out _ _ ?_ (fun hS' => ?_)
      · (try dsimp only); first | exact keepW (by assumption) (by assumption) | exact keepB (by assumption) (by assumption) | exact keepA (by assumption) | assumption
      clear hS hK K
      have hS := hS'
      clear hS'
      (try simp only [Act.put, List.setIfInBounds_toArray, List.set_cons_zero, List.set_cons_succ])
      refine rw_free (v := ?_) (by rfl) ?_ ?_
      rotate_left 1
      focus (intro w hSw; (try dsimp only at hSw); go_simp; (try with_reducible rfl))
      (try simp only [Act.put, List.setIfInBounds_toArray, List.set_cons_zero, List.set_cons_succ])
      refine rw_free (v := ?_) (by rfl) ?_ ?_
      rotate_left 1
      focus (intro w hSw; (try dsimp only at hSw); go_simp; (try with_reducible rfl))
      (try simp only [Act.put, List.setIfInBounds_toArray, List.set_cons_zero, List.set_cons_succ])
      refine rw_free (v := ?_) (by rfl) ?_ ?_
      rotate_left 1
      focus (intro w hSw; (try dsimp only at hSw); go_simp; (try with_reducible rfl))
      (try simp only [Act.put, List.setIfInBounds_toArray, List.set_cons_zero, List.set_cons_succ])
      refine rw_free (v := ?_) (by rfl) ?_ ?_
      rotate_left 1
      focus (intro w hSw; (try dsimp only at hSw); go_simp; (try with_reducible rfl))
      (try simp only [Act.put, List.setIfInBounds_toArray, List.set_cons_zero, List.set_cons_succ])
      first | (with_reducible have hs := ((zbox _ _).drew.nx hb1).nx hb2; have Hs := Lib.hid hs; obtain ⟨n0, n1, n2, n3, n4, n5, n6, n7, n8, m0, m1, m2, m3, m4, m5, m6, m7, m8⟩ := hs) | (with_reducible have hs := ((zbox _ _).nx hb1).nx hb2; have Hs := Lib.hid hs; obtain ⟨n0, n1, n2, n3, n4, n5, n6, n7, n8, m0, m1, m2, m3, m4, m5, m6, m7, m8⟩ := hs) | (with_reducible have hs := (zbox _ _).nx hb2; have Hs := Lib.hid hs; obtain ⟨n0, n1, n2, n3, n4, n5, n6, n7, n8, m0, m1, m2, m3, m4, m5, m6, m7, m8⟩ := hs) | skip
      refine rw_call (by rfl) (fun K hK => ?_)
      go_simp
      (skip)
      (try go_wp2_with fail)
      refine hK.out _ _ ?_ (fun hS' => ?_)
      · (try dsimp only); first | (have _h := Hs.out; exact keepOf (EntBox.bel hS.2.2 (⟨1, 1, X, Y, 0, 0, 5, 0, 0⟩ : Ent) (by first | exact Nat.le_refl _ | exact (nextW (Below.refl _ _).drew hb1).size) rfl)) | exact keepOf (below_nxa (nextW (Below.refl _ _).drew hb1) hb2 rfl)
      clear hS hK K
      have hS := hS'
      clear hS'
      (try simp only [Act.put, List.setIfInBounds_toArray, List.set_cons_zero, List.set_cons_succ])
      refine rw_done ?_
      (try clear n0 n1 n2 n3 n4 n5 n6 n7 n8 m0 m1 m2 m3 m4 m5 m6 m7 m8)
      go_wp2_with fail
      go_meet
      exact ⟨_, X, Y, rfl, hX, hY, (by first | exact Nat.le_refl _ | exact (nextW (Below.refl _ _).drew hb1).size | exact (nextW (nextW (Below.refl _ _).drew hb1) hb2).size), (by first | (have _h := Hs.out; exact _h.put (⟨1, 1, X, Y, 0, 0, 5, 0, 0⟩ : Ent)) | exact EntBox.n1 _ _ _ rfl | exact (EntBox.n1 _ _ _ rfl).drew), hS.2.2⟩
  case rest =>
    obtain ⟨be, X, Y, rfl, hX, hY, hbe, hs, hb⟩ := hcut
    have hle : w.heap.size ≤ be := Nat.le_trans HB.out.size hbe
    have Be := Lib.hid hs
    replace Bg := Lib.hid (Bg.out.nx hb)
    replace Bi := Lib.hid (Bi.out.nx hb)
    replace HB := Lib.hid (nextW HB.out hb)
    have hge : bg < be := by omega
    have hie : w.heap.size + 1 < be := by omega
    clear hs hb zg zi u1 u2 z1 z2 hbe eX eY HW HH
    obtain ⟨f1, f2⟩ := shot_first Hrt.out hX hY x1 y1
    have HSh := Lib.hid (fun w => shoot_any ⟨1, 1, X, Y, 0, 0, 5, 0, 0⟩ x1 y1 a3.fire 1000 w)
    rw [f1] at f2
    generalize (shootE ⟨1, 1, X, Y, 0, 0, 5, 0, 0⟩ x1 y1 1000).vx = vx at f1 f2
    generalize (shootE ⟨1, 1, X, Y, 0, 0, 5, 0, 0⟩ x1 y1 1000).vy = vy at f1 f2
    rw [f1] at HSh
    have HF := Lib.hid f2
    clear f1 f2
    dsimp only at HSh
    have e0 := Be.out.c0
    have e1 := Be.out.c1
    have e2 := Be.out.c2
    have e3 := Be.out.c3
    have e4 := Be.out.c4
    have e5 := Be.out.c5
    have e6 := Be.out.c6
    have e7 := Be.out.c7
    have e8 := Be.out.c8
    have i0 := Bi.out.c0
    have i1 := Bi.out.c1
    have i2 := Bi.out.c2
    go_wp2_with fail
    refine (HSh.out _).mono ?_
    rintro e v' ⟨rfl, hb⟩
    clear e0 e1 e2 e3 e4 e5 e6 e7 e8 i0 i1 i2
    go_upto_region 8 with fail
    have lse := (Be.out.nx hb).has
    have lsg := (Bg.out.nx hb).has
    have lsi := (Bi.out.nx hb).has
    generalize hW : World.alloc _ _ = W5
    replace Be := Lib.hid (Be.out.nxa hb hW)
    replace Bg := Lib.hid (Bg.out.nxa hb hW)
    replace Bi := Lib.hid (Bi.out.nxa hb hW)
    have Bs := Lib.hid (EntBox.nb hW ((shotAt X Y vx vy 0)) rfl)
    generalize v'.heap.size = bs at *
    replace HB := Lib.hid (below_nxa HB.out hb hW)
    clear hW hb v'
    clear HSh
    have s4 : W5.cell? ⟨bs, 4, none⟩ = some (.int .i64 vx) := Bs.out.c4
    have s5 : W5.cell? ⟨bs, 5, none⟩ = some (.int .i64 vy) := Bs.out.c5
    go_upto_region 9 with fail
    go_region
    go_wp2_with fail
    clear s4 s5
    go_loopw [13, 14] (fun s13 s14 wr => ∃ (k : Nat) (i : Bool) (S : Ent), s13 = .int .i64 k ∧ s14 = .bool i ∧ k ≤ 13 ∧ (i = true → S = shotAt X Y vx vy k ∧ erightB a b p n S = true) ∧ EntBox wr bs S ∧ EntBox wr be ⟨1, 1, X, Y, 0, 0, 5, 0, 0⟩ ∧ InpBox wr (w.heap.size + 1) ⟨x1, y1, a3.fire⟩ ∧ CfgBox wr bg ⟨a, b, p, n, a0.seed⟩ ∧ Below w.heap.size w wr) (fun i _ _ => 50 - (intOf i).toNat)
    case atStart => exact ⟨0, true, _, rfl, rfl, by omega, fun _ => ⟨rfl, HF.out⟩, Bs.out.drew, Be.out.drew, Bi.out.drew, Bg.out.drew, HB.out.drew⟩
    case round =>
      clear Bs Be Bi Bg HB HF
      obtain ⟨k, i, S, rfl, rfl, hk, hS, h1, h2, h3, h4, h5⟩ := hrel
      have Bs := Lib.hid h1
      have Be := Lib.hid h2
      have Bi := Lib.hid h3
      have Bg := Lib.hid h4
      have HB := Lib.hid h5
      clear h1 h2 h3 h4 h5
      cases i
      · clear hS
        have i0 := Bi.out.c0
        have i1 := Bi.out.c1
        have i2 := Bi.out.c2
        have fi0 := Bi.out.f0
        have fi1 := Bi.out.f1
        have fi2 := Bi.out.f2
        go_upto_region 16 with fail
        generalize hW : World.setCell _ _ _ = W6
        have hO : Off (w.heap.size + 1) wr W6 := by rw [← hW]; exact (Off.refl _ _).set _ _
        replace Be := Lib.hid (Be.out.nf hO (by omega))
        clear hO
        replace Bi := Lib.hid (show InpBox W6 (w.heap.size + 1) ⟨x1, y1, true⟩ from by rw [← hW]; exact Bi.out.set2 true)
        replace HB := Lib.hid (show Below w.heap.size w W6 from by rw [← hW]; exact bset HB.out (by omega))
        clear hW i0 i1 i2 fi0 fi1 fi2 Bs Bg
        have hk13 : decide ((k : Int) ≤ 13) = true := decide_eq_true (by omega)
        go_wp2_with fail
        go_loopw [17, 18] (fun s17 s18 wr => ∃ (q : Nat) (VX VY : Int), s17 = .int .i64 (shotsAt q) ∧ s18 = .int .i64 q ∧ q ≤ 19 ∧ EntBox wr be ⟨1, 1, X, Y, VX, VY, 5, ageAt q, 0⟩ ∧ InpBox wr (w.heap.size + 1) ⟨x1, y1, true⟩ ∧ Below w.heap.size w wr) (fun _ i _ => 19 - (intOf i).toNat)
        case atStart => exact ⟨0, 0, 0, rfl, rfl, by omega, Be.out, Bi.out, HB.out⟩
        case round =>
          clear Be Bi HB
          obtain ⟨q, VX, VY, rfl, rfl, hq, h1, h2, h3⟩ := hrel
          have Be := Lib.hid h1
          have Bi := Lib.hid h2
          have HB := Lib.hid h3
          clear h1 h2 h3
          by_cases hlt : q < 19
          · have hd : decide ((q : Int) < 19) = true := decide_eq_true (by omega)
            obtain ⟨e1, e2⟩ := age_next 1 5 X Y VX VY x1 y1 q hi
            have HS := Lib.hid (fun w => steer_any ⟨1, 1, X, Y, VX, VY, 5, ageAt q, 0⟩ x1 y1 true w (by simp only [ageAt]; omega))
            rw [e1] at HS
            have HQ := Lib.hid e2
            have hsq : 0 ≤ shotsAt q ∧ shotsAt q ≤ 10 := by unfold shotsAt; omega
            clear e1 e2
            dsimp only at HS
            generalize steerB ⟨1, 1, X, Y, VX, VY, 5, ageAt q, 0⟩ x1 y1 true = F at *
            obtain ⟨g1, hg1⟩ : ∃ g1, ageAt (q + 1) = g1 := ⟨_, rfl⟩
            rw [hg1] at HS
            have HG1 := Lib.hid hg1.symm
            clear hg1
            have e0 := Be.out.c0
            have e1 := Be.out.c1
            have e2 := Be.out.c2
            have e3 := Be.out.c3
            have e4 := Be.out.c4
            have e5 := Be.out.c5
            have e6 := Be.out.c6
            have e7 := Be.out.c7
            have e8 := Be.out.c8
            have i0 := Bi.out.c0
            have i1 := Bi.out.c1
            have i2 := Bi.out.c2
            go_wp2_with fail
            refine (HS.out _).mono ?_
            rintro e v' ⟨rfl, hb⟩
            clear e0 e1 e2 e3 e4 e5 e6 e7 e8 i0 i1 i2
            have Bn := Be.out.nx hb
            obtain ⟨n0, n1, n2, n3, n4, n5, n6, n7, n8, m0, m1, m2, m3, m4, m5, m6, m7, m8⟩ := Bn
            go_upto_region 22 with fail
            clear n0 m0 n1 m1 n2 m2 n3 m3 n4 m4 n5 m5 n6 m6 n7 m7 n8 m8
            generalize hW : World.setCell _ _ _ = W7
            have hO := EntBox.off (⟨1, 1, X, Y, x1 * 32, y1 * 32, 5, g1, 0⟩) hW
            replace Bi := Lib.hid (Bi.out.nxf hb hO (by omega))
            replace Be := Lib.hid (Be.out.nxs hb (⟨1, 1, X, Y, x1 * 32, y1 * 32, 5, g1, 0⟩) hW)
            replace HB := Lib.hid (EntBox.bel (nextW HB.out hb) (⟨1, 1, X, Y, x1 * 32, y1 * 32, 5, g1, 0⟩) hle hW)
            clear hW hb hO v'
            clear HS
            cases F
            · go_wp2_with fail
              go_roundw
              case rel => exact ⟨q + 1, _, _, by rw [HQ.out]; simp, by go_num, by omega, HG1.out ▸ Be.out, Bi.out, HB.out⟩
              case measure => simp [intOf]; omega
            · go_wp2_with fail
              go_roundw
              case rel => exact ⟨q + 1, _, _, by rw [HQ.out]; simp, by go_num, by omega, HG1.out ▸ Be.out, Bi.out, HB.out⟩
              case measure => simp [intOf]; omega
          · obtain rfl : q = 19 := by omega
            rw [show shotsAt 19 = 3 from rfl]
            go_wp2
            go_ret
            exact ⟨rfl, HB.out⟩
      · obtain ⟨rfl, hr⟩ := hS rfl
        clear hS
        obtain ⟨hk12, hvx, hvy⟩ := shot_bd hr
        have HG := Lib.hid (fun w => go_any a b p n a0.seed (shotAt X Y vx vy k) w)
        have hkd : decide ((k : Int) < 50) = true := decide_eq_true (by omega)
        rcases shot_next Hrt.out hr with ⟨g1, g2⟩ | ⟨g1, g3, g2, g4⟩
        · rw [g1, g2] at HG
          clear g1 g2 hr
          have g0 := Bg.out.c0
          have g1 := Bg.out.c1
          have g2 := Bg.out.c2
          have g3 := Bg.out.c3
          have g4 := Bg.out.c4
          have s0 := Bs.out.c0
          have s1 := Bs.out.c1
          have s2 := Bs.out.c2
          have s3 := Bs.out.c3
          have s4 := Bs.out.c4
          have s5 := Bs.out.c5
          have s6 := Bs.out.c6
          have s7 := Bs.out.c7
          have s8 := Bs.out.c8
          go_wp2_with fail
          refine (HG.out _).mono ?_
          rintro e v' ⟨rfl, hb⟩
          clear g0 g1 g2 g3 g4 s0 s1 s2 s3 s4 s5 s6 s7 s8
          have Bn := Bs.out.nx hb
          obtain ⟨n0, n1, n2, n3, n4, n5, n6, n7, n8, m0, m1, m2, m3, m4, m5, m6, m7, m8⟩ := Bn
          go_upto_region 13 with fail
          clear n0 m0 n1 m1 n2 m2 n3 m3 n4 m4 n5 m5 n6 m6 n7 m7 n8 m8
          generalize hW : World.setCell _ _ _ = W6
          have hO := EntBox.off (nobody) hW
          replace Be := Lib.hid (Be.out.nxf hb hO (by omega))
          replace Bi := Lib.hid (Bi.out.nxf hb hO (by omega))
          replace Bg := Lib.hid (Bg.out.nxf hb hO (by omega))
          replace Bs := Lib.hid (Bs.out.nxs hb (nobody) hW)
          replace HB := Lib.hid (EntBox.bel (nextW HB.out hb) (nobody) (by omega) hW)
          clear hW hb hO v'
          clear HG
          go_wp2_with fail
          go_roundw
          case rel => exact ⟨k + 1, false, nobody, by go_num, rfl, by omega, (fun h => by cases h), Bs.out, Be.out, Bi.out, Bg.out, HB.out⟩
          case measure => simp [intOf]; omega
        · have hbx := mul_bd13 (m := (k : Int) + 1) (by omega) (by omega) hvx
          have hby := mul_bd13 (m := (k : Int) + 1) (by omega) (by omega) hvy
          obtain ⟨Mx, hMx⟩ : ∃ Mx, ((k : Int) + 1) * vx = Mx := ⟨_, rfl⟩
          obtain ⟨My, hMy⟩ : ∃ My, ((k : Int) + 1) * vy = My := ⟨_, rfl⟩
          have g5 : (shotAt X Y vx vy (k + 1)).x = X + Mx ∧ (shotAt X Y vx vy (k + 1)).y = Y + My ∧ (shotAt X Y vx vy (k + 1)).age = (k : Int) + 1 := by rw [← hMx, ← hMy]; simp [shotAt]
          rw [g2] at HG
          rw [g1] at HG
          obtain ⟨SN, hSN⟩ : ∃ SN, shotAt X Y vx vy (k + 1) = SN := ⟨_, rfl⟩
          rw [hSN] at HG g4 g5
          have HS5 := Lib.hid hSN.symm
          have HR4 := Lib.hid g4
          have q1 : (SN.x != X + Mx) = false := by rw [g5.1]; simp
          have q2 : (SN.y != Y + My) = false := by rw [g5.2.1]; simp
          have q3 : (SN.age != (k : Int) + 1) = false := by rw [g5.2.2]; simp
          clear g1 g2 g5 g4 hr hSN
          rw [hMx] at hbx
          rw [hMy] at hby
          have m1 : IntKind.i64.wrap Mx = Mx := by rw [IntKind.wrap_i64]; omega
          have m2 : IntKind.i64.wrap My = My := by rw [IntKind.wrap_i64]; omega
          have m3 : IntKind.i64.wrap (X + Mx) = X + Mx := by rw [IntKind.wrap_i64]; omega
          have m4 : IntKind.i64.wrap (Y + My) = Y + My := by rw [IntKind.wrap_i64]; omega
          have g0 := Bg.out.c0
          have g1 := Bg.out.c1
          have g2 := Bg.out.c2
          have g3 := Bg.out.c3
          have g4 := Bg.out.c4
          have s0 := Bs.out.c0
          have s1 := Bs.out.c1
          have s2 := Bs.out.c2
          have s3 := Bs.out.c3
          have s4 := Bs.out.c4
          have s5 := Bs.out.c5
          have s6 := Bs.out.c6
          have s7 := Bs.out.c7
          have s8 := Bs.out.c8
          go_wp2_with fail
          refine (HG.out _).mono ?_
          rintro e v' ⟨rfl, hb⟩
          clear g0 g1 g2 g3 g4 s0 s1 s2 s3 s4 s5 s6 s7 s8
          have Bn := Bs.out.nx hb
          obtain ⟨n0, n1, n2, n3, n4, n5, n6, n7, n8, m0, m1, m2, m3, m4, m5, m6, m7, m8⟩ := Bn
          go_upto_region 13 with fail
          clear n0 m0 n1 m1 n2 m2 n3 m3 n4 m4 n5 m5 n6 m6 n7 m7 n8 m8
          generalize hW : World.setCell _ _ _ = W6
          have hO := EntBox.off (SN) hW
          replace Be := Lib.hid (Be.out.nxf hb hO (by omega))
          replace Bi := Lib.hid (Bi.out.nxf hb hO (by omega))
          replace Bg := Lib.hid (Bg.out.nxf hb hO (by omega))
          replace Bs := Lib.hid (Bs.out.nxs hb (SN) hW)
          replace HB := Lib.hid (EntBox.bel (nextW HB.out hb) (SN) (by omega) hW)
          clear hW hb hO v'
          clear HG
          have s0 := Bs.out.c0
          have s1 := Bs.out.c1
          have s2 := Bs.out.c2
          have s3 := Bs.out.c3
          have s4 := Bs.out.c4
          have s5 := Bs.out.c5
          have s6 := Bs.out.c6
          have s7 := Bs.out.c7
          have s8 := Bs.out.c8
          have e0 := Be.out.c0
          have e1 := Be.out.c1
          have e2 := Be.out.c2
          have e3 := Be.out.c3
          have e4 := Be.out.c4
          have e5 := Be.out.c5
          have e6 := Be.out.c6
          have e7 := Be.out.c7
          have e8 := Be.out.c8
          go_wp2_with fail
          go_roundw
          case rel => exact ⟨k + 1, true, _, by go_num, rfl, by omega, (fun _ => ⟨HS5.out, HR4.out⟩), Bs.out, Be.out, Bi.out, Bg.out, HB.out⟩
          case measure => simp [intOf]; omega

set_option maxRecDepth 100000 in
theorem lifted (os : Os) (started : os.Started) (H : Type) (enc : TypeId × Value → H) :
    ReturnsInHanded {} Try.checked os 5 .any (Rows.movingShotsSpec.pre6 enc Try.prog Try.f5 Rows.movingShotsRow.domain false) (Rows.movingShotsSpec.post enc Try.prog Try.f5 false true false false) := by
  refine returnsInHanded_of_change (C := Try.checked) own started (by kernel_rfl) Try.func5
    (ChangeSpec.witness6 (enc := enc) (C := Try.checked) false ⟨#[], #[.agg #[.int .i64 0, .int .i64 0, .int .i64 0, .int .i64 0, .int .u64 0], .int .i64 0, .int .i64 0, .agg #[.int .i64 0, .int .i64 0, .bool false]], []⟩ 8 (by kernel_rfl) (by kernel_rfl) (by kernel_rfl) (by kernel_rfl)) ?_
  intro W base args ds gs before hval0 hW hcnd _
  have hval : ∀ (j : Nat) t v, Try.f5.params[j]? = some t → args[j]? = some v → Value.okWide Try.prog W .any base t v := hval0
  have hW' := hW
  obtain ⟨p, q, hA0, hV, rfl, hfz, hnd⟩ := hW
  have hA : DataW.TrodAll enc Try.prog W 0 (fun _ => true) true Try.f5.params.toList args.toList ds p := hA0
  rw [Try.params5] at hA hval
  obtain ⟨v0, vs0, d0, ds0, p0, q0, hargs, rfl, rfl, h0, r0⟩ := trodAll_cons hA
  obtain ⟨v1, vs1, d1, ds1, p1, q1, rfl, rfl, rfl, h1, r1⟩ := trodAll_cons r0
  obtain ⟨v2, vs2, d2, ds2, p2, q2, rfl, rfl, rfl, h2, r2⟩ := trodAll_cons r1
  obtain ⟨v3, vs3, d3, ds3, p3, q3, rfl, rfl, rfl, h3, r3⟩ := trodAll_cons r2
  obtain ⟨rfl, rfl, rfl⟩ := trodAll_nil r3
  obtain rfl : args = #[v0, v1, v2, v3] := by cases args; simp_all
  obtain ⟨rfl, rfl⟩ := trodVars_none hV
  obtain ⟨cs0, rfl, -⟩ := okWide_struct Try.underlying24 (hval 0 24 v0 rfl rfl)
  have k0 := h0
  have lt0 : ∀ x ∈ p0, x.block < W.heap.size := by obtain ⟨m, hm⟩ := k0; exact DataW.trod_lt m _ _ _ hm
  obtain ⟨fuel0, hf0⟩ := h0
  obtain ⟨l0⟩ := cs0
  obtain ⟨a0_0, a0_1, a0_2, a0_3, a0_4, rfl, w0_0, w0_1, w0_2, w0_3, w0_4⟩ := open_T24 (cs := l0) hf0
  obtain ⟨a1, rfl, rfl, rfl, w1⟩ := open_int Try.underlying3 (hval 1 3 v1 rfl rfl) h1
  obtain ⟨a2, rfl, rfl, rfl, w2⟩ := open_int Try.underlying3 (hval 2 3 v2 rfl rfl) h2
  obtain ⟨cs3, rfl, -⟩ := okWide_struct Try.underlying28 (hval 3 28 v3 rfl rfl)
  have k3 := h3
  have lt3 : ∀ x ∈ p3, x.block < W.heap.size := by obtain ⟨m, hm⟩ := k3; exact DataW.trod_lt m _ _ _ hm
  obtain ⟨fuel3, hf3⟩ := h3
  obtain ⟨l3⟩ := cs3
  obtain ⟨a3_0, a3_1, a3_2, rfl, w3_0, w3_1⟩ := open_T28 (cs := l3) hf3
  clear hA0 hval0
  refine (walk ⟨a0_0, a0_1, a0_2, a0_3, a0_4⟩ a1 a2 ⟨a3_0, a3_1, a3_2⟩ W ⟨w0_0, w0_1, w0_2, w0_3, w0_4⟩ w1 w2 ⟨w3_0, w3_1⟩).mono fun e W' ⟨he, bel⟩ => ?_
  subst he
  exact ⟨_, rfl, _, _, _, [], _, [], hW', trodAll_mk1 (shut_bool Try.underlying4 _), (trodAll_cons_mk (Below.trod laidOut (by kernel_rfl) (of_decide_eq_true (by kernel_rfl)) k0 bel lt0) (trodAll_cons_mk (shut_int Try.underlying3 w1) (trodAll_cons_mk (shut_int Try.underlying3 w2) (trodAll_cons_mk (Below.trod laidOut (by kernel_rfl) (of_decide_eq_true (by kernel_rfl)) k3 bel lt3) trodAll_mk0)))), rfl, bel.frame _, fun h => by cases h⟩

theorem over : Rows.movingShotsRow.holds Try.pinned (OpenSpec.ofChange Rows.movingShotsSpec) :=
  OpenClaim.holds_of_wide 5 Try.f5 rfl rfl rfl rfl rfl rfl rfl ⟨rfl, rfl, rfl, rfl, rfl⟩ rfl rfl rfl rfl rfl (by kernel_rfl) Try.func5 (by kernel_rfl)
    (of_decide_eq_true (by kernel_rfl)) (by unfold Func.isWrapper; first | (rw [if_pos (by decide +kernel)]; kernel_rfl) | (rw [if_neg (by decide +kernel)]; exact ⟨rfl, rfl⟩))
    (fun os started H enc _ => lifted os started H enc)

end Go.Proofs.Ythkgbengmfedjaa.movingShots
namespace Go.Proofs.Ythkgbengmfedjaa
theorem movingShots_proved : Rows.MovingShotsSaid := movingShots.over
end Go.Proofs.Ythkgbengmfedjaa
