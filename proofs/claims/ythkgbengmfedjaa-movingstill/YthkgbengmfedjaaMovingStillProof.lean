/- joustlaw07.MovingStill returns true for every input; no conditions. -/
import Derived.Test.YthkgbengmfedjaaMvLaw
import Derived.Test.YthkgbengmfedjaaRows
import Derived.WalkKit
import Derived.ProofKit
import Derived.OpenShut
import Derived.ShutString
import Derived.ChangeOld
import Derived.Below
namespace Go.Proofs.Ythkgbengmfedjaa.movingStill
open Go.ChangeShapes Go.WideShapes Go.ChangeAt Go.RowKit
open Go.ChangeMaps (open_string shut_string)
set_option linter.unusedVariables false

theorem own : ownKnob Try.prog.godebug = none := by kernel_rfl
theorem laidOut : laidOutB Try.prog = true := by kernel_rfl

theorem open_T24 {H : Type} {enc : TypeId × Value → H} {W : World} {fuel : Nat} {cs : List Value} {x : DataW H × List MemPlace} (h : DataW.trod enc Try.prog W 0 (fun _ => true) true fuel 24 cs = some x) :
    ∃ (a0 : Int) (a1 : Int) (a2 : Int) (a3 : Int) (a4 : Int), cs = [.int .i64 a0, .int .i64 a1, .int .i64 a2, .int .i64 a3, .int .u64 a4] ∧ (Lit.int .i64 a0).wf = true ∧ (Lit.int .i64 a1).wf = true ∧ (Lit.int .i64 a2).wf = true ∧ (Lit.int .i64 a3).wf = true ∧ (Lit.int .u64 a4).wf = true := by
  obtain ⟨xs, n, -, -, hl, hxl, hg⟩ := DataW.trod_struct Try.underlying24 h
  have hl' : cs.length = 5 := hl.trans (by kernel_rfl)
  have c3 : Try.prog.cellsOf 3 = 1 := by kernel_rfl
  have c22 : Try.prog.cellsOf 22 = 1 := by kernel_rfl
  clear hl h
  match cs, hl' with
  | [z0, z1, z2, z3, z4], _ =>
    have g0 : DataW.trod enc Try.prog W 0 (fun _ => true) true n 3 (([z0, z1, z2, z3, z4].drop 0).take (Try.prog.cellsOf 3)) = xs[0]? := hg 0 _ rfl
    rw [c3, List.getElem?_eq_getElem (show 0 < xs.length by rw [hxl]; decide)] at g0
    have g1 : DataW.trod enc Try.prog W 0 (fun _ => true) true n 3 (([z0, z1, z2, z3, z4].drop 1).take (Try.prog.cellsOf 3)) = xs[1]? := hg 1 _ rfl
    rw [c3, List.getElem?_eq_getElem (show 1 < xs.length by rw [hxl]; decide)] at g1
    have g2 : DataW.trod enc Try.prog W 0 (fun _ => true) true n 3 (([z0, z1, z2, z3, z4].drop 2).take (Try.prog.cellsOf 3)) = xs[2]? := hg 2 _ rfl
    rw [c3, List.getElem?_eq_getElem (show 2 < xs.length by rw [hxl]; decide)] at g2
    have g3 : DataW.trod enc Try.prog W 0 (fun _ => true) true n 3 (([z0, z1, z2, z3, z4].drop 3).take (Try.prog.cellsOf 3)) = xs[3]? := hg 3 _ rfl
    rw [c3, List.getElem?_eq_getElem (show 3 < xs.length by rw [hxl]; decide)] at g3
    have g4 : DataW.trod enc Try.prog W 0 (fun _ => true) true n 22 (([z0, z1, z2, z3, z4].drop 4).take (Try.prog.cellsOf 22)) = xs[4]? := hg 4 _ rfl
    rw [c22, List.getElem?_eq_getElem (show 4 < xs.length by rw [hxl]; decide)] at g4
    obtain ⟨a0, e0, -, w0⟩ := DataW.trod_int (cs := [z0]) Try.underlying3 g0
    simp only [List.cons.injEq, and_true] at e0
    subst e0
    clear g0
    obtain ⟨a1, e1, -, w1⟩ := DataW.trod_int (cs := [z1]) Try.underlying3 g1
    simp only [List.cons.injEq, and_true] at e1
    subst e1
    clear g1
    obtain ⟨a2, e2, -, w2⟩ := DataW.trod_int (cs := [z2]) Try.underlying3 g2
    simp only [List.cons.injEq, and_true] at e2
    subst e2
    clear g2
    obtain ⟨a3, e3, -, w3⟩ := DataW.trod_int (cs := [z3]) Try.underlying3 g3
    simp only [List.cons.injEq, and_true] at e3
    subst e3
    clear g3
    obtain ⟨a4, e4, -, w4⟩ := DataW.trod_int (cs := [z4]) Try.underlying22 g4
    simp only [List.cons.injEq, and_true] at e4
    subst e4
    clear g4
    exact ⟨a0, a1, a2, a3, a4, rfl, w0, w1, w2, w3, w4⟩

theorem open_T26 {H : Type} {enc : TypeId × Value → H} {W : World} {fuel : Nat} {cs : List Value} {x : DataW H × List MemPlace} (h : DataW.trod enc Try.prog W 0 (fun _ => true) true fuel 26 cs = some x) :
    ∃ (a0 : Int) (a1 : Int) (a2 : Int) (a3 : Int) (a4 : Int) (a5 : Int) (a6 : Int) (a7 : Int) (a8 : Int), cs = [.int .i64 a0, .int .i64 a1, .int .i64 a2, .int .i64 a3, .int .i64 a4, .int .i64 a5, .int .i64 a6, .int .i64 a7, .int .i64 a8] ∧ (Lit.int .i64 a0).wf = true ∧ (Lit.int .i64 a1).wf = true ∧ (Lit.int .i64 a2).wf = true ∧ (Lit.int .i64 a3).wf = true ∧ (Lit.int .i64 a4).wf = true ∧ (Lit.int .i64 a5).wf = true ∧ (Lit.int .i64 a6).wf = true ∧ (Lit.int .i64 a7).wf = true ∧ (Lit.int .i64 a8).wf = true := by
  obtain ⟨xs, n, -, -, hl, hxl, hg⟩ := DataW.trod_struct Try.underlying26 h
  have hl' : cs.length = 9 := hl.trans (by kernel_rfl)
  have c3 : Try.prog.cellsOf 3 = 1 := by kernel_rfl
  clear hl h
  match cs, hl' with
  | [z0, z1, z2, z3, z4, z5, z6, z7, z8], _ =>
    have g0 : DataW.trod enc Try.prog W 0 (fun _ => true) true n 3 (([z0, z1, z2, z3, z4, z5, z6, z7, z8].drop 0).take (Try.prog.cellsOf 3)) = xs[0]? := hg 0 _ rfl
    rw [c3, List.getElem?_eq_getElem (show 0 < xs.length by rw [hxl]; decide)] at g0
    have g1 : DataW.trod enc Try.prog W 0 (fun _ => true) true n 3 (([z0, z1, z2, z3, z4, z5, z6, z7, z8].drop 1).take (Try.prog.cellsOf 3)) = xs[1]? := hg 1 _ rfl
    rw [c3, List.getElem?_eq_getElem (show 1 < xs.length by rw [hxl]; decide)] at g1
    have g2 : DataW.trod enc Try.prog W 0 (fun _ => true) true n 3 (([z0, z1, z2, z3, z4, z5, z6, z7, z8].drop 2).take (Try.prog.cellsOf 3)) = xs[2]? := hg 2 _ rfl
    rw [c3, List.getElem?_eq_getElem (show 2 < xs.length by rw [hxl]; decide)] at g2
    have g3 : DataW.trod enc Try.prog W 0 (fun _ => true) true n 3 (([z0, z1, z2, z3, z4, z5, z6, z7, z8].drop 3).take (Try.prog.cellsOf 3)) = xs[3]? := hg 3 _ rfl
    rw [c3, List.getElem?_eq_getElem (show 3 < xs.length by rw [hxl]; decide)] at g3
    have g4 : DataW.trod enc Try.prog W 0 (fun _ => true) true n 3 (([z0, z1, z2, z3, z4, z5, z6, z7, z8].drop 4).take (Try.prog.cellsOf 3)) = xs[4]? := hg 4 _ rfl
    rw [c3, List.getElem?_eq_getElem (show 4 < xs.length by rw [hxl]; decide)] at g4
    have g5 : DataW.trod enc Try.prog W 0 (fun _ => true) true n 3 (([z0, z1, z2, z3, z4, z5, z6, z7, z8].drop 5).take (Try.prog.cellsOf 3)) = xs[5]? := hg 5 _ rfl
    rw [c3, List.getElem?_eq_getElem (show 5 < xs.length by rw [hxl]; decide)] at g5
    have g6 : DataW.trod enc Try.prog W 0 (fun _ => true) true n 3 (([z0, z1, z2, z3, z4, z5, z6, z7, z8].drop 6).take (Try.prog.cellsOf 3)) = xs[6]? := hg 6 _ rfl
    rw [c3, List.getElem?_eq_getElem (show 6 < xs.length by rw [hxl]; decide)] at g6
    have g7 : DataW.trod enc Try.prog W 0 (fun _ => true) true n 3 (([z0, z1, z2, z3, z4, z5, z6, z7, z8].drop 7).take (Try.prog.cellsOf 3)) = xs[7]? := hg 7 _ rfl
    rw [c3, List.getElem?_eq_getElem (show 7 < xs.length by rw [hxl]; decide)] at g7
    have g8 : DataW.trod enc Try.prog W 0 (fun _ => true) true n 3 (([z0, z1, z2, z3, z4, z5, z6, z7, z8].drop 8).take (Try.prog.cellsOf 3)) = xs[8]? := hg 8 _ rfl
    rw [c3, List.getElem?_eq_getElem (show 8 < xs.length by rw [hxl]; decide)] at g8
    obtain ⟨a0, e0, -, w0⟩ := DataW.trod_int (cs := [z0]) Try.underlying3 g0
    simp only [List.cons.injEq, and_true] at e0
    subst e0
    clear g0
    obtain ⟨a1, e1, -, w1⟩ := DataW.trod_int (cs := [z1]) Try.underlying3 g1
    simp only [List.cons.injEq, and_true] at e1
    subst e1
    clear g1
    obtain ⟨a2, e2, -, w2⟩ := DataW.trod_int (cs := [z2]) Try.underlying3 g2
    simp only [List.cons.injEq, and_true] at e2
    subst e2
    clear g2
    obtain ⟨a3, e3, -, w3⟩ := DataW.trod_int (cs := [z3]) Try.underlying3 g3
    simp only [List.cons.injEq, and_true] at e3
    subst e3
    clear g3
    obtain ⟨a4, e4, -, w4⟩ := DataW.trod_int (cs := [z4]) Try.underlying3 g4
    simp only [List.cons.injEq, and_true] at e4
    subst e4
    clear g4
    obtain ⟨a5, e5, -, w5⟩ := DataW.trod_int (cs := [z5]) Try.underlying3 g5
    simp only [List.cons.injEq, and_true] at e5
    subst e5
    clear g5
    obtain ⟨a6, e6, -, w6⟩ := DataW.trod_int (cs := [z6]) Try.underlying3 g6
    simp only [List.cons.injEq, and_true] at e6
    subst e6
    clear g6
    obtain ⟨a7, e7, -, w7⟩ := DataW.trod_int (cs := [z7]) Try.underlying3 g7
    simp only [List.cons.injEq, and_true] at e7
    subst e7
    clear g7
    obtain ⟨a8, e8, -, w8⟩ := DataW.trod_int (cs := [z8]) Try.underlying3 g8
    simp only [List.cons.injEq, and_true] at e8
    subst e8
    clear g8
    exact ⟨a0, a1, a2, a3, a4, a5, a6, a7, a8, rfl, w0, w1, w2, w3, w4, w5, w6, w7, w8⟩

theorem open_T28 {H : Type} {enc : TypeId × Value → H} {W : World} {fuel : Nat} {cs : List Value} {x : DataW H × List MemPlace} (h : DataW.trod enc Try.prog W 0 (fun _ => true) true fuel 28 cs = some x) :
    ∃ (a0 : Int) (a1 : Int) (a2 : Bool), cs = [.int .i64 a0, .int .i64 a1, .bool a2] ∧ (Lit.int .i64 a0).wf = true ∧ (Lit.int .i64 a1).wf = true := by
  obtain ⟨xs, n, -, -, hl, hxl, hg⟩ := DataW.trod_struct Try.underlying28 h
  have hl' : cs.length = 3 := hl.trans (by kernel_rfl)
  have c3 : Try.prog.cellsOf 3 = 1 := by kernel_rfl
  have c4 : Try.prog.cellsOf 4 = 1 := by kernel_rfl
  clear hl h
  match cs, hl' with
  | [z0, z1, z2], _ =>
    have g0 : DataW.trod enc Try.prog W 0 (fun _ => true) true n 3 (([z0, z1, z2].drop 0).take (Try.prog.cellsOf 3)) = xs[0]? := hg 0 _ rfl
    rw [c3, List.getElem?_eq_getElem (show 0 < xs.length by rw [hxl]; decide)] at g0
    have g1 : DataW.trod enc Try.prog W 0 (fun _ => true) true n 3 (([z0, z1, z2].drop 1).take (Try.prog.cellsOf 3)) = xs[1]? := hg 1 _ rfl
    rw [c3, List.getElem?_eq_getElem (show 1 < xs.length by rw [hxl]; decide)] at g1
    have g2 : DataW.trod enc Try.prog W 0 (fun _ => true) true n 4 (([z0, z1, z2].drop 2).take (Try.prog.cellsOf 4)) = xs[2]? := hg 2 _ rfl
    rw [c4, List.getElem?_eq_getElem (show 2 < xs.length by rw [hxl]; decide)] at g2
    obtain ⟨a0, e0, -, w0⟩ := DataW.trod_int (cs := [z0]) Try.underlying3 g0
    simp only [List.cons.injEq, and_true] at e0
    subst e0
    clear g0
    obtain ⟨a1, e1, -, w1⟩ := DataW.trod_int (cs := [z1]) Try.underlying3 g1
    simp only [List.cons.injEq, and_true] at e1
    subst e1
    clear g1
    obtain ⟨a2, e2, -⟩ := DataW.trod_bool (cs := [z2]) Try.underlying4 g2
    simp only [List.cons.injEq, and_true] at e2
    subst e2
    clear g2
    exact ⟨a0, a1, a2, rfl, w0, w1⟩

open Fx

set_option maxRecDepth 100000 in
set_option maxHeartbeats 4000000 in
theorem walk (a0 : Fx.Cfg) (a1 : Fx.Ent) (a2 : Fx.Inp) (w : World) (w0 : Fx.Cfg.ok a0) (w1 : Fx.Ent.ok a1) (w2 : Fx.Inp.ok a2) :
    Calls Try.prog 7 #[.agg #[.int .i64 a0.cols, .int .i64 a0.rows, .int .i64 a0.players, .int .i64 a0.window, .int .u64 a0.seed], .agg #[.int .i64 a1.id, .int .i64 a1.kind, .int .i64 a1.x, .int .i64 a1.y, .int .i64 a1.vx, .int .i64 a1.vy, .int .i64 a1.health, .int .i64 a1.age, .int .i64 a1.owner], .agg #[.int .i64 a2.dx, .int .i64 a2.dy, .bool a2.fire]] w fun e w' => e = .returned (.bool true) ∧ Below w.heap.size w w' := by
  have hag := (bounds_i64 w1.2.2.2.2.2.2.2.1).2
  clear w0 w1 w2
  have HS := Lib.hid (fun w => steer_any a1 a2.dx a2.dy a2.fire w (by omega))
  have HA := Lib.hid awake_mv
  have HO := Lib.hid (show (a1.kind != 1) = false ∨ ((a1.kind != 1) = true ∧ steerE a1 a2.dx a2.dy a2.fire = a1 ∧ steerB a1 a2.dx a2.dy a2.fire = false) from by
    by_cases h : a1.kind = 1
    · exact .inl (by simpa using h)
    · exact .inr ⟨by simpa using h, steer_off _ (fun h' => h h'.1)⟩)
  generalize steerE a1 a2.dx a2.dy a2.fire = S at *
  generalize steerB a1 a2.dx a2.dy a2.fire = F at *
  clear hag
  go_enter Try.func7, Try.ntmps7
  go_upto_region 1 with fail
  generalize hW : World.alloc (World.alloc (World.alloc w _) _) _ = W0
  have Bc := Lib.hid (show CfgBox W0 w.heap.size a0 from by rw [← hW]; exact CfgBox.n3a _ _ _ _ _ rfl)
  have Be := Lib.hid (show EntBox W0 (w.heap.size + 1) a1 from by rw [← hW]; exact EntBox.n3b _ _ _ _ _ rfl)
  have Bi := Lib.hid (show InpBox W0 (w.heap.size + 1 + 1) a2 from by rw [← hW]; exact InpBox.n3c _ _ _ _ _ rfl)
  have HB := Lib.hid (show Below w.heap.size w W0 from by rw [← hW]; exact bal3 _ _ _ _)
  clear hW
  have c0 := Bc.out.c0
  have c1 := Bc.out.c1
  have c2 := Bc.out.c2
  have c3 := Bc.out.c3
  have c4 := Bc.out.c4
  go_wp2_with fail
  refine (config_any _ _ _ _ _ _).mono ?_
  rintro e v' ⟨a, b, p, n, rfl, hsm, hb⟩
  clear c0 c1 c2 c3 c4
  have Bn := Bc.out.nx hb
  obtain ⟨n0, n1, n2, n3, n4, m0, m1, m2, m3, m4⟩ := Bn
  go_upto_region 2 with fail
  clear n0 m0 n1 m1 n2 m2 n3 m3 n4 m4
  generalize hW : World.setCell _ _ _ = W1
  have hO := CfgBox.off (⟨a, b, p, n, a0.seed⟩) hW
  replace Be := Lib.hid (Be.out.nxf hb hO (by omega))
  replace Bi := Lib.hid (Bi.out.nxf hb hO (by omega))
  replace Bc := Lib.hid (Bc.out.nxs hb (⟨a, b, p, n, a0.seed⟩) hW)
  replace HB := Lib.hid (CfgBox.bel (nextW HB.out hb) (⟨a, b, p, n, a0.seed⟩) (Nat.le_refl _) hW)
  clear hW hb hO v'
  have Hrt := Lib.hid hsm.1
  have HN := Lib.hid (fun w => new_yes a b p n a0.seed w hsm.1)
  clear hsm
  have c0 := Bc.out.c0
  have c1 := Bc.out.c1
  have c2 := Bc.out.c2
  have c3 := Bc.out.c3
  have c4 := Bc.out.c4
  go_wp2_with fail
  refine (HN.out _).mono ?_
  rintro e v' ⟨rfl, hb⟩
  clear c0 c1 c2 c3 c4
  go_upto_region 3 with fail
  generalize hW : World.alloc _ _ = W2
  replace Bc := Lib.hid (Bc.out.nxa hb hW)
  replace Be := Lib.hid (Be.out.nxa hb hW)
  replace Bi := Lib.hid (Bi.out.nxa hb hW)
  have Bg := Lib.hid (CfgBox.nb hW (⟨a, b, p, n, a0.seed⟩) rfl)
  generalize v'.heap.size = bg at *
  replace HB := Lib.hid (below_nxa HB.out hb hW)
  clear hW hb v'
  clear HN
  have HG := Lib.hid (fun w => go_any a b p n a0.seed a1 w)
  have HR := Lib.hid (fun w => rright_any a b p n a0.seed a1 w)
  have HP := Lib.hid (show (erightB a b p n a1 = false ∧ goE a b p n a1 = nobody ∧ goB a b p n a1 = false) ∨ (erightB a b p n a1 = true ∧ ((a1.kind != 3) = true ∨ ((a1.kind != 3) = false ∧ goE a b p n a1 = a1 ∧ goB a b p n a1 = true))) from by
    cases h : erightB a b p n a1
    · exact .inl ⟨rfl, go_no h⟩
    · refine .inr ⟨rfl, ?_⟩
      by_cases h3 : a1.kind = 3
      · exact .inr ⟨by simpa using h3, go_other h (by omega) (by omega)⟩
      · exact .inl (by simpa using h3))
  generalize goE a b p n a1 = G at *
  generalize goB a b p n a1 = I at *
  generalize erightB a b p n a1 = R at *
  go_wp2_with fail
  refine (HA.out _).mono ?_
  rintro e v' ⟨rfl, hb⟩
  go_upto_region 5 with fail
  replace Bc := Lib.hid (Bc.out.nx hb)
  replace Be := Lib.hid (Be.out.nx hb)
  replace Bi := Lib.hid (Bi.out.nx hb)
  replace Bg := Lib.hid (Bg.out.nx hb)
  replace HB := Lib.hid (nextW HB.out hb)
  clear hb
  have e0 := Be.out.c0
  have e1 := Be.out.c1
  have e2 := Be.out.c2
  have e3 := Be.out.c3
  have e4 := Be.out.c4
  have e5 := Be.out.c5
  have e6 := Be.out.c6
  have e7 := Be.out.c7
  have e8 := Be.out.c8
  have i0 := Bi.out.c0
  have i1 := Bi.out.c1
  have i2 := Bi.out.c2
  go_wp2_with fail
  refine (HS.out _).mono ?_
  rintro e v' ⟨rfl, hb⟩
  clear e0 e1 e2 e3 e4 e5 e6 e7 e8 i0 i1 i2
  go_upto_region 6 with fail
  generalize hW : World.alloc _ _ = W3
  replace Bc := Lib.hid (Bc.out.nxa hb hW)
  replace Be := Lib.hid (Be.out.nxa hb hW)
  replace Bi := Lib.hid (Bi.out.nxa hb hW)
  replace Bg := Lib.hid (Bg.out.nxa hb hW)
  have Bs := Lib.hid (EntBox.nb hW (S) rfl)
  generalize v'.heap.size = bs at *
  replace HB := Lib.hid (below_nxa HB.out hb hW)
  clear hW hb v'
  clear HS
  go_cut [42] (fun s42 wx => s42 = .bool false ∧ wx = W3)
  case first =>
    have e0 := Be.out.c0
    have e1 := Be.out.c1
    have e2 := Be.out.c2
    have e3 := Be.out.c3
    have e4 := Be.out.c4
    have e5 := Be.out.c5
    have e6 := Be.out.c6
    have e7 := Be.out.c7
    have e8 := Be.out.c8
    have s0 := Bs.out.c0
    have s1 := Bs.out.c1
    have s2 := Bs.out.c2
    have s3 := Bs.out.c3
    have s4 := Bs.out.c4
    have s5 := Bs.out.c5
    have s6 := Bs.out.c6
    have s7 := Bs.out.c7
    have s8 := Bs.out.c8
    rcases HO.out with hk | ⟨hk, rfl, rfl⟩
    · go_wp2_with fail
      go_meet
      exact ⟨rfl, rfl⟩
    · go_wp2_with fail
      go_meet
      exact ⟨rfl, rfl⟩
  case rest =>
    obtain ⟨rfl, rfl⟩ := hcut
    clear HO
    have g0 := Bg.out.c0
    have g1 := Bg.out.c1
    have g2 := Bg.out.c2
    have g3 := Bg.out.c3
    have g4 := Bg.out.c4
    have e0 := Be.out.c0
    have e1 := Be.out.c1
    have e2 := Be.out.c2
    have e3 := Be.out.c3
    have e4 := Be.out.c4
    have e5 := Be.out.c5
    have e6 := Be.out.c6
    have e7 := Be.out.c7
    have e8 := Be.out.c8
    go_wp2_with fail
    refine (HG.out _).mono ?_
    rintro e v' ⟨rfl, hb⟩
    clear g0 g1 g2 g3 g4 e0 e1 e2 e3 e4 e5 e6 e7 e8
    go_upto_region 9 with fail
    generalize hW : World.alloc _ _ = W4
    replace Bc := Lib.hid (Bc.out.nxa hb hW)
    replace Be := Lib.hid (Be.out.nxa hb hW)
    have Bn := Lib.hid (EntBox.nb hW (G) rfl)
    generalize v'.heap.size = bn at *
    replace HB := Lib.hid (below_nxa HB.out hb hW)
    clear hW hb v'
    clear HG
    have c0 := Bc.out.c0
    have c1 := Bc.out.c1
    have c2 := Bc.out.c2
    have c3 := Bc.out.c3
    have c4 := Bc.out.c4
    have e0 := Be.out.c0
    have e1 := Be.out.c1
    have e2 := Be.out.c2
    have e3 := Be.out.c3
    have e4 := Be.out.c4
    have e5 := Be.out.c5
    have e6 := Be.out.c6
    have e7 := Be.out.c7
    have e8 := Be.out.c8
    go_wp2_with fail
    refine (HR.out _).mono ?_
    rintro e v' ⟨rfl, hb⟩
    clear c0 c1 c2 c3 c4 e0 e1 e2 e3 e4 e5 e6 e7 e8
    skip
    replace Be := Lib.hid (Be.out.nx hb)
    replace Bn := Lib.hid (Bn.out.nx hb)
    replace HB := Lib.hid (nextW HB.out hb)
    clear hb
    have e0 := Be.out.c0
    have e1 := Be.out.c1
    have e2 := Be.out.c2
    have e3 := Be.out.c3
    have e4 := Be.out.c4
    have e5 := Be.out.c5
    have e6 := Be.out.c6
    have e7 := Be.out.c7
    have e8 := Be.out.c8
    have n0 := Bn.out.c0
    have n1 := Bn.out.c1
    have n2 := Bn.out.c2
    have n3 := Bn.out.c3
    have n4 := Bn.out.c4
    have n5 := Bn.out.c5
    have n6 := Bn.out.c6
    have n7 := Bn.out.c7
    have n8 := Bn.out.c8
    have HP' := HP.out
    clear HP HR
    rcases HP' with ⟨rfl, rfl, rfl⟩ | ⟨rfl, hk | ⟨hk, rfl, rfl⟩⟩
    · go_wp2
      go_ret
      exact ⟨rfl, HB.out⟩
    · go_wp2
      go_ret
      exact ⟨rfl, HB.out⟩
    · go_wp2
      go_ret
      exact ⟨rfl, HB.out⟩

set_option maxRecDepth 100000 in
theorem lifted (os : Os) (started : os.Started) (H : Type) (enc : TypeId × Value → H) :
    ReturnsInHanded {} Try.checked os 7 .any (Rows.movingStillSpec.pre6 enc Try.prog Try.f7 Rows.movingStillRow.domain false) (Rows.movingStillSpec.post enc Try.prog Try.f7 false true false false) := by
  refine returnsInHanded_of_change (C := Try.checked) own started (by kernel_rfl) Try.func7
    (ChangeSpec.witness6 (enc := enc) (C := Try.checked) false ⟨#[], #[.agg #[.int .i64 0, .int .i64 0, .int .i64 0, .int .i64 0, .int .u64 0], .agg #[.int .i64 0, .int .i64 0, .int .i64 0, .int .i64 0, .int .i64 0, .int .i64 0, .int .i64 0, .int .i64 0, .int .i64 0], .agg #[.int .i64 0, .int .i64 0, .bool false]], []⟩ 8 (by kernel_rfl) (by kernel_rfl) (by kernel_rfl) (by kernel_rfl)) ?_
  intro W base args ds gs before hval0 hW hcnd _
  have hval : ∀ (j : Nat) t v, Try.f7.params[j]? = some t → args[j]? = some v → Value.okWide Try.prog W .any base t v := hval0
  have hW' := hW
  obtain ⟨p, q, hA0, hV, rfl, hfz, hnd⟩ := hW
  have hA : DataW.TrodAll enc Try.prog W 0 (fun _ => true) true Try.f7.params.toList args.toList ds p := hA0
  rw [Try.params7] at hA hval
  obtain ⟨v0, vs0, d0, ds0, p0, q0, hargs, rfl, rfl, h0, r0⟩ := trodAll_cons hA
  obtain ⟨v1, vs1, d1, ds1, p1, q1, rfl, rfl, rfl, h1, r1⟩ := trodAll_cons r0
  obtain ⟨v2, vs2, d2, ds2, p2, q2, rfl, rfl, rfl, h2, r2⟩ := trodAll_cons r1
  obtain ⟨rfl, rfl, rfl⟩ := trodAll_nil r2
  obtain rfl : args = #[v0, v1, v2] := by cases args; simp_all
  obtain ⟨rfl, rfl⟩ := trodVars_none hV
  obtain ⟨cs0, rfl, -⟩ := okWide_struct Try.underlying24 (hval 0 24 v0 rfl rfl)
  have k0 := h0
  have lt0 : ∀ x ∈ p0, x.block < W.heap.size := by obtain ⟨m, hm⟩ := k0; exact DataW.trod_lt m _ _ _ hm
  obtain ⟨fuel0, hf0⟩ := h0
  obtain ⟨l0⟩ := cs0
  obtain ⟨a0_0, a0_1, a0_2, a0_3, a0_4, rfl, w0_0, w0_1, w0_2, w0_3, w0_4⟩ := open_T24 (cs := l0) hf0
  obtain ⟨cs1, rfl, -⟩ := okWide_struct Try.underlying26 (hval 1 26 v1 rfl rfl)
  have k1 := h1
  have lt1 : ∀ x ∈ p1, x.block < W.heap.size := by obtain ⟨m, hm⟩ := k1; exact DataW.trod_lt m _ _ _ hm
  obtain ⟨fuel1, hf1⟩ := h1
  obtain ⟨l1⟩ := cs1
  obtain ⟨a1_0, a1_1, a1_2, a1_3, a1_4, a1_5, a1_6, a1_7, a1_8, rfl, w1_0, w1_1, w1_2, w1_3, w1_4, w1_5, w1_6, w1_7, w1_8⟩ := open_T26 (cs := l1) hf1
  obtain ⟨cs2, rfl, -⟩ := okWide_struct Try.underlying28 (hval 2 28 v2 rfl rfl)
  have k2 := h2
  have lt2 : ∀ x ∈ p2, x.block < W.heap.size := by obtain ⟨m, hm⟩ := k2; exact DataW.trod_lt m _ _ _ hm
  obtain ⟨fuel2, hf2⟩ := h2
  obtain ⟨l2⟩ := cs2
  obtain ⟨a2_0, a2_1, a2_2, rfl, w2_0, w2_1⟩ := open_T28 (cs := l2) hf2
  clear hA0 hval0
  refine (walk ⟨a0_0, a0_1, a0_2, a0_3, a0_4⟩ ⟨a1_0, a1_1, a1_2, a1_3, a1_4, a1_5, a1_6, a1_7, a1_8⟩ ⟨a2_0, a2_1, a2_2⟩ W ⟨w0_0, w0_1, w0_2, w0_3, w0_4⟩ ⟨w1_0, w1_1, w1_2, w1_3, w1_4, w1_5, w1_6, w1_7, w1_8⟩ ⟨w2_0, w2_1⟩).mono fun e W' ⟨he, bel⟩ => ?_
  subst he
  exact ⟨_, rfl, _, _, _, [], _, [], hW', trodAll_mk1 (shut_bool Try.underlying4 _), (trodAll_cons_mk (Below.trod laidOut (by kernel_rfl) (of_decide_eq_true (by kernel_rfl)) k0 bel lt0) (trodAll_cons_mk (Below.trod laidOut (by kernel_rfl) (of_decide_eq_true (by kernel_rfl)) k1 bel lt1) (trodAll_cons_mk (Below.trod laidOut (by kernel_rfl) (of_decide_eq_true (by kernel_rfl)) k2 bel lt2) trodAll_mk0))), rfl, bel.frame _, fun h => by cases h⟩

theorem over : Rows.movingStillRow.holds Try.pinned (OpenSpec.ofChange Rows.movingStillSpec) :=
  OpenClaim.holds_of_wide 7 Try.f7 rfl rfl rfl rfl rfl rfl rfl ⟨rfl, rfl, rfl, rfl, rfl⟩ rfl rfl rfl rfl rfl (by kernel_rfl) Try.func7 (by kernel_rfl)
    (of_decide_eq_true (by kernel_rfl)) (by unfold Func.isWrapper; first | (rw [if_pos (by decide +kernel)]; kernel_rfl) | (rw [if_neg (by decide +kernel)]; exact ⟨rfl, rfl⟩))
    (fun os started H enc _ => lifted os started H enc)

end Go.Proofs.Ythkgbengmfedjaa.movingStill
namespace Go.Proofs.Ythkgbengmfedjaa
theorem movingStill_proved : Rows.MovingStillSaid := movingStill.over
end Go.Proofs.Ythkgbengmfedjaa
