/- joustlaw07.MovingNear returns true for every input; no conditions. -/
import Derived.Test.YthkgbengmfedjaaMvLaw
import Derived.Deep.LoopGhost
import Derived.Test.YthkgbengmfedjaaRows
import Derived.WalkKit
import Derived.ProofKit
import Derived.OpenShut
import Derived.ShutString
import Derived.ChangeOld
import Derived.Below
namespace Go.Proofs.Ythkgbengmfedjaa.movingNear
open Go.ChangeShapes Go.WideShapes Go.ChangeAt Go.RowKit
open Go.ChangeMaps (open_string shut_string)
set_option linter.unusedVariables false

theorem own : ownKnob Try.prog.godebug = none := by kernel_rfl
theorem laidOut : laidOutB Try.prog = true := by kernel_rfl

theorem open_T24 {H : Type} {enc : TypeId × Value → H} {W : World} {fuel : Nat} {cs : List Value} {x : DataW H × List MemPlace} (h : DataW.trod enc Try.prog W 0 (fun _ => true) true fuel 24 cs = some x) :
    ∃ (a0 : Int) (a1 : Int) (a2 : Int) (a3 : Int) (a4 : Int), cs = [.int .i64 a0, .int .i64 a1, .int .i64 a2, .int .i64 a3, .int .u64 a4] ∧ (Lit.int .i64 a0).wf = true ∧ (Lit.int .i64 a1).wf = true ∧ (Lit.int .i64 a2).wf = true ∧ (Lit.int .i64 a3).wf = true ∧ (Lit.int .u64 a4).wf = true := by
  obtain ⟨xs, n, -, -, hl, hxl, hg⟩ := DataW.trod_struct Try.underlying24 h
  have hl' : cs.length = 5 := hl.trans (by kernel_rfl)
  have c3 : Try.prog.cellsOf 3 = 1 := by kernel_rfl
  have c22 : Try.prog.cellsOf 22 = 1 := by kernel_rfl
  clear hl h
  match cs, hl' with
  | [z0, z1, z2, z3, z4], _ =>
    have g0 : DataW.trod enc Try.prog W 0 (fun _ => true) true n 3 (([z0, z1, z2, z3, z4].drop 0).take (Try.prog.cellsOf 3)) = xs[0]? := hg 0 _ rfl
    rw [c3, List.getElem?_eq_getElem (show 0 < xs.length by rw [hxl]; decide)] at g0
    have g1 : DataW.trod enc Try.prog W 0 (fun _ => true) true n 3 (([z0, z1, z2, z3, z4].drop 1).take (Try.prog.cellsOf 3)) = xs[1]? := hg 1 _ rfl
    rw [c3, List.getElem?_eq_getElem (show 1 < xs.length by rw [hxl]; decide)] at g1
    have g2 : DataW.trod enc Try.prog W 0 (fun _ => true) true n 3 (([z0, z1, z2, z3, z4].drop 2).take (Try.prog.cellsOf 3)) = xs[2]? := hg 2 _ rfl
    rw [c3, List.getElem?_eq_getElem (show 2 < xs.length by rw [hxl]; decide)] at g2
    have g3 : DataW.trod enc Try.prog W 0 (fun _ => true) true n 3 (([z0, z1, z2, z3, z4].drop 3).take (Try.prog.cellsOf 3)) = xs[3]? := hg 3 _ rfl
    rw [c3, List.getElem?_eq_getElem (show 3 < xs.length by rw [hxl]; decide)] at g3
    have g4 : DataW.trod enc Try.prog W 0 (fun _ => true) true n 22 (([z0, z1, z2, z3, z4].drop 4).take (Try.prog.cellsOf 22)) = xs[4]? := hg 4 _ rfl
    rw [c22, List.getElem?_eq_getElem (show 4 < xs.length by rw [hxl]; decide)] at g4
    obtain ⟨a0, e0, -, w0⟩ := DataW.trod_int (cs := [z0]) Try.underlying3 g0
    simp only [List.cons.injEq, and_true] at e0
    subst e0
    clear g0
    obtain ⟨a1, e1, -, w1⟩ := DataW.trod_int (cs := [z1]) Try.underlying3 g1
    simp only [List.cons.injEq, and_true] at e1
    subst e1
    clear g1
    obtain ⟨a2, e2, -, w2⟩ := DataW.trod_int (cs := [z2]) Try.underlying3 g2
    simp only [List.cons.injEq, and_true] at e2
    subst e2
    clear g2
    obtain ⟨a3, e3, -, w3⟩ := DataW.trod_int (cs := [z3]) Try.underlying3 g3
    simp only [List.cons.injEq, and_true] at e3
    subst e3
    clear g3
    obtain ⟨a4, e4, -, w4⟩ := DataW.trod_int (cs := [z4]) Try.underlying22 g4
    simp only [List.cons.injEq, and_true] at e4
    subst e4
    clear g4
    exact ⟨a0, a1, a2, a3, a4, rfl, w0, w1, w2, w3, w4⟩

theorem open_T26 {H : Type} {enc : TypeId × Value → H} {W : World} {fuel : Nat} {cs : List Value} {x : DataW H × List MemPlace} (h : DataW.trod enc Try.prog W 0 (fun _ => true) true fuel 26 cs = some x) :
    ∃ (a0 : Int) (a1 : Int) (a2 : Int) (a3 : Int) (a4 : Int) (a5 : Int) (a6 : Int) (a7 : Int) (a8 : Int), cs = [.int .i64 a0, .int .i64 a1, .int .i64 a2, .int .i64 a3, .int .i64 a4, .int .i64 a5, .int .i64 a6, .int .i64 a7, .int .i64 a8] ∧ (Lit.int .i64 a0).wf = true ∧ (Lit.int .i64 a1).wf = true ∧ (Lit.int .i64 a2).wf = true ∧ (Lit.int .i64 a3).wf = true ∧ (Lit.int .i64 a4).wf = true ∧ (Lit.int .i64 a5).wf = true ∧ (Lit.int .i64 a6).wf = true ∧ (Lit.int .i64 a7).wf = true ∧ (Lit.int .i64 a8).wf = true := by
  obtain ⟨xs, n, -, -, hl, hxl, hg⟩ := DataW.trod_struct Try.underlying26 h
  have hl' : cs.length = 9 := hl.trans (by kernel_rfl)
  have c3 : Try.prog.cellsOf 3 = 1 := by kernel_rfl
  clear hl h
  match cs, hl' with
  | [z0, z1, z2, z3, z4, z5, z6, z7, z8], _ =>
    have g0 : DataW.trod enc Try.prog W 0 (fun _ => true) true n 3 (([z0, z1, z2, z3, z4, z5, z6, z7, z8].drop 0).take (Try.prog.cellsOf 3)) = xs[0]? := hg 0 _ rfl
    rw [c3, List.getElem?_eq_getElem (show 0 < xs.length by rw [hxl]; decide)] at g0
    have g1 : DataW.trod enc Try.prog W 0 (fun _ => true) true n 3 (([z0, z1, z2, z3, z4, z5, z6, z7, z8].drop 1).take (Try.prog.cellsOf 3)) = xs[1]? := hg 1 _ rfl
    rw [c3, List.getElem?_eq_getElem (show 1 < xs.length by rw [hxl]; decide)] at g1
    have g2 : DataW.trod enc Try.prog W 0 (fun _ => true) true n 3 (([z0, z1, z2, z3, z4, z5, z6, z7, z8].drop 2).take (Try.prog.cellsOf 3)) = xs[2]? := hg 2 _ rfl
    rw [c3, List.getElem?_eq_getElem (show 2 < xs.length by rw [hxl]; decide)] at g2
    have g3 : DataW.trod enc Try.prog W 0 (fun _ => true) true n 3 (([z0, z1, z2, z3, z4, z5, z6, z7, z8].drop 3).take (Try.prog.cellsOf 3)) = xs[3]? := hg 3 _ rfl
    rw [c3, List.getElem?_eq_getElem (show 3 < xs.length by rw [hxl]; decide)] at g3
    have g4 : DataW.trod enc Try.prog W 0 (fun _ => true) true n 3 (([z0, z1, z2, z3, z4, z5, z6, z7, z8].drop 4).take (Try.prog.cellsOf 3)) = xs[4]? := hg 4 _ rfl
    rw [c3, List.getElem?_eq_getElem (show 4 < xs.length by rw [hxl]; decide)] at g4
    have g5 : DataW.trod enc Try.prog W 0 (fun _ => true) true n 3 (([z0, z1, z2, z3, z4, z5, z6, z7, z8].drop 5).take (Try.prog.cellsOf 3)) = xs[5]? := hg 5 _ rfl
    rw [c3, List.getElem?_eq_getElem (show 5 < xs.length by rw [hxl]; decide)] at g5
    have g6 : DataW.trod enc Try.prog W 0 (fun _ => true) true n 3 (([z0, z1, z2, z3, z4, z5, z6, z7, z8].drop 6).take (Try.prog.cellsOf 3)) = xs[6]? := hg 6 _ rfl
    rw [c3, List.getElem?_eq_getElem (show 6 < xs.length by rw [hxl]; decide)] at g6
    have g7 : DataW.trod enc Try.prog W 0 (fun _ => true) true n 3 (([z0, z1, z2, z3, z4, z5, z6, z7, z8].drop 7).take (Try.prog.cellsOf 3)) = xs[7]? := hg 7 _ rfl
    rw [c3, List.getElem?_eq_getElem (show 7 < xs.length by rw [hxl]; decide)] at g7
    have g8 : DataW.trod enc Try.prog W 0 (fun _ => true) true n 3 (([z0, z1, z2, z3, z4, z5, z6, z7, z8].drop 8).take (Try.prog.cellsOf 3)) = xs[8]? := hg 8 _ rfl
    rw [c3, List.getElem?_eq_getElem (show 8 < xs.length by rw [hxl]; decide)] at g8
    obtain ⟨a0, e0, -, w0⟩ := DataW.trod_int (cs := [z0]) Try.underlying3 g0
    simp only [List.cons.injEq, and_true] at e0
    subst e0
    clear g0
    obtain ⟨a1, e1, -, w1⟩ := DataW.trod_int (cs := [z1]) Try.underlying3 g1
    simp only [List.cons.injEq, and_true] at e1
    subst e1
    clear g1
    obtain ⟨a2, e2, -, w2⟩ := DataW.trod_int (cs := [z2]) Try.underlying3 g2
    simp only [List.cons.injEq, and_true] at e2
    subst e2
    clear g2
    obtain ⟨a3, e3, -, w3⟩ := DataW.trod_int (cs := [z3]) Try.underlying3 g3
    simp only [List.cons.injEq, and_true] at e3
    subst e3
    clear g3
    obtain ⟨a4, e4, -, w4⟩ := DataW.trod_int (cs := [z4]) Try.underlying3 g4
    simp only [List.cons.injEq, and_true] at e4
    subst e4
    clear g4
    obtain ⟨a5, e5, -, w5⟩ := DataW.trod_int (cs := [z5]) Try.underlying3 g5
    simp only [List.cons.injEq, and_true] at e5
    subst e5
    clear g5
    obtain ⟨a6, e6, -, w6⟩ := DataW.trod_int (cs := [z6]) Try.underlying3 g6
    simp only [List.cons.injEq, and_true] at e6
    subst e6
    clear g6
    obtain ⟨a7, e7, -, w7⟩ := DataW.trod_int (cs := [z7]) Try.underlying3 g7
    simp only [List.cons.injEq, and_true] at e7
    subst e7
    clear g7
    obtain ⟨a8, e8, -, w8⟩ := DataW.trod_int (cs := [z8]) Try.underlying3 g8
    simp only [List.cons.injEq, and_true] at e8
    subst e8
    clear g8
    exact ⟨a0, a1, a2, a3, a4, a5, a6, a7, a8, rfl, w0, w1, w2, w3, w4, w5, w6, w7, w8⟩

theorem open_T28 {H : Type} {enc : TypeId × Value → H} {W : World} {fuel : Nat} {cs : List Value} {x : DataW H × List MemPlace} (h : DataW.trod enc Try.prog W 0 (fun _ => true) true fuel 28 cs = some x) :
    ∃ (a0 : Int) (a1 : Int) (a2 : Bool), cs = [.int .i64 a0, .int .i64 a1, .bool a2] ∧ (Lit.int .i64 a0).wf = true ∧ (Lit.int .i64 a1).wf = true := by
  obtain ⟨xs, n, -, -, hl, hxl, hg⟩ := DataW.trod_struct Try.underlying28 h
  have hl' : cs.length = 3 := hl.trans (by kernel_rfl)
  have c3 : Try.prog.cellsOf 3 = 1 := by kernel_rfl
  have c4 : Try.prog.cellsOf 4 = 1 := by kernel_rfl
  clear hl h
  match cs, hl' with
  | [z0, z1, z2], _ =>
    have g0 : DataW.trod enc Try.prog W 0 (fun _ => true) true n 3 (([z0, z1, z2].drop 0).take (Try.prog.cellsOf 3)) = xs[0]? := hg 0 _ rfl
    rw [c3, List.getElem?_eq_getElem (show 0 < xs.length by rw [hxl]; decide)] at g0
    have g1 : DataW.trod enc Try.prog W 0 (fun _ => true) true n 3 (([z0, z1, z2].drop 1).take (Try.prog.cellsOf 3)) = xs[1]? := hg 1 _ rfl
    rw [c3, List.getElem?_eq_getElem (show 1 < xs.length by rw [hxl]; decide)] at g1
    have g2 : DataW.trod enc Try.prog W 0 (fun _ => true) true n 4 (([z0, z1, z2].drop 2).take (Try.prog.cellsOf 4)) = xs[2]? := hg 2 _ rfl
    rw [c4, List.getElem?_eq_getElem (show 2 < xs.length by rw [hxl]; decide)] at g2
    obtain ⟨a0, e0, -, w0⟩ := DataW.trod_int (cs := [z0]) Try.underlying3 g0
    simp only [List.cons.injEq, and_true] at e0
    subst e0
    clear g0
    obtain ⟨a1, e1, -, w1⟩ := DataW.trod_int (cs := [z1]) Try.underlying3 g1
    simp only [List.cons.injEq, and_true] at e1
    subst e1
    clear g1
    obtain ⟨a2, e2, -⟩ := DataW.trod_bool (cs := [z2]) Try.underlying4 g2
    simp only [List.cons.injEq, and_true] at e2
    subst e2
    clear g2
    exact ⟨a0, a1, a2, rfl, w0, w1⟩

open Fx

theorem steer_same (y : Ent) (dx dy : Int) (f : Bool) : (steerE y dx dy f).id = y.id ∧ (steerE y dx dy f).kind = y.kind ∧ (steerE y dx dy f).health = y.health ∧ (steerE y dx dy f).x = y.x ∧ (steerE y dx dy f).y = y.y := by
  unfold steerE
  split <;> exact ⟨rfl, rfl, rfl, rfl, rfl⟩

theorem go_gone {a b p n : Int} {y : Ent} (h : erightB a b p n y = true) (hb : goB a b p n y = false) : y.kind = 2 ∧ goE a b p n y = nobody := by
  refine ⟨?_, by unfold goE; rw [hb]; rfl⟩
  unfold goB at hb
  rw [h] at hb
  simp at hb
  exact hb.1

theorem mem_next (l : List Int) (r : Int) (k : Nat) (hk : k < l.length) : decide (r ∈ l.take (k + 1)) = (decide (r ∈ l.take k) || (gi l k == r)) := by
  rw [List.take_succ_eq_append_getElem hk]
  have : gi l k = l[k] := by simp [gi, List.getD_eq_getElem?_getD, List.getElem?_eq_getElem hk]
  rw [this, Bool.eq_iff_iff]
  simp only [decide_eq_true_eq, List.mem_append, List.mem_singleton, Bool.or_eq_true, beq_iff_eq]
  constructor
  · rintro (h | h)
    · exact .inl h
    · exact .inr h.symm
  · rintro (h | h)
    · exact .inl h
    · exact .inr h.symm

set_option maxRecDepth 100000 in
set_option maxHeartbeats 8000000 in
theorem walk (a0 : Fx.Cfg) (a1 : Fx.Ent) (a2 : Fx.Inp) (w : World) (w0 : Fx.Cfg.ok a0) (w1 : Fx.Ent.ok a1) (w2 : Fx.Inp.ok a2) :
    Calls Try.prog 4 #[.agg #[.int .i64 a0.cols, .int .i64 a0.rows, .int .i64 a0.players, .int .i64 a0.window, .int .u64 a0.seed], .agg #[.int .i64 a1.id, .int .i64 a1.kind, .int .i64 a1.x, .int .i64 a1.y, .int .i64 a1.vx, .int .i64 a1.vy, .int .i64 a1.health, .int .i64 a1.age, .int .i64 a1.owner], .agg #[.int .i64 a2.dx, .int .i64 a2.dy, .bool a2.fire]] w fun e w' => e = .returned (.bool true) ∧ Below w.heap.size w w' := by
  have hag := (bounds_i64 w1.2.2.2.2.2.2.2.1).2
  clear w0 w1 w2
  have HS := Lib.hid (fun x y w => steer_any a1 x y a2.fire w (by omega))
  have HA := Lib.hid awake_mv
  clear hag
  go_enter Try.func4, Try.ntmps4
  go_upto_region 1 with fail
  generalize hW : World.alloc (World.alloc (World.alloc w _) _) _ = W0
  have Bc := Lib.hid (show CfgBox W0 w.heap.size a0 from by rw [← hW]; exact CfgBox.n3a _ _ _ _ _ rfl)
  have Be := Lib.hid (show EntBox W0 (w.heap.size + 1) a1 from by rw [← hW]; exact EntBox.n3b _ _ _ _ _ rfl)
  have Bi := Lib.hid (show InpBox W0 (w.heap.size + 1 + 1) a2 from by rw [← hW]; exact InpBox.n3c _ _ _ _ _ rfl)
  have HB := Lib.hid (show Below w.heap.size w W0 from by rw [← hW]; exact bal3 _ _ _ _)
  clear hW
  have c0 := Bc.out.c0
  have c1 := Bc.out.c1
  have c2 := Bc.out.c2
  have c3 := Bc.out.c3
  have c4 := Bc.out.c4
  go_wp2_with fail
  refine (config_any _ _ _ _ _ _).mono ?_
  rintro e v' ⟨a, b, p, n, rfl, hsm, hb⟩
  clear c0 c1 c2 c3 c4
  have Bn := Bc.out.nx hb
  obtain ⟨n0, n1, n2, n3, n4, m0, m1, m2, m3, m4⟩ := Bn
  go_upto_region 2 with fail
  clear n0 m0 n1 m1 n2 m2 n3 m3 n4 m4
  generalize hW : World.setCell _ _ _ = W1
  have hO := CfgBox.off (⟨a, b, p, n, a0.seed⟩) hW
  replace Be := Lib.hid (Be.out.nxf hb hO (by omega))
  replace Bi := Lib.hid (Bi.out.nxf hb hO (by omega))
  replace Bc := Lib.hid (Bc.out.nxs hb (⟨a, b, p, n, a0.seed⟩) hW)
  replace HB := Lib.hid (CfgBox.bel (nextW HB.out hb) (⟨a, b, p, n, a0.seed⟩) (Nat.le_refl _) hW)
  clear hW hb hO v'
  have Hrt := Lib.hid hsm.1
  have HN := Lib.hid (fun w => new_yes a b p n a0.seed w hsm.1)
  clear hsm
  have c0 := Bc.out.c0
  have c1 := Bc.out.c1
  have c2 := Bc.out.c2
  have c3 := Bc.out.c3
  have c4 := Bc.out.c4
  go_wp2_with fail
  refine (HN.out _).mono ?_
  rintro e v' ⟨rfl, hb⟩
  clear c0 c1 c2 c3 c4
  go_upto_region 3 with fail
  generalize hW : World.alloc _ _ = W2
  replace Bc := Lib.hid (Bc.out.nxa hb hW)
  replace Be := Lib.hid (Be.out.nxa hb hW)
  replace Bi := Lib.hid (Bi.out.nxa hb hW)
  have Bg := Lib.hid (CfgBox.nb hW (⟨a, b, p, n, a0.seed⟩) rfl)
  generalize v'.heap.size = bg at *
  replace HB := Lib.hid (below_nxa HB.out hb hW)
  clear hW hb v'
  clear HN
  have HR := Lib.hid (fun y w => rright_any a b p n a0.seed y w)
  have HG := Lib.hid (fun y w => go_any a b p n a0.seed y w)
  go_wp2_with fail
  refine (HA.out _).mono ?_
  rintro e v' ⟨rfl, hb⟩
  skip
  replace Bc := Lib.hid (Bc.out.nx hb)
  replace Be := Lib.hid (Be.out.nx hb)
  replace Bi := Lib.hid (Bi.out.nx hb)
  replace Bg := Lib.hid (Bg.out.nx hb)
  replace HB := Lib.hid (nextW HB.out hb)
  clear hb
  rcases (show erightB a b p n a1 = false ∨ erightB a b p n a1 = true by cases erightB a b p n a1 <;> simp) with hR | hR
  · replace HR := Lib.hid (fun w => HR.out a1 w)
    rw [hR] at HR
    have c0 := Bc.out.c0
    have c1 := Bc.out.c1
    have c2 := Bc.out.c2
    have c3 := Bc.out.c3
    have c4 := Bc.out.c4
    have e0 := Be.out.c0
    have e1 := Be.out.c1
    have e2 := Be.out.c2
    have e3 := Be.out.c3
    have e4 := Be.out.c4
    have e5 := Be.out.c5
    have e6 := Be.out.c6
    have e7 := Be.out.c7
    have e8 := Be.out.c8
    go_wp2_with fail
    refine (HR.out _).mono ?_
    rintro e v' ⟨rfl, hb⟩
    clear c0 c1 c2 c3 c4 e0 e1 e2 e3 e4 e5 e6 e7 e8
    skip
    replace Bc := Lib.hid (Bc.out.nx hb)
    replace HB := Lib.hid (nextW HB.out hb)
    clear hb
    go_wp2_with fail
    refine (HA.out _).mono ?_
    rintro e v' ⟨rfl, hb⟩
    skip
    replace Bc := Lib.hid (Bc.out.nx hb)
    replace HB := Lib.hid (nextW HB.out hb)
    clear hb
    go_wp2
    go_ret
    exact ⟨rfl, HB.out⟩
  · have HR1 := Lib.hid (fun w => HR.out a1 w)
    rw [hR] at HR1
    have HRr := Lib.hid hR
    clear hR
    have c0 := Bc.out.c0
    have c1 := Bc.out.c1
    have c2 := Bc.out.c2
    have c3 := Bc.out.c3
    have c4 := Bc.out.c4
    have e0 := Be.out.c0
    have e1 := Be.out.c1
    have e2 := Be.out.c2
    have e3 := Be.out.c3
    have e4 := Be.out.c4
    have e5 := Be.out.c5
    have e6 := Be.out.c6
    have e7 := Be.out.c7
    have e8 := Be.out.c8
    go_wp2_with fail
    refine (HR1.out _).mono ?_
    rintro e W3 ⟨rfl, hb⟩
    clear c0 c1 c2 c3 c4 e0 e1 e2 e3 e4 e5 e6 e7 e8
    go_upto_region 5 with fail
    replace Bc := Lib.hid (Bc.out.nx hb)
    replace Be := Lib.hid (Be.out.nx hb)
    replace Bi := Lib.hid (Bi.out.nx hb)
    replace Bg := Lib.hid (Bg.out.nx hb)
    replace HB := Lib.hid (nextW HB.out hb)
    clear hb
    clear HR1 HA
    have ze := Be.out.has
    have zi := Bi.out.has
    go_cut [9, 10] (fun s9 s10 wx => ∃ x y blk, s9 = .pointer (some ⟨blk, 0, none⟩) ∧ s10 = .bool (steerB a1 x y a2.fire) ∧ EntBox wx blk (steerE a1 x y a2.fire) ∧ Below W3.heap.size W3 wx)
    case first =>
      have e0 := Be.out.c0
      have e1 := Be.out.c1
      have e2 := Be.out.c2
      have e3 := Be.out.c3
      have e4 := Be.out.c4
      have e5 := Be.out.c5
      have e6 := Be.out.c6
      have e7 := Be.out.c7
      have e8 := Be.out.c8
      have i0 := Bi.out.c0
      have i1 := Bi.out.c1
      have i2 := Bi.out.c2
      refine tree_region (S := (fun w' => (∀ b o, b < (W3).heap.size → w'.cell? ⟨b, o, none⟩ = (W3).cell? ⟨b, o, none⟩) ∧ (∀ b o, b < (W3).heap.size → w'.frozen? ⟨b, o, none⟩ = (W3).frozen? ⟨b, o, none⟩) ∧ Below (W3).heap.size (W3) w')) (.free 0 (.free 1 (.two 2 (.two 3 (.free 4 (.free 5 (.free 6 (.one 7 (.one 8 (.free 9 .done)))))) 7 (.one 3 (.free 4 (.free 5 (.free 6 (.one 8 (.free 9 .done))))))) 7 (.one 2 (.one 3 (.free 4 (.free 5 (.free 6 (.one 8 (.free 9 .done)))))))))) (by kernel_rfl) (by kernel_rfl) (fun _ _ d _ _ h => by cases d <;> exact h) (keepW0 _) (fun hS => ?_)
      simp only [written, List.getElem?_cons_succ, List.getElem?_cons_zero]
      refine rw_free (v := ?_) (by rfl) ?_ ?_
      rotate_left 1
      focus (intro w hSw; (try dsimp only at hSw); go_simp; (try with_reducible rfl))
      (try simp only [Act.put, List.setIfInBounds_toArray, List.set_cons_zero, List.set_cons_succ])
      refine rw_free (v := ?_) (by rfl) ?_ ?_
      rotate_left 1
      focus (intro w hSw; (try dsimp only at hSw); go_simp; (try with_reducible rfl))
      (try simp only [Act.put, List.setIfInBounds_toArray, List.set_cons_zero, List.set_cons_succ])
      refine rw_two ?_ ?_
      · skip
        refine rw_call (by rfl) (fun K hK => ?_)
        go_simp
        (refine (pinput_any _ _ _ _).mono ?_; rintro e v1 ⟨x, y, rfl, hi, hb1⟩)
        (try go_wp2_with fail)
        refine hK.out _ _ ?_ (fun hS' => ?_)
        · (try dsimp only); first | exact keepW (by assumption) (by assumption) | exact keepB (by assumption) (by assumption) | exact keepA (by assumption) | assumption
        clear hS hK K
        have hS := hS'
        clear hS'
        (try simp only [Act.put, List.setIfInBounds_toArray, List.set_cons_zero, List.set_cons_succ])
        refine rw_two ?_ ?_
        · skip
          refine rw_call (by rfl) (fun K hK => ?_)
          go_simp
          (refine (HS.out x y _).mono ?_; rintro e v2 ⟨rfl, hb2⟩)
          (try go_wp2_with fail)
          refine hK.out _ _ ?_ (fun hS' => ?_)
          · (try dsimp only); first | exact keepW (by assumption) (by assumption) | exact keepB (by assumption) (by assumption) | exact keepA (by assumption) | assumption
          clear hS hK K
          have hS := hS'
          clear hS'
          (try simp only [Act.put, List.setIfInBounds_toArray, List.set_cons_zero, List.set_cons_succ])
          refine rw_free (v := ?_) (by rfl) ?_ ?_
          rotate_left 1
          focus (intro w hSw; (try dsimp only at hSw); go_simp; (try with_reducible rfl))
          (try simp only [Act.put, List.setIfInBounds_toArray, List.set_cons_zero, List.set_cons_succ])
          refine rw_free (v := ?_) (by rfl) ?_ ?_
          rotate_left 1
          focus (intro w hSw; (try dsimp only at hSw); go_simp; (try with_reducible rfl))
          (try simp only [Act.put, List.setIfInBounds_toArray, List.set_cons_zero, List.set_cons_succ])
          refine rw_free (v := ?_) (by rfl) ?_ ?_
          rotate_left 1
          focus (intro w hSw; (try dsimp only at hSw); go_simp; (try with_reducible rfl))
          (try simp only [Act.put, List.setIfInBounds_toArray, List.set_cons_zero, List.set_cons_succ])
          refine rw_call (by rfl) (fun K hK => ?_)
          go_simp
          (skip)
          (try go_wp2_with fail)
          refine hK.out _ _ ?_ (fun hS' => ?_)
          · (try dsimp only); first | exact keepW (by assumption) (by assumption) | exact keepB (by assumption) (by assumption) | exact keepA (by assumption) | assumption
          clear hS hK K
          have hS := hS'
          clear hS'
          (try simp only [Act.put, List.setIfInBounds_toArray, List.set_cons_zero, List.set_cons_succ])
          first | (with_reducible have hs := ((zbox _ _).drew.nx hb1).nx hb2; have Hs := Lib.hid hs; obtain ⟨n0, n1, n2, n3, n4, n5, n6, n7, n8, m0, m1, m2, m3, m4, m5, m6, m7, m8⟩ := hs) | (with_reducible have hs := ((zbox _ _).nx hb1).nx hb2; have Hs := Lib.hid hs; obtain ⟨n0, n1, n2, n3, n4, n5, n6, n7, n8, m0, m1, m2, m3, m4, m5, m6, m7, m8⟩ := hs) | (with_reducible have hs := (zbox _ _).nx hb2; have Hs := Lib.hid hs; obtain ⟨n0, n1, n2, n3, n4, n5, n6, n7, n8, m0, m1, m2, m3, m4, m5, m6, m7, m8⟩ := hs) | skip
          refine rw_call (by rfl) (fun K hK => ?_)
          go_simp
          (skip)
          (try go_wp2_with fail)
          refine hK.out _ _ ?_ (fun hS' => ?_)
          · (try dsimp only); first | (have _h := Hs.out; exact keepOf (EntBox.bel hS.2.2 _ (by first | exact Nat.le_refl _ | exact (nextW (Below.refl _ _).drew hb1).size) rfl)) | exact keepOf (below_nxa (nextW (Below.refl _ _).drew hb1) hb2 rfl)
          clear hS hK K
          have hS := hS'
          clear hS'
          (try simp only [Act.put, List.setIfInBounds_toArray, List.set_cons_zero, List.set_cons_succ])
          refine rw_free (v := ?_) (by rfl) ?_ ?_
          rotate_left 1
          focus (intro w hSw; (try dsimp only at hSw); go_simp; (try with_reducible rfl))
          (try simp only [Act.put, List.setIfInBounds_toArray, List.set_cons_zero, List.set_cons_succ])
          refine rw_done ?_
          (try clear n0 n1 n2 n3 n4 n5 n6 n7 n8 m0 m1 m2 m3 m4 m5 m6 m7 m8)
          go_wp2_with fail
          go_meet
          exact ⟨x, y, _, rfl, rfl, (by first | with_reducible exact Hs.out.put _ | with_reducible exact EntBox.n1 _ _ _ rfl | with_reducible exact (EntBox.n1 _ _ _ rfl).drew), hS.2.2⟩
        · skip
          refine rw_call (by rfl) (fun K hK => ?_)
          go_simp
          (skip)
          (try go_wp2_with fail)
          refine hK.out _ _ ?_ (fun hS' => ?_)
          · (try dsimp only); first | exact keepW (by assumption) (by assumption) | exact keepB (by assumption) (by assumption) | exact keepA (by assumption) | assumption
          clear hS hK K
          have hS := hS'
          clear hS'
          (try simp only [Act.put, List.setIfInBounds_toArray, List.set_cons_zero, List.set_cons_succ])
          refine rw_call (by rfl) (fun K hK => ?_)
          go_simp
          (refine (HS.out x y _).mono ?_; rintro e v2 ⟨rfl, hb2⟩)
          (try go_wp2_with fail)
          refine hK.out _ _ ?_ (fun hS' => ?_)
          · (try dsimp only); first | exact keepW (by assumption) (by assumption) | exact keepB (by assumption) (by assumption) | exact keepA (by assumption) | assumption
          clear hS hK K
          have hS := hS'
          clear hS'
          (try simp only [Act.put, List.setIfInBounds_toArray, List.set_cons_zero, List.set_cons_succ])
          refine rw_free (v := ?_) (by rfl) ?_ ?_
          rotate_left 1
          focus (intro w hSw; (try dsimp only at hSw); go_simp; (try with_reducible rfl))
          (try simp only [Act.put, List.setIfInBounds_toArray, List.set_cons_zero, List.set_cons_succ])
          refine rw_free (v := ?_) (by rfl) ?_ ?_
          rotate_left 1
          focus (intro w hSw; (try dsimp only at hSw); go_simp; (try with_reducible rfl))
          (try simp only [Act.put, List.setIfInBounds_toArray, List.set_cons_zero, List.set_cons_succ])
          refine rw_free (v := ?_) (by rfl) ?_ ?_
          rotate_left 1
          focus (intro w hSw; (try dsimp only at hSw); go_simp; (try with_reducible rfl))
          (try simp only [Act.put, List.setIfInBounds_toArray, List.set_cons_zero, List.set_cons_succ])
          first | (with_reducible have hs := ((zbox _ _).drew.nx hb1).nx hb2; have Hs := Lib.hid hs; obtain ⟨n0, n1, n2, n3, n4, n5, n6, n7, n8, m0, m1, m2, m3, m4, m5, m6, m7, m8⟩ := hs) | (with_reducible have hs := ((zbox _ _).nx hb1).nx hb2; have Hs := Lib.hid hs; obtain ⟨n0, n1, n2, n3, n4, n5, n6, n7, n8, m0, m1, m2, m3, m4, m5, m6, m7, m8⟩ := hs) | (with_reducible have hs := (zbox _ _).nx hb2; have Hs := Lib.hid hs; obtain ⟨n0, n1, n2, n3, n4, n5, n6, n7, n8, m0, m1, m2, m3, m4, m5, m6, m7, m8⟩ := hs) | skip
          refine rw_call (by rfl) (fun K hK => ?_)
          go_simp
          (skip)
          (try go_wp2_with fail)
          refine hK.out _ _ ?_ (fun hS' => ?_)
          · (try dsimp only); first | (have _h := Hs.out; exact keepOf (EntBox.bel hS.2.2 _ (by first | exact Nat.le_refl _ | exact (nextW (Below.refl _ _).drew hb1).size) rfl)) | exact keepOf (below_nxa (nextW (Below.refl _ _).drew hb1) hb2 rfl)
          clear hS hK K
          have hS := hS'
          clear hS'
          (try simp only [Act.put, List.setIfInBounds_toArray, List.set_cons_zero, List.set_cons_succ])
          refine rw_free (v := ?_) (by rfl) ?_ ?_
          rotate_left 1
          focus (intro w hSw; (try dsimp only at hSw); go_simp; (try with_reducible rfl))
          (try simp only [Act.put, List.setIfInBounds_toArray, List.set_cons_zero, List.set_cons_succ])
          refine rw_done ?_
          (try clear n0 n1 n2 n3 n4 n5 n6 n7 n8 m0 m1 m2 m3 m4 m5 m6 m7 m8)
          go_wp2_with fail
          go_meet
          exact ⟨x, y, _, rfl, rfl, (by first | with_reducible exact Hs.out.put _ | with_reducible exact EntBox.n1 _ _ _ rfl | with_reducible exact (EntBox.n1 _ _ _ rfl).drew), hS.2.2⟩
      · skip
        refine rw_call (by rfl) (fun K hK => ?_)
        go_simp
        (skip)
        (try go_wp2_with fail)
        refine hK.out _ _ ?_ (fun hS' => ?_)
        · (try dsimp only); first | exact keepW (by assumption) (by assumption) | exact keepB (by assumption) (by assumption) | exact keepA (by assumption) | assumption
        clear hS hK K
        have hS := hS'
        clear hS'
        (try simp only [Act.put, List.setIfInBounds_toArray, List.set_cons_zero, List.set_cons_succ])
        refine rw_call (by rfl) (fun K hK => ?_)
        go_simp
        (refine (pinput_any _ _ _ _).mono ?_; rintro e v1 ⟨x, y, rfl, hi, hb1⟩)
        (try go_wp2_with fail)
        refine hK.out _ _ ?_ (fun hS' => ?_)
        · (try dsimp only); first | exact keepW (by assumption) (by assumption) | exact keepB (by assumption) (by assumption) | exact keepA (by assumption) | assumption
        clear hS hK K
        have hS := hS'
        clear hS'
        (try simp only [Act.put, List.setIfInBounds_toArray, List.set_cons_zero, List.set_cons_succ])
        refine rw_call (by rfl) (fun K hK => ?_)
        go_simp
        (refine (HS.out x y _).mono ?_; rintro e v2 ⟨rfl, hb2⟩)
        (try go_wp2_with fail)
        refine hK.out _ _ ?_ (fun hS' => ?_)
        · (try dsimp only); first | exact keepW (by assumption) (by assumption) | exact keepB (by assumption) (by assumption) | exact keepA (by assumption) | assumption
        clear hS hK K
        have hS := hS'
        clear hS'
        (try simp only [Act.put, List.setIfInBounds_toArray, List.set_cons_zero, List.set_cons_succ])
        refine rw_free (v := ?_) (by rfl) ?_ ?_
        rotate_left 1
        focus (intro w hSw; (try dsimp only at hSw); go_simp; (try with_reducible rfl))
        (try simp only [Act.put, List.setIfInBounds_toArray, List.set_cons_zero, List.set_cons_succ])
        refine rw_free (v := ?_) (by rfl) ?_ ?_
        rotate_left 1
        focus (intro w hSw; (try dsimp only at hSw); go_simp; (try with_reducible rfl))
        (try simp only [Act.put, List.setIfInBounds_toArray, List.set_cons_zero, List.set_cons_succ])
        refine rw_free (v := ?_) (by rfl) ?_ ?_
        rotate_left 1
        focus (intro w hSw; (try dsimp only at hSw); go_simp; (try with_reducible rfl))
        (try simp only [Act.put, List.setIfInBounds_toArray, List.set_cons_zero, List.set_cons_succ])
        first | (with_reducible have hs := ((zbox _ _).drew.nx hb1).nx hb2; have Hs := Lib.hid hs; obtain ⟨n0, n1, n2, n3, n4, n5, n6, n7, n8, m0, m1, m2, m3, m4, m5, m6, m7, m8⟩ := hs) | (with_reducible have hs := ((zbox _ _).nx hb1).nx hb2; have Hs := Lib.hid hs; obtain ⟨n0, n1, n2, n3, n4, n5, n6, n7, n8, m0, m1, m2, m3, m4, m5, m6, m7, m8⟩ := hs) | (with_reducible have hs := (zbox _ _).nx hb2; have Hs := Lib.hid hs; obtain ⟨n0, n1, n2, n3, n4, n5, n6, n7, n8, m0, m1, m2, m3, m4, m5, m6, m7, m8⟩ := hs) | skip
        refine rw_call (by rfl) (fun K hK => ?_)
        go_simp
        (skip)
        (try go_wp2_with fail)
        refine hK.out _ _ ?_ (fun hS' => ?_)
        · (try dsimp only); first | (have _h := Hs.out; exact keepOf (EntBox.bel hS.2.2 _ (by first | exact Nat.le_refl _ | exact (nextW (Below.refl _ _).drew hb1).size) rfl)) | exact keepOf (below_nxa (nextW (Below.refl _ _).drew hb1) hb2 rfl)
        clear hS hK K
        have hS := hS'
        clear hS'
        (try simp only [Act.put, List.setIfInBounds_toArray, List.set_cons_zero, List.set_cons_succ])
        refine rw_free (v := ?_) (by rfl) ?_ ?_
        rotate_left 1
        focus (intro w hSw; (try dsimp only at hSw); go_simp; (try with_reducible rfl))
        (try simp only [Act.put, List.setIfInBounds_toArray, List.set_cons_zero, List.set_cons_succ])
        refine rw_done ?_
        (try clear n0 n1 n2 n3 n4 n5 n6 n7 n8 m0 m1 m2 m3 m4 m5 m6 m7 m8)
        go_wp2_with fail
        go_meet
        exact ⟨x, y, _, rfl, rfl, (by first | with_reducible exact Hs.out.put _ | with_reducible exact EntBox.n1 _ _ _ rfl | with_reducible exact (EntBox.n1 _ _ _ rfl).drew), hS.2.2⟩
    case rest =>
      obtain ⟨x, y, bs, rfl, rfl, hs, hb⟩ := hcut
      have Bs := Lib.hid hs
      replace Bc := Lib.hid (Bc.out.nx hb)
      replace Be := Lib.hid (Be.out.nx hb)
      replace Bg := Lib.hid (Bg.out.nx hb)
      replace HB := Lib.hid (nextW HB.out hb)
      clear hs hb ze zi Bi HS
      have HSr := Lib.hid (steer_right x y a2.fire HRr.out)
      have HSs := Lib.hid (steer_same a1 x y a2.fire)
      generalize steerE a1 x y a2.fire = S at *
      generalize steerB a1 x y a2.fire = F at *
      replace HG := Lib.hid (fun w => HG.out S w)
      rcases (show goB a b p n S = false ∨ goB a b p n S = true by cases goB a b p n S <;> simp) with hI | hI
      · obtain ⟨h2, h3⟩ := go_gone HSr.out hI
        have hk : (a1.kind == 2) = true := by have := HSs.out.2.1; rw [← this, h2]; rfl
        rw [hI, h3] at HG
        clear hI h2 h3
        have g0 := Bg.out.c0
        have g1 := Bg.out.c1
        have g2 := Bg.out.c2
        have g3 := Bg.out.c3
        have g4 := Bg.out.c4
        have s0 := Bs.out.c0
        have s1 := Bs.out.c1
        have s2 := Bs.out.c2
        have s3 := Bs.out.c3
        have s4 := Bs.out.c4
        have s5 := Bs.out.c5
        have s6 := Bs.out.c6
        have s7 := Bs.out.c7
        have s8 := Bs.out.c8
        go_wp2_with fail
        refine (HG.out _).mono ?_
        rintro e v' ⟨rfl, hb⟩
        clear g0 g1 g2 g3 g4 s0 s1 s2 s3 s4 s5 s6 s7 s8
        go_upto_region 7 with fail
        generalize hW : World.alloc _ _ = W5
        replace Be := Lib.hid (Be.out.nxa hb hW)
        have Bx := Lib.hid (EntBox.nb hW (nobody) rfl)
        generalize v'.heap.size = bx at *
        replace HB := Lib.hid (below_nxa HB.out hb hW)
        clear hW hb v'
        have e0 := Be.out.c0
        have e1 := Be.out.c1
        have e2 := Be.out.c2
        have e3 := Be.out.c3
        have e4 := Be.out.c4
        have e5 := Be.out.c5
        have e6 := Be.out.c6
        have e7 := Be.out.c7
        have e8 := Be.out.c8
        have x0 := Bx.out.c0
        have x1 := Bx.out.c1
        have x2 := Bx.out.c2
        have x3 := Bx.out.c3
        have x4 := Bx.out.c4
        have x5 := Bx.out.c5
        have x6 := Bx.out.c6
        have x7 := Bx.out.c7
        have x8 := Bx.out.c8
        go_wp2
        go_ret
        exact ⟨rfl, HB.out⟩
      · have HGr := Lib.hid (go_right Hrt.out hI)
        have HGs := Lib.hid (go_same hI)
        have HGn := Lib.hid (go_near Hrt.out hI)
        rw [hI] at HG
        clear hI
        generalize goE a b p n S = G at *
        have g0 := Bg.out.c0
        have g1 := Bg.out.c1
        have g2 := Bg.out.c2
        have g3 := Bg.out.c3
        have g4 := Bg.out.c4
        have s0 := Bs.out.c0
        have s1 := Bs.out.c1
        have s2 := Bs.out.c2
        have s3 := Bs.out.c3
        have s4 := Bs.out.c4
        have s5 := Bs.out.c5
        have s6 := Bs.out.c6
        have s7 := Bs.out.c7
        have s8 := Bs.out.c8
        go_wp2_with fail
        refine (HG.out _).mono ?_
        rintro e v' ⟨rfl, hb⟩
        clear g0 g1 g2 g3 g4 s0 s1 s2 s3 s4 s5 s6 s7 s8
        go_upto_region 9 with fail
        generalize hW : World.alloc _ _ = W5
        replace Bc := Lib.hid (Bc.out.nxa hb hW)
        replace Be := Lib.hid (Be.out.nxa hb hW)
        have Bx := Lib.hid (EntBox.nb hW (G) rfl)
        generalize v'.heap.size = bx at *
        replace HB := Lib.hid (below_nxa HB.out hb hW)
        clear hW hb v'
        clear HG Bg Bs
        have HO1 := Lib.hid (fun w => rof_any a b p n a0.seed a1.x a1.y w)
        have HO2 := Lib.hid (fun w => rof_any a b p n a0.seed G.x G.y w)
        have HNr := Lib.hid (fun r w => rnear_any a b p n a0.seed r w)
        rw [HSs.out.2.2.2.1, HSs.out.2.2.2.2] at HGn
        generalize ofr a b p n a1.x a1.y = r1 at *
        generalize ofr a b p n G.x G.y = r2 at *
        have zc := Bc.out.has
        have ze := Be.out.has
        have zx := Bx.out.has
        have c0 := Bc.out.c0
        have c1 := Bc.out.c1
        have c2 := Bc.out.c2
        have c3 := Bc.out.c3
        have c4 := Bc.out.c4
        have e0 := Be.out.c0
        have e1 := Be.out.c1
        have e2 := Be.out.c2
        have e3 := Be.out.c3
        have e4 := Be.out.c4
        have e5 := Be.out.c5
        have e6 := Be.out.c6
        have e7 := Be.out.c7
        have e8 := Be.out.c8
        have x0 := Bx.out.c0
        have x1 := Bx.out.c1
        have x2 := Bx.out.c2
        have x3 := Bx.out.c3
        have x4 := Bx.out.c4
        have x5 := Bx.out.c5
        have x6 := Bx.out.c6
        have x7 := Bx.out.c7
        have x8 := Bx.out.c8
        refine plan_region' (S := (fun w' => (∀ b o, b < (W5).heap.size → w'.cell? ⟨b, o, none⟩ = (W5).cell? ⟨b, o, none⟩) ∧ (∀ b o, b < (W5).heap.size → w'.frozen? ⟨b, o, none⟩ = (W5).frozen? ⟨b, o, none⟩) ∧ Below (W5).heap.size (W5) w')) [(0, true), (1, true), (2, true), (3, true), (4, true), (6, true), (7, true), (8, true), (9, true), (10, true), (5, false), (11, false), (12, true), (13, true)] (by kernel_rfl) (by kernel_rfl) (fun _ _ d _ _ h => by cases d <;> exact h) (keepW0 _) (fun hS => ?_)
        simp only [picked, List.getElem?_cons_succ, List.getElem?_cons_zero]
        refine row_free (v := ?_) (by rfl) ?_ ?_
        rotate_left 1
        focus (intro w hSw; (try dsimp only at hSw); go_simp; (try with_reducible rfl))
        (try simp only [Act.put, List.setIfInBounds_toArray, List.set_cons_zero, List.set_cons_succ])
        refine row_free (v := ?_) (by rfl) ?_ ?_
        rotate_left 1
        focus (intro w hSw; (try dsimp only at hSw); go_simp; (try with_reducible rfl))
        (try simp only [Act.put, List.setIfInBounds_toArray, List.set_cons_zero, List.set_cons_succ])
        refine row_free (v := ?_) (by rfl) ?_ ?_
        rotate_left 1
        focus (intro w hSw; (try dsimp only at hSw); go_simp; (try with_reducible rfl))
        (try simp only [Act.put, List.setIfInBounds_toArray, List.set_cons_zero, List.set_cons_succ])
        refine row_free (v := ?_) (by rfl) ?_ ?_
        rotate_left 1
        focus (intro w hSw; (try dsimp only at hSw); go_simp; (try with_reducible rfl))
        (try simp only [Act.put, List.setIfInBounds_toArray, List.set_cons_zero, List.set_cons_succ])
        refine row_free (v := ?_) (by rfl) ?_ ?_
        rotate_left 1
        focus (intro w hSw; (try dsimp only at hSw); go_simp; (try with_reducible rfl))
        (try simp only [Act.put, List.setIfInBounds_toArray, List.set_cons_zero, List.set_cons_succ])
        refine row_free (v := ?_) (by rfl) ?_ ?_
        rotate_left 1
        focus (intro w hSw; (try dsimp only at hSw); go_simp; (try with_reducible rfl))
        (try simp only [Act.put, List.setIfInBounds_toArray, List.set_cons_zero, List.set_cons_succ])
        refine row_free (v := ?_) (by rfl) ?_ ?_
        rotate_left 1
        focus (intro w hSw; (try dsimp only at hSw); go_simp; (try with_reducible rfl))
        (try simp only [Act.put, List.setIfInBounds_toArray, List.set_cons_zero, List.set_cons_succ])
        refine row_free (v := ?_) (by rfl) ?_ ?_
        rotate_left 1
        focus (intro w hSw; (try dsimp only at hSw); go_simp; (try with_reducible rfl))
        (try simp only [Act.put, List.setIfInBounds_toArray, List.set_cons_zero, List.set_cons_succ])
        refine row_free (v := ?_) (by rfl) ?_ ?_
        rotate_left 1
        focus (intro w hSw; (try dsimp only at hSw); go_simp; (try with_reducible rfl))
        (try simp only [Act.put, List.setIfInBounds_toArray, List.set_cons_zero, List.set_cons_succ])
        refine row_free (v := ?_) (by rfl) ?_ ?_
        rotate_left 1
        focus (intro w hSw; (try dsimp only at hSw); go_simp; (try with_reducible rfl))
        (try simp only [Act.put, List.setIfInBounds_toArray, List.set_cons_zero, List.set_cons_succ])
        refine row_call (by rfl) (fun K hK => ?_)
        go_simp
        (refine (HO1.out _).mono ?_; rintro e v1 ⟨rfl, hb1⟩)
        (try go_wp2_with fail)
        refine hK.out _ _ ?_ (fun hS' => ?_)
        · (try dsimp only); first | exact keepW (by assumption) (by assumption) | exact keepB (by assumption) (by assumption) | exact keepA (by assumption) | assumption
        clear hS hK K
        have hS := hS'
        clear hS'
        (try simp only [Act.put, List.setIfInBounds_toArray, List.set_cons_zero, List.set_cons_succ])
        refine row_call (by rfl) (fun K hK => ?_)
        go_simp
        (refine (HO2.out _).mono ?_; rintro e v2 ⟨rfl, hb2⟩)
        (try go_wp2_with fail)
        refine hK.out _ _ ?_ (fun hS' => ?_)
        · (try dsimp only); first | exact keepW (by assumption) (by assumption) | exact keepB (by assumption) (by assumption) | exact keepA (by assumption) | assumption
        clear hS hK K
        have hS := hS'
        clear hS'
        (try simp only [Act.put, List.setIfInBounds_toArray, List.set_cons_zero, List.set_cons_succ])
        refine row_free (v := ?_) (by rfl) ?_ ?_
        rotate_left 1
        focus (intro w hSw; (try dsimp only at hSw); go_simp; (try with_reducible rfl))
        (try simp only [Act.put, List.setIfInBounds_toArray, List.set_cons_zero, List.set_cons_succ])
        refine row_free (v := ?_) (by rfl) ?_ ?_
        rotate_left 1
        focus (intro w hSw; (try dsimp only at hSw); go_simp; (try with_reducible rfl))
        (try simp only [Act.put, List.setIfInBounds_toArray, List.set_cons_zero, List.set_cons_succ])
        refine row_done ?_
        replace Bc := Lib.hid (Bc.out.nx hS.2.2)
        replace Be := Lib.hid (Be.out.nx hS.2.2)
        replace Bx := Lib.hid (Bx.out.nx hS.2.2)
        replace HB := Lib.hid (nextW HB.out hS.2.2)
        clear hS hb1 hb2 zc ze zx c0 c1 c2 c3 c4 e0 e1 e2 e3 e4 e5 e6 e7 e8 x0 x1 x2 x3 x4 x5 x6 x7 x8
        have c0 := Bc.out.c0
        have c1 := Bc.out.c1
        have c2 := Bc.out.c2
        have c3 := Bc.out.c3
        have c4 := Bc.out.c4
        go_wp2_with fail
        refine (HNr.out r1 _).mono ?_
        rintro e W6 ⟨A, cp, rfl, hat, hb⟩
        clear c0 c1 c2 c3 c4
        skip
        replace Bc := Lib.hid (Bc.out.nx hb)
        replace Be := Lib.hid (Be.out.nx hb)
        replace Bx := Lib.hid (Bx.out.nx hb)
        replace HB := Lib.hid (nextW HB.out hb)
        clear hb
        have hlen : (nr a b p n r1).length ≤ 16 := by
          obtain ⟨q1, q2, q3, q4, -⟩ := rt_bd Hrt.out
          have hm := mul_le4 q1 q2 q3 q4
          unfold nr
          split
          · exact Nat.le_trans (nrTo_len _ _ _) (by omega)
          · exact Nat.zero_le _
        generalize nr a b p n r1 = l at *
        clear HNr Hrt HRr HSr HO1 HO2
        obtain ⟨hN, hat⟩ := hat
        have Hat := Lib.hid hat
        clear hat hN
        obtain ⟨N, hN⟩ : ∃ N, l.length = N := ⟨_, rfl⟩
        rw [hN] at Hat hlen ⊢
        have HN := Lib.hid hN
        clear hN
        go_wp2_with fail
        go_loop [16, 17] (fun s i => ∃ k : Nat, k ≤ N ∧ i = .int .i64 k ∧ s = .bool (decide (r2 ∈ l.take k))) (fun _ i => N - (intOf i).toNat)
        case atStart => exact ⟨0, Nat.zero_le _, rfl, by simp⟩
        case round =>
          obtain ⟨k, hk, rfl, rfl⟩ := hrel
          by_cases hlt : k < N
          · obtain ⟨b, off, hA, hc⟩ := Hat.out (by omega)
            subst hA
            have hck := hc k hlt
            clear hc
            have HT := Lib.hid (mem_next l r2 k (by rw [HN.out]; exact hlt))
            have hdk : decide ((k : Int) < N) = true := decide_eq_true (by omega)
            rcases (show decide (r2 ∈ l.take k) = true ∨ decide (r2 ∈ l.take k) = false by cases decide (r2 ∈ l.take k) <;> simp) with hd | hd
            · rw [hd] at HT ⊢
              go_wp2_with fail
              go_round
              case rel => exact ⟨k + 1, by omega, by go_num, by rw [HT.out]; rfl⟩
              case measure => simp [intOf]; omega
            · rw [hd] at HT ⊢
              go_wp2_with fail
              go_round
              case rel => exact ⟨k + 1, by omega, by go_num, by rw [HT.out]; rfl⟩
              case measure => simp [intOf]; omega
          · have hd : decide (r2 ∈ l.take k) = true := by
              rw [List.take_of_length_le (by rw [HN.out]; omega)]
              exact decide_eq_true HGn.out
            rw [hd]
            have HR1 := Lib.hid (fun w => HR.out G w)
            rw [HGr.out] at HR1
            have hdk : decide ((k : Int) < N) = false := decide_eq_false (by omega)
            have q1 : (G.id == a1.id) = true := by rw [HGs.out.1, HSs.out.1]; simp
            have q2 : (G.kind == a1.kind) = true := by rw [HGs.out.2.1, HSs.out.2.1]; simp
            have q3 : (G.health == a1.health) = true := by rw [HGs.out.2.2, HSs.out.2.2.1]; simp
            have c0 := Bc.out.c0
            have c1 := Bc.out.c1
            have c2 := Bc.out.c2
            have c3 := Bc.out.c3
            have c4 := Bc.out.c4
            have x0 := Bx.out.c0
            have x1 := Bx.out.c1
            have x2 := Bx.out.c2
            have x3 := Bx.out.c3
            have x4 := Bx.out.c4
            have x5 := Bx.out.c5
            have x6 := Bx.out.c6
            have x7 := Bx.out.c7
            have x8 := Bx.out.c8
            go_wp2_with fail
            refine (HR1.out _).mono ?_
            rintro e W7 ⟨rfl, hb⟩
            clear c0 c1 c2 c3 c4 x0 x1 x2 x3 x4 x5 x6 x7 x8
            skip
            replace Be := Lib.hid (Be.out.nx hb)
            replace Bx := Lib.hid (Bx.out.nx hb)
            replace HB := Lib.hid (nextW HB.out hb)
            clear hb
            have e0 := Be.out.c0
            have e1 := Be.out.c1
            have e2 := Be.out.c2
            have e3 := Be.out.c3
            have e4 := Be.out.c4
            have e5 := Be.out.c5
            have e6 := Be.out.c6
            have e7 := Be.out.c7
            have e8 := Be.out.c8
            have x0 := Bx.out.c0
            have x1 := Bx.out.c1
            have x2 := Bx.out.c2
            have x3 := Bx.out.c3
            have x4 := Bx.out.c4
            have x5 := Bx.out.c5
            have x6 := Bx.out.c6
            have x7 := Bx.out.c7
            have x8 := Bx.out.c8
            go_wp2
            go_ret
            exact ⟨rfl, HB.out⟩

set_option maxRecDepth 100000 in
theorem lifted (os : Os) (started : os.Started) (H : Type) (enc : TypeId × Value → H) :
    ReturnsInHanded {} Try.checked os 4 .any (Rows.movingNearSpec.pre6 enc Try.prog Try.f4 Rows.movingNearRow.domain false) (Rows.movingNearSpec.post enc Try.prog Try.f4 false true false false) := by
  refine returnsInHanded_of_change (C := Try.checked) own started (by kernel_rfl) Try.func4
    (ChangeSpec.witness6 (enc := enc) (C := Try.checked) false ⟨#[], #[.agg #[.int .i64 0, .int .i64 0, .int .i64 0, .int .i64 0, .int .u64 0], .agg #[.int .i64 0, .int .i64 0, .int .i64 0, .int .i64 0, .int .i64 0, .int .i64 0, .int .i64 0, .int .i64 0, .int .i64 0], .agg #[.int .i64 0, .int .i64 0, .bool false]], []⟩ 8 (by kernel_rfl) (by kernel_rfl) (by kernel_rfl) (by kernel_rfl)) ?_
  intro W base args ds gs before hval0 hW hcnd _
  have hval : ∀ (j : Nat) t v, Try.f4.params[j]? = some t → args[j]? = some v → Value.okWide Try.prog W .any base t v := hval0
  have hW' := hW
  obtain ⟨p, q, hA0, hV, rfl, hfz, hnd⟩ := hW
  have hA : DataW.TrodAll enc Try.prog W 0 (fun _ => true) true Try.f4.params.toList args.toList ds p := hA0
  rw [Try.params4] at hA hval
  obtain ⟨v0, vs0, d0, ds0, p0, q0, hargs, rfl, rfl, h0, r0⟩ := trodAll_cons hA
  obtain ⟨v1, vs1, d1, ds1, p1, q1, rfl, rfl, rfl, h1, r1⟩ := trodAll_cons r0
  obtain ⟨v2, vs2, d2, ds2, p2, q2, rfl, rfl, rfl, h2, r2⟩ := trodAll_cons r1
  obtain ⟨rfl, rfl, rfl⟩ := trodAll_nil r2
  obtain rfl : args = #[v0, v1, v2] := by cases args; simp_all
  obtain ⟨rfl, rfl⟩ := trodVars_none hV
  obtain ⟨cs0, rfl, -⟩ := okWide_struct Try.underlying24 (hval 0 24 v0 rfl rfl)
  have k0 := h0
  have lt0 : ∀ x ∈ p0, x.block < W.heap.size := by obtain ⟨m, hm⟩ := k0; exact DataW.trod_lt m _ _ _ hm
  obtain ⟨fuel0, hf0⟩ := h0
  obtain ⟨l0⟩ := cs0
  obtain ⟨a0_0, a0_1, a0_2, a0_3, a0_4, rfl, w0_0, w0_1, w0_2, w0_3, w0_4⟩ := open_T24 (cs := l0) hf0
  obtain ⟨cs1, rfl, -⟩ := okWide_struct Try.underlying26 (hval 1 26 v1 rfl rfl)
  have k1 := h1
  have lt1 : ∀ x ∈ p1, x.block < W.heap.size := by obtain ⟨m, hm⟩ := k1; exact DataW.trod_lt m _ _ _ hm
  obtain ⟨fuel1, hf1⟩ := h1
  obtain ⟨l1⟩ := cs1
  obtain ⟨a1_0, a1_1, a1_2, a1_3, a1_4, a1_5, a1_6, a1_7, a1_8, rfl, w1_0, w1_1, w1_2, w1_3, w1_4, w1_5, w1_6, w1_7, w1_8⟩ := open_T26 (cs := l1) hf1
  obtain ⟨cs2, rfl, -⟩ := okWide_struct Try.underlying28 (hval 2 28 v2 rfl rfl)
  have k2 := h2
  have lt2 : ∀ x ∈ p2, x.block < W.heap.size := by obtain ⟨m, hm⟩ := k2; exact DataW.trod_lt m _ _ _ hm
  obtain ⟨fuel2, hf2⟩ := h2
  obtain ⟨l2⟩ := cs2
  obtain ⟨a2_0, a2_1, a2_2, rfl, w2_0, w2_1⟩ := open_T28 (cs := l2) hf2
  clear hA0 hval0
  refine (walk ⟨a0_0, a0_1, a0_2, a0_3, a0_4⟩ ⟨a1_0, a1_1, a1_2, a1_3, a1_4, a1_5, a1_6, a1_7, a1_8⟩ ⟨a2_0, a2_1, a2_2⟩ W ⟨w0_0, w0_1, w0_2, w0_3, w0_4⟩ ⟨w1_0, w1_1, w1_2, w1_3, w1_4, w1_5, w1_6, w1_7, w1_8⟩ ⟨w2_0, w2_1⟩).mono fun e W' ⟨he, bel⟩ => ?_
  subst he
  exact ⟨_, rfl, _, _, _, [], _, [], hW', trodAll_mk1 (shut_bool Try.underlying4 _), (trodAll_cons_mk (Below.trod laidOut (by kernel_rfl) (of_decide_eq_true (by kernel_rfl)) k0 bel lt0) (trodAll_cons_mk (Below.trod laidOut (by kernel_rfl) (of_decide_eq_true (by kernel_rfl)) k1 bel lt1) (trodAll_cons_mk (Below.trod laidOut (by kernel_rfl) (of_decide_eq_true (by kernel_rfl)) k2 bel lt2) trodAll_mk0))), rfl, bel.frame _, fun h => by cases h⟩

theorem over : Rows.movingNearRow.holds Try.pinned (OpenSpec.ofChange Rows.movingNearSpec) :=
  OpenClaim.holds_of_wide 4 Try.f4 rfl rfl rfl rfl rfl rfl rfl ⟨rfl, rfl, rfl, rfl, rfl⟩ rfl rfl rfl rfl rfl (by kernel_rfl) Try.func4 (by kernel_rfl)
    (of_decide_eq_true (by kernel_rfl)) (by unfold Func.isWrapper; first | (rw [if_pos (by decide +kernel)]; kernel_rfl) | (rw [if_neg (by decide +kernel)]; exact ⟨rfl, rfl⟩))
    (fun os started H enc _ => lifted os started H enc)

end Go.Proofs.Ythkgbengmfedjaa.movingNear
namespace Go.Proofs.Ythkgbengmfedjaa
theorem movingNear_proved : Rows.MovingNearSaid := movingNear.over
end Go.Proofs.Ythkgbengmfedjaa
