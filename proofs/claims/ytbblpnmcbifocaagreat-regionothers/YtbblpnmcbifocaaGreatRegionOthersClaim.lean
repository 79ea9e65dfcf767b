/- joustlaw09.RegionOthers returns true for every input; no conditions. -/
import Derived.Test.YtbblpnmcbifocaaGreatM47
import Derived.Test.YtbblpnmcbifocaaGreatM43
import Derived.Test.YtbblpnmcbifocaaGreatRows
import Derived.WalkKit
import Derived.ProofKit
import Derived.OpenShut
import Derived.ShutString
import Derived.ChangeOld
import Derived.Below
import Derived.Deep.Slices
namespace Go.Proofs.YtbblpnmcbifocaaGreat.regionOthers
open Go.ChangeShapes Go.WideShapes Go.ChangeAt Go.RowKit
open Go.ChangeMaps (open_string shut_string)
set_option linter.unusedVariables false
set_option maxRecDepth 100000

theorem own : ownKnob Tryz.prog.godebug = none := by kernel_rfl
theorem laidOut : laidOutB Tryz.prog = true := by kernel_rfl
open Fx (IsRow)
theorem open_T24 {H : Type} {enc : TypeId × Value → H} {W : World} {fuel : Nat} {cs : List Value} {x : DataW H × List MemPlace} (h : DataW.trod enc Tryz.prog W 0 (fun _ => true) true fuel 24 cs = some x) :
    ∃ (a0 : Int) (a1 : Int) (a2 : Int) (a3 : Int) (a4 : Int), cs = [.int .i64 a0, .int .i64 a1, .int .i64 a2, .int .i64 a3, .int .u64 a4] ∧ (Lit.int .i64 a0).wf = true ∧ (Lit.int .i64 a1).wf = true ∧ (Lit.int .i64 a2).wf = true ∧ (Lit.int .i64 a3).wf = true ∧ (Lit.int .u64 a4).wf = true := by
  obtain ⟨xs, n, -, -, hl, hxl, hg⟩ := DataW.trod_struct Tryz.underlying24 h
  have hl' : cs.length = 5 := hl.trans (by kernel_rfl)
  have c3 : Tryz.prog.cellsOf 3 = 1 := by kernel_rfl
  have c22 : Tryz.prog.cellsOf 22 = 1 := by kernel_rfl
  clear hl h
  match cs, hl' with
  | [z0, z1, z2, z3, z4], _ =>
    have g0 : DataW.trod enc Tryz.prog W 0 (fun _ => true) true n 3 (([z0, z1, z2, z3, z4].drop 0).take (Tryz.prog.cellsOf 3)) = xs[0]? := hg 0 _ rfl
    rw [c3, List.getElem?_eq_getElem (show 0 < xs.length by rw [hxl]; decide)] at g0
    have g1 : DataW.trod enc Tryz.prog W 0 (fun _ => true) true n 3 (([z0, z1, z2, z3, z4].drop 1).take (Tryz.prog.cellsOf 3)) = xs[1]? := hg 1 _ rfl
    rw [c3, List.getElem?_eq_getElem (show 1 < xs.length by rw [hxl]; decide)] at g1
    have g2 : DataW.trod enc Tryz.prog W 0 (fun _ => true) true n 3 (([z0, z1, z2, z3, z4].drop 2).take (Tryz.prog.cellsOf 3)) = xs[2]? := hg 2 _ rfl
    rw [c3, List.getElem?_eq_getElem (show 2 < xs.length by rw [hxl]; decide)] at g2
    have g3 : DataW.trod enc Tryz.prog W 0 (fun _ => true) true n 3 (([z0, z1, z2, z3, z4].drop 3).take (Tryz.prog.cellsOf 3)) = xs[3]? := hg 3 _ rfl
    rw [c3, List.getElem?_eq_getElem (show 3 < xs.length by rw [hxl]; decide)] at g3
    have g4 : DataW.trod enc Tryz.prog W 0 (fun _ => true) true n 22 (([z0, z1, z2, z3, z4].drop 4).take (Tryz.prog.cellsOf 22)) = xs[4]? := hg 4 _ rfl
    rw [c22, List.getElem?_eq_getElem (show 4 < xs.length by rw [hxl]; decide)] at g4
    obtain ⟨a0, e0, -, w0⟩ := DataW.trod_int (cs := [z0]) Tryz.underlying3 g0
    simp only [List.cons.injEq, and_true] at e0
    subst e0
    clear g0
    obtain ⟨a1, e1, -, w1⟩ := DataW.trod_int (cs := [z1]) Tryz.underlying3 g1
    simp only [List.cons.injEq, and_true] at e1
    subst e1
    clear g1
    obtain ⟨a2, e2, -, w2⟩ := DataW.trod_int (cs := [z2]) Tryz.underlying3 g2
    simp only [List.cons.injEq, and_true] at e2
    subst e2
    clear g2
    obtain ⟨a3, e3, -, w3⟩ := DataW.trod_int (cs := [z3]) Tryz.underlying3 g3
    simp only [List.cons.injEq, and_true] at e3
    subst e3
    clear g3
    obtain ⟨a4, e4, -, w4⟩ := DataW.trod_int (cs := [z4]) Tryz.underlying22 g4
    simp only [List.cons.injEq, and_true] at e4
    subst e4
    clear g4
    exact ⟨a0, a1, a2, a3, a4, rfl, w0, w1, w2, w3, w4⟩

theorem open_T48 {H : Type} {enc : TypeId × Value → H} {W : World} {fuel : Nat} {cs : List Value} {x : DataW H × List MemPlace} (h : DataW.trod enc Tryz.prog W 0 (fun _ => true) true fuel 48 cs = some x) :
    ∃ (a0 : Int) (a1 : Int) (a2 : Int) (a3 : Int) (a4 : Int) (a5 : Int) (a6 : Int) (a7 : Int) (a8 : Int), cs = [.int .i64 a0, .int .i64 a1, .int .i64 a2, .int .i64 a3, .int .i64 a4, .int .i64 a5, .int .i64 a6, .int .i64 a7, .int .i64 a8] ∧ (Lit.int .i64 a0).wf = true ∧ (Lit.int .i64 a1).wf = true ∧ (Lit.int .i64 a2).wf = true ∧ (Lit.int .i64 a3).wf = true ∧ (Lit.int .i64 a4).wf = true ∧ (Lit.int .i64 a5).wf = true ∧ (Lit.int .i64 a6).wf = true ∧ (Lit.int .i64 a7).wf = true ∧ (Lit.int .i64 a8).wf = true := by
  obtain ⟨xs, n, -, -, hl, hxl, hg⟩ := DataW.trod_struct Tryz.underlying48 h
  have hl' : cs.length = 9 := hl.trans (by kernel_rfl)
  have c3 : Tryz.prog.cellsOf 3 = 1 := by kernel_rfl
  clear hl h
  match cs, hl' with
  | [z0, z1, z2, z3, z4, z5, z6, z7, z8], _ =>
    have g0 : DataW.trod enc Tryz.prog W 0 (fun _ => true) true n 3 (([z0, z1, z2, z3, z4, z5, z6, z7, z8].drop 0).take (Tryz.prog.cellsOf 3)) = xs[0]? := hg 0 _ rfl
    rw [c3, List.getElem?_eq_getElem (show 0 < xs.length by rw [hxl]; decide)] at g0
    have g1 : DataW.trod enc Tryz.prog W 0 (fun _ => true) true n 3 (([z0, z1, z2, z3, z4, z5, z6, z7, z8].drop 1).take (Tryz.prog.cellsOf 3)) = xs[1]? := hg 1 _ rfl
    rw [c3, List.getElem?_eq_getElem (show 1 < xs.length by rw [hxl]; decide)] at g1
    have g2 : DataW.trod enc Tryz.prog W 0 (fun _ => true) true n 3 (([z0, z1, z2, z3, z4, z5, z6, z7, z8].drop 2).take (Tryz.prog.cellsOf 3)) = xs[2]? := hg 2 _ rfl
    rw [c3, List.getElem?_eq_getElem (show 2 < xs.length by rw [hxl]; decide)] at g2
    have g3 : DataW.trod enc Tryz.prog W 0 (fun _ => true) true n 3 (([z0, z1, z2, z3, z4, z5, z6, z7, z8].drop 3).take (Tryz.prog.cellsOf 3)) = xs[3]? := hg 3 _ rfl
    rw [c3, List.getElem?_eq_getElem (show 3 < xs.length by rw [hxl]; decide)] at g3
    have g4 : DataW.trod enc Tryz.prog W 0 (fun _ => true) true n 3 (([z0, z1, z2, z3, z4, z5, z6, z7, z8].drop 4).take (Tryz.prog.cellsOf 3)) = xs[4]? := hg 4 _ rfl
    rw [c3, List.getElem?_eq_getElem (show 4 < xs.length by rw [hxl]; decide)] at g4
    have g5 : DataW.trod enc Tryz.prog W 0 (fun _ => true) true n 3 (([z0, z1, z2, z3, z4, z5, z6, z7, z8].drop 5).take (Tryz.prog.cellsOf 3)) = xs[5]? := hg 5 _ rfl
    rw [c3, List.getElem?_eq_getElem (show 5 < xs.length by rw [hxl]; decide)] at g5
    have g6 : DataW.trod enc Tryz.prog W 0 (fun _ => true) true n 3 (([z0, z1, z2, z3, z4, z5, z6, z7, z8].drop 6).take (Tryz.prog.cellsOf 3)) = xs[6]? := hg 6 _ rfl
    rw [c3, List.getElem?_eq_getElem (show 6 < xs.length by rw [hxl]; decide)] at g6
    have g7 : DataW.trod enc Tryz.prog W 0 (fun _ => true) true n 3 (([z0, z1, z2, z3, z4, z5, z6, z7, z8].drop 7).take (Tryz.prog.cellsOf 3)) = xs[7]? := hg 7 _ rfl
    rw [c3, List.getElem?_eq_getElem (show 7 < xs.length by rw [hxl]; decide)] at g7
    have g8 : DataW.trod enc Tryz.prog W 0 (fun _ => true) true n 3 (([z0, z1, z2, z3, z4, z5, z6, z7, z8].drop 8).take (Tryz.prog.cellsOf 3)) = xs[8]? := hg 8 _ rfl
    rw [c3, List.getElem?_eq_getElem (show 8 < xs.length by rw [hxl]; decide)] at g8
    obtain ⟨a0, e0, -, w0⟩ := DataW.trod_int (cs := [z0]) Tryz.underlying3 g0
    simp only [List.cons.injEq, and_true] at e0
    subst e0
    clear g0
    obtain ⟨a1, e1, -, w1⟩ := DataW.trod_int (cs := [z1]) Tryz.underlying3 g1
    simp only [List.cons.injEq, and_true] at e1
    subst e1
    clear g1
    obtain ⟨a2, e2, -, w2⟩ := DataW.trod_int (cs := [z2]) Tryz.underlying3 g2
    simp only [List.cons.injEq, and_true] at e2
    subst e2
    clear g2
    obtain ⟨a3, e3, -, w3⟩ := DataW.trod_int (cs := [z3]) Tryz.underlying3 g3
    simp only [List.cons.injEq, and_true] at e3
    subst e3
    clear g3
    obtain ⟨a4, e4, -, w4⟩ := DataW.trod_int (cs := [z4]) Tryz.underlying3 g4
    simp only [List.cons.injEq, and_true] at e4
    subst e4
    clear g4
    obtain ⟨a5, e5, -, w5⟩ := DataW.trod_int (cs := [z5]) Tryz.underlying3 g5
    simp only [List.cons.injEq, and_true] at e5
    subst e5
    clear g5
    obtain ⟨a6, e6, -, w6⟩ := DataW.trod_int (cs := [z6]) Tryz.underlying3 g6
    simp only [List.cons.injEq, and_true] at e6
    subst e6
    clear g6
    obtain ⟨a7, e7, -, w7⟩ := DataW.trod_int (cs := [z7]) Tryz.underlying3 g7
    simp only [List.cons.injEq, and_true] at e7
    subst e7
    clear g7
    obtain ⟨a8, e8, -, w8⟩ := DataW.trod_int (cs := [z8]) Tryz.underlying3 g8
    simp only [List.cons.injEq, and_true] at e8
    subst e8
    clear g8
    exact ⟨a0, a1, a2, a3, a4, a5, a6, a7, a8, rfl, w0, w1, w2, w3, w4, w5, w6, w7, w8⟩

theorem open_sl25 {H : Type} {enc : TypeId × Value → H} {W : World} {fuel : Nat} {v : Value} {x : DataW H × List MemPlace} (h : DataW.trod enc Tryz.prog W 0 (fun _ => true) true fuel 25 [v] = some x) :
    ∃ l : List Fx.Ent, Fx.IsSl Fx.entC W v l ∧ ∀ e ∈ l, Fx.Ent.ok e := by
  rcases Go.Deep.open_slice Tryz.underlying25 h with ⟨hcs, _⟩ | ⟨a, len, cap, m, n, D, Pl, hcs, _, hl, hm, hmm, _, hel⟩
  · simp at hcs
    subst hcs
    exact ⟨[], Fx.IsSl.nil _ _, by simp⟩
  · simp at hcs
    subst hcs
    have hmc : m = cap := hmm
    have hce : Tryz.prog.cellsOf 48 = 9 := by kernel_rfl
    refine Fx.sl_of_cells (base := 0) default 9 Fx.entC_len (by omega) hl fun i hi => ?_
    obtain ⟨cs', hc, ht⟩ := hel i (by omega)
    rw [hce] at hc
    obtain ⟨a0, a1, a2, a3, a4, a5, a6, a7, a8, rfl, w0, w1, w2, w3, w4, w5, w6, w7, w8⟩ := open_T48 ht
    exact ⟨⟨a0, a1, a2, a3, a4, a5, a6, a7, a8⟩, ⟨w0, w1, w2, w3, w4, w5, w6, w7, w8⟩, hc⟩

theorem open_T61 {H : Type} {enc : TypeId × Value → H} {W : World} {fuel : Nat} {cs : List Value} {x : DataW H × List MemPlace} (h : DataW.trod enc Tryz.prog W 0 (fun _ => true) true fuel 61 cs = some x) :
    ∃ (a0 : Int) (a1 : Int) (a2 : Bool), cs = [.int .i64 a0, .int .i64 a1, .bool a2] ∧ (Lit.int .i64 a0).wf = true ∧ (Lit.int .i64 a1).wf = true := by
  obtain ⟨xs, n, -, -, hl, hxl, hg⟩ := DataW.trod_struct Tryz.underlying61 h
  have hl' : cs.length = 3 := hl.trans (by kernel_rfl)
  have c3 : Tryz.prog.cellsOf 3 = 1 := by kernel_rfl
  have c4 : Tryz.prog.cellsOf 4 = 1 := by kernel_rfl
  clear hl h
  match cs, hl' with
  | [z0, z1, z2], _ =>
    have g0 : DataW.trod enc Tryz.prog W 0 (fun _ => true) true n 3 (([z0, z1, z2].drop 0).take (Tryz.prog.cellsOf 3)) = xs[0]? := hg 0 _ rfl
    rw [c3, List.getElem?_eq_getElem (show 0 < xs.length by rw [hxl]; decide)] at g0
    have g1 : DataW.trod enc Tryz.prog W 0 (fun _ => true) true n 3 (([z0, z1, z2].drop 1).take (Tryz.prog.cellsOf 3)) = xs[1]? := hg 1 _ rfl
    rw [c3, List.getElem?_eq_getElem (show 1 < xs.length by rw [hxl]; decide)] at g1
    have g2 : DataW.trod enc Tryz.prog W 0 (fun _ => true) true n 4 (([z0, z1, z2].drop 2).take (Tryz.prog.cellsOf 4)) = xs[2]? := hg 2 _ rfl
    rw [c4, List.getElem?_eq_getElem (show 2 < xs.length by rw [hxl]; decide)] at g2
    obtain ⟨a0, e0, -, w0⟩ := DataW.trod_int (cs := [z0]) Tryz.underlying3 g0
    simp only [List.cons.injEq, and_true] at e0
    subst e0
    clear g0
    obtain ⟨a1, e1, -, w1⟩ := DataW.trod_int (cs := [z1]) Tryz.underlying3 g1
    simp only [List.cons.injEq, and_true] at e1
    subst e1
    clear g1
    obtain ⟨a2, e2, -⟩ := DataW.trod_bool (cs := [z2]) Tryz.underlying4 g2
    simp only [List.cons.injEq, and_true] at e2
    subst e2
    clear g2
    exact ⟨a0, a1, a2, rfl, w0, w1⟩

theorem open_sl26 {H : Type} {enc : TypeId × Value → H} {W : World} {fuel : Nat} {v : Value} {x : DataW H × List MemPlace} (h : DataW.trod enc Tryz.prog W 0 (fun _ => true) true fuel 26 [v] = some x) :
    ∃ l : List Fx.Inp, Fx.IsSl Fx.inpC W v l ∧ ∀ e ∈ l, Fx.Inp.ok e := by
  rcases Go.Deep.open_slice Tryz.underlying26 h with ⟨hcs, _⟩ | ⟨a, len, cap, m, n, D, Pl, hcs, _, hl, hm, hmm, _, hel⟩
  · simp at hcs
    subst hcs
    exact ⟨[], Fx.IsSl.nil _ _, by simp⟩
  · simp at hcs
    subst hcs
    have hmc : m = cap := hmm
    have hce : Tryz.prog.cellsOf 61 = 3 := by kernel_rfl
    refine Fx.sl_of_cells (base := 0) default 3 Fx.inpC_len (by omega) hl fun i hi => ?_
    obtain ⟨cs', hc, ht⟩ := hel i (by omega)
    rw [hce] at hc
    obtain ⟨a0, a1, a2, rfl, w0, w1⟩ := open_T61 ht
    exact ⟨⟨a0, a1, a2⟩, ⟨w0, w1⟩, hc⟩

open Fx

set_option maxRecDepth 100000 in
set_option maxHeartbeats 16000000 in
theorem walk (a0_0 : Int) (a0_1 : Int) (a0_2 : Int) (a0_3 : Int) (a0_4 : Int) (a1 : Int) (a2 : Int) (v3 : Value) (l3 : List Fx.Ent) (v4 : Value) (l4 : List Fx.Inp) (v5 : Value) (l5 : List Fx.Inp) (w : World) (w0_0 : (Lit.int .i64 a0_0).wf = true) (w0_1 : (Lit.int .i64 a0_1).wf = true) (w0_2 : (Lit.int .i64 a0_2).wf = true) (w0_3 : (Lit.int .i64 a0_3).wf = true) (w0_4 : (Lit.int .u64 a0_4).wf = true) (w1 : (Lit.int .i64 a1).wf = true) (w2 : (Lit.int .i64 a2).wf = true) (w3 : Fx.IsSl Fx.entC w v3 l3) (k3 : ∀ e ∈ l3, Fx.Ent.ok e) (w4 : Fx.IsSl Fx.inpC w v4 l4) (k4 : ∀ e ∈ l4, Fx.Inp.ok e) (w5 : Fx.IsSl Fx.inpC w v5 l5) (k5 : ∀ e ∈ l5, Fx.Inp.ok e) :
    Calls Tryz.prog 6 #[.agg #[.int .i64 a0_0, .int .i64 a0_1, .int .i64 a0_2, .int .i64 a0_3, .int .u64 a0_4], .int .i64 a1, .int .i64 a2, v3, v4, v5] w fun e w' => e = .returned (.bool true) ∧ Below w.heap.size w w' := by
  clear w0_0 w0_1 w0_2 w0_3 w1 w2 k3
  have hs4 : 0 ≤ a0_4 ∧ a0_4 < 18446744073709551616 := by have := bounds_u64 w0_4; omega
  have HA := Lib.hid awake_rg
  have HV3 := Lib.hid w3
  obtain ⟨A3, n3, rfl, -⟩ := w3
  clear k4
  have HV4 := Lib.hid w4
  obtain ⟨A4, n4, rfl, -⟩ := w4
  clear k5
  have HV5 := Lib.hid w5
  obtain ⟨A5, n5, rfl, -⟩ := w5
  go_enter Tryz.func6, Tryz.ntmps6
  go_wp2_with fail
  refine (config_any _ _ _ _ _ _).mono ?_
  rintro e v1 ⟨a, b, p, n, rfl, hsm, hb1⟩
  obtain ⟨hrt, ha3, hb3, hp4⟩ := hsm
  have hrd := rt_bd hrt
  obtain ⟨P, rfl⟩ : ∃ P : Nat, p = (P : Int) := ⟨p.toNat, by omega⟩
  have hP : 1 ≤ P ∧ P ≤ 4 := by omega
  have Hb1 := Lib.hid (unbox hb1)
  have BC1 := Lib.hid ((CfgBox.n1 w ⟨a0_0, a0_1, a0_2, a0_3, a0_4⟩ 24 rfl).nx hb1)
  have HN := Lib.hid (fun w => new_yes a b P n a0_4 w hrt)
  have hre : regs a b P n = a * b := by unfold regs; rw [if_pos hrt]
  have hR : 1 ≤ regs a b P n ∧ regs a b P n ≤ 9 := by
    rw [hre]
    have : a = 1 ∨ a = 2 ∨ a = 3 := by omega
    rcases this with rfl | rfl | rfl <;> omega
  have HR := Lib.hid (fun w => regions_any a b P n a0_4 w)
  have hb9 := umod a1 (regs a b P n) hR.1 (by omega)
  obtain ⟨r, hr⟩ : ∃ r, wrap64 ((IntKind.u64.wrap a1).tmod (regs a b P n)) = r := ⟨_, rfl⟩
  rw [hr] at hb9
  have hr9 : 0 ≤ r ∧ r < regs a b P n := by obtain ⟨e1, e2, e3⟩ := hb9; rw [e1]; exact ⟨e2, e3⟩
  clear hb9
  have hhas : hasB a b P n r = true := by unfold hasB; exact decide_eq_true hr9
  have Hhas := Lib.hid hhas
  have HPl := Lib.hid (fun f0 v l w2 hv => pregion_any a b P n a0_4 r f0 hhas (by omega) v l w2 hv)
  generalize regs a b P n = R at *
  clear hb1 hrt hre hhas hrd hr9
  have g0 := BC1.out.c0
  have g1 := BC1.out.c1
  have g2 := BC1.out.c2
  have g3 := BC1.out.c3
  have g4 := BC1.out.c4
  have f0 := BC1.out.f0
  have f1 := BC1.out.f1
  have f2 := BC1.out.f2
  have f3 := BC1.out.f3
  have f4 := BC1.out.f4
  have hgl := BC1.out.has
  have HB := Lib.hid (CfgBox.bel Hb1.out ⟨a, b, P, n, a0_4⟩ (Nat.le_refl _) rfl)
  have BC := Lib.hid (BC1.out.put ⟨a, b, P, n, a0_4⟩)
  go_wp2_with fail
  refine (HN.out _).mono ?_
  rintro e v2 ⟨rfl, hb2⟩
  replace HB := Lib.hid (nextW HB.out hb2)
  replace BC := Lib.hid (BC.out.nx hb2)
  have BG := Lib.hid (CfgBox.n1 v2 ⟨a, b, P, n, a0_4⟩ 30 rfl)
  replace BC := Lib.hid (BC.out.alloc BC.out.has (.cells #[.int .i64 a, .int .i64 b, .int .i64 P, .int .i64 n, .int .u64 a0_4] 30))
  replace HB := Lib.hid (HB.out.alloc HB.out.size (.cells #[.int .i64 a, .int .i64 b, .int .i64 P, .int .i64 n, .int .u64 a0_4] 30))
  clear hb2 g0 g1 g2 g3 g4 f0 f1 f2 f3 f4 hgl BC1 Hb1 HN
  go_wp2_with fail
  refine (HA.out _).mono ?_
  rintro e v3 ⟨rfl, hb3⟩
  replace HB := Lib.hid (nextW HB.out hb3)
  replace BC := Lib.hid (BC.out.nx hb3)
  replace BG := Lib.hid (BG.out.nx hb3)
  clear hb3 HA
  generalize hgb : v2.heap.size = gb at *
  clear hgb
  have hgl := BG.out.has
  obtain ⟨g0, g1, g2, g3, g4, -⟩ := BG.out
  have hu : IntKind.u64.wrap R = R := by rw [IntKind.wrap_u64]; omega
  have hRn : ¬ R = 0 := by omega
  go_wp2_with fail
  refine (HR.out _).mono ?_
  rintro e v4 ⟨rfl, hb4⟩
  replace HB := Lib.hid (nextW HB.out hb4)
  replace BC := Lib.hid (BC.out.nx hb4)
  replace BG := Lib.hid (BG.out.nx hb4)
  clear hb4 g0 g1 g2 g3 g4 hgl
  have hcl := BC.out.has
  obtain ⟨c0, c1, c2, c3, c4, -⟩ := BC.out
  go_upto_region 6 with fail
  simp only [hr, hu]
  clear hr hu hRn HR hR
  go_wp2_with fail
  refine (HPl.out _ _ _ _ (HV3.out.below HB.out)).mono ?_
  rintro e v5 ⟨⟨F, L, vl, rfl, hF, hok, hhere, hlen, hsl⟩, hb5⟩
  have HL := Lib.hid hsl
  obtain ⟨A5, n5, rfl, -⟩ := hsl
  replace HB := Lib.hid (nextW HB.out hb5)
  replace BC := Lib.hid (BC.out.nx hb5)
  replace BG := Lib.hid (BG.out.nx hb5)
  have Hok := Lib.hid hok
  have Hhere := Lib.hid hhere
  have HLn := Lib.hid hlen
  clear hb5 c0 c1 c2 c3 c4 hcl HPl HV3 hok hhere hlen
  go_upto_region 7 with fail
  generalize hW : World.alloc _ _ = W at *
  have BS := Lib.hid (show RegBox W v5.heap.size ⟨F, .slice A5 L.length n5⟩ from by rw [← hW]; exact RegBox.n1 v5 ⟨F, .slice A5 L.length n5⟩ _ rfl)
  replace BC := Lib.hid (show CfgBox W w.heap.size ⟨a, b, P, n, a0_4⟩ from by rw [← hW]; exact BC.out.alloc BC.out.has _)
  replace BG := Lib.hid (show CfgBox W gb ⟨a, b, P, n, a0_4⟩ from by rw [← hW]; exact BG.out.alloc BG.out.has _)
  replace HB := Lib.hid (show Below w.heap.size w W from by rw [← hW]; exact HB.out.alloc HB.out.size _)
  replace HL := Lib.hid (show IsSl entC W (.slice A5 L.length n5) L from by rw [← hW]; exact HL.out.below ((Below.refl _ _).alloc (Nat.le_refl _) _))
  generalize v5.heap.size = bs at *
  clear hW
  have HFr := Lib.hid (fun u ins g w2 hg hu => pframes_any a b n a0_4 P (by omega) u ins g w2 hg hu)
  have hcl := BC.out.has
  obtain ⟨c0, c1, c2, c3, c4, -⟩ := BC.out
  go_wp2_with fail
  refine (HFr.out _ _ _ _ (by rw [World.cell?_alloc_new]; rfl) ((HV4.out.below HB.out).below ((Below.refl _ _).alloc (Nat.le_refl _) _))).mono ?_
  rintro e Wxs ⟨⟨gA, cA, gxs, xs, rfl, hcA, ho, hl, ha⟩, hb⟩
  replace hb := unbox hb
  replace ho := ho.mono (show W.heap.size ≤ _ by simp)
  have HOxs := Lib.hid ho
  have HLxs := Lib.hid hl
  have HAxs := Lib.hid ha
  replace HB := Lib.hid (nextW HB.out hb)
  replace BC := Lib.hid (BC.out.nx hb)
  replace BG := Lib.hid (BG.out.nx hb)
  replace BS := Lib.hid (BS.out.nx hb)
  replace HL := Lib.hid (HL.out.below hb)
  clear hb ho hl ha c0 c1 c2 c3 c4 hcl HV4
  go_upto_region 8 with fail
  clear hcA
  replace HOxs := Lib.hid (owned_sl HOxs.out)
  have hcl := BC.out.has
  obtain ⟨c0, c1, c2, c3, c4, -⟩ := BC.out
  go_wp2_with fail
  refine (HFr.out _ _ _ _ (by rw [World.cell?_alloc_new]; rfl) ((HV5.out.below HB.out).below ((Below.refl _ _).alloc (Nat.le_refl _) _))).mono ?_
  rintro e Wys ⟨⟨gA, cA, gys, ys, rfl, hcA, ho, hl, ha⟩, hb⟩
  replace hb := unbox hb
  replace ho := ho.mono (show Wxs.heap.size ≤ _ by simp)
  have HOys := Lib.hid ho
  have HLys := Lib.hid hl
  have HAys := Lib.hid ha
  have HQ := Lib.hid hb
  clear hb ho hl ha c0 c1 c2 c3 c4 hcl HV5
  go_upto_region 9 with fail
  clear hcA
  have HPr := Lib.hid (fun F v L w2 hv hn => present_own a b P n a0_4 r F v L (.slice none 0 0) [] w2 hv hn (IsSl.nil _ _) (by simp))
  have hgl := (BG.out.nx HQ.out).has
  have hsl := (BS.out.nx HQ.out).has
  obtain ⟨g0, g1, g2, g3, g4, -⟩ := BG.out.nx HQ.out
  obtain ⟨s0, s1, -⟩ := BS.out.nx HQ.out
  go_wp2_with fail
  refine (HPr.out _ _ _ _ (HL.out.below HQ.out) (by have := HLn.out; omega)).mono ?_
  rintro e W3 ⟨⟨vi, rfl, hoi⟩, hb⟩
  rw [show arriveL L [] = L from rfl] at hoi
  replace HQ := Lib.hid (nextW HQ.out hb)
  replace HOys := Lib.hid (own_below HOys.out hb)
  have Hbd := Lib.hid (fun i (hi : i ∈ pids L) => pids_bd Hok.out.right hi)
  obtain ⟨ids, hids⟩ : ∃ ids, pids L = ids := ⟨_, rfl⟩
  rw [hids] at hoi Hbd
  have Hids := Lib.hid hids
  obtain ⟨M, hM⟩ : ∃ M, ids.length = M := ⟨_, rfl⟩
  rw [hM] at hoi
  have Hm := Lib.hid hM
  have hM4 : M ≤ 20 := by have := pids_len Hok.out; rw [hids, hM] at this; have := HLn.out; omega
  have HOi := Lib.hid hoi
  obtain ⟨Ai, ni, rfl, -⟩ := owned_cells hoi
  clear hb hoi hids hM HPr g0 g1 g2 g3 g4 s0 s1 hgl hsl
  go_wp2
  go_loopw [19] (fun i wr => ∃ (k : Nat) (zs : List Inp), k ≤ M ∧ i = .int .i64 k ∧ zs.length = P ∧ zs.all irtI = true ∧ wr.ownsRow Wxs.heap.size 61 3 (.slice (some ⟨gys, 0, none⟩) P P) P (zs.flatMap inpC) ∧ wr.ownsRow Wys.heap.size 3 1 (.slice Ai M ni) M (ids.map (Value.int .i64)) ∧ Below Wxs.heap.size Wxs wr ∧ ∀ (j : Nat) id, j < k → ids[j]? = some id → inpOf zs id = inpOf xs id) (fun i _ => M - (intOf i).toNat)
  case atStart => exact ⟨0, ys, Nat.zero_le _, rfl, HLys.out, HAys.out, by have := HOys.out; rw [HLys.out] at this; exact this, HOi.out, HQ.out, fun j id hj => by omega⟩
  case round =>
    clear HQ HOys HOi
    obtain ⟨k, zs, hk, rfl, hzl, hza, hoz, hoi, hbel, hall⟩ := hrel
    have Hzl := Lib.hid hzl
    have Hza := Lib.hid hza
    have Hoz := Lib.hid hoz
    have Hoi := Lib.hid hoi
    have HQ := Lib.hid hbel
    have Hall := Lib.hid hall
    clear hzl hza hoz hoi hbel hall
    by_cases hlt : k < M
    · have hd1 : decide ((k : Int) < (M : Int)) = true := decide_eq_true (by omega)
      obtain ⟨id, hid⟩ := getE ids k M Hm.out hlt
      have hbd := Hbd.out id (List.mem_of_getElem? hid)
      obtain ⟨j, rfl⟩ : ∃ j : Nat, id = (j : Int) + 1 := ⟨(id - 1).toNat, by omega⟩
      have hjP : j < P := by omega
      obtain ⟨x, hx⟩ := getE xs j P HLxs.out hjP
      obtain ⟨y, hy⟩ := getE zs j P Hzl.out hjP
      obtain ⟨A', c', he, hat⟩ := owned_cells Hoi.out
      cases he
      obtain ⟨bi, oi, rfl, hci⟩ := hat (by intro h; have := Hm.out; simp at h; subst h; simp at this; omega)
      have hck := hci k (.int .i64 ((j : Int) + 1)) (by simp [hid])
      have hbi := World.block_lt_of_cell? _ _ hck
      obtain ⟨bx, ox, he, x0, x1, x2⟩ := elem_Inp (HOxs.out.below HQ.out).at hx
      cases he
      simp only [Nat.zero_add] at x0 x1 x2
      have hbx := World.block_lt_of_cell? _ _ x0
      obtain ⟨g', cap', he, hgW, hby, -, hcs, hfz⟩ := own_at_Inp Hoz.out hy
      cases he
      simp only [Nat.zero_add] at hcs
      obtain ⟨y0, y1, y2⟩ := hcs
      have Hx := Lib.hid hx
      have Hy := Lib.hid hy
      have Hid := Lib.hid hid
      have hw1 : wrap64 ((j : Int) + 1 - 1) = j := by rw [Int.add_sub_cancel]; exact IntWalk.wrap64_in _ (by omega)
      have hw2 : wrap64 (j : Int) = j := IntWalk.wrap64_in _ (by omega)
      have hw3 : IntKind.i64.wrap (j : Int) = j := (w64 _).trans hw2
      have HgW := Lib.hid hgW
      clear hx hy hid hat hci hbd hgW
      go_wp2_with fail
      refine tail_region (S := (fun w' => (∀ b o, b < (wr).heap.size → w'.cell? ⟨b, o, none⟩ = (wr).cell? ⟨b, o, none⟩) ∧ (∀ b o, b < (wr).heap.size → w'.frozen? ⟨b, o, none⟩ = (wr).frozen? ⟨b, o, none⟩) ∧ Below (wr).heap.size (wr) w')) 15 (.free 0 (.free 1 (.free 2 (.free 3 (.free 4 (.free 5 (.free 6 (.free 7 (.free 8 (.free 9 (.free 10 (.free 11 (.free 12 (.free 13 (.free 14 .tail))))))))))))))) (by kernel_rfl) (by kernel_rfl) (fun _ _ d _ _ h => by cases d <;> exact h) (keepW0 _) (fun hS => ?_)
      simp only [writtenT, List.drop_succ_cons, List.drop_zero, List.getElem?_cons_succ, List.getElem?_cons_zero]
      refine rz_free (v := ?_) (by rfl) ?_ ?_
      rotate_left 1
      focus (intro w hSw; (try dsimp only at hSw); go_simp; (try with_reducible rfl))
      (try simp only [Act.put, tA, tB, tC])
      refine rz_free (v := ?_) (by rfl) ?_ ?_
      rotate_left 1
      focus (intro w hSw; (try dsimp only at hSw); go_simp; (try with_reducible rfl))
      (try simp only [Act.put, tA, tB, tC])
      refine rz_free (v := ?_) (by rfl) ?_ ?_
      rotate_left 1
      focus (intro w hSw; (try dsimp only at hSw); go_simp; (try with_reducible rfl))
      (try simp only [Act.put, tA, tB, tC])
      refine rz_free (v := ?_) (by rfl) ?_ ?_
      rotate_left 1
      focus (intro w hSw; (try dsimp only at hSw); go_simp; (try with_reducible rfl))
      (try simp only [Act.put, tA, tB, tC])
      refine rz_free (v := ?_) (by rfl) ?_ ?_
      rotate_left 1
      focus (intro w hSw; (try dsimp only at hSw); go_simp; (try with_reducible rfl))
      (try simp only [Act.put, tA, tB, tC])
      refine rz_free (v := ?_) (by rfl) ?_ ?_
      rotate_left 1
      focus (intro w hSw; (try dsimp only at hSw); go_simp; (try with_reducible rfl))
      (try simp only [Act.put, tA, tB, tC])
      refine rz_free (v := ?_) (by rfl) ?_ ?_
      rotate_left 1
      focus (intro w hSw; (try dsimp only at hSw); go_simp; (try with_reducible rfl))
      (try simp only [Act.put, tA, tB, tC])
      refine rz_free (v := ?_) (by rfl) ?_ ?_
      rotate_left 1
      focus (intro w hSw; (try dsimp only at hSw); go_simp; (try with_reducible rfl))
      (try simp only [Act.put, tA, tB, tC])
      refine rz_free (v := ?_) (by rfl) ?_ ?_
      rotate_left 1
      focus (intro w hSw; (try dsimp only at hSw); go_simp; (try with_reducible rfl))
      (try simp only [Act.put, tA, tB, tC])
      refine rz_free (v := ?_) (by rfl) ?_ ?_
      rotate_left 1
      focus (intro w hSw; (try dsimp only at hSw); go_simp; (try with_reducible rfl))
      (try simp only [Act.put, tA, tB, tC])
      refine rz_free (v := ?_) (by rfl) ?_ ?_
      rotate_left 1
      focus (intro w hSw; (try dsimp only at hSw); go_simp; (try with_reducible rfl))
      (try simp only [Act.put, tA, tB, tC])
      refine rz_free (v := ?_) (by rfl) ?_ ?_
      rotate_left 1
      focus (intro w hSw; (try dsimp only at hSw); go_simp; (try with_reducible rfl))
      (try simp only [Act.put, tA, tB, tC])
      refine rz_free (v := ?_) (by rfl) ?_ ?_
      rotate_left 1
      focus (intro w hSw; (try dsimp only at hSw); go_simp; (try with_reducible rfl))
      (try simp only [Act.put, tA, tB, tC])
      refine rz_free (v := ?_) (by rfl) ?_ ?_
      rotate_left 1
      focus (intro w hSw; (try dsimp only at hSw); go_simp; (try with_reducible rfl))
      (try simp only [Act.put, tA, tB, tC])
      refine rz_free (v := ?_) (by rfl) ?_ ?_
      rotate_left 1
      focus (intro w hSw; (try dsimp only at hSw); go_simp; (try with_reducible rfl))
      (try simp only [Act.put, tA, tB, tC])
      refine rz_done ?_
      go_upto_region 12 with fail
      clear hS
      generalize hV : World.drew _ = V at *
      have HV := Lib.hid hV
      clear hV x0 x1 x2 y0 y1 y2 hck hfz hbi hbx hby
      go_wp2
      go_roundw
      case rel =>
        refine ⟨k + 1, zs.set j x, by omega, by go_num, by rw [List.length_set]; exact Hzl.out, all_set Hza.out j (List.all_eq_true.1 HAxs.out x (List.mem_of_getElem? Hx.out)), ?_, ?_, ?_, ?_⟩
        · rw [← HV.out]; exact own_below (own_three Hoz.out Hy.out x rfl).1 (Below.refl _ _).drew
        · rw [← HV.out]; exact own_below (Hoi.out.kept (own_three Hoz.out Hy.out x rfl).2 (own_apart Hoz.out Hoi.out (by decide))) (Below.refl _ _).drew
        · rw [← HV.out]; exact (((HQ.out.setCell HgW.out _).setCell HgW.out _).setCell HgW.out _).drew
        · intro q id hq hid
          refine inpOf_set Hx.out (by rw [Hzl.out, HLxs.out]) id (Hbd.out id (List.mem_of_getElem? hid)).1 ?_
          rcases Nat.lt_or_ge q k with h | h
          · exact .inl (Hall.out q id h hid)
          · obtain rfl : q = k := by omega
            rw [Hid.out] at hid
            exact .inr (Option.some.inj hid).symm
      case measure => simp [intOf]; omega
    · obtain rfl : k = M := by omega
      have hd1 : decide ((k : Int) < (k : Int)) = false := decide_eq_false (by omega)
      have Heq := Lib.hid (show ∀ i ∈ pids L, inpOf zs i = inpOf xs i from fun i hi => by
        rw [Hids.out] at hi
        obtain ⟨q, hq, rfl⟩ := List.mem_iff_getElem.1 hi
        exact Hall.out q _ (by have := Hm.out; omega) (List.getElem?_eq_getElem hq))
      have Hx := Lib.hid (show xs.length = P ∧ xs.all irtI = true from ⟨HLxs.out, HAxs.out⟩)
      have Hz := Lib.hid (show zs.length = P ∧ zs.all irtI = true from ⟨Hzl.out, Hza.out⟩)
      have ht : things L ≤ 24 := by have := things_bd L; have := HLn.out; omega
      have HAsk := Lib.hid (asked_ok (ib := []) Hhas.out (show 0 ≤ F ∧ F ≤ 9999 by omega) Hok.out Hhere.out ht (by simp)).2
      have hq1 := why_ok (ib := []) Hhas.out (show 0 ≤ F ∧ F ≤ 9999 by omega) Hok.out Hhere.out ht (by simp) Hx.out
      have hq2 := why_ok (ib := []) Hhas.out (show 0 ≤ F ∧ F ≤ 9999 by omega) Hok.out Hhere.out ht (by simp) Hz.out
      obtain ⟨X, hX⟩ : ∃ X, X = stayL a b P n a0_4 r F (inpOf xs) L [] := ⟨_, rfl⟩
      obtain ⟨Y, hY⟩ : ∃ Y, Y = st lessB (outsL a b P n a0_4 r F (inpOf xs) L []) := ⟨_, rfl⟩
      obtain ⟨e1, e2⟩ := step_same (s := a0_4) (r := r) (f := F) (a := a) (b := b) (n := n) Heq.out
      have HlX := Lib.hid (show X.length ≤ 31 from by rw [hX]; exact (outs_le (by omega) HAsk.out).2)
      have HlY := Lib.hid (show Y.length ≤ 600 from by rw [hY, st_length]; exact (outs_le (by omega) HAsk.out).1)
      have HS1 := Lib.hid (fun w2 v t hv ht => rgstep_yes a b P n a0_4 r F hs4 v L t xs (.slice none 0 0) [] w2 hv (by have := HLn.out; omega) ht (by have := Hx.out.1; omega) (IsSl.nil _ _) (by simp) (F + 1) X Y hq1 rfl hX hY)
      have HS2 := Lib.hid (fun w2 v t hv ht => rgstep_yes a b P n a0_4 r F hs4 v L t zs (.slice none 0 0) [] w2 hv (by have := HLn.out; omega) ht (by have := Hz.out.1; omega) (IsSl.nil _ _) (by simp) (F + 1) X Y hq2 rfl (by rw [e1]; exact hX) (by rw [e2]; exact hY))
      clear hX hY e1 e2 hq1 hq2 ht Heq Hall Hoi
      replace HB := Lib.hid (HB.out.trans (HQ.out.mono HB.out.size))
      replace BG := Lib.hid (BG.out.nx HQ.out)
      replace BS := Lib.hid (BS.out.nx HQ.out)
      replace HL := Lib.hid (HL.out.below HQ.out)
      replace HOxs := Lib.hid (HOxs.out.below HQ.out)
      have Hzs := Lib.hid (owned_sl (by have := Hoz.out; rw [← Hzl.out] at this; exact this : wr.ownsRow _ _ _ (.slice (some ⟨gys, 0, none⟩) zs.length zs.length) zs.length (zs.flatMap inpC)))
      rw [Hzl.out] at Hzs
      clear HQ Hoz
      have hgl := BG.out.has
      have hsl := BS.out.has
      obtain ⟨g0, g1, g2, g3, g4, -⟩ := BG.out
      obtain ⟨s0, s1, -⟩ := BS.out
      go_wp2_with fail
      refine (HS1.out _ _ _ HL.out HOxs.out).mono ?_
      rintro e W4 ⟨⟨vp, vq, rfl, hop, hoq⟩, hb⟩
      have HP := Lib.hid (owned_sl hop)
      have HQ := Lib.hid (owned_sl hoq)
      obtain ⟨Ap, np, rfl, -⟩ := owned_sl hop
      obtain ⟨Aq, nq, rfl, -⟩ := owned_sl hoq
      replace HB := Lib.hid (nextW HB.out hb)
      replace BG := Lib.hid (BG.out.nx hb)
      replace BS := Lib.hid (BS.out.nx hb)
      replace HL := Lib.hid (HL.out.below hb)
      replace Hzs := Lib.hid (Hzs.out.below hb)
      clear hop hoq hb HS1 HOxs g0 g1 g2 g3 g4 s0 s1 hgl hsl
      go_upto_region 15 with fail
      generalize hW : World.alloc _ _ = W5 at *
      have BP := Lib.hid (show RegBox W5 W4.heap.size ⟨F + 1, .slice Ap X.length np⟩ from by rw [← hW]; exact RegBox.n1 W4 ⟨F + 1, .slice Ap X.length np⟩ _ rfl)
      replace HB := Lib.hid (show Below w.heap.size w W5 from by rw [← hW]; exact HB.out.alloc HB.out.size _)
      replace BG := Lib.hid (show CfgBox W5 gb ⟨a, b, P, n, a0_4⟩ from by rw [← hW]; exact BG.out.alloc BG.out.has _)
      replace BS := Lib.hid (show RegBox W5 bs ⟨F, .slice A5 L.length n5⟩ from by rw [← hW]; exact BS.out.alloc BS.out.has _)
      have hal : Below W4.heap.size W4 W5 := by rw [← hW]; exact (Below.refl _ _).alloc (Nat.le_refl _) _
      replace HL := Lib.hid (HL.out.below hal)
      replace Hzs := Lib.hid (Hzs.out.below hal)
      replace HP := Lib.hid (HP.out.below hal)
      replace HQ := Lib.hid (HQ.out.below hal)
      generalize W4.heap.size = bp at *
      clear hW hal
      have hgl := BG.out.has
      have hsl := BS.out.has
      obtain ⟨g0, g1, g2, g3, g4, -⟩ := BG.out
      obtain ⟨s0, s1, -⟩ := BS.out
      go_wp2_with fail
      refine (HS2.out _ _ _ HL.out Hzs.out).mono ?_
      rintro e W6 ⟨⟨vu, vv, rfl, hou, hov⟩, hb⟩
      have HU := Lib.hid (owned_sl hou)
      have HV := Lib.hid (owned_sl hov)
      obtain ⟨Au, nu, rfl, -⟩ := owned_sl hou
      obtain ⟨Av, nv, rfl, -⟩ := owned_sl hov
      replace HB := Lib.hid (nextW HB.out hb)
      replace BP := Lib.hid (BP.out.nx hb)
      replace HP := Lib.hid (HP.out.below hb)
      replace HQ := Lib.hid (HQ.out.below hb)
      clear hou hov hb HS2 Hzs HL BG BS g0 g1 g2 g3 g4 s0 s1 hgl hsl
      go_upto_region 16 with fail
      generalize hW : World.alloc _ _ = W7 at *
      have BU := Lib.hid (show RegBox W7 W6.heap.size ⟨F + 1, .slice Au X.length nu⟩ from by rw [← hW]; exact RegBox.n1 W6 ⟨F + 1, .slice Au X.length nu⟩ _ rfl)
      replace HB := Lib.hid (show Below w.heap.size w W7 from by rw [← hW]; exact HB.out.alloc HB.out.size _)
      replace BP := Lib.hid (show RegBox W7 bp ⟨F + 1, .slice Ap X.length np⟩ from by rw [← hW]; exact BP.out.alloc BP.out.has _)
      have hal : Below W6.heap.size W6 W7 := by rw [← hW]; exact (Below.refl _ _).alloc (Nat.le_refl _) _
      replace HP := Lib.hid (HP.out.below hal)
      replace HQ := Lib.hid (HQ.out.below hal)
      replace HU := Lib.hid (HU.out.below hal)
      replace HV := Lib.hid (HV.out.below hal)
      generalize W6.heap.size = bu at *
      clear hW hal
      have hpl := BP.out.has
      have hul := BU.out.has
      obtain ⟨p0, p1, -⟩ := BP.out
      obtain ⟨u0, u1, -⟩ := BU.out
      go_wp2_with fail
      refine (sregion_any _ _ _ X _ HP.out HU.out (by have := HlX.out; omega)).mono ?_
      rintro e W8 ⟨rfl, hb⟩
      replace HB := Lib.hid (nextW HB.out hb)
      replace HQ := Lib.hid (HQ.out.below hb)
      replace HV := Lib.hid (HV.out.below hb)
      clear hb p0 p1 u0 u1 hpl hul BP BU HP HU
      go_wp2_with fail
      refine (plain_Crs _ _ Y _ HQ.out HV.out (by have := HlY.out; omega)).mono ?_
      rintro e W9 ⟨rfl, hb⟩
      replace HB := Lib.hid (nextW HB.out hb)
      clear hb
      go_wp2
      go_ret
      exact ⟨rfl, HB.out⟩

set_option maxRecDepth 100000 in
theorem lifted (os : Os) (started : os.Started) (H : Type) (enc : TypeId × Value → H) :
    ReturnsInHanded {} Tryz.checked os 6 .any (Rows.regionOthersSpec.pre6 enc Tryz.prog Tryz.f6 Rows.regionOthersRow.domain false) (Rows.regionOthersSpec.post enc Tryz.prog Tryz.f6 false true false false) := by
  refine returnsInHanded_of_change (C := Tryz.checked) own started (by kernel_rfl) Tryz.func6
    (ChangeSpec.witness6 (enc := enc) (C := Tryz.checked) false ⟨#[], #[.agg #[.int .i64 0, .int .i64 0, .int .i64 0, .int .i64 0, .int .u64 0], .int .i64 0, .int .i64 0, .slice none 0 0, .slice none 0 0, .slice none 0 0], []⟩ 8 (by kernel_rfl) (by kernel_rfl) (by kernel_rfl) (by kernel_rfl)) ?_
  intro W base args ds gs before hval0 hW hcnd _
  have hval : ∀ (j : Nat) t v, Tryz.f6.params[j]? = some t → args[j]? = some v → Value.okWide Tryz.prog W .any base t v := hval0
  have hW' := hW
  obtain ⟨p, q, hA0, hV, rfl, hfz, hnd⟩ := hW
  have hA : DataW.TrodAll enc Tryz.prog W 0 (fun _ => true) true Tryz.f6.params.toList args.toList ds p := hA0
  rw [Tryz.params6] at hA hval
  obtain ⟨v0, vs0, d0, ds0, p0, q0, hargs, rfl, rfl, h0, r0⟩ := trodAll_cons hA
  obtain ⟨v1, vs1, d1, ds1, p1, q1, rfl, rfl, rfl, h1, r1⟩ := trodAll_cons r0
  obtain ⟨v2, vs2, d2, ds2, p2, q2, rfl, rfl, rfl, h2, r2⟩ := trodAll_cons r1
  obtain ⟨v3, vs3, d3, ds3, p3, q3, rfl, rfl, rfl, h3, r3⟩ := trodAll_cons r2
  obtain ⟨v4, vs4, d4, ds4, p4, q4, rfl, rfl, rfl, h4, r4⟩ := trodAll_cons r3
  obtain ⟨v5, vs5, d5, ds5, p5, q5, rfl, rfl, rfl, h5, r5⟩ := trodAll_cons r4
  obtain ⟨rfl, rfl, rfl⟩ := trodAll_nil r5
  obtain rfl : args = #[v0, v1, v2, v3, v4, v5] := by cases args; simp_all
  obtain ⟨rfl, rfl⟩ := trodVars_none hV
  obtain ⟨cs0, rfl, -⟩ := okWide_struct Tryz.underlying24 (hval 0 24 v0 rfl rfl)
  have k0 := h0
  have lt0 : ∀ x ∈ p0, x.block < W.heap.size := by obtain ⟨m, hm⟩ := k0; exact DataW.trod_lt m _ _ _ hm
  obtain ⟨fuel0, hf0⟩ := h0
  obtain ⟨l0⟩ := cs0
  obtain ⟨a0_0, a0_1, a0_2, a0_3, a0_4, rfl, w0_0, w0_1, w0_2, w0_3, w0_4⟩ := open_T24 (cs := l0) hf0
  obtain ⟨a1, rfl, rfl, rfl, w1⟩ := open_int Tryz.underlying3 (hval 1 3 v1 rfl rfl) h1
  obtain ⟨a2, rfl, rfl, rfl, w2⟩ := open_int Tryz.underlying3 (hval 2 3 v2 rfl rfl) h2
  obtain ⟨A3, len3, cap3, rfl⟩ := okWide_slice Tryz.underlying25 (hval 3 25 v3 rfl rfl)
  have k3 := h3
  have lt3 : ∀ x ∈ p3, x.block < W.heap.size := by obtain ⟨m, hm⟩ := k3; exact DataW.trod_lt m _ _ _ hm
  obtain ⟨l3, w3, o3⟩ : ∃ l : List Fx.Ent, Fx.IsSl Fx.entC W (.slice A3 len3 cap3) l ∧ ∀ e ∈ l, Fx.Ent.ok e := by
    obtain ⟨fuel, hf⟩ := h3
    exact open_sl25 hf
  obtain ⟨A4, len4, cap4, rfl⟩ := okWide_slice Tryz.underlying26 (hval 4 26 v4 rfl rfl)
  have k4 := h4
  have lt4 : ∀ x ∈ p4, x.block < W.heap.size := by obtain ⟨m, hm⟩ := k4; exact DataW.trod_lt m _ _ _ hm
  obtain ⟨l4, w4, o4⟩ : ∃ l : List Fx.Inp, Fx.IsSl Fx.inpC W (.slice A4 len4 cap4) l ∧ ∀ e ∈ l, Fx.Inp.ok e := by
    obtain ⟨fuel, hf⟩ := h4
    exact open_sl26 hf
  obtain ⟨A5, len5, cap5, rfl⟩ := okWide_slice Tryz.underlying26 (hval 5 26 v5 rfl rfl)
  have k5 := h5
  have lt5 : ∀ x ∈ p5, x.block < W.heap.size := by obtain ⟨m, hm⟩ := k5; exact DataW.trod_lt m _ _ _ hm
  obtain ⟨l5, w5, o5⟩ : ∃ l : List Fx.Inp, Fx.IsSl Fx.inpC W (.slice A5 len5 cap5) l ∧ ∀ e ∈ l, Fx.Inp.ok e := by
    obtain ⟨fuel, hf⟩ := h5
    exact open_sl26 hf
  clear hA0 hval0
  refine (walk a0_0 a0_1 a0_2 a0_3 a0_4 a1 a2 _ l3 _ l4 _ l5 W w0_0 w0_1 w0_2 w0_3 w0_4 w1 w2 w3 o3 w4 o4 w5 o5).mono fun e W' ⟨he, bel⟩ => ?_
  subst he
  exact ⟨_, rfl, _, _, _, [], _, [], hW', trodAll_mk1 (shut_bool Tryz.underlying4 _), (trodAll_cons_mk (Below.trod laidOut (by kernel_rfl) (of_decide_eq_true (by kernel_rfl)) k0 bel lt0) (trodAll_cons_mk (shut_int Tryz.underlying3 w1) (trodAll_cons_mk (shut_int Tryz.underlying3 w2) (trodAll_cons_mk (Below.trod laidOut (by kernel_rfl) (of_decide_eq_true (by kernel_rfl)) k3 bel lt3) (trodAll_cons_mk (Below.trod laidOut (by kernel_rfl) (of_decide_eq_true (by kernel_rfl)) k4 bel lt4) (trodAll_cons_mk (Below.trod laidOut (by kernel_rfl) (of_decide_eq_true (by kernel_rfl)) k5 bel lt5) trodAll_mk0)))))), rfl, bel.frame _, fun h => by cases h⟩

theorem over : Rows.regionOthersRow.holds Tryz.pinned (OpenSpec.ofChange Rows.regionOthersSpec) :=
  OpenClaim.holds_of_wide 6 Tryz.f6 rfl rfl rfl rfl rfl rfl rfl ⟨rfl, rfl, rfl, rfl, rfl⟩ rfl rfl rfl rfl rfl (by kernel_rfl) Tryz.func6 (by kernel_rfl)
    (of_decide_eq_true (by kernel_rfl)) (by unfold Func.isWrapper; first | (rw [if_pos (by decide +kernel)]; kernel_rfl) | (rw [if_neg (by decide +kernel)]; exact ⟨rfl, rfl⟩))
    (fun os started H enc _ => lifted os started H enc)

end Go.Proofs.YtbblpnmcbifocaaGreat.regionOthers
namespace Go.Proofs.YtbblpnmcbifocaaGreat
theorem regionOthers_proved : Rows.RegionOthersSaid := regionOthers.over
end Go.Proofs.YtbblpnmcbifocaaGreat
