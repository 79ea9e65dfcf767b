/- joustlaw09.RegionKeeps returns true for every input; no conditions. -/
import Derived.Test.YtbblpnmcbifocaaGreatM47
import Derived.Test.YtbblpnmcbifocaaGreatM46
import Derived.Test.YtbblpnmcbifocaaGreatRows
import Derived.WalkKit
import Derived.ProofKit
import Derived.OpenShut
import Derived.ShutString
import Derived.ChangeOld
import Derived.Below
import Derived.Deep.Slices
namespace Go.Proofs.YtbblpnmcbifocaaGreat.regionKeeps
open Go.ChangeShapes Go.WideShapes Go.ChangeAt Go.RowKit
open Go.ChangeMaps (open_string shut_string)
set_option linter.unusedVariables false
set_option maxRecDepth 100000

theorem own : ownKnob Tryz.prog.godebug = none := by kernel_rfl
theorem laidOut : laidOutB Tryz.prog = true := by kernel_rfl
open Fx (IsRow)
theorem open_T24 {H : Type} {enc : TypeId × Value → H} {W : World} {fuel : Nat} {cs : List Value} {x : DataW H × List MemPlace} (h : DataW.trod enc Tryz.prog W 0 (fun _ => true) true fuel 24 cs = some x) :
    ∃ (a0 : Int) (a1 : Int) (a2 : Int) (a3 : Int) (a4 : Int), cs = [.int .i64 a0, .int .i64 a1, .int .i64 a2, .int .i64 a3, .int .u64 a4] ∧ (Lit.int .i64 a0).wf = true ∧ (Lit.int .i64 a1).wf = true ∧ (Lit.int .i64 a2).wf = true ∧ (Lit.int .i64 a3).wf = true ∧ (Lit.int .u64 a4).wf = true := by
  obtain ⟨xs, n, -, -, hl, hxl, hg⟩ := DataW.trod_struct Tryz.underlying24 h
  have hl' : cs.length = 5 := hl.trans (by kernel_rfl)
  have c3 : Tryz.prog.cellsOf 3 = 1 := by kernel_rfl
  have c22 : Tryz.prog.cellsOf 22 = 1 := by kernel_rfl
  clear hl h
  match cs, hl' with
  | [z0, z1, z2, z3, z4], _ =>
    have g0 : DataW.trod enc Tryz.prog W 0 (fun _ => true) true n 3 (([z0, z1, z2, z3, z4].drop 0).take (Tryz.prog.cellsOf 3)) = xs[0]? := hg 0 _ rfl
    rw [c3, List.getElem?_eq_getElem (show 0 < xs.length by rw [hxl]; decide)] at g0
    have g1 : DataW.trod enc Tryz.prog W 0 (fun _ => true) true n 3 (([z0, z1, z2, z3, z4].drop 1).take (Tryz.prog.cellsOf 3)) = xs[1]? := hg 1 _ rfl
    rw [c3, List.getElem?_eq_getElem (show 1 < xs.length by rw [hxl]; decide)] at g1
    have g2 : DataW.trod enc Tryz.prog W 0 (fun _ => true) true n 3 (([z0, z1, z2, z3, z4].drop 2).take (Tryz.prog.cellsOf 3)) = xs[2]? := hg 2 _ rfl
    rw [c3, List.getElem?_eq_getElem (show 2 < xs.length by rw [hxl]; decide)] at g2
    have g3 : DataW.trod enc Tryz.prog W 0 (fun _ => true) true n 3 (([z0, z1, z2, z3, z4].drop 3).take (Tryz.prog.cellsOf 3)) = xs[3]? := hg 3 _ rfl
    rw [c3, List.getElem?_eq_getElem (show 3 < xs.length by rw [hxl]; decide)] at g3
    have g4 : DataW.trod enc Tryz.prog W 0 (fun _ => true) true n 22 (([z0, z1, z2, z3, z4].drop 4).take (Tryz.prog.cellsOf 22)) = xs[4]? := hg 4 _ rfl
    rw [c22, List.getElem?_eq_getElem (show 4 < xs.length by rw [hxl]; decide)] at g4
    obtain ⟨a0, e0, -, w0⟩ := DataW.trod_int (cs := [z0]) Tryz.underlying3 g0
    simp only [List.cons.injEq, and_true] at e0
    subst e0
    clear g0
    obtain ⟨a1, e1, -, w1⟩ := DataW.trod_int (cs := [z1]) Tryz.underlying3 g1
    simp only [List.cons.injEq, and_true] at e1
    subst e1
    clear g1
    obtain ⟨a2, e2, -, w2⟩ := DataW.trod_int (cs := [z2]) Tryz.underlying3 g2
    simp only [List.cons.injEq, and_true] at e2
    subst e2
    clear g2
    obtain ⟨a3, e3, -, w3⟩ := DataW.trod_int (cs := [z3]) Tryz.underlying3 g3
    simp only [List.cons.injEq, and_true] at e3
    subst e3
    clear g3
    obtain ⟨a4, e4, -, w4⟩ := DataW.trod_int (cs := [z4]) Tryz.underlying22 g4
    simp only [List.cons.injEq, and_true] at e4
    subst e4
    clear g4
    exact ⟨a0, a1, a2, a3, a4, rfl, w0, w1, w2, w3, w4⟩

theorem open_T48 {H : Type} {enc : TypeId × Value → H} {W : World} {fuel : Nat} {cs : List Value} {x : DataW H × List MemPlace} (h : DataW.trod enc Tryz.prog W 0 (fun _ => true) true fuel 48 cs = some x) :
    ∃ (a0 : Int) (a1 : Int) (a2 : Int) (a3 : Int) (a4 : Int) (a5 : Int) (a6 : Int) (a7 : Int) (a8 : Int), cs = [.int .i64 a0, .int .i64 a1, .int .i64 a2, .int .i64 a3, .int .i64 a4, .int .i64 a5, .int .i64 a6, .int .i64 a7, .int .i64 a8] ∧ (Lit.int .i64 a0).wf = true ∧ (Lit.int .i64 a1).wf = true ∧ (Lit.int .i64 a2).wf = true ∧ (Lit.int .i64 a3).wf = true ∧ (Lit.int .i64 a4).wf = true ∧ (Lit.int .i64 a5).wf = true ∧ (Lit.int .i64 a6).wf = true ∧ (Lit.int .i64 a7).wf = true ∧ (Lit.int .i64 a8).wf = true := by
  obtain ⟨xs, n, -, -, hl, hxl, hg⟩ := DataW.trod_struct Tryz.underlying48 h
  have hl' : cs.length = 9 := hl.trans (by kernel_rfl)
  have c3 : Tryz.prog.cellsOf 3 = 1 := by kernel_rfl
  clear hl h
  match cs, hl' with
  | [z0, z1, z2, z3, z4, z5, z6, z7, z8], _ =>
    have g0 : DataW.trod enc Tryz.prog W 0 (fun _ => true) true n 3 (([z0, z1, z2, z3, z4, z5, z6, z7, z8].drop 0).take (Tryz.prog.cellsOf 3)) = xs[0]? := hg 0 _ rfl
    rw [c3, List.getElem?_eq_getElem (show 0 < xs.length by rw [hxl]; decide)] at g0
    have g1 : DataW.trod enc Tryz.prog W 0 (fun _ => true) true n 3 (([z0, z1, z2, z3, z4, z5, z6, z7, z8].drop 1).take (Tryz.prog.cellsOf 3)) = xs[1]? := hg 1 _ rfl
    rw [c3, List.getElem?_eq_getElem (show 1 < xs.length by rw [hxl]; decide)] at g1
    have g2 : DataW.trod enc Tryz.prog W 0 (fun _ => true) true n 3 (([z0, z1, z2, z3, z4, z5, z6, z7, z8].drop 2).take (Tryz.prog.cellsOf 3)) = xs[2]? := hg 2 _ rfl
    rw [c3, List.getElem?_eq_getElem (show 2 < xs.length by rw [hxl]; decide)] at g2
    have g3 : DataW.trod enc Tryz.prog W 0 (fun _ => true) true n 3 (([z0, z1, z2, z3, z4, z5, z6, z7, z8].drop 3).take (Tryz.prog.cellsOf 3)) = xs[3]? := hg 3 _ rfl
    rw [c3, List.getElem?_eq_getElem (show 3 < xs.length by rw [hxl]; decide)] at g3
    have g4 : DataW.trod enc Tryz.prog W 0 (fun _ => true) true n 3 (([z0, z1, z2, z3, z4, z5, z6, z7, z8].drop 4).take (Tryz.prog.cellsOf 3)) = xs[4]? := hg 4 _ rfl
    rw [c3, List.getElem?_eq_getElem (show 4 < xs.length by rw [hxl]; decide)] at g4
    have g5 : DataW.trod enc Tryz.prog W 0 (fun _ => true) true n 3 (([z0, z1, z2, z3, z4, z5, z6, z7, z8].drop 5).take (Tryz.prog.cellsOf 3)) = xs[5]? := hg 5 _ rfl
    rw [c3, List.getElem?_eq_getElem (show 5 < xs.length by rw [hxl]; decide)] at g5
    have g6 : DataW.trod enc Tryz.prog W 0 (fun _ => true) true n 3 (([z0, z1, z2, z3, z4, z5, z6, z7, z8].drop 6).take (Tryz.prog.cellsOf 3)) = xs[6]? := hg 6 _ rfl
    rw [c3, List.getElem?_eq_getElem (show 6 < xs.length by rw [hxl]; decide)] at g6
    have g7 : DataW.trod enc Tryz.prog W 0 (fun _ => true) true n 3 (([z0, z1, z2, z3, z4, z5, z6, z7, z8].drop 7).take (Tryz.prog.cellsOf 3)) = xs[7]? := hg 7 _ rfl
    rw [c3, List.getElem?_eq_getElem (show 7 < xs.length by rw [hxl]; decide)] at g7
    have g8 : DataW.trod enc Tryz.prog W 0 (fun _ => true) true n 3 (([z0, z1, z2, z3, z4, z5, z6, z7, z8].drop 8).take (Tryz.prog.cellsOf 3)) = xs[8]? := hg 8 _ rfl
    rw [c3, List.getElem?_eq_getElem (show 8 < xs.length by rw [hxl]; decide)] at g8
    obtain ⟨a0, e0, -, w0⟩ := DataW.trod_int (cs := [z0]) Tryz.underlying3 g0
    simp only [List.cons.injEq, and_true] at e0
    subst e0
    clear g0
    obtain ⟨a1, e1, -, w1⟩ := DataW.trod_int (cs := [z1]) Tryz.underlying3 g1
    simp only [List.cons.injEq, and_true] at e1
    subst e1
    clear g1
    obtain ⟨a2, e2, -, w2⟩ := DataW.trod_int (cs := [z2]) Tryz.underlying3 g2
    simp only [List.cons.injEq, and_true] at e2
    subst e2
    clear g2
    obtain ⟨a3, e3, -, w3⟩ := DataW.trod_int (cs := [z3]) Tryz.underlying3 g3
    simp only [List.cons.injEq, and_true] at e3
    subst e3
    clear g3
    obtain ⟨a4, e4, -, w4⟩ := DataW.trod_int (cs := [z4]) Tryz.underlying3 g4
    simp only [List.cons.injEq, and_true] at e4
    subst e4
    clear g4
    obtain ⟨a5, e5, -, w5⟩ := DataW.trod_int (cs := [z5]) Tryz.underlying3 g5
    simp only [List.cons.injEq, and_true] at e5
    subst e5
    clear g5
    obtain ⟨a6, e6, -, w6⟩ := DataW.trod_int (cs := [z6]) Tryz.underlying3 g6
    simp only [List.cons.injEq, and_true] at e6
    subst e6
    clear g6
    obtain ⟨a7, e7, -, w7⟩ := DataW.trod_int (cs := [z7]) Tryz.underlying3 g7
    simp only [List.cons.injEq, and_true] at e7
    subst e7
    clear g7
    obtain ⟨a8, e8, -, w8⟩ := DataW.trod_int (cs := [z8]) Tryz.underlying3 g8
    simp only [List.cons.injEq, and_true] at e8
    subst e8
    clear g8
    exact ⟨a0, a1, a2, a3, a4, a5, a6, a7, a8, rfl, w0, w1, w2, w3, w4, w5, w6, w7, w8⟩

theorem open_sl25 {H : Type} {enc : TypeId × Value → H} {W : World} {fuel : Nat} {v : Value} {x : DataW H × List MemPlace} (h : DataW.trod enc Tryz.prog W 0 (fun _ => true) true fuel 25 [v] = some x) :
    ∃ l : List Fx.Ent, Fx.IsSl Fx.entC W v l ∧ ∀ e ∈ l, Fx.Ent.ok e := by
  rcases Go.Deep.open_slice Tryz.underlying25 h with ⟨hcs, _⟩ | ⟨a, len, cap, m, n, D, Pl, hcs, _, hl, hm, hmm, _, hel⟩
  · simp at hcs
    subst hcs
    exact ⟨[], Fx.IsSl.nil _ _, by simp⟩
  · simp at hcs
    subst hcs
    have hmc : m = cap := hmm
    have hce : Tryz.prog.cellsOf 48 = 9 := by kernel_rfl
    refine Fx.sl_of_cells (base := 0) default 9 Fx.entC_len (by omega) hl fun i hi => ?_
    obtain ⟨cs', hc, ht⟩ := hel i (by omega)
    rw [hce] at hc
    obtain ⟨a0, a1, a2, a3, a4, a5, a6, a7, a8, rfl, w0, w1, w2, w3, w4, w5, w6, w7, w8⟩ := open_T48 ht
    exact ⟨⟨a0, a1, a2, a3, a4, a5, a6, a7, a8⟩, ⟨w0, w1, w2, w3, w4, w5, w6, w7, w8⟩, hc⟩

theorem open_T61 {H : Type} {enc : TypeId × Value → H} {W : World} {fuel : Nat} {cs : List Value} {x : DataW H × List MemPlace} (h : DataW.trod enc Tryz.prog W 0 (fun _ => true) true fuel 61 cs = some x) :
    ∃ (a0 : Int) (a1 : Int) (a2 : Bool), cs = [.int .i64 a0, .int .i64 a1, .bool a2] ∧ (Lit.int .i64 a0).wf = true ∧ (Lit.int .i64 a1).wf = true := by
  obtain ⟨xs, n, -, -, hl, hxl, hg⟩ := DataW.trod_struct Tryz.underlying61 h
  have hl' : cs.length = 3 := hl.trans (by kernel_rfl)
  have c3 : Tryz.prog.cellsOf 3 = 1 := by kernel_rfl
  have c4 : Tryz.prog.cellsOf 4 = 1 := by kernel_rfl
  clear hl h
  match cs, hl' with
  | [z0, z1, z2], _ =>
    have g0 : DataW.trod enc Tryz.prog W 0 (fun _ => true) true n 3 (([z0, z1, z2].drop 0).take (Tryz.prog.cellsOf 3)) = xs[0]? := hg 0 _ rfl
    rw [c3, List.getElem?_eq_getElem (show 0 < xs.length by rw [hxl]; decide)] at g0
    have g1 : DataW.trod enc Tryz.prog W 0 (fun _ => true) true n 3 (([z0, z1, z2].drop 1).take (Tryz.prog.cellsOf 3)) = xs[1]? := hg 1 _ rfl
    rw [c3, List.getElem?_eq_getElem (show 1 < xs.length by rw [hxl]; decide)] at g1
    have g2 : DataW.trod enc Tryz.prog W 0 (fun _ => true) true n 4 (([z0, z1, z2].drop 2).take (Tryz.prog.cellsOf 4)) = xs[2]? := hg 2 _ rfl
    rw [c4, List.getElem?_eq_getElem (show 2 < xs.length by rw [hxl]; decide)] at g2
    obtain ⟨a0, e0, -, w0⟩ := DataW.trod_int (cs := [z0]) Tryz.underlying3 g0
    simp only [List.cons.injEq, and_true] at e0
    subst e0
    clear g0
    obtain ⟨a1, e1, -, w1⟩ := DataW.trod_int (cs := [z1]) Tryz.underlying3 g1
    simp only [List.cons.injEq, and_true] at e1
    subst e1
    clear g1
    obtain ⟨a2, e2, -⟩ := DataW.trod_bool (cs := [z2]) Tryz.underlying4 g2
    simp only [List.cons.injEq, and_true] at e2
    subst e2
    clear g2
    exact ⟨a0, a1, a2, rfl, w0, w1⟩

theorem open_sl26 {H : Type} {enc : TypeId × Value → H} {W : World} {fuel : Nat} {v : Value} {x : DataW H × List MemPlace} (h : DataW.trod enc Tryz.prog W 0 (fun _ => true) true fuel 26 [v] = some x) :
    ∃ l : List Fx.Inp, Fx.IsSl Fx.inpC W v l ∧ ∀ e ∈ l, Fx.Inp.ok e := by
  rcases Go.Deep.open_slice Tryz.underlying26 h with ⟨hcs, _⟩ | ⟨a, len, cap, m, n, D, Pl, hcs, _, hl, hm, hmm, _, hel⟩
  · simp at hcs
    subst hcs
    exact ⟨[], Fx.IsSl.nil _ _, by simp⟩
  · simp at hcs
    subst hcs
    have hmc : m = cap := hmm
    have hce : Tryz.prog.cellsOf 61 = 3 := by kernel_rfl
    refine Fx.sl_of_cells (base := 0) default 3 Fx.inpC_len (by omega) hl fun i hi => ?_
    obtain ⟨cs', hc, ht⟩ := hel i (by omega)
    rw [hce] at hc
    obtain ⟨a0, a1, a2, rfl, w0, w1⟩ := open_T61 ht
    exact ⟨⟨a0, a1, a2⟩, ⟨w0, w1⟩, hc⟩

theorem open_T50 {H : Type} {enc : TypeId × Value → H} {W : World} {fuel : Nat} {cs : List Value} {x : DataW H × List MemPlace} (h : DataW.trod enc Tryz.prog W 0 (fun _ => true) true fuel 50 cs = some x) :
    ∃ (a0 : Int) (a1 : Int) (a2 : Int) (a3 : Int) (a4 : Int) (a5 : Int) (a6 : Int) (a7 : Int) (a8 : Int) (a9 : Int) (a10 : Int) (a11 : Int) (a12 : Int) (a13 : Int) (a14 : Int), cs = [.int .i64 a0, .int .i64 a1, .int .i64 a2, .int .i64 a3, .int .i64 a4, .int .i64 a5, .int .i64 a6, .int .i64 a7, .int .i64 a8, .int .i64 a9, .int .i64 a10, .int .i64 a11, .int .i64 a12, .int .i64 a13, .int .i64 a14] ∧ (Lit.int .i64 a0).wf = true ∧ (Lit.int .i64 a1).wf = true ∧ (Lit.int .i64 a2).wf = true ∧ (Lit.int .i64 a3).wf = true ∧ (Lit.int .i64 a4).wf = true ∧ (Lit.int .i64 a5).wf = true ∧ (Lit.int .i64 a6).wf = true ∧ (Lit.int .i64 a7).wf = true ∧ (Lit.int .i64 a8).wf = true ∧ (Lit.int .i64 a9).wf = true ∧ (Lit.int .i64 a10).wf = true ∧ (Lit.int .i64 a11).wf = true ∧ (Lit.int .i64 a12).wf = true ∧ (Lit.int .i64 a13).wf = true ∧ (Lit.int .i64 a14).wf = true := by
  obtain ⟨xs, n, -, -, hl, hxl, hg⟩ := DataW.trod_struct Tryz.underlying50 h
  have hl' : cs.length = 15 := hl.trans (by kernel_rfl)
  have c3 : Tryz.prog.cellsOf 3 = 1 := by kernel_rfl
  have c48 : Tryz.prog.cellsOf 48 = 9 := by kernel_rfl
  clear hl h
  match cs, hl' with
  | [z0, z1, z2, z3, z4, z5, z6, z7, z8, z9, z10, z11, z12, z13, z14], _ =>
    have g0 : DataW.trod enc Tryz.prog W 0 (fun _ => true) true n 3 (([z0, z1, z2, z3, z4, z5, z6, z7, z8, z9, z10, z11, z12, z13, z14].drop 0).take (Tryz.prog.cellsOf 3)) = xs[0]? := hg 0 _ rfl
    rw [c3, List.getElem?_eq_getElem (show 0 < xs.length by rw [hxl]; decide)] at g0
    have g1 : DataW.trod enc Tryz.prog W 0 (fun _ => true) true n 3 (([z0, z1, z2, z3, z4, z5, z6, z7, z8, z9, z10, z11, z12, z13, z14].drop 1).take (Tryz.prog.cellsOf 3)) = xs[1]? := hg 1 _ rfl
    rw [c3, List.getElem?_eq_getElem (show 1 < xs.length by rw [hxl]; decide)] at g1
    have g2 : DataW.trod enc Tryz.prog W 0 (fun _ => true) true n 3 (([z0, z1, z2, z3, z4, z5, z6, z7, z8, z9, z10, z11, z12, z13, z14].drop 2).take (Tryz.prog.cellsOf 3)) = xs[2]? := hg 2 _ rfl
    rw [c3, List.getElem?_eq_getElem (show 2 < xs.length by rw [hxl]; decide)] at g2
    have g3 : DataW.trod enc Tryz.prog W 0 (fun _ => true) true n 3 (([z0, z1, z2, z3, z4, z5, z6, z7, z8, z9, z10, z11, z12, z13, z14].drop 3).take (Tryz.prog.cellsOf 3)) = xs[3]? := hg 3 _ rfl
    rw [c3, List.getElem?_eq_getElem (show 3 < xs.length by rw [hxl]; decide)] at g3
    have g4 : DataW.trod enc Tryz.prog W 0 (fun _ => true) true n 48 (([z0, z1, z2, z3, z4, z5, z6, z7, z8, z9, z10, z11, z12, z13, z14].drop 4).take (Tryz.prog.cellsOf 48)) = xs[4]? := hg 4 _ rfl
    rw [c48, List.getElem?_eq_getElem (show 4 < xs.length by rw [hxl]; decide)] at g4
    have g5 : DataW.trod enc Tryz.prog W 0 (fun _ => true) true n 3 (([z0, z1, z2, z3, z4, z5, z6, z7, z8, z9, z10, z11, z12, z13, z14].drop 13).take (Tryz.prog.cellsOf 3)) = xs[5]? := hg 5 _ rfl
    rw [c3, List.getElem?_eq_getElem (show 5 < xs.length by rw [hxl]; decide)] at g5
    have g6 : DataW.trod enc Tryz.prog W 0 (fun _ => true) true n 3 (([z0, z1, z2, z3, z4, z5, z6, z7, z8, z9, z10, z11, z12, z13, z14].drop 14).take (Tryz.prog.cellsOf 3)) = xs[6]? := hg 6 _ rfl
    rw [c3, List.getElem?_eq_getElem (show 6 < xs.length by rw [hxl]; decide)] at g6
    obtain ⟨a0, e0, -, w0⟩ := DataW.trod_int (cs := [z0]) Tryz.underlying3 g0
    simp only [List.cons.injEq, and_true] at e0
    subst e0
    clear g0
    obtain ⟨a1, e1, -, w1⟩ := DataW.trod_int (cs := [z1]) Tryz.underlying3 g1
    simp only [List.cons.injEq, and_true] at e1
    subst e1
    clear g1
    obtain ⟨a2, e2, -, w2⟩ := DataW.trod_int (cs := [z2]) Tryz.underlying3 g2
    simp only [List.cons.injEq, and_true] at e2
    subst e2
    clear g2
    obtain ⟨a3, e3, -, w3⟩ := DataW.trod_int (cs := [z3]) Tryz.underlying3 g3
    simp only [List.cons.injEq, and_true] at e3
    subst e3
    clear g3
    obtain ⟨a4, a5, a6, a7, a8, a9, a10, a11, a12, e4, w4, w5, w6, w7, w8, w9, w10, w11, w12⟩ := open_T48 (cs := [z4, z5, z6, z7, z8, z9, z10, z11, z12]) g4
    simp only [List.cons.injEq, and_true] at e4
    obtain ⟨rfl, rfl, rfl, rfl, rfl, rfl, rfl, rfl, rfl⟩ := e4
    clear g4
    obtain ⟨a13, e5, -, w13⟩ := DataW.trod_int (cs := [z13]) Tryz.underlying3 g5
    simp only [List.cons.injEq, and_true] at e5
    subst e5
    clear g5
    obtain ⟨a14, e6, -, w14⟩ := DataW.trod_int (cs := [z14]) Tryz.underlying3 g6
    simp only [List.cons.injEq, and_true] at e6
    subst e6
    clear g6
    exact ⟨a0, a1, a2, a3, a4, a5, a6, a7, a8, a9, a10, a11, a12, a13, a14, rfl, w0, w1, w2, w3, w4, w5, w6, w7, w8, w9, w10, w11, w12, w13, w14⟩

theorem open_sl27 {H : Type} {enc : TypeId × Value → H} {W : World} {fuel : Nat} {v : Value} {x : DataW H × List MemPlace} (h : DataW.trod enc Tryz.prog W 0 (fun _ => true) true fuel 27 [v] = some x) :
    ∃ l : List Fx.Crs, Fx.IsSl Fx.crsC W v l ∧ ∀ e ∈ l, Fx.Crs.ok e := by
  rcases Go.Deep.open_slice Tryz.underlying27 h with ⟨hcs, _⟩ | ⟨a, len, cap, m, n, D, Pl, hcs, _, hl, hm, hmm, _, hel⟩
  · simp at hcs
    subst hcs
    exact ⟨[], Fx.IsSl.nil _ _, by simp⟩
  · simp at hcs
    subst hcs
    have hmc : m = cap := hmm
    have hce : Tryz.prog.cellsOf 50 = 15 := by kernel_rfl
    refine Fx.sl_of_cells (base := 0) default 15 Fx.crsC_len (by omega) hl fun i hi => ?_
    obtain ⟨cs', hc, ht⟩ := hel i (by omega)
    rw [hce] at hc
    obtain ⟨a0, a1, a2, a3, a4, a5, a6, a7, a8, a9, a10, a11, a12, a13, a14, rfl, w0, w1, w2, w3, w4, w5, w6, w7, w8, w9, w10, w11, w12, w13, w14⟩ := open_T50 ht
    exact ⟨⟨a0, a1, a2, a3, ⟨a4, a5, a6, a7, a8, a9, a10, a11, a12⟩, a13, a14⟩, ⟨w0, w1, w2, w3, w4, w5, w6, w7, w8, w9, w10, w11, w12, w13, w14⟩, hc⟩

open Fx

set_option maxRecDepth 100000 in
set_option maxHeartbeats 16000000 in
theorem walk (a0_0 : Int) (a0_1 : Int) (a0_2 : Int) (a0_3 : Int) (a0_4 : Int) (a1 : Int) (a2 : Int) (v3 : Value) (l3 : List Fx.Ent) (v4 : Value) (l4 : List Fx.Inp) (v5 : Value) (l5 : List Fx.Crs) (w : World) (w0_0 : (Lit.int .i64 a0_0).wf = true) (w0_1 : (Lit.int .i64 a0_1).wf = true) (w0_2 : (Lit.int .i64 a0_2).wf = true) (w0_3 : (Lit.int .i64 a0_3).wf = true) (w0_4 : (Lit.int .u64 a0_4).wf = true) (w1 : (Lit.int .i64 a1).wf = true) (w2 : (Lit.int .i64 a2).wf = true) (w3 : Fx.IsSl Fx.entC w v3 l3) (k3 : ∀ e ∈ l3, Fx.Ent.ok e) (w4 : Fx.IsSl Fx.inpC w v4 l4) (k4 : ∀ e ∈ l4, Fx.Inp.ok e) (w5 : Fx.IsSl Fx.crsC w v5 l5) (k5 : ∀ e ∈ l5, Fx.Crs.ok e) :
    Calls Tryz.prog 4 #[.agg #[.int .i64 a0_0, .int .i64 a0_1, .int .i64 a0_2, .int .i64 a0_3, .int .u64 a0_4], .int .i64 a1, .int .i64 a2, v3, v4, v5] w fun e w' => e = .returned (.bool true) ∧ Below w.heap.size w w' := by
  clear w0_0 w0_1 w0_2 w0_3 w1 w2 k3
  have hs4 : 0 ≤ a0_4 ∧ a0_4 < 18446744073709551616 := by have := bounds_u64 w0_4; omega
  have HA := Lib.hid awake_rg
  have HV3 := Lib.hid w3
  obtain ⟨A3, n3, rfl, -⟩ := w3
  clear k4
  have HV4 := Lib.hid w4
  obtain ⟨A4, n4, rfl, -⟩ := w4
  clear k5
  have HV5 := Lib.hid w5
  obtain ⟨A5, n5, rfl, -⟩ := w5
  go_enter Tryz.func4, Tryz.ntmps4
  go_wp2_with fail
  refine (config_any _ _ _ _ _ _).mono ?_
  rintro e v1 ⟨a, b, p, n, rfl, hsm, hb1⟩
  obtain ⟨hrt, ha3, hb3, hp4⟩ := hsm
  have hrd := rt_bd hrt
  obtain ⟨P, rfl⟩ : ∃ P : Nat, p = (P : Int) := ⟨p.toNat, by omega⟩
  have hP : 1 ≤ P ∧ P ≤ 4 := by omega
  have Hb1 := Lib.hid (unbox hb1)
  have BC1 := Lib.hid ((CfgBox.n1 w ⟨a0_0, a0_1, a0_2, a0_3, a0_4⟩ 24 rfl).nx hb1)
  have HN := Lib.hid (fun w => new_yes a b P n a0_4 w hrt)
  have hre : regs a b P n = a * b := by unfold regs; rw [if_pos hrt]
  have hR : 1 ≤ regs a b P n ∧ regs a b P n ≤ 9 := by
    rw [hre]
    have : a = 1 ∨ a = 2 ∨ a = 3 := by omega
    rcases this with rfl | rfl | rfl <;> omega
  have HR := Lib.hid (fun w => regions_any a b P n a0_4 w)
  have hb9 := umod a1 (regs a b P n) hR.1 (by omega)
  obtain ⟨r, hr⟩ : ∃ r, wrap64 ((IntKind.u64.wrap a1).tmod (regs a b P n)) = r := ⟨_, rfl⟩
  rw [hr] at hb9
  have hr9 : 0 ≤ r ∧ r < regs a b P n := by obtain ⟨e1, e2, e3⟩ := hb9; rw [e1]; exact ⟨e2, e3⟩
  clear hb9
  have hhas : hasB a b P n r = true := by unfold hasB; exact decide_eq_true hr9
  have Hhas := Lib.hid hhas
  have HPl := Lib.hid (fun f0 v l w2 hv => pregion_any a b P n a0_4 r f0 hhas (by omega) v l w2 hv)
  generalize regs a b P n = R at *
  clear hb1 hrt hre hhas hrd hr9
  have g0 := BC1.out.c0
  have g1 := BC1.out.c1
  have g2 := BC1.out.c2
  have g3 := BC1.out.c3
  have g4 := BC1.out.c4
  have f0 := BC1.out.f0
  have f1 := BC1.out.f1
  have f2 := BC1.out.f2
  have f3 := BC1.out.f3
  have f4 := BC1.out.f4
  have hgl := BC1.out.has
  have HB := Lib.hid (CfgBox.bel Hb1.out ⟨a, b, P, n, a0_4⟩ (Nat.le_refl _) rfl)
  have BC := Lib.hid (BC1.out.put ⟨a, b, P, n, a0_4⟩)
  go_wp2_with fail
  refine (HN.out _).mono ?_
  rintro e v2 ⟨rfl, hb2⟩
  replace HB := Lib.hid (nextW HB.out hb2)
  replace BC := Lib.hid (BC.out.nx hb2)
  have BG := Lib.hid (CfgBox.n1 v2 ⟨a, b, P, n, a0_4⟩ 30 rfl)
  replace BC := Lib.hid (BC.out.alloc BC.out.has (.cells #[.int .i64 a, .int .i64 b, .int .i64 P, .int .i64 n, .int .u64 a0_4] 30))
  replace HB := Lib.hid (HB.out.alloc HB.out.size (.cells #[.int .i64 a, .int .i64 b, .int .i64 P, .int .i64 n, .int .u64 a0_4] 30))
  clear hb2 g0 g1 g2 g3 g4 f0 f1 f2 f3 f4 hgl BC1 Hb1 HN
  go_wp2_with fail
  refine (HA.out _).mono ?_
  rintro e v3 ⟨rfl, hb3⟩
  replace HB := Lib.hid (nextW HB.out hb3)
  replace BC := Lib.hid (BC.out.nx hb3)
  replace BG := Lib.hid (BG.out.nx hb3)
  clear hb3 HA
  generalize hgb : v2.heap.size = gb at *
  clear hgb
  have hgl := BG.out.has
  obtain ⟨g0, g1, g2, g3, g4, -⟩ := BG.out
  have hu : IntKind.u64.wrap R = R := by rw [IntKind.wrap_u64]; omega
  have hRn : ¬ R = 0 := by omega
  go_wp2_with fail
  refine (HR.out _).mono ?_
  rintro e v4 ⟨rfl, hb4⟩
  replace HB := Lib.hid (nextW HB.out hb4)
  replace BC := Lib.hid (BC.out.nx hb4)
  replace BG := Lib.hid (BG.out.nx hb4)
  clear hb4 g0 g1 g2 g3 g4 hgl
  have hcl := BC.out.has
  obtain ⟨c0, c1, c2, c3, c4, -⟩ := BC.out
  go_upto_region 6 with fail
  simp only [hr, hu]
  clear hr hu hRn HR hR
  go_wp2_with fail
  refine (HPl.out _ _ _ _ (HV3.out.below HB.out)).mono ?_
  rintro e v5 ⟨⟨F, L, vl, rfl, hF, hok, hhere, hlen, hsl⟩, hb5⟩
  have HL := Lib.hid hsl
  obtain ⟨A5, n5, rfl, -⟩ := hsl
  replace HB := Lib.hid (nextW HB.out hb5)
  replace BC := Lib.hid (BC.out.nx hb5)
  replace BG := Lib.hid (BG.out.nx hb5)
  have Hok := Lib.hid hok
  have Hhere := Lib.hid hhere
  have HLn := Lib.hid hlen
  clear hb5 c0 c1 c2 c3 c4 hcl HPl HV3 hok hhere hlen
  go_upto_region 7 with fail
  generalize hW : World.alloc _ _ = W at *
  have BS := Lib.hid (show RegBox W v5.heap.size ⟨F, .slice A5 L.length n5⟩ from by rw [← hW]; exact RegBox.n1 v5 ⟨F, .slice A5 L.length n5⟩ _ rfl)
  replace BC := Lib.hid (show CfgBox W w.heap.size ⟨a, b, P, n, a0_4⟩ from by rw [← hW]; exact BC.out.alloc BC.out.has _)
  replace BG := Lib.hid (show CfgBox W gb ⟨a, b, P, n, a0_4⟩ from by rw [← hW]; exact BG.out.alloc BG.out.has _)
  replace HB := Lib.hid (show Below w.heap.size w W from by rw [← hW]; exact HB.out.alloc HB.out.size _)
  replace HL := Lib.hid (show IsSl entC W (.slice A5 L.length n5) L from by rw [← hW]; exact HL.out.below ((Below.refl _ _).alloc (Nat.le_refl _) _))
  generalize v5.heap.size = bs at *
  clear hW
  have HIb := Lib.hid (fun v l w2 hv => pinbox_any a b P n a0_4 r F Hhas.out (by omega) v l w2 hv)
  have hcl := BC.out.has
  have hsl := BS.out.has
  obtain ⟨c0, c1, c2, c3, c4, -⟩ := BC.out
  obtain ⟨s0, s1, -⟩ := BS.out
  go_wp2_with fail
  refine (HIb.out _ _ _ (HV5.out.below HB.out)).mono ?_
  rintro e W2 ⟨⟨vi, ib, rfl, hoi, hil, hia⟩, hb⟩
  have HI := Lib.hid (owned_sl hoi)
  have HIl := Lib.hid hil
  have HIa := Lib.hid hia
  obtain ⟨Ai, ni, rfl, -⟩ := owned_sl hoi
  replace HB := Lib.hid (nextW HB.out hb)
  replace BC := Lib.hid (BC.out.nx hb)
  replace BG := Lib.hid (BG.out.nx hb)
  replace BS := Lib.hid (BS.out.nx hb)
  replace HL := Lib.hid (HL.out.below hb)
  clear hoi hil hia hb c0 c1 c2 c3 c4 s0 s1 hcl hsl HV5 HIb
  have HFr := Lib.hid (fun u ins g w2 hg hu => pframes_any a b n a0_4 P (by omega) u ins g w2 hg hu)
  have ht : things L ≤ 24 := by have := things_bd L; have := HLn.out; omega
  have HAsk := Lib.hid (asked_ok (ib := ib) Hhas.out (show 0 ≤ F ∧ F ≤ 9999 by omega) Hok.out Hhere.out ht HIa.out)
  obtain ⟨Xf, hXf⟩ : ∃ Xf : List Inp → List Ent, Xf = fun xs => stayL a b P n a0_4 r F (inpOf xs) L ib := ⟨_, rfl⟩
  obtain ⟨Yf, hYf⟩ : ∃ Yf : List Inp → List Crs, Yf = fun xs => st lessB (outsL a b P n a0_4 r F (inpOf xs) L ib) := ⟨_, rfl⟩
  have HS := Lib.hid (fun xs (h1 : xs.length = P) (h2 : xs.all irtI = true) w2 v t u hv ht hu => rgstep_yes a b P n a0_4 r F hs4 v L t xs u ib w2 hv (by have := HLn.out; omega) ht (by omega) hu (by have := HIl.out; omega) (F + 1) (Xf xs) (Yf xs) (why_ok (ib := ib) Hhas.out (show 0 ≤ F ∧ F ≤ 9999 by omega) Hok.out Hhere.out (by have := things_bd L; have := HLn.out; omega) HIa.out ⟨h1, h2⟩) rfl (by rw [hXf]) (by rw [hYf]))
  have HXe := Lib.hid hXf
  have HYe := Lib.hid hYf
  have HV4b := Lib.hid (HV4.out.below HB.out)
  have hgl := BG.out.has
  have hsl := BS.out.has
  have hcl := BC.out.has
  obtain ⟨g0, g1, g2, g3, g4, -⟩ := BG.out
  obtain ⟨c0, c1, c2, c3, c4, -⟩ := BC.out
  obtain ⟨s0, s1, -⟩ := BS.out
  clear hXf hYf ht HV4
  go_upto_region 8 with fail
  go_cut [17, 18, 19] (fun sA sB sC wx => ∃ xs blk A7 n7 A8 n8, sA = .pointer (some ⟨blk, 0, none⟩) ∧ sB = .slice A8 (Yf xs).length n8 ∧ sC = .int .i64 0 ∧ xs.length = P ∧ xs.all irtI = true ∧ RegBox wx blk ⟨F + 1, .slice A7 (Xf xs).length n7⟩ ∧ IsSl entC wx (.slice A7 (Xf xs).length n7) (Xf xs) ∧ IsSl crsC wx (.slice A8 (Yf xs).length n8) (Yf xs) ∧ Below W2.heap.size W2 wx)
  case first =>
    refine tree_region (S := (fun w' => (∀ b o, b < (W2).heap.size → w'.cell? ⟨b, o, none⟩ = (W2).cell? ⟨b, o, none⟩) ∧ (∀ b o, b < (W2).heap.size → w'.frozen? ⟨b, o, none⟩ = (W2).frozen? ⟨b, o, none⟩) ∧ Below (W2).heap.size (W2) w')) (.free 0 (.free 1 (.free 2 (.free 3 (.free 4 (.free 9 (.two 5 (.two 6 (.free 7 (.two 8 (.two 10 (.free 11 (.free 12 (.free 13 (.free 14 (.one 15 (.one 16 (.free 17 (.free 18 .done)))))))) 15 (.one 10 (.free 11 (.free 12 (.free 13 (.free 14 (.one 16 (.free 17 (.free 18 .done))))))))) 15 (.one 8 (.one 10 (.free 11 (.free 12 (.free 13 (.free 14 (.one 16 (.free 17 (.free 18 .done))))))))))) 15 (.one 6 (.free 7 (.one 8 (.one 10 (.free 11 (.free 12 (.free 13 (.free 14 (.one 16 (.free 17 (.free 18 .done)))))))))))) 15 (.one 5 (.one 6 (.free 7 (.one 8 (.one 10 (.free 11 (.free 12 (.free 13 (.free 14 (.one 16 (.free 17 (.free 18 .done))))))))))))))))))) (by kernel_rfl) (by kernel_rfl) (fun _ _ d _ _ h => by cases d <;> exact h) (keepW0 _) (fun hS => ?_)
    simp only [written, List.getElem?_cons_succ, List.getElem?_cons_zero]
    refine rw_free (v := ?_) (by rfl) ?_ ?_; rotate_left 1; focus (intro w hSw; (try dsimp only at hSw); go_simp; (try with_reducible rfl))
    (try simp only [Act.put, tA, tB, tC])
    refine rw_free (v := ?_) (by rfl) ?_ ?_; rotate_left 1; focus (intro w hSw; (try dsimp only at hSw); go_simp; (try with_reducible rfl))
    (try simp only [Act.put, tA, tB, tC])
    refine rw_free (v := ?_) (by rfl) ?_ ?_; rotate_left 1; focus (intro w hSw; (try dsimp only at hSw); go_simp; (try with_reducible rfl))
    (try simp only [Act.put, tA, tB, tC])
    refine rw_free (v := ?_) (by rfl) ?_ ?_; rotate_left 1; focus (intro w hSw; (try dsimp only at hSw); go_simp; (try with_reducible rfl))
    (try simp only [Act.put, tA, tB, tC])
    refine rw_free (v := ?_) (by rfl) ?_ ?_; rotate_left 1; focus (intro w hSw; (try dsimp only at hSw); go_simp; (try with_reducible rfl))
    (try simp only [Act.put, tA, tB, tC])
    refine rw_free (v := ?_) (by rfl) ?_ ?_; rotate_left 1; focus (intro w hSw; (try dsimp only at hSw); go_simp; (try with_reducible rfl))
    (try simp only [Act.put, tA, tB, tC])
    refine rw_two ?_ ?_
    · skip
      refine rw_call (by rfl) (fun K hK => ?_)
      go_simp
      (skip)
      (try go_wp2_with fail)
      refine hK.out _ _ ?_ (fun hS' => ?_)
      · (try dsimp only); first | exact keepW (by assumption) (by assumption) | exact keepB (by assumption) (by assumption) | exact keepA (by assumption) | assumption
      clear hS hK K
      have hS := hS'
      clear hS'
      (try simp only [Act.put, tA, tB, tC])
      refine rw_two ?_ ?_
      · skip
        refine rw_call (by rfl) (fun K hK => ?_)
        go_simp
        (refine (HFr.out _ _ _ _ (by first | with_reducible exact zcA _ _ _ (by first | rfl | simp) | with_reducible exact zcB _ _ _ _ (by first | rfl | simp) | with_reducible exact zcC _ _ _ (by first | rfl | simp) | with_reducible exact zcD _ _ _ _ (by first | rfl | simp)) (HV4b.out.below hS.2.2)).mono ?_; rintro e w4 ⟨⟨gA, cA, gx, xs, rfl, hcA, ho, hl, ha⟩, hb4⟩)
        (try go_wp2_with fail)
        refine hK.out _ _ ?_ (fun hS' => ?_)
        · (try dsimp only); first | exact keepW (by assumption) (by assumption) | exact keepB (by assumption) (by assumption) | exact keepA (by assumption) | assumption
        clear hS hK K
        have hS := hS'
        clear hS'
        (try simp only [Act.put, tA, tB, tC])
        refine rw_free (v := ?_) (by rfl) ?_ ?_; rotate_left 1; focus (intro w hSw; (try dsimp only at hSw); go_simp; (try with_reducible rfl))
        (try simp only [Act.put, tA, tB, tC])
        refine rw_two ?_ ?_
        · skip
          refine rw_call (by rfl) (fun K hK => ?_)
          go_simp
          (have hgA := World.block_lt_of_cell? _ _ hcA; skip)
          (try go_wp2_with fail)
          refine hK.out _ _ ?_ (fun hS' => ?_)
          · (try dsimp only); first | exact keepW (by assumption) (by assumption) | exact keepB (by assumption) (by assumption) | exact keepA (by assumption) | assumption
          clear hS hK K
          have hS := hS'
          clear hS'
          (try simp only [Act.put, tA, tB, tC])
          refine rw_two ?_ ?_
          · skip
            refine rw_call (by rfl) (fun K hK => ?_)
            go_simp
            (refine (HS.out xs hl ha _ _ _ _ (HL.out.below hS.2.2) (by first | exact owned_sl ho | exact (owned_sl ho).below ((Below.refl _ _).alloc (Nat.le_refl _) _)) (HI.out.below hS.2.2)).mono ?_; rintro e w5 ⟨⟨vl, vo, rfl, ho5, ho6⟩, hb5⟩; obtain ⟨A7, n7, rfl, -⟩ := owned_sl ho5; obtain ⟨A8, n8, rfl, -⟩ := owned_sl ho6)
            (try go_wp2_with fail)
            refine hK.out _ _ ?_ (fun hS' => ?_)
            · (try dsimp only); first | exact keepW (by assumption) (by assumption) | exact keepB (by assumption) (by assumption) | exact keepA (by assumption) | assumption
            clear hS hK K
            have hS := hS'
            clear hS'
            (try simp only [Act.put, tA, tB, tC])
            refine rw_free (v := ?_) (by rfl) ?_ ?_; rotate_left 1; focus (intro w hSw; (try dsimp only at hSw); go_simp; (try with_reducible rfl))
            (try simp only [Act.put, tA, tB, tC])
            refine rw_free (v := ?_) (by rfl) ?_ ?_; rotate_left 1; focus (intro w hSw; (try dsimp only at hSw); go_simp; (try with_reducible rfl))
            (try simp only [Act.put, tA, tB, tC])
            refine rw_free (v := ?_) (by rfl) ?_ ?_; rotate_left 1; focus (intro w hSw; (try dsimp only at hSw); go_simp; (try with_reducible rfl))
            (try simp only [Act.put, tA, tB, tC])
            refine rw_free (v := ?_) (by rfl) ?_ ?_; rotate_left 1; focus (intro w hSw; (try dsimp only at hSw); go_simp; (try with_reducible rfl))
            (try simp only [Act.put, tA, tB, tC])
            refine rw_call (by rfl) (fun K hK => ?_)
            go_simp
            (skip)
            (try go_wp2_with fail)
            refine hK.out _ _ ?_ (fun hS' => ?_)
            · (try dsimp only); first | exact keepW (by assumption) (by assumption) | exact keepB (by assumption) (by assumption) | exact keepA (by assumption) | assumption
            clear hS hK K
            have hS := hS'
            clear hS'
            (try simp only [Act.put, tA, tB, tC])
            first | (with_reducible have hs := (by first | exact RegBox.nx (zrA _ rfl) hb5 | exact RegBox.nx (zrB _ rfl) hb5 | exact RegBox.nx (zrC _ _ rfl) hb5 | exact RegBox.nx (zrD _ _ rfl) hb5 | exact RegBox.nx (RegBox.nx (zrA _ rfl) hb4) hb5 | exact RegBox.nx (RegBox.nx (zrB _ rfl) hb4) hb5 | exact RegBox.nx (RegBox.nx (zrC _ _ rfl) hb4) hb5 | exact RegBox.nx (RegBox.nx (zrD _ _ rfl) hb4) hb5 : RegBox w5 _ r0); (try simp only [World.size_alloc] at hs); have Hs := Lib.hid hs; obtain ⟨n0, n1, m0, m1⟩ := hs) | skip
            refine rw_call (by rfl) (fun K hK => ?_)
            go_simp
            (skip)
            (try go_wp2_with fail)
            refine hK.out _ _ ?_ (fun hS' => ?_)
            · (try dsimp only); first | (have _h := Hs.out; exact keepOf (RegBox.bel hS.2.2 ⟨F + 1, .slice A7 (Xf xs).length n7⟩ (by first | exact Nat.le_refl _ | (simp; done) | (have h4 := hb4.size; simp at h4; omega)) rfl)) | exact keepOf (below_swap hS.2.2 (by have h4 := hb4.size; have h5 := hb5.size; simp at h4 h5; omega))
            clear hS hK K
            have hS := hS'
            clear hS'
            (try simp only [Act.put, tA, tB, tC])
            refine rw_free (v := ?_) (by rfl) ?_ ?_; rotate_left 1; focus (intro w hSw; (try dsimp only at hSw); go_simp; (try with_reducible rfl))
            (try simp only [Act.put, tA, tB, tC])
            refine rw_free (v := ?_) (by rfl) ?_ ?_; rotate_left 1; focus (intro w hSw; (try dsimp only at hSw); go_simp; (try with_reducible rfl))
            (try simp only [Act.put, tA, tB, tC])
            refine rw_done ?_
            (try clear n0 n1 m0 m1)
            go_wp2_with fail
            go_meet
            exact ⟨xs, _, A7, n7, A8, n8, rfl, rfl, rfl, hl, ha, (by first | (have _h := Hs.out; exact _h.put ⟨F + 1, .slice A7 (Xf xs).length n7⟩) | exact RegBox.n1 _ ⟨F + 1, .slice A7 (Xf xs).length n7⟩ _ rfl), (by first | (have _h := Hs.out; exact owned_sl (own_old2 ho5 (by first | (simp; done) | (have h4 := hb4.size; simp at h4 ⊢; omega)) _ _)) | exact (owned_sl ho5).below ((Below.refl _ _).alloc (Nat.le_refl _) _)), (by first | (have _h := Hs.out; exact owned_sl (own_old2 ho6 (by first | (simp; done) | (have h4 := hb4.size; simp at h4 ⊢; omega)) _ _)) | exact (owned_sl ho6).below ((Below.refl _ _).alloc (Nat.le_refl _) _)), hS.2.2⟩
          · skip
            refine rw_call (by rfl) (fun K hK => ?_)
            go_simp
            (skip)
            (try go_wp2_with fail)
            refine hK.out _ _ ?_ (fun hS' => ?_)
            · (try dsimp only); first | exact keepW (by assumption) (by assumption) | exact keepB (by assumption) (by assumption) | exact keepA (by assumption) | assumption
            clear hS hK K
            have hS := hS'
            clear hS'
            (try simp only [Act.put, tA, tB, tC])
            refine rw_call (by rfl) (fun K hK => ?_)
            go_simp
            (refine (HS.out xs hl ha _ _ _ _ (HL.out.below hS.2.2) (by first | exact owned_sl ho | exact (owned_sl ho).below ((Below.refl _ _).alloc (Nat.le_refl _) _)) (HI.out.below hS.2.2)).mono ?_; rintro e w5 ⟨⟨vl, vo, rfl, ho5, ho6⟩, hb5⟩; obtain ⟨A7, n7, rfl, -⟩ := owned_sl ho5; obtain ⟨A8, n8, rfl, -⟩ := owned_sl ho6)
            (try go_wp2_with fail)
            refine hK.out _ _ ?_ (fun hS' => ?_)
            · (try dsimp only); first | exact keepW (by assumption) (by assumption) | exact keepB (by assumption) (by assumption) | exact keepA (by assumption) | assumption
            clear hS hK K
            have hS := hS'
            clear hS'
            (try simp only [Act.put, tA, tB, tC])
            refine rw_free (v := ?_) (by rfl) ?_ ?_; rotate_left 1; focus (intro w hSw; (try dsimp only at hSw); go_simp; (try with_reducible rfl))
            (try simp only [Act.put, tA, tB, tC])
            refine rw_free (v := ?_) (by rfl) ?_ ?_; rotate_left 1; focus (intro w hSw; (try dsimp only at hSw); go_simp; (try with_reducible rfl))
            (try simp only [Act.put, tA, tB, tC])
            refine rw_free (v := ?_) (by rfl) ?_ ?_; rotate_left 1; focus (intro w hSw; (try dsimp only at hSw); go_simp; (try with_reducible rfl))
            (try simp only [Act.put, tA, tB, tC])
            refine rw_free (v := ?_) (by rfl) ?_ ?_; rotate_left 1; focus (intro w hSw; (try dsimp only at hSw); go_simp; (try with_reducible rfl))
            (try simp only [Act.put, tA, tB, tC])
            first | (with_reducible have hs := (by first | exact RegBox.nx (zrA _ rfl) hb5 | exact RegBox.nx (zrB _ rfl) hb5 | exact RegBox.nx (zrC _ _ rfl) hb5 | exact RegBox.nx (zrD _ _ rfl) hb5 | exact RegBox.nx (RegBox.nx (zrA _ rfl) hb4) hb5 | exact RegBox.nx (RegBox.nx (zrB _ rfl) hb4) hb5 | exact RegBox.nx (RegBox.nx (zrC _ _ rfl) hb4) hb5 | exact RegBox.nx (RegBox.nx (zrD _ _ rfl) hb4) hb5 : RegBox w5 _ r0); (try simp only [World.size_alloc] at hs); have Hs := Lib.hid hs; obtain ⟨n0, n1, m0, m1⟩ := hs) | skip
            refine rw_call (by rfl) (fun K hK => ?_)
            go_simp
            (skip)
            (try go_wp2_with fail)
            refine hK.out _ _ ?_ (fun hS' => ?_)
            · (try dsimp only); first | (have _h := Hs.out; exact keepOf (RegBox.bel hS.2.2 ⟨F + 1, .slice A7 (Xf xs).length n7⟩ (by first | exact Nat.le_refl _ | (simp; done) | (have h4 := hb4.size; simp at h4; omega)) rfl)) | exact keepOf (below_swap hS.2.2 (by have h4 := hb4.size; have h5 := hb5.size; simp at h4 h5; omega))
            clear hS hK K
            have hS := hS'
            clear hS'
            (try simp only [Act.put, tA, tB, tC])
            refine rw_free (v := ?_) (by rfl) ?_ ?_; rotate_left 1; focus (intro w hSw; (try dsimp only at hSw); go_simp; (try with_reducible rfl))
            (try simp only [Act.put, tA, tB, tC])
            refine rw_free (v := ?_) (by rfl) ?_ ?_; rotate_left 1; focus (intro w hSw; (try dsimp only at hSw); go_simp; (try with_reducible rfl))
            (try simp only [Act.put, tA, tB, tC])
            refine rw_done ?_
            (try clear n0 n1 m0 m1)
            go_wp2_with fail
            go_meet
            exact ⟨xs, _, A7, n7, A8, n8, rfl, rfl, rfl, hl, ha, (by first | (have _h := Hs.out; exact _h.put ⟨F + 1, .slice A7 (Xf xs).length n7⟩) | exact RegBox.n1 _ ⟨F + 1, .slice A7 (Xf xs).length n7⟩ _ rfl), (by first | (have _h := Hs.out; exact owned_sl (own_old2 ho5 (by first | (simp; done) | (have h4 := hb4.size; simp at h4 ⊢; omega)) _ _)) | exact (owned_sl ho5).below ((Below.refl _ _).alloc (Nat.le_refl _) _)), (by first | (have _h := Hs.out; exact owned_sl (own_old2 ho6 (by first | (simp; done) | (have h4 := hb4.size; simp at h4 ⊢; omega)) _ _)) | exact (owned_sl ho6).below ((Below.refl _ _).alloc (Nat.le_refl _) _)), hS.2.2⟩
        · skip
          refine rw_call (by rfl) (fun K hK => ?_)
          go_simp
          (skip)
          (try go_wp2_with fail)
          refine hK.out _ _ ?_ (fun hS' => ?_)
          · (try dsimp only); first | exact keepW (by assumption) (by assumption) | exact keepB (by assumption) (by assumption) | exact keepA (by assumption) | assumption
          clear hS hK K
          have hS := hS'
          clear hS'
          (try simp only [Act.put, tA, tB, tC])
          refine rw_call (by rfl) (fun K hK => ?_)
          go_simp
          (have hgA := World.block_lt_of_cell? _ _ hcA; skip)
          (try go_wp2_with fail)
          refine hK.out _ _ ?_ (fun hS' => ?_)
          · (try dsimp only); first | exact keepW (by assumption) (by assumption) | exact keepB (by assumption) (by assumption) | exact keepA (by assumption) | assumption
          clear hS hK K
          have hS := hS'
          clear hS'
          (try simp only [Act.put, tA, tB, tC])
          refine rw_call (by rfl) (fun K hK => ?_)
          go_simp
          (refine (HS.out xs hl ha _ _ _ _ (HL.out.below hS.2.2) (by first | exact owned_sl ho | exact (owned_sl ho).below ((Below.refl _ _).alloc (Nat.le_refl _) _)) (HI.out.below hS.2.2)).mono ?_; rintro e w5 ⟨⟨vl, vo, rfl, ho5, ho6⟩, hb5⟩; obtain ⟨A7, n7, rfl, -⟩ := owned_sl ho5; obtain ⟨A8, n8, rfl, -⟩ := owned_sl ho6)
          (try go_wp2_with fail)
          refine hK.out _ _ ?_ (fun hS' => ?_)
          · (try dsimp only); first | exact keepW (by assumption) (by assumption) | exact keepB (by assumption) (by assumption) | exact keepA (by assumption) | assumption
          clear hS hK K
          have hS := hS'
          clear hS'
          (try simp only [Act.put, tA, tB, tC])
          refine rw_free (v := ?_) (by rfl) ?_ ?_; rotate_left 1; focus (intro w hSw; (try dsimp only at hSw); go_simp; (try with_reducible rfl))
          (try simp only [Act.put, tA, tB, tC])
          refine rw_free (v := ?_) (by rfl) ?_ ?_; rotate_left 1; focus (intro w hSw; (try dsimp only at hSw); go_simp; (try with_reducible rfl))
          (try simp only [Act.put, tA, tB, tC])
          refine rw_free (v := ?_) (by rfl) ?_ ?_; rotate_left 1; focus (intro w hSw; (try dsimp only at hSw); go_simp; (try with_reducible rfl))
          (try simp only [Act.put, tA, tB, tC])
          refine rw_free (v := ?_) (by rfl) ?_ ?_; rotate_left 1; focus (intro w hSw; (try dsimp only at hSw); go_simp; (try with_reducible rfl))
          (try simp only [Act.put, tA, tB, tC])
          first | (with_reducible have hs := (by first | exact RegBox.nx (zrA _ rfl) hb5 | exact RegBox.nx (zrB _ rfl) hb5 | exact RegBox.nx (zrC _ _ rfl) hb5 | exact RegBox.nx (zrD _ _ rfl) hb5 | exact RegBox.nx (RegBox.nx (zrA _ rfl) hb4) hb5 | exact RegBox.nx (RegBox.nx (zrB _ rfl) hb4) hb5 | exact RegBox.nx (RegBox.nx (zrC _ _ rfl) hb4) hb5 | exact RegBox.nx (RegBox.nx (zrD _ _ rfl) hb4) hb5 : RegBox w5 _ r0); (try simp only [World.size_alloc] at hs); have Hs := Lib.hid hs; obtain ⟨n0, n1, m0, m1⟩ := hs) | skip
          refine rw_call (by rfl) (fun K hK => ?_)
          go_simp
          (skip)
          (try go_wp2_with fail)
          refine hK.out _ _ ?_ (fun hS' => ?_)
          · (try dsimp only); first | (have _h := Hs.out; exact keepOf (RegBox.bel hS.2.2 ⟨F + 1, .slice A7 (Xf xs).length n7⟩ (by first | exact Nat.le_refl _ | (simp; done) | (have h4 := hb4.size; simp at h4; omega)) rfl)) | exact keepOf (below_swap hS.2.2 (by have h4 := hb4.size; have h5 := hb5.size; simp at h4 h5; omega))
          clear hS hK K
          have hS := hS'
          clear hS'
          (try simp only [Act.put, tA, tB, tC])
          refine rw_free (v := ?_) (by rfl) ?_ ?_; rotate_left 1; focus (intro w hSw; (try dsimp only at hSw); go_simp; (try with_reducible rfl))
          (try simp only [Act.put, tA, tB, tC])
          refine rw_free (v := ?_) (by rfl) ?_ ?_; rotate_left 1; focus (intro w hSw; (try dsimp only at hSw); go_simp; (try with_reducible rfl))
          (try simp only [Act.put, tA, tB, tC])
          refine rw_done ?_
          (try clear n0 n1 m0 m1)
          go_wp2_with fail
          go_meet
          exact ⟨xs, _, A7, n7, A8, n8, rfl, rfl, rfl, hl, ha, (by first | (have _h := Hs.out; exact _h.put ⟨F + 1, .slice A7 (Xf xs).length n7⟩) | exact RegBox.n1 _ ⟨F + 1, .slice A7 (Xf xs).length n7⟩ _ rfl), (by first | (have _h := Hs.out; exact owned_sl (own_old2 ho5 (by first | (simp; done) | (have h4 := hb4.size; simp at h4 ⊢; omega)) _ _)) | exact (owned_sl ho5).below ((Below.refl _ _).alloc (Nat.le_refl _) _)), (by first | (have _h := Hs.out; exact owned_sl (own_old2 ho6 (by first | (simp; done) | (have h4 := hb4.size; simp at h4 ⊢; omega)) _ _)) | exact (owned_sl ho6).below ((Below.refl _ _).alloc (Nat.le_refl _) _)), hS.2.2⟩
      · skip
        refine rw_call (by rfl) (fun K hK => ?_)
        go_simp
        (skip)
        (try go_wp2_with fail)
        refine hK.out _ _ ?_ (fun hS' => ?_)
        · (try dsimp only); first | exact keepW (by assumption) (by assumption) | exact keepB (by assumption) (by assumption) | exact keepA (by assumption) | assumption
        clear hS hK K
        have hS := hS'
        clear hS'
        (try simp only [Act.put, tA, tB, tC])
        refine rw_call (by rfl) (fun K hK => ?_)
        go_simp
        (refine (HFr.out _ _ _ _ (by first | with_reducible exact zcA _ _ _ (by first | rfl | simp) | with_reducible exact zcB _ _ _ _ (by first | rfl | simp) | with_reducible exact zcC _ _ _ (by first | rfl | simp) | with_reducible exact zcD _ _ _ _ (by first | rfl | simp)) (HV4b.out.below hS.2.2)).mono ?_; rintro e w4 ⟨⟨gA, cA, gx, xs, rfl, hcA, ho, hl, ha⟩, hb4⟩)
        (try go_wp2_with fail)
        refine hK.out _ _ ?_ (fun hS' => ?_)
        · (try dsimp only); first | exact keepW (by assumption) (by assumption) | exact keepB (by assumption) (by assumption) | exact keepA (by assumption) | assumption
        clear hS hK K
        have hS := hS'
        clear hS'
        (try simp only [Act.put, tA, tB, tC])
        refine rw_free (v := ?_) (by rfl) ?_ ?_; rotate_left 1; focus (intro w hSw; (try dsimp only at hSw); go_simp; (try with_reducible rfl))
        (try simp only [Act.put, tA, tB, tC])
        refine rw_call (by rfl) (fun K hK => ?_)
        go_simp
        (have hgA := World.block_lt_of_cell? _ _ hcA; skip)
        (try go_wp2_with fail)
        refine hK.out _ _ ?_ (fun hS' => ?_)
        · (try dsimp only); first | exact keepW (by assumption) (by assumption) | exact keepB (by assumption) (by assumption) | exact keepA (by assumption) | assumption
        clear hS hK K
        have hS := hS'
        clear hS'
        (try simp only [Act.put, tA, tB, tC])
        refine rw_call (by rfl) (fun K hK => ?_)
        go_simp
        (refine (HS.out xs hl ha _ _ _ _ (HL.out.below hS.2.2) (by first | exact owned_sl ho | exact (owned_sl ho).below ((Below.refl _ _).alloc (Nat.le_refl _) _)) (HI.out.below hS.2.2)).mono ?_; rintro e w5 ⟨⟨vl, vo, rfl, ho5, ho6⟩, hb5⟩; obtain ⟨A7, n7, rfl, -⟩ := owned_sl ho5; obtain ⟨A8, n8, rfl, -⟩ := owned_sl ho6)
        (try go_wp2_with fail)
        refine hK.out _ _ ?_ (fun hS' => ?_)
        · (try dsimp only); first | exact keepW (by assumption) (by assumption) | exact keepB (by assumption) (by assumption) | exact keepA (by assumption) | assumption
        clear hS hK K
        have hS := hS'
        clear hS'
        (try simp only [Act.put, tA, tB, tC])
        refine rw_free (v := ?_) (by rfl) ?_ ?_; rotate_left 1; focus (intro w hSw; (try dsimp only at hSw); go_simp; (try with_reducible rfl))
        (try simp only [Act.put, tA, tB, tC])
        refine rw_free (v := ?_) (by rfl) ?_ ?_; rotate_left 1; focus (intro w hSw; (try dsimp only at hSw); go_simp; (try with_reducible rfl))
        (try simp only [Act.put, tA, tB, tC])
        refine rw_free (v := ?_) (by rfl) ?_ ?_; rotate_left 1; focus (intro w hSw; (try dsimp only at hSw); go_simp; (try with_reducible rfl))
        (try simp only [Act.put, tA, tB, tC])
        refine rw_free (v := ?_) (by rfl) ?_ ?_; rotate_left 1; focus (intro w hSw; (try dsimp only at hSw); go_simp; (try with_reducible rfl))
        (try simp only [Act.put, tA, tB, tC])
        first | (with_reducible have hs := (by first | exact RegBox.nx (zrA _ rfl) hb5 | exact RegBox.nx (zrB _ rfl) hb5 | exact RegBox.nx (zrC _ _ rfl) hb5 | exact RegBox.nx (zrD _ _ rfl) hb5 | exact RegBox.nx (RegBox.nx (zrA _ rfl) hb4) hb5 | exact RegBox.nx (RegBox.nx (zrB _ rfl) hb4) hb5 | exact RegBox.nx (RegBox.nx (zrC _ _ rfl) hb4) hb5 | exact RegBox.nx (RegBox.nx (zrD _ _ rfl) hb4) hb5 : RegBox w5 _ r0); (try simp only [World.size_alloc] at hs); have Hs := Lib.hid hs; obtain ⟨n0, n1, m0, m1⟩ := hs) | skip
        refine rw_call (by rfl) (fun K hK => ?_)
        go_simp
        (skip)
        (try go_wp2_with fail)
        refine hK.out _ _ ?_ (fun hS' => ?_)
        · (try dsimp only); first | (have _h := Hs.out; exact keepOf (RegBox.bel hS.2.2 ⟨F + 1, .slice A7 (Xf xs).length n7⟩ (by first | exact Nat.le_refl _ | (simp; done) | (have h4 := hb4.size; simp at h4; omega)) rfl)) | exact keepOf (below_swap hS.2.2 (by have h4 := hb4.size; have h5 := hb5.size; simp at h4 h5; omega))
        clear hS hK K
        have hS := hS'
        clear hS'
        (try simp only [Act.put, tA, tB, tC])
        refine rw_free (v := ?_) (by rfl) ?_ ?_; rotate_left 1; focus (intro w hSw; (try dsimp only at hSw); go_simp; (try with_reducible rfl))
        (try simp only [Act.put, tA, tB, tC])
        refine rw_free (v := ?_) (by rfl) ?_ ?_; rotate_left 1; focus (intro w hSw; (try dsimp only at hSw); go_simp; (try with_reducible rfl))
        (try simp only [Act.put, tA, tB, tC])
        refine rw_done ?_
        (try clear n0 n1 m0 m1)
        go_wp2_with fail
        go_meet
        exact ⟨xs, _, A7, n7, A8, n8, rfl, rfl, rfl, hl, ha, (by first | (have _h := Hs.out; exact _h.put ⟨F + 1, .slice A7 (Xf xs).length n7⟩) | exact RegBox.n1 _ ⟨F + 1, .slice A7 (Xf xs).length n7⟩ _ rfl), (by first | (have _h := Hs.out; exact owned_sl (own_old2 ho5 (by first | (simp; done) | (have h4 := hb4.size; simp at h4 ⊢; omega)) _ _)) | exact (owned_sl ho5).below ((Below.refl _ _).alloc (Nat.le_refl _) _)), (by first | (have _h := Hs.out; exact owned_sl (own_old2 ho6 (by first | (simp; done) | (have h4 := hb4.size; simp at h4 ⊢; omega)) _ _)) | exact (owned_sl ho6).below ((Below.refl _ _).alloc (Nat.le_refl _) _)), hS.2.2⟩
    · skip
      refine rw_call (by rfl) (fun K hK => ?_)
      go_simp
      (skip)
      (try go_wp2_with fail)
      refine hK.out _ _ ?_ (fun hS' => ?_)
      · (try dsimp only); first | exact keepW (by assumption) (by assumption) | exact keepB (by assumption) (by assumption) | exact keepA (by assumption) | assumption
      clear hS hK K
      have hS := hS'
      clear hS'
      (try simp only [Act.put, tA, tB, tC])
      refine rw_call (by rfl) (fun K hK => ?_)
      go_simp
      (skip)
      (try go_wp2_with fail)
      refine hK.out _ _ ?_ (fun hS' => ?_)
      · (try dsimp only); first | exact keepW (by assumption) (by assumption) | exact keepB (by assumption) (by assumption) | exact keepA (by assumption) | assumption
      clear hS hK K
      have hS := hS'
      clear hS'
      (try simp only [Act.put, tA, tB, tC])
      refine rw_call (by rfl) (fun K hK => ?_)
      go_simp
      (refine (HFr.out _ _ _ _ (by first | with_reducible exact zcA _ _ _ (by first | rfl | simp) | with_reducible exact zcB _ _ _ _ (by first | rfl | simp) | with_reducible exact zcC _ _ _ (by first | rfl | simp) | with_reducible exact zcD _ _ _ _ (by first | rfl | simp)) (HV4b.out.below hS.2.2)).mono ?_; rintro e w4 ⟨⟨gA, cA, gx, xs, rfl, hcA, ho, hl, ha⟩, hb4⟩)
      (try go_wp2_with fail)
      refine hK.out _ _ ?_ (fun hS' => ?_)
      · (try dsimp only); first | exact keepW (by assumption) (by assumption) | exact keepB (by assumption) (by assumption) | exact keepA (by assumption) | assumption
      clear hS hK K
      have hS := hS'
      clear hS'
      (try simp only [Act.put, tA, tB, tC])
      refine rw_free (v := ?_) (by rfl) ?_ ?_; rotate_left 1; focus (intro w hSw; (try dsimp only at hSw); go_simp; (try with_reducible rfl))
      (try simp only [Act.put, tA, tB, tC])
      refine rw_call (by rfl) (fun K hK => ?_)
      go_simp
      (have hgA := World.block_lt_of_cell? _ _ hcA; skip)
      (try go_wp2_with fail)
      refine hK.out _ _ ?_ (fun hS' => ?_)
      · (try dsimp only); first | exact keepW (by assumption) (by assumption) | exact keepB (by assumption) (by assumption) | exact keepA (by assumption) | assumption
      clear hS hK K
      have hS := hS'
      clear hS'
      (try simp only [Act.put, tA, tB, tC])
      refine rw_call (by rfl) (fun K hK => ?_)
      go_simp
      (refine (HS.out xs hl ha _ _ _ _ (HL.out.below hS.2.2) (by first | exact owned_sl ho | exact (owned_sl ho).below ((Below.refl _ _).alloc (Nat.le_refl _) _)) (HI.out.below hS.2.2)).mono ?_; rintro e w5 ⟨⟨vl, vo, rfl, ho5, ho6⟩, hb5⟩; obtain ⟨A7, n7, rfl, -⟩ := owned_sl ho5; obtain ⟨A8, n8, rfl, -⟩ := owned_sl ho6)
      (try go_wp2_with fail)
      refine hK.out _ _ ?_ (fun hS' => ?_)
      · (try dsimp only); first | exact keepW (by assumption) (by assumption) | exact keepB (by assumption) (by assumption) | exact keepA (by assumption) | assumption
      clear hS hK K
      have hS := hS'
      clear hS'
      (try simp only [Act.put, tA, tB, tC])
      refine rw_free (v := ?_) (by rfl) ?_ ?_; rotate_left 1; focus (intro w hSw; (try dsimp only at hSw); go_simp; (try with_reducible rfl))
      (try simp only [Act.put, tA, tB, tC])
      refine rw_free (v := ?_) (by rfl) ?_ ?_; rotate_left 1; focus (intro w hSw; (try dsimp only at hSw); go_simp; (try with_reducible rfl))
      (try simp only [Act.put, tA, tB, tC])
      refine rw_free (v := ?_) (by rfl) ?_ ?_; rotate_left 1; focus (intro w hSw; (try dsimp only at hSw); go_simp; (try with_reducible rfl))
      (try simp only [Act.put, tA, tB, tC])
      refine rw_free (v := ?_) (by rfl) ?_ ?_; rotate_left 1; focus (intro w hSw; (try dsimp only at hSw); go_simp; (try with_reducible rfl))
      (try simp only [Act.put, tA, tB, tC])
      first | (with_reducible have hs := (by first | exact RegBox.nx (zrA _ rfl) hb5 | exact RegBox.nx (zrB _ rfl) hb5 | exact RegBox.nx (zrC _ _ rfl) hb5 | exact RegBox.nx (zrD _ _ rfl) hb5 | exact RegBox.nx (RegBox.nx (zrA _ rfl) hb4) hb5 | exact RegBox.nx (RegBox.nx (zrB _ rfl) hb4) hb5 | exact RegBox.nx (RegBox.nx (zrC _ _ rfl) hb4) hb5 | exact RegBox.nx (RegBox.nx (zrD _ _ rfl) hb4) hb5 : RegBox w5 _ r0); (try simp only [World.size_alloc] at hs); have Hs := Lib.hid hs; obtain ⟨n0, n1, m0, m1⟩ := hs) | skip
      refine rw_call (by rfl) (fun K hK => ?_)
      go_simp
      (skip)
      (try go_wp2_with fail)
      refine hK.out _ _ ?_ (fun hS' => ?_)
      · (try dsimp only); first | (have _h := Hs.out; exact keepOf (RegBox.bel hS.2.2 ⟨F + 1, .slice A7 (Xf xs).length n7⟩ (by first | exact Nat.le_refl _ | (simp; done) | (have h4 := hb4.size; simp at h4; omega)) rfl)) | exact keepOf (below_swap hS.2.2 (by have h4 := hb4.size; have h5 := hb5.size; simp at h4 h5; omega))
      clear hS hK K
      have hS := hS'
      clear hS'
      (try simp only [Act.put, tA, tB, tC])
      refine rw_free (v := ?_) (by rfl) ?_ ?_; rotate_left 1; focus (intro w hSw; (try dsimp only at hSw); go_simp; (try with_reducible rfl))
      (try simp only [Act.put, tA, tB, tC])
      refine rw_free (v := ?_) (by rfl) ?_ ?_; rotate_left 1; focus (intro w hSw; (try dsimp only at hSw); go_simp; (try with_reducible rfl))
      (try simp only [Act.put, tA, tB, tC])
      refine rw_done ?_
      (try clear n0 n1 m0 m1)
      go_wp2_with fail
      go_meet
      exact ⟨xs, _, A7, n7, A8, n8, rfl, rfl, rfl, hl, ha, (by first | (have _h := Hs.out; exact _h.put ⟨F + 1, .slice A7 (Xf xs).length n7⟩) | exact RegBox.n1 _ ⟨F + 1, .slice A7 (Xf xs).length n7⟩ _ rfl), (by first | (have _h := Hs.out; exact owned_sl (own_old2 ho5 (by first | (simp; done) | (have h4 := hb4.size; simp at h4 ⊢; omega)) _ _)) | exact (owned_sl ho5).below ((Below.refl _ _).alloc (Nat.le_refl _) _)), (by first | (have _h := Hs.out; exact owned_sl (own_old2 ho6 (by first | (simp; done) | (have h4 := hb4.size; simp at h4 ⊢; omega)) _ _)) | exact (owned_sl ho6).below ((Below.refl _ _).alloc (Nat.le_refl _) _)), hS.2.2⟩
  case rest =>
    obtain ⟨xs, be, A7, n7, A8, n8, rfl, rfl, rfl, hl, ha, hbe, hsx, hsy, hb⟩ := hcut
    have BE := Lib.hid hbe
    have HX := Lib.hid hsx
    have HY := Lib.hid hsy
    replace HB := Lib.hid (nextW HB.out hb)
    replace BG := Lib.hid (BG.out.nx hb)
    replace BS := Lib.hid (BS.out.nx hb)
    replace HL := Lib.hid (HL.out.below hb)
    replace HI := Lib.hid (HI.out.below hb)
    clear hbe hsx hsy hb g0 g1 g2 g3 g4 s0 s1 c0 c1 c2 c3 c4 hgl hsl hcl HS BC HV4b HFr
    obtain ⟨ids, hids⟩ : ∃ ids, ids = pids (arriveL L ib) := ⟨_, rfl⟩
    have HKp := Lib.hid (keeps_all (s := a0_4) (inp := inpOf xs) HAsk.out.2)
    rw [show stayL a b P n a0_4 r F (inpOf xs) L ib = Xf xs from by rw [HXe.out], show st lessB (outsL a b P n a0_4 r F (inpOf xs) L ib) = Yf xs from by rw [HYe.out], ← hids] at HKp
    have HlX := Lib.hid (show (Xf xs).length ≤ 31 from by rw [HXe.out]; exact (outs_le (by omega) HAsk.out.2).2)
    have HlY := Lib.hid (show (Yf xs).length ≤ 600 from by rw [HYe.out, st_length]; exact (outs_le (by omega) HAsk.out.2).1)
    have HPr := Lib.hid (fun F v u w2 hv hu => present_any a b P n a0_4 r F v L u ib w2 hv (by have := HLn.out; omega) hu (by have := HIl.out; omega))
    rw [← hids] at HPr
    have HidsL := Lib.hid (show ids.length ≤ 1000 from by rw [hids]; have h1 := pids_le (arriveL L ib); have h2 := arrive_le L ib; have h3 := HLn.out; have h4 := HIl.out; omega)
    generalize Xf xs = X at *
    generalize Yf xs = Y at *
    clear hids hl ha HXe HYe
    have hgl := BG.out.has
    have hsl := BS.out.has
    obtain ⟨g0, g1, g2, g3, g4, -⟩ := BG.out
    obtain ⟨s0, s1, -⟩ := BS.out
    go_wp2_with fail
    refine (HPr.out _ _ _ _ HL.out HI.out).mono ?_
    rintro e w6 ⟨Ab, nb, rfl, hib, hb⟩
    have HIb := Lib.hid hib
    replace HB := Lib.hid (nextW HB.out hb)
    replace BE := Lib.hid (BE.out.nx hb)
    replace HX := Lib.hid (HX.out.below hb)
    replace HY := Lib.hid (HY.out.below hb)
    clear hib hb g0 g1 g2 g3 g4 s0 s1 hgl hsl HPr HL HI BG BS
    obtain ⟨i0, hi, hz0, hz1, hz2⟩ := info_parts info_int
    have Hi := Lib.hid hi
    have Hz0 := Lib.hid hz0
    have Hz1 := Lib.hid hz1
    have Hz2 := Lib.hid hz2
    obtain ⟨N, hN⟩ : ∃ N, X.length = N := ⟨_, rfl⟩
    rw [hN] at HX HlX BE
    have Hn := Lib.hid hN
    have hN31 : N ≤ 31 := HlX.out
    have HLx := Lib.hid (fun k => pids_le (X.take k))
    clear hi hz0 hz1 hz2 hN
    go_wp2
    go_loopw [21, 22] (fun v i wr => ∃ k : Nat, k ≤ N ∧ i = .int .i64 k ∧ wr.ownsRow w6.heap.size 3 1 v (pids (X.take k)).length ((pids (X.take k)).map (Value.int .i64)) ∧ Below w6.heap.size w6 wr) (fun _ i _ => N - (intOf i).toNat)
    case atStart => exact ⟨0, Nat.zero_le _, rfl, ⟨by simp [pids], .inl ⟨rfl, rfl⟩⟩, Below.refl _ _⟩
    case round =>
      obtain ⟨k, hk, rfl, hown, hbel⟩ := hrel
      have Hown := Lib.hid hown
      have Hbel := Lib.hid hbel
      clear hown hbel
      obtain ⟨e0, e1, -⟩ := BE.out.nx Hbel.out
      dsimp only at e0 e1
      by_cases hlt : k < N
      · obtain ⟨x, hx⟩ := getE X k N Hn.out hlt
        have HXk := Lib.hid (pids_take hx)
        have HLk := Lib.hid (show (pids (X.take k)).length ≤ k from Nat.le_trans (HLx.out k) (by rw [List.length_take]; omega))
        obtain ⟨bb, off, hA7, hc⟩ := elem_Ent (HX.out.below Hbel.out).at hx
        subst hA7
        obtain ⟨c0, c1, c2, c3, c4, c5, c6, c7, c8⟩ := hc
        clear hx
        by_cases hk1 : x.kind = 1
        · have hk1' : (x.kind == 1) = true := by simpa using hk1
          rw [if_pos hk1] at HXk
          have hbs := Hbel.out.size
          go_wp2_with (at_builtin; go_must (refine append_int (by rfl) (.tmp 103) (.tmp 110) 52 (by rfl) w6.heap.size 3 .i64 i0 8 Tryz.underlying52 Hi.out Hz0.out Hz1.out Hz2.out (by omega) _ (pids (X.take k)) Hown.out x.id (by rfl) _ 1 (by rfl) (by simp) (by have := HLk.out; omega) (by omega) ?_))
          intro v' w5 hown5 hb5
          have HO5 := Lib.hid (show w5.ownsRow w6.heap.size 3 1 v' (pids (X.take (k + 1))).length ((pids (X.take (k + 1))).map (Value.int .i64)) from by rw [HXk.out]; simpa using hown5)
          have HB5 := Lib.hid (Hbel.out.trans hb5)
          clear hown5 hb5
          go_wp2
          go_roundw
          case rel => exact ⟨k + 1, by omega, by go_num, HO5.out, HB5.out⟩
          case measure => simp [intOf]; omega
        · have hk1' : (x.kind == 1) = false := by simpa using hk1
          rw [if_neg hk1, List.append_nil] at HXk
          go_wp2
          go_roundw
          case rel => exact ⟨k + 1, by omega, by go_num, by rw [HXk.out]; exact Hown.out, Hbel.out⟩
          case measure => simp [intOf]; omega
      · obtain rfl : k = N := by omega
        rw [List.take_of_length_le (Nat.le_of_eq Hn.out)] at Hown
        have HpX := Lib.hid (show (pids X).length ≤ 31 from by have := pids_le X; have := Hn.out; omega)
        clear HLx
        generalize pids X = PX at *
        obtain ⟨M, hM⟩ : ∃ M, Y.length = M := ⟨_, rfl⟩
        rw [hM] at HY HlY ⊢
        have Hm := Lib.hid hM
        have hM6 : M ≤ 600 := HlY.out
        have HLy := Lib.hid (fun k => hpids_len (Y.take k))
        clear hM BE
        go_wp2
        clear e0 e1
        go_loopw [21, 23] (fun v i wr => ∃ k : Nat, k ≤ M ∧ i = .int .i64 k ∧ wr.ownsRow w6.heap.size 3 1 v (PX ++ hpids (Y.take k)).length ((PX ++ hpids (Y.take k)).map (Value.int .i64)) ∧ Below w6.heap.size w6 wr) (fun _ i _ => M - (intOf i).toNat)
        case atStart => exact ⟨0, Nat.zero_le _, rfl, by simpa [hpids] using Hown.out, Hbel.out⟩
        case round =>
          clear Hown Hbel
          obtain ⟨k, hk, rfl, hown, hbel⟩ := hrel
          have Hown := Lib.hid hown
          have Hbel := Lib.hid hbel
          clear hown hbel
          by_cases hlt : k < M
          · have hd1 : decide ((k : Int) < (M : Int)) = true := decide_eq_true (by omega)
            obtain ⟨x, hx⟩ := getE Y k M Hm.out hlt
            have HYk := Lib.hid (hpids_take hx)
            have HLk := Lib.hid (show (PX ++ hpids (Y.take k)).length ≤ 31 + k from by rw [List.length_append]; have h1 := HpX.out; have h2 := HLy.out k; rw [List.length_take] at h2; omega)
            obtain ⟨bb, off, hA8, hc⟩ := elem_Crs (HY.out.below Hbel.out).at hx
            subst hA8
            obtain ⟨d0, d1, d2, d3, d4, d5, d6, d7, d8, d9, d10, d11, d12, d13, d14⟩ := hc
            clear hx
            by_cases hk1 : x.kind = 1
            · have hk1' : (x.kind == 1) = true := by simpa using hk1
              by_cases hk2 : x.e.kind = 1
              · have hk2' : (x.e.kind == 1) = true := by simpa using hk2
                rw [if_pos ⟨hk1, hk2⟩] at HYk
                have hbs := Hbel.out.size
                clear hk1 hk2
                go_wp2_with (at_builtin; go_must (refine append_int (by rfl) (.tmp 133) (.tmp 140) 52 (by rfl) w6.heap.size 3 .i64 i0 8 Tryz.underlying52 Hi.out Hz0.out Hz1.out Hz2.out (by omega) _ (PX ++ hpids (Y.take k)) Hown.out x.e.id (by rfl) _ 1 (by rfl) (by simp) (by have := HLk.out; omega) (by omega) ?_))
                intro v' w5 hown5 hb5
                have HO5 := Lib.hid (show w5.ownsRow w6.heap.size 3 1 v' (PX ++ hpids (Y.take (k + 1))).length ((PX ++ hpids (Y.take (k + 1))).map (Value.int .i64)) from by rw [HYk.out, ← List.append_assoc]; simpa using hown5)
                have HB5 := Lib.hid (Hbel.out.trans hb5)
                clear hown5 hb5
                go_wp2
                go_roundw
                case rel => exact ⟨k + 1, by omega, by go_num, HO5.out, HB5.out⟩
                case measure => simp [intOf]; omega
              · have hk2' : (x.e.kind == 1) = false := by simpa using hk2
                rw [if_neg (fun h => hk2 h.2), List.append_nil] at HYk
                clear hk1 hk2
                go_wp2
                go_roundw
                case rel => exact ⟨k + 1, by omega, by go_num, by rw [HYk.out]; exact Hown.out, Hbel.out⟩
                case measure => simp [intOf]; omega
            · have hk1' : (x.kind == 1) = false := by simpa using hk1
              rw [if_neg (fun h => hk1 h.1), List.append_nil] at HYk
              clear hk1
              go_wp2
              go_roundw
              case rel => exact ⟨k + 1, by omega, by go_num, by rw [HYk.out]; exact Hown.out, Hbel.out⟩
              case measure => simp [intOf]; omega
          · obtain rfl : k = M := by omega
            have hd1 : decide ((k : Int) < (k : Int)) = false := decide_eq_false (by omega)
            rw [List.take_of_length_le (Nat.le_of_eq Hm.out)] at Hown
            have Hb2 := Lib.hid (show (PX ++ hpids Y).length ≤ 1000 from by rw [List.length_append]; have h1 := HpX.out; have h2 := hpids_len Y; have h3 := Hm.out; omega)
            clear HLy HpX
            generalize PX ++ hpids Y = Z at *
            obtain ⟨J, hJ⟩ : ∃ J, ids.length = J := ⟨_, rfl⟩
            obtain ⟨G, hG⟩ : ∃ G, Z.length = G := ⟨_, rfl⟩
            rw [hG] at Hown Hb2
            rw [hJ] at HIb HidsL ⊢
            have HJ := Lib.hid hJ
            have HG := Lib.hid hG
            have hJ6 : J ≤ 1000 := HidsL.out
            have hG6 : G ≤ 1000 := Hb2.out
            have hGJ : G = J := by rw [← hG, ← hJ]; exact HKp.out.2
            have HKc := Lib.hid HKp.out.1
            have HZ := Lib.hid (owned_cells Hown.out)
            obtain ⟨Az, nz, rfl, hatz⟩ := HZ.out
            have Hatz := Lib.hid hatz
            have Hata := Lib.hid (HIb.out.below Hbel.out)
            have HB2 := Lib.hid (nextW HB.out Hbel.out)
            clear hJ hG HZ hatz Hown HKp HIb HY HX HB Hbel
            obtain ⟨wa, hwa⟩ : ∃ wa, wa = wr := ⟨_, rfl⟩
            subst hwa
            go_wp2
            go_loopw [24] (fun i wx => ∃ j : Nat, j ≤ J ∧ i = .int .i64 j ∧ Below wa.heap.size wa wx) (fun i _ => J - (intOf i).toNat)
            case atStart => exact ⟨0, Nat.zero_le _, rfl, Below.refl _ _⟩
            case round =>
              obtain ⟨j, hj, rfl, hbel⟩ := hrel
              have Hbel := Lib.hid hbel
              clear hbel
              by_cases hlt : j < J
              · have hd2 : decide ((j : Int) < (J : Int)) = true := decide_eq_true (by omega)
                obtain ⟨id, hid⟩ := getE ids j J HJ.out hlt
                have hcnt := HKc.out id (List.mem_of_getElem? hid)
                have Hcnt := Lib.hid hcnt
                have Hid' := Lib.hid (show gi ids j = id from by unfold gi; rw [List.getD_eq_getElem?_getD, hid]; rfl)
                clear hid hcnt
                obtain ⟨wb, hwb⟩ : ∃ wb, wb = wr := ⟨_, rfl⟩
                subst hwb
                go_wp2
                go_loopw [25, 26] (fun c i wx => ∃ q : Nat, q ≤ G ∧ i = .int .i64 q ∧ c = .int .i64 ((Z.take q).count id : Nat) ∧ Below wa.heap.size wa wx) (fun _ i _ => G - (intOf i).toNat)
                case atStart => exact ⟨0, Nat.zero_le _, rfl, by simp, Hbel.out⟩
                case round =>
                  clear Hbel
                  obtain ⟨q, hq, rfl, rfl, hbel⟩ := hrel
                  have Hbel := Lib.hid hbel
                  clear hbel
                  by_cases hlq : q < G
                  · have hd3 : decide ((q : Int) < (G : Int)) = true := decide_eq_true (by omega)
                    obtain ⟨z, hz⟩ := getE Z q G HG.out hlq
                    have HT := Lib.hid (count_take id hz)
                    obtain ⟨bz, oz, hAz, hcz⟩ := (Hatz.out.below Hbel.out) (by intro h; have := HG.out; simp at h; subst h; simp at this; omega)
                    subst hAz
                    have hzk := hcz q (.int .i64 z) (by simp [hz])
                    obtain ⟨ba, oa, hAb, hca⟩ := (Hata.out.below Hbel.out).2 (by omega)
                    subst hAb
                    have hck := hca j hlt
                    rw [Hid'.out] at hck
                    have hle : (Z.take q).count id ≤ q := Nat.le_trans List.count_le_length (by rw [List.length_take]; omega)
                    clear hz hcz hca
                    by_cases hzi : z = id
                    · have hzi' : (z == id) = true := by simpa using hzi
                      rw [if_pos hzi] at HT
                      clear hzi
                      generalize (Z.take q).count id = n0 at *
                      go_wp2_with fail
                      go_quiet (fail)
                      go_wp2
                      go_roundw
                      case rel => exact ⟨q + 1, by omega, by go_num, by rw [HT.out]; go_num, below_drewN Hbel.out _⟩
                      case measure => simp [intOf]; omega
                    · have hzi' : (z == id) = false := by simpa using hzi
                      rw [if_neg hzi, Nat.add_zero] at HT
                      clear hzi
                      go_wp2_with fail
                      go_quiet (fail)
                      go_wp2
                      go_roundw
                      case rel => exact ⟨q + 1, by omega, by go_num, by rw [HT.out]; simp, below_drewN Hbel.out _⟩
                      case measure => simp [intOf]; omega
                  · obtain rfl : q = G := by omega
                    have hd3 : decide ((q : Int) < (q : Int)) = false := decide_eq_false (by omega)
                    rw [List.take_of_length_le (Nat.le_of_eq HG.out), Hcnt.out]
                    go_wp2
                    go_roundw
                    case rel => exact ⟨j + 1, by omega, by go_num, Hbel.out⟩
                    case measure => simp [intOf]; omega
              · obtain rfl : j = J := by omega
                have hd2 : decide ((j : Int) < (j : Int)) = false := decide_eq_false (by omega)
                subst hGJ
                go_wp2
                go_ret
                exact ⟨rfl, nextW HB2.out Hbel.out⟩

set_option maxRecDepth 100000 in
theorem lifted (os : Os) (started : os.Started) (H : Type) (enc : TypeId × Value → H) :
    ReturnsInHanded {} Tryz.checked os 4 .any (Rows.regionKeepsSpec.pre6 enc Tryz.prog Tryz.f4 Rows.regionKeepsRow.domain false) (Rows.regionKeepsSpec.post enc Tryz.prog Tryz.f4 false true false false) := by
  refine returnsInHanded_of_change (C := Tryz.checked) own started (by kernel_rfl) Tryz.func4
    (ChangeSpec.witness6 (enc := enc) (C := Tryz.checked) false ⟨#[], #[.agg #[.int .i64 0, .int .i64 0, .int .i64 0, .int .i64 0, .int .u64 0], .int .i64 0, .int .i64 0, .slice none 0 0, .slice none 0 0, .slice none 0 0], []⟩ 8 (by kernel_rfl) (by kernel_rfl) (by kernel_rfl) (by kernel_rfl)) ?_
  intro W base args ds gs before hval0 hW hcnd _
  have hval : ∀ (j : Nat) t v, Tryz.f4.params[j]? = some t → args[j]? = some v → Value.okWide Tryz.prog W .any base t v := hval0
  have hW' := hW
  obtain ⟨p, q, hA0, hV, rfl, hfz, hnd⟩ := hW
  have hA : DataW.TrodAll enc Tryz.prog W 0 (fun _ => true) true Tryz.f4.params.toList args.toList ds p := hA0
  rw [Tryz.params4] at hA hval
  obtain ⟨v0, vs0, d0, ds0, p0, q0, hargs, rfl, rfl, h0, r0⟩ := trodAll_cons hA
  obtain ⟨v1, vs1, d1, ds1, p1, q1, rfl, rfl, rfl, h1, r1⟩ := trodAll_cons r0
  obtain ⟨v2, vs2, d2, ds2, p2, q2, rfl, rfl, rfl, h2, r2⟩ := trodAll_cons r1
  obtain ⟨v3, vs3, d3, ds3, p3, q3, rfl, rfl, rfl, h3, r3⟩ := trodAll_cons r2
  obtain ⟨v4, vs4, d4, ds4, p4, q4, rfl, rfl, rfl, h4, r4⟩ := trodAll_cons r3
  obtain ⟨v5, vs5, d5, ds5, p5, q5, rfl, rfl, rfl, h5, r5⟩ := trodAll_cons r4
  obtain ⟨rfl, rfl, rfl⟩ := trodAll_nil r5
  obtain rfl : args = #[v0, v1, v2, v3, v4, v5] := by cases args; simp_all
  obtain ⟨rfl, rfl⟩ := trodVars_none hV
  obtain ⟨cs0, rfl, -⟩ := okWide_struct Tryz.underlying24 (hval 0 24 v0 rfl rfl)
  have k0 := h0
  have lt0 : ∀ x ∈ p0, x.block < W.heap.size := by obtain ⟨m, hm⟩ := k0; exact DataW.trod_lt m _ _ _ hm
  obtain ⟨fuel0, hf0⟩ := h0
  obtain ⟨l0⟩ := cs0
  obtain ⟨a0_0, a0_1, a0_2, a0_3, a0_4, rfl, w0_0, w0_1, w0_2, w0_3, w0_4⟩ := open_T24 (cs := l0) hf0
  obtain ⟨a1, rfl, rfl, rfl, w1⟩ := open_int Tryz.underlying3 (hval 1 3 v1 rfl rfl) h1
  obtain ⟨a2, rfl, rfl, rfl, w2⟩ := open_int Tryz.underlying3 (hval 2 3 v2 rfl rfl) h2
  obtain ⟨A3, len3, cap3, rfl⟩ := okWide_slice Tryz.underlying25 (hval 3 25 v3 rfl rfl)
  have k3 := h3
  have lt3 : ∀ x ∈ p3, x.block < W.heap.size := by obtain ⟨m, hm⟩ := k3; exact DataW.trod_lt m _ _ _ hm
  obtain ⟨l3, w3, o3⟩ : ∃ l : List Fx.Ent, Fx.IsSl Fx.entC W (.slice A3 len3 cap3) l ∧ ∀ e ∈ l, Fx.Ent.ok e := by
    obtain ⟨fuel, hf⟩ := h3
    exact open_sl25 hf
  obtain ⟨A4, len4, cap4, rfl⟩ := okWide_slice Tryz.underlying26 (hval 4 26 v4 rfl rfl)
  have k4 := h4
  have lt4 : ∀ x ∈ p4, x.block < W.heap.size := by obtain ⟨m, hm⟩ := k4; exact DataW.trod_lt m _ _ _ hm
  obtain ⟨l4, w4, o4⟩ : ∃ l : List Fx.Inp, Fx.IsSl Fx.inpC W (.slice A4 len4 cap4) l ∧ ∀ e ∈ l, Fx.Inp.ok e := by
    obtain ⟨fuel, hf⟩ := h4
    exact open_sl26 hf
  obtain ⟨A5, len5, cap5, rfl⟩ := okWide_slice Tryz.underlying27 (hval 5 27 v5 rfl rfl)
  have k5 := h5
  have lt5 : ∀ x ∈ p5, x.block < W.heap.size := by obtain ⟨m, hm⟩ := k5; exact DataW.trod_lt m _ _ _ hm
  obtain ⟨l5, w5, o5⟩ : ∃ l : List Fx.Crs, Fx.IsSl Fx.crsC W (.slice A5 len5 cap5) l ∧ ∀ e ∈ l, Fx.Crs.ok e := by
    obtain ⟨fuel, hf⟩ := h5
    exact open_sl27 hf
  clear hA0 hval0
  refine (walk a0_0 a0_1 a0_2 a0_3 a0_4 a1 a2 _ l3 _ l4 _ l5 W w0_0 w0_1 w0_2 w0_3 w0_4 w1 w2 w3 o3 w4 o4 w5 o5).mono fun e W' ⟨he, bel⟩ => ?_
  subst he
  exact ⟨_, rfl, _, _, _, [], _, [], hW', trodAll_mk1 (shut_bool Tryz.underlying4 _), (trodAll_cons_mk (Below.trod laidOut (by kernel_rfl) (of_decide_eq_true (by kernel_rfl)) k0 bel lt0) (trodAll_cons_mk (shut_int Tryz.underlying3 w1) (trodAll_cons_mk (shut_int Tryz.underlying3 w2) (trodAll_cons_mk (Below.trod laidOut (by kernel_rfl) (of_decide_eq_true (by kernel_rfl)) k3 bel lt3) (trodAll_cons_mk (Below.trod laidOut (by kernel_rfl) (of_decide_eq_true (by kernel_rfl)) k4 bel lt4) (trodAll_cons_mk (Below.trod laidOut (by kernel_rfl) (of_decide_eq_true (by kernel_rfl)) k5 bel lt5) trodAll_mk0)))))), rfl, bel.frame _, fun h => by cases h⟩

theorem over : Rows.regionKeepsRow.holds Tryz.pinned (OpenSpec.ofChange Rows.regionKeepsSpec) :=
  OpenClaim.holds_of_wide 4 Tryz.f4 rfl rfl rfl rfl rfl rfl rfl ⟨rfl, rfl, rfl, rfl, rfl⟩ rfl rfl rfl rfl rfl (by kernel_rfl) Tryz.func4 (by kernel_rfl)
    (of_decide_eq_true (by kernel_rfl)) (by unfold Func.isWrapper; first | (rw [if_pos (by decide +kernel)]; kernel_rfl) | (rw [if_neg (by decide +kernel)]; exact ⟨rfl, rfl⟩))
    (fun os started H enc _ => lifted os started H enc)

end Go.Proofs.YtbblpnmcbifocaaGreat.regionKeeps
namespace Go.Proofs.YtbblpnmcbifocaaGreat
theorem regionKeeps_proved : Rows.RegionKeepsSaid := regionKeeps.over
end Go.Proofs.YtbblpnmcbifocaaGreat
