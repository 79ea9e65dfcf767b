/- joustlaw09.RegionBlasts returns true for every input; no conditions. -/
import Derived.Test.YtbblpnmcbifocaaGreatM47
import Derived.Test.YtbblpnmcbifocaaGreatM46
import Derived.Test.YtbblpnmcbifocaaGreatM43
import Derived.Test.YtbblpnmcbifocaaGreatM45
import Derived.Test.YtbblpnmcbifocaaGreatRows
import Derived.WalkKit
import Derived.ProofKit
import Derived.OpenShut
import Derived.ShutString
import Derived.ChangeOld
import Derived.Below
import Derived.Deep.Slices
namespace Go.Proofs.YtbblpnmcbifocaaGreat.regionBlasts
open Go.ChangeShapes Go.WideShapes Go.ChangeAt Go.RowKit
open Go.ChangeMaps (open_string shut_string)
set_option linter.unusedVariables false
set_option maxRecDepth 100000

theorem own : ownKnob Tryz.prog.godebug = none := by kernel_rfl
theorem laidOut : laidOutB Tryz.prog = true := by kernel_rfl
open Fx (IsRow)
theorem open_T24 {H : Type} {enc : TypeId × Value → H} {W : World} {fuel : Nat} {cs : List Value} {x : DataW H × List MemPlace} (h : DataW.trod enc Tryz.prog W 0 (fun _ => true) true fuel 24 cs = some x) :
    ∃ (a0 : Int) (a1 : Int) (a2 : Int) (a3 : Int) (a4 : Int), cs = [.int .i64 a0, .int .i64 a1, .int .i64 a2, .int .i64 a3, .int .u64 a4] ∧ (Lit.int .i64 a0).wf = true ∧ (Lit.int .i64 a1).wf = true ∧ (Lit.int .i64 a2).wf = true ∧ (Lit.int .i64 a3).wf = true ∧ (Lit.int .u64 a4).wf = true := by
  obtain ⟨xs, n, -, -, hl, hxl, hg⟩ := DataW.trod_struct Tryz.underlying24 h
  have hl' : cs.length = 5 := hl.trans (by kernel_rfl)
  have c3 : Tryz.prog.cellsOf 3 = 1 := by kernel_rfl
  have c22 : Tryz.prog.cellsOf 22 = 1 := by kernel_rfl
  clear hl h
  match cs, hl' with
  | [z0, z1, z2, z3, z4], _ =>
    have g0 : DataW.trod enc Tryz.prog W 0 (fun _ => true) true n 3 (([z0, z1, z2, z3, z4].drop 0).take (Tryz.prog.cellsOf 3)) = xs[0]? := hg 0 _ rfl
    rw [c3, List.getElem?_eq_getElem (show 0 < xs.length by rw [hxl]; decide)] at g0
    have g1 : DataW.trod enc Tryz.prog W 0 (fun _ => true) true n 3 (([z0, z1, z2, z3, z4].drop 1).take (Tryz.prog.cellsOf 3)) = xs[1]? := hg 1 _ rfl
    rw [c3, List.getElem?_eq_getElem (show 1 < xs.length by rw [hxl]; decide)] at g1
    have g2 : DataW.trod enc Tryz.prog W 0 (fun _ => true) true n 3 (([z0, z1, z2, z3, z4].drop 2).take (Tryz.prog.cellsOf 3)) = xs[2]? := hg 2 _ rfl
    rw [c3, List.getElem?_eq_getElem (show 2 < xs.length by rw [hxl]; decide)] at g2
    have g3 : DataW.trod enc Tryz.prog W 0 (fun _ => true) true n 3 (([z0, z1, z2, z3, z4].drop 3).take (Tryz.prog.cellsOf 3)) = xs[3]? := hg 3 _ rfl
    rw [c3, List.getElem?_eq_getElem (show 3 < xs.length by rw [hxl]; decide)] at g3
    have g4 : DataW.trod enc Tryz.prog W 0 (fun _ => true) true n 22 (([z0, z1, z2, z3, z4].drop 4).take (Tryz.prog.cellsOf 22)) = xs[4]? := hg 4 _ rfl
    rw [c22, List.getElem?_eq_getElem (show 4 < xs.length by rw [hxl]; decide)] at g4
    obtain ⟨a0, e0, -, w0⟩ := DataW.trod_int (cs := [z0]) Tryz.underlying3 g0
    simp only [List.cons.injEq, and_true] at e0
    subst e0
    clear g0
    obtain ⟨a1, e1, -, w1⟩ := DataW.trod_int (cs := [z1]) Tryz.underlying3 g1
    simp only [List.cons.injEq, and_true] at e1
    subst e1
    clear g1
    obtain ⟨a2, e2, -, w2⟩ := DataW.trod_int (cs := [z2]) Tryz.underlying3 g2
    simp only [List.cons.injEq, and_true] at e2
    subst e2
    clear g2
    obtain ⟨a3, e3, -, w3⟩ := DataW.trod_int (cs := [z3]) Tryz.underlying3 g3
    simp only [List.cons.injEq, and_true] at e3
    subst e3
    clear g3
    obtain ⟨a4, e4, -, w4⟩ := DataW.trod_int (cs := [z4]) Tryz.underlying22 g4
    simp only [List.cons.injEq, and_true] at e4
    subst e4
    clear g4
    exact ⟨a0, a1, a2, a3, a4, rfl, w0, w1, w2, w3, w4⟩

theorem open_T48 {H : Type} {enc : TypeId × Value → H} {W : World} {fuel : Nat} {cs : List Value} {x : DataW H × List MemPlace} (h : DataW.trod enc Tryz.prog W 0 (fun _ => true) true fuel 48 cs = some x) :
    ∃ (a0 : Int) (a1 : Int) (a2 : Int) (a3 : Int) (a4 : Int) (a5 : Int) (a6 : Int) (a7 : Int) (a8 : Int), cs = [.int .i64 a0, .int .i64 a1, .int .i64 a2, .int .i64 a3, .int .i64 a4, .int .i64 a5, .int .i64 a6, .int .i64 a7, .int .i64 a8] ∧ (Lit.int .i64 a0).wf = true ∧ (Lit.int .i64 a1).wf = true ∧ (Lit.int .i64 a2).wf = true ∧ (Lit.int .i64 a3).wf = true ∧ (Lit.int .i64 a4).wf = true ∧ (Lit.int .i64 a5).wf = true ∧ (Lit.int .i64 a6).wf = true ∧ (Lit.int .i64 a7).wf = true ∧ (Lit.int .i64 a8).wf = true := by
  obtain ⟨xs, n, -, -, hl, hxl, hg⟩ := DataW.trod_struct Tryz.underlying48 h
  have hl' : cs.length = 9 := hl.trans (by kernel_rfl)
  have c3 : Tryz.prog.cellsOf 3 = 1 := by kernel_rfl
  clear hl h
  match cs, hl' with
  | [z0, z1, z2, z3, z4, z5, z6, z7, z8], _ =>
    have g0 : DataW.trod enc Tryz.prog W 0 (fun _ => true) true n 3 (([z0, z1, z2, z3, z4, z5, z6, z7, z8].drop 0).take (Tryz.prog.cellsOf 3)) = xs[0]? := hg 0 _ rfl
    rw [c3, List.getElem?_eq_getElem (show 0 < xs.length by rw [hxl]; decide)] at g0
    have g1 : DataW.trod enc Tryz.prog W 0 (fun _ => true) true n 3 (([z0, z1, z2, z3, z4, z5, z6, z7, z8].drop 1).take (Tryz.prog.cellsOf 3)) = xs[1]? := hg 1 _ rfl
    rw [c3, List.getElem?_eq_getElem (show 1 < xs.length by rw [hxl]; decide)] at g1
    have g2 : DataW.trod enc Tryz.prog W 0 (fun _ => true) true n 3 (([z0, z1, z2, z3, z4, z5, z6, z7, z8].drop 2).take (Tryz.prog.cellsOf 3)) = xs[2]? := hg 2 _ rfl
    rw [c3, List.getElem?_eq_getElem (show 2 < xs.length by rw [hxl]; decide)] at g2
    have g3 : DataW.trod enc Tryz.prog W 0 (fun _ => true) true n 3 (([z0, z1, z2, z3, z4, z5, z6, z7, z8].drop 3).take (Tryz.prog.cellsOf 3)) = xs[3]? := hg 3 _ rfl
    rw [c3, List.getElem?_eq_getElem (show 3 < xs.length by rw [hxl]; decide)] at g3
    have g4 : DataW.trod enc Tryz.prog W 0 (fun _ => true) true n 3 (([z0, z1, z2, z3, z4, z5, z6, z7, z8].drop 4).take (Tryz.prog.cellsOf 3)) = xs[4]? := hg 4 _ rfl
    rw [c3, List.getElem?_eq_getElem (show 4 < xs.length by rw [hxl]; decide)] at g4
    have g5 : DataW.trod enc Tryz.prog W 0 (fun _ => true) true n 3 (([z0, z1, z2, z3, z4, z5, z6, z7, z8].drop 5).take (Tryz.prog.cellsOf 3)) = xs[5]? := hg 5 _ rfl
    rw [c3, List.getElem?_eq_getElem (show 5 < xs.length by rw [hxl]; decide)] at g5
    have g6 : DataW.trod enc Tryz.prog W 0 (fun _ => true) true n 3 (([z0, z1, z2, z3, z4, z5, z6, z7, z8].drop 6).take (Tryz.prog.cellsOf 3)) = xs[6]? := hg 6 _ rfl
    rw [c3, List.getElem?_eq_getElem (show 6 < xs.length by rw [hxl]; decide)] at g6
    have g7 : DataW.trod enc Tryz.prog W 0 (fun _ => true) true n 3 (([z0, z1, z2, z3, z4, z5, z6, z7, z8].drop 7).take (Tryz.prog.cellsOf 3)) = xs[7]? := hg 7 _ rfl
    rw [c3, List.getElem?_eq_getElem (show 7 < xs.length by rw [hxl]; decide)] at g7
    have g8 : DataW.trod enc Tryz.prog W 0 (fun _ => true) true n 3 (([z0, z1, z2, z3, z4, z5, z6, z7, z8].drop 8).take (Tryz.prog.cellsOf 3)) = xs[8]? := hg 8 _ rfl
    rw [c3, List.getElem?_eq_getElem (show 8 < xs.length by rw [hxl]; decide)] at g8
    obtain ⟨a0, e0, -, w0⟩ := DataW.trod_int (cs := [z0]) Tryz.underlying3 g0
    simp only [List.cons.injEq, and_true] at e0
    subst e0
    clear g0
    obtain ⟨a1, e1, -, w1⟩ := DataW.trod_int (cs := [z1]) Tryz.underlying3 g1
    simp only [List.cons.injEq, and_true] at e1
    subst e1
    clear g1
    obtain ⟨a2, e2, -, w2⟩ := DataW.trod_int (cs := [z2]) Tryz.underlying3 g2
    simp only [List.cons.injEq, and_true] at e2
    subst e2
    clear g2
    obtain ⟨a3, e3, -, w3⟩ := DataW.trod_int (cs := [z3]) Tryz.underlying3 g3
    simp only [List.cons.injEq, and_true] at e3
    subst e3
    clear g3
    obtain ⟨a4, e4, -, w4⟩ := DataW.trod_int (cs := [z4]) Tryz.underlying3 g4
    simp only [List.cons.injEq, and_true] at e4
    subst e4
    clear g4
    obtain ⟨a5, e5, -, w5⟩ := DataW.trod_int (cs := [z5]) Tryz.underlying3 g5
    simp only [List.cons.injEq, and_true] at e5
    subst e5
    clear g5
    obtain ⟨a6, e6, -, w6⟩ := DataW.trod_int (cs := [z6]) Tryz.underlying3 g6
    simp only [List.cons.injEq, and_true] at e6
    subst e6
    clear g6
    obtain ⟨a7, e7, -, w7⟩ := DataW.trod_int (cs := [z7]) Tryz.underlying3 g7
    simp only [List.cons.injEq, and_true] at e7
    subst e7
    clear g7
    obtain ⟨a8, e8, -, w8⟩ := DataW.trod_int (cs := [z8]) Tryz.underlying3 g8
    simp only [List.cons.injEq, and_true] at e8
    subst e8
    clear g8
    exact ⟨a0, a1, a2, a3, a4, a5, a6, a7, a8, rfl, w0, w1, w2, w3, w4, w5, w6, w7, w8⟩

theorem open_sl25 {H : Type} {enc : TypeId × Value → H} {W : World} {fuel : Nat} {v : Value} {x : DataW H × List MemPlace} (h : DataW.trod enc Tryz.prog W 0 (fun _ => true) true fuel 25 [v] = some x) :
    ∃ l : List Fx.Ent, Fx.IsSl Fx.entC W v l ∧ ∀ e ∈ l, Fx.Ent.ok e := by
  rcases Go.Deep.open_slice Tryz.underlying25 h with ⟨hcs, _⟩ | ⟨a, len, cap, m, n, D, Pl, hcs, _, hl, hm, hmm, _, hel⟩
  · simp at hcs
    subst hcs
    exact ⟨[], Fx.IsSl.nil _ _, by simp⟩
  · simp at hcs
    subst hcs
    have hmc : m = cap := hmm
    have hce : Tryz.prog.cellsOf 48 = 9 := by kernel_rfl
    refine Fx.sl_of_cells (base := 0) default 9 Fx.entC_len (by omega) hl fun i hi => ?_
    obtain ⟨cs', hc, ht⟩ := hel i (by omega)
    rw [hce] at hc
    obtain ⟨a0, a1, a2, a3, a4, a5, a6, a7, a8, rfl, w0, w1, w2, w3, w4, w5, w6, w7, w8⟩ := open_T48 ht
    exact ⟨⟨a0, a1, a2, a3, a4, a5, a6, a7, a8⟩, ⟨w0, w1, w2, w3, w4, w5, w6, w7, w8⟩, hc⟩

theorem open_T50 {H : Type} {enc : TypeId × Value → H} {W : World} {fuel : Nat} {cs : List Value} {x : DataW H × List MemPlace} (h : DataW.trod enc Tryz.prog W 0 (fun _ => true) true fuel 50 cs = some x) :
    ∃ (a0 : Int) (a1 : Int) (a2 : Int) (a3 : Int) (a4 : Int) (a5 : Int) (a6 : Int) (a7 : Int) (a8 : Int) (a9 : Int) (a10 : Int) (a11 : Int) (a12 : Int) (a13 : Int) (a14 : Int), cs = [.int .i64 a0, .int .i64 a1, .int .i64 a2, .int .i64 a3, .int .i64 a4, .int .i64 a5, .int .i64 a6, .int .i64 a7, .int .i64 a8, .int .i64 a9, .int .i64 a10, .int .i64 a11, .int .i64 a12, .int .i64 a13, .int .i64 a14] ∧ (Lit.int .i64 a0).wf = true ∧ (Lit.int .i64 a1).wf = true ∧ (Lit.int .i64 a2).wf = true ∧ (Lit.int .i64 a3).wf = true ∧ (Lit.int .i64 a4).wf = true ∧ (Lit.int .i64 a5).wf = true ∧ (Lit.int .i64 a6).wf = true ∧ (Lit.int .i64 a7).wf = true ∧ (Lit.int .i64 a8).wf = true ∧ (Lit.int .i64 a9).wf = true ∧ (Lit.int .i64 a10).wf = true ∧ (Lit.int .i64 a11).wf = true ∧ (Lit.int .i64 a12).wf = true ∧ (Lit.int .i64 a13).wf = true ∧ (Lit.int .i64 a14).wf = true := by
  obtain ⟨xs, n, -, -, hl, hxl, hg⟩ := DataW.trod_struct Tryz.underlying50 h
  have hl' : cs.length = 15 := hl.trans (by kernel_rfl)
  have c3 : Tryz.prog.cellsOf 3 = 1 := by kernel_rfl
  have c48 : Tryz.prog.cellsOf 48 = 9 := by kernel_rfl
  clear hl h
  match cs, hl' with
  | [z0, z1, z2, z3, z4, z5, z6, z7, z8, z9, z10, z11, z12, z13, z14], _ =>
    have g0 : DataW.trod enc Tryz.prog W 0 (fun _ => true) true n 3 (([z0, z1, z2, z3, z4, z5, z6, z7, z8, z9, z10, z11, z12, z13, z14].drop 0).take (Tryz.prog.cellsOf 3)) = xs[0]? := hg 0 _ rfl
    rw [c3, List.getElem?_eq_getElem (show 0 < xs.length by rw [hxl]; decide)] at g0
    have g1 : DataW.trod enc Tryz.prog W 0 (fun _ => true) true n 3 (([z0, z1, z2, z3, z4, z5, z6, z7, z8, z9, z10, z11, z12, z13, z14].drop 1).take (Tryz.prog.cellsOf 3)) = xs[1]? := hg 1 _ rfl
    rw [c3, List.getElem?_eq_getElem (show 1 < xs.length by rw [hxl]; decide)] at g1
    have g2 : DataW.trod enc Tryz.prog W 0 (fun _ => true) true n 3 (([z0, z1, z2, z3, z4, z5, z6, z7, z8, z9, z10, z11, z12, z13, z14].drop 2).take (Tryz.prog.cellsOf 3)) = xs[2]? := hg 2 _ rfl
    rw [c3, List.getElem?_eq_getElem (show 2 < xs.length by rw [hxl]; decide)] at g2
    have g3 : DataW.trod enc Tryz.prog W 0 (fun _ => true) true n 3 (([z0, z1, z2, z3, z4, z5, z6, z7, z8, z9, z10, z11, z12, z13, z14].drop 3).take (Tryz.prog.cellsOf 3)) = xs[3]? := hg 3 _ rfl
    rw [c3, List.getElem?_eq_getElem (show 3 < xs.length by rw [hxl]; decide)] at g3
    have g4 : DataW.trod enc Tryz.prog W 0 (fun _ => true) true n 48 (([z0, z1, z2, z3, z4, z5, z6, z7, z8, z9, z10, z11, z12, z13, z14].drop 4).take (Tryz.prog.cellsOf 48)) = xs[4]? := hg 4 _ rfl
    rw [c48, List.getElem?_eq_getElem (show 4 < xs.length by rw [hxl]; decide)] at g4
    have g5 : DataW.trod enc Tryz.prog W 0 (fun _ => true) true n 3 (([z0, z1, z2, z3, z4, z5, z6, z7, z8, z9, z10, z11, z12, z13, z14].drop 13).take (Tryz.prog.cellsOf 3)) = xs[5]? := hg 5 _ rfl
    rw [c3, List.getElem?_eq_getElem (show 5 < xs.length by rw [hxl]; decide)] at g5
    have g6 : DataW.trod enc Tryz.prog W 0 (fun _ => true) true n 3 (([z0, z1, z2, z3, z4, z5, z6, z7, z8, z9, z10, z11, z12, z13, z14].drop 14).take (Tryz.prog.cellsOf 3)) = xs[6]? := hg 6 _ rfl
    rw [c3, List.getElem?_eq_getElem (show 6 < xs.length by rw [hxl]; decide)] at g6
    obtain ⟨a0, e0, -, w0⟩ := DataW.trod_int (cs := [z0]) Tryz.underlying3 g0
    simp only [List.cons.injEq, and_true] at e0
    subst e0
    clear g0
    obtain ⟨a1, e1, -, w1⟩ := DataW.trod_int (cs := [z1]) Tryz.underlying3 g1
    simp only [List.cons.injEq, and_true] at e1
    subst e1
    clear g1
    obtain ⟨a2, e2, -, w2⟩ := DataW.trod_int (cs := [z2]) Tryz.underlying3 g2
    simp only [List.cons.injEq, and_true] at e2
    subst e2
    clear g2
    obtain ⟨a3, e3, -, w3⟩ := DataW.trod_int (cs := [z3]) Tryz.underlying3 g3
    simp only [List.cons.injEq, and_true] at e3
    subst e3
    clear g3
    obtain ⟨a4, a5, a6, a7, a8, a9, a10, a11, a12, e4, w4, w5, w6, w7, w8, w9, w10, w11, w12⟩ := open_T48 (cs := [z4, z5, z6, z7, z8, z9, z10, z11, z12]) g4
    simp only [List.cons.injEq, and_true] at e4
    obtain ⟨rfl, rfl, rfl, rfl, rfl, rfl, rfl, rfl, rfl⟩ := e4
    clear g4
    obtain ⟨a13, e5, -, w13⟩ := DataW.trod_int (cs := [z13]) Tryz.underlying3 g5
    simp only [List.cons.injEq, and_true] at e5
    subst e5
    clear g5
    obtain ⟨a14, e6, -, w14⟩ := DataW.trod_int (cs := [z14]) Tryz.underlying3 g6
    simp only [List.cons.injEq, and_true] at e6
    subst e6
    clear g6
    exact ⟨a0, a1, a2, a3, a4, a5, a6, a7, a8, a9, a10, a11, a12, a13, a14, rfl, w0, w1, w2, w3, w4, w5, w6, w7, w8, w9, w10, w11, w12, w13, w14⟩

theorem open_sl27 {H : Type} {enc : TypeId × Value → H} {W : World} {fuel : Nat} {v : Value} {x : DataW H × List MemPlace} (h : DataW.trod enc Tryz.prog W 0 (fun _ => true) true fuel 27 [v] = some x) :
    ∃ l : List Fx.Crs, Fx.IsSl Fx.crsC W v l ∧ ∀ e ∈ l, Fx.Crs.ok e := by
  rcases Go.Deep.open_slice Tryz.underlying27 h with ⟨hcs, _⟩ | ⟨a, len, cap, m, n, D, Pl, hcs, _, hl, hm, hmm, _, hel⟩
  · simp at hcs
    subst hcs
    exact ⟨[], Fx.IsSl.nil _ _, by simp⟩
  · simp at hcs
    subst hcs
    have hmc : m = cap := hmm
    have hce : Tryz.prog.cellsOf 50 = 15 := by kernel_rfl
    refine Fx.sl_of_cells (base := 0) default 15 Fx.crsC_len (by omega) hl fun i hi => ?_
    obtain ⟨cs', hc, ht⟩ := hel i (by omega)
    rw [hce] at hc
    obtain ⟨a0, a1, a2, a3, a4, a5, a6, a7, a8, a9, a10, a11, a12, a13, a14, rfl, w0, w1, w2, w3, w4, w5, w6, w7, w8, w9, w10, w11, w12, w13, w14⟩ := open_T50 ht
    exact ⟨⟨a0, a1, a2, a3, ⟨a4, a5, a6, a7, a8, a9, a10, a11, a12⟩, a13, a14⟩, ⟨w0, w1, w2, w3, w4, w5, w6, w7, w8, w9, w10, w11, w12, w13, w14⟩, hc⟩

open Fx
theorem u64n (m : Nat) (h : m ≤ 1000000) : IntKind.u64.wrap (m : Int) = m := by rw [IntKind.wrap_u64]; omega

set_option maxRecDepth 100000 in
set_option maxHeartbeats 16000000 in
theorem walk (a0_0 : Int) (a0_1 : Int) (a0_2 : Int) (a0_3 : Int) (a0_4 : Int) (a1 : Int) (a2 : Int) (v3 : Value) (l3 : List Fx.Ent) (v4 : Value) (l4 : List Fx.Crs) (a5 : Option Addr) (len5 cap5 : Nat) (z5 : List Int) (w : World) (w0_0 : (Lit.int .i64 a0_0).wf = true) (w0_1 : (Lit.int .i64 a0_1).wf = true) (w0_2 : (Lit.int .i64 a0_2).wf = true) (w0_3 : (Lit.int .i64 a0_3).wf = true) (w0_4 : (Lit.int .u64 a0_4).wf = true) (w1 : (Lit.int .i64 a1).wf = true) (w2 : (Lit.int .i64 a2).wf = true) (w3 : Fx.IsSl Fx.entC w v3 l3) (k3 : ∀ e ∈ l3, Fx.Ent.ok e) (w4 : Fx.IsSl Fx.crsC w v4 l4) (k4 : ∀ e ∈ l4, Fx.Crs.ok e) (w5 : IsRow .i64 w a5 len5 cap5 z5) :
    Calls Tryz.prog 5 #[.agg #[.int .i64 a0_0, .int .i64 a0_1, .int .i64 a0_2, .int .i64 a0_3, .int .u64 a0_4], .int .i64 a1, .int .i64 a2, v3, v4, .slice a5 len5 cap5] w fun e w' => e = .returned (.bool true) ∧ Below w.heap.size w w' := by
  clear w0_0 w0_1 w0_2 w0_3 w1 w2 k3
  have hs4 : 0 ≤ a0_4 ∧ a0_4 < 18446744073709551616 := by have := bounds_u64 w0_4; omega
  have HA := Lib.hid awake_rg
  have HV3 := Lib.hid w3
  obtain ⟨A3, n3, rfl, -⟩ := w3
  clear k4
  have HV4 := Lib.hid w4
  obtain ⟨A4, n4, rfl, -⟩ := w4
  have HV5 := Lib.hid w5.ints
  have HL5 := Lib.hid (show (z5.take len5).length = len5 from w5.ints.1)
  clear w5
  go_enter Tryz.func5, Tryz.ntmps5
  go_wp2_with fail
  refine (config_any _ _ _ _ _ _).mono ?_
  rintro e v1 ⟨a, b, p, n, rfl, hsm, hb1⟩
  obtain ⟨hrt, ha3, hb3, hp4⟩ := hsm
  have hrd := rt_bd hrt
  obtain ⟨P, rfl⟩ : ∃ P : Nat, p = (P : Int) := ⟨p.toNat, by omega⟩
  have hP : 1 ≤ P ∧ P ≤ 4 := by omega
  have Hb1 := Lib.hid (unbox hb1)
  have BC1 := Lib.hid ((CfgBox.n1 w ⟨a0_0, a0_1, a0_2, a0_3, a0_4⟩ 24 rfl).nx hb1)
  have HN := Lib.hid (fun w => new_yes a b P n a0_4 w hrt)
  have hre : regs a b P n = a * b := by unfold regs; rw [if_pos hrt]
  have hR : 1 ≤ regs a b P n ∧ regs a b P n ≤ 9 := by
    rw [hre]
    have : a = 1 ∨ a = 2 ∨ a = 3 := by omega
    rcases this with rfl | rfl | rfl <;> omega
  have HR := Lib.hid (fun w => regions_any a b P n a0_4 w)
  have hb9 := umod a1 (regs a b P n) hR.1 (by omega)
  obtain ⟨r, hr⟩ : ∃ r, wrap64 ((IntKind.u64.wrap a1).tmod (regs a b P n)) = r := ⟨_, rfl⟩
  rw [hr] at hb9
  have hr9 : 0 ≤ r ∧ r < regs a b P n := by obtain ⟨e1, e2, e3⟩ := hb9; rw [e1]; exact ⟨e2, e3⟩
  clear hb9
  have hhas : hasB a b P n r = true := by unfold hasB; exact decide_eq_true hr9
  have Hhas := Lib.hid hhas
  have HPl := Lib.hid (fun f0 v l w2 hv => pregion_any a b P n a0_4 r f0 hhas (by omega) v l w2 hv)
  generalize regs a b P n = R at *
  clear hb1 hrt hre hhas hrd hr9
  have g0 := BC1.out.c0
  have g1 := BC1.out.c1
  have g2 := BC1.out.c2
  have g3 := BC1.out.c3
  have g4 := BC1.out.c4
  have f0 := BC1.out.f0
  have f1 := BC1.out.f1
  have f2 := BC1.out.f2
  have f3 := BC1.out.f3
  have f4 := BC1.out.f4
  have hgl := BC1.out.has
  have HB := Lib.hid (CfgBox.bel Hb1.out ⟨a, b, P, n, a0_4⟩ (Nat.le_refl _) rfl)
  have BC := Lib.hid (BC1.out.put ⟨a, b, P, n, a0_4⟩)
  go_wp2_with fail
  refine (HN.out _).mono ?_
  rintro e v2 ⟨rfl, hb2⟩
  replace HB := Lib.hid (nextW HB.out hb2)
  replace BC := Lib.hid (BC.out.nx hb2)
  have BG := Lib.hid (CfgBox.n1 v2 ⟨a, b, P, n, a0_4⟩ 30 rfl)
  replace BC := Lib.hid (BC.out.alloc BC.out.has (.cells #[.int .i64 a, .int .i64 b, .int .i64 P, .int .i64 n, .int .u64 a0_4] 30))
  replace HB := Lib.hid (HB.out.alloc HB.out.size (.cells #[.int .i64 a, .int .i64 b, .int .i64 P, .int .i64 n, .int .u64 a0_4] 30))
  clear hb2 g0 g1 g2 g3 g4 f0 f1 f2 f3 f4 hgl BC1 Hb1 HN
  go_wp2_with fail
  refine (HA.out _).mono ?_
  rintro e v3 ⟨rfl, hb3⟩
  replace HB := Lib.hid (nextW HB.out hb3)
  replace BC := Lib.hid (BC.out.nx hb3)
  replace BG := Lib.hid (BG.out.nx hb3)
  clear hb3 HA
  generalize hgb : v2.heap.size = gb at *
  clear hgb
  have hgl := BG.out.has
  obtain ⟨g0, g1, g2, g3, g4, -⟩ := BG.out
  have hu : IntKind.u64.wrap R = R := by rw [IntKind.wrap_u64]; omega
  have hRn : ¬ R = 0 := by omega
  go_wp2_with fail
  refine (HR.out _).mono ?_
  rintro e v4 ⟨rfl, hb4⟩
  replace HB := Lib.hid (nextW HB.out hb4)
  replace BC := Lib.hid (BC.out.nx hb4)
  replace BG := Lib.hid (BG.out.nx hb4)
  clear hb4 g0 g1 g2 g3 g4 hgl
  have hcl := BC.out.has
  obtain ⟨c0, c1, c2, c3, c4, -⟩ := BC.out
  go_upto_region 6 with fail
  simp only [hr]
  clear hr hu hRn HR hR
  go_wp2_with fail
  refine (HPl.out _ _ _ _ (HV3.out.below HB.out)).mono ?_
  rintro e v5 ⟨⟨F, L, vl, rfl, hF, hok, hhere, hlen, hsl⟩, hb5⟩
  have HL := Lib.hid hsl
  obtain ⟨A5, n5, rfl, -⟩ := hsl
  replace HB := Lib.hid (nextW HB.out hb5)
  replace BC := Lib.hid (BC.out.nx hb5)
  replace BG := Lib.hid (BG.out.nx hb5)
  have Hok := Lib.hid hok
  have Hhere := Lib.hid hhere
  have HLn := Lib.hid hlen
  clear hb5 c0 c1 c2 c3 c4 hcl HPl HV3 hok hhere hlen
  go_upto_region 7 with fail
  generalize hW : World.alloc _ _ = W at *
  have BS := Lib.hid (show RegBox W v5.heap.size ⟨F, .slice A5 L.length n5⟩ from by rw [← hW]; exact RegBox.n1 v5 ⟨F, .slice A5 L.length n5⟩ _ rfl)
  replace BC := Lib.hid (show CfgBox W w.heap.size ⟨a, b, P, n, a0_4⟩ from by rw [← hW]; exact BC.out.alloc BC.out.has _)
  replace BG := Lib.hid (show CfgBox W gb ⟨a, b, P, n, a0_4⟩ from by rw [← hW]; exact BG.out.alloc BG.out.has _)
  replace HB := Lib.hid (show Below w.heap.size w W from by rw [← hW]; exact HB.out.alloc HB.out.size _)
  replace HL := Lib.hid (show IsSl entC W (.slice A5 L.length n5) L from by rw [← hW]; exact HL.out.below ((Below.refl _ _).alloc (Nat.le_refl _) _))
  generalize v5.heap.size = bs at *
  clear hW
  have HIb := Lib.hid (fun v l w2 hv => pinbox_any a b P n a0_4 r F Hhas.out (by omega) v l w2 hv)
  have hcl := BC.out.has
  have hsl := BS.out.has
  obtain ⟨c0, c1, c2, c3, c4, -⟩ := BC.out
  obtain ⟨s0, s1, -⟩ := BS.out
  go_wp2_with fail
  refine (HIb.out _ _ _ (HV4.out.below HB.out)).mono ?_
  rintro e W2 ⟨⟨vi, ib, rfl, hoi, hil, hia⟩, hb⟩
  have HI := Lib.hid (owned_sl hoi)
  have HIl := Lib.hid hil
  have HIa := Lib.hid hia
  obtain ⟨Ai, ni, rfl, -⟩ := owned_sl hoi
  replace HB := Lib.hid (nextW HB.out hb)
  replace BC := Lib.hid (BC.out.nx hb)
  replace BG := Lib.hid (BG.out.nx hb)
  replace BS := Lib.hid (BS.out.nx hb)
  replace HL := Lib.hid (HL.out.below hb)
  clear hoi hil hia hb c0 c1 c2 c3 c4 s0 s1 hcl hsl HV4 HIb
  obtain ⟨N, hN⟩ : ∃ N, ib.length = N := ⟨_, rfl⟩
  rw [hN] at HI HIl ⊢
  have Hn := Lib.hid hN
  have hN12 : N ≤ 12 := HIl.out
  have HLb := Lib.hid (fun k => List.length_filter_le (fun c : Crs => decide (c.kind = 2)) (ib.take k))
  clear hN
  go_wp2
  go_loopw [16, 18] (fun v i wr => ∃ k : Nat, k ≤ N ∧ i = .int .i64 k ∧ wr.ownsRow W2.heap.size 50 15 v ((ib.take k).filter fun c => decide (c.kind = 2)).length (((ib.take k).filter fun c => decide (c.kind = 2)).flatMap crsC) ∧ Below W2.heap.size W2 wr) (fun _ i _ => N - (intOf i).toNat)
  case atStart => exact ⟨0, Nat.zero_le _, rfl, ⟨by simp, .inl ⟨rfl, rfl⟩⟩, Below.refl _ _⟩
  case round =>
    obtain ⟨k, hk, rfl, hown, hbel⟩ := hrel
    have Hown := Lib.hid hown
    have Hbel := Lib.hid hbel
    clear hown hbel
    by_cases hlt : k < N
    · have hd1 : decide ((k : Int) < (N : Int)) = true := decide_eq_true (by omega)
      obtain ⟨x, hx⟩ := getE ib k N Hn.out hlt
      have HX := Lib.hid (bl2_take hx)
      have HLk := Lib.hid (show ((ib.take k).filter fun c => decide (c.kind = 2)).length ≤ k from Nat.le_trans (HLb.out k) (by rw [List.length_take]; omega))
      obtain ⟨bb, off, hA, hc⟩ := elem_Crs (HI.out.below Hbel.out).at hx
      subst hA
      obtain ⟨c0, c1, c2, c3, c4, c5, c6, c7, c8, c9, c10, c11, c12, c13, c14⟩ := hc
      clear hx
      by_cases hk1 : x.kind = 2
      · have hk1' : (x.kind == 2) = true := by simpa using hk1
        rw [if_pos hk1] at HX
        have HHk := Lib.hid hk1
        have hbs := Hbel.out.size
        clear hk1
        go_wp2_with (at_builtin; go_must (refine appL_Crs (by rfl) (.tmp 71) (.tmp 76) (by rfl) W2.heap.size _ ((ib.take k).filter fun c => decide (c.kind = 2)) (by rfl) (Hown.out.alloc _) _ [x] (by rfl) (one_Crs _ x _ 1 (by first | rfl | simp) (by omega)) (by have := HLk.out; simp only [List.length_cons, List.length_nil]; omega) (by simp; omega) ?_))
        intro v' w5 hown5 hb5 _
        have HO5 := Lib.hid (show w5.ownsRow W2.heap.size 50 15 v' ((ib.take (k + 1)).filter fun c => decide (c.kind = 2)).length (((ib.take (k + 1)).filter fun c => decide (c.kind = 2)).flatMap crsC) from by rw [HX.out]; simpa using hown5)
        have HB5 := Lib.hid ((Hbel.out.alloc Hbel.out.size _).trans hb5)
        clear hown5 hb5
        go_wp2
        go_roundw
        case rel => exact ⟨k + 1, by omega, by go_num, HO5.out, HB5.out⟩
        case measure => simp [intOf]; omega
      · have hk1' : (x.kind == 2) = false := by simpa using hk1
        rw [if_neg hk1, List.append_nil] at HX
        go_wp2
        go_roundw
        case rel => exact ⟨k + 1, by omega, by go_num, by rw [HX.out]; exact Hown.out, Hbel.out⟩
        case measure => simp [intOf]; omega
    · obtain rfl : k = N := by omega
      have hd1 : decide ((k : Int) < (k : Int)) = false := decide_eq_false (by omega)
      rw [List.take_of_length_le (Nat.le_of_eq Hn.out)] at Hown
      obtain ⟨bl, hbl⟩ : ∃ bl, bl = ib.filter fun c => decide (c.kind = 2) := ⟨_, rfl⟩
      rw [← hbl] at Hown
      have Hbk := Lib.hid (show ∀ c ∈ bl, c.kind = 2 from fun c hc => by rw [hbl] at hc; simpa using (List.mem_filter.1 hc).2)
      have Hbi := Lib.hid (show ∀ c ∈ bl, inOk a b P n r F c = true from fun c hc => by rw [hbl] at hc; exact HIa.out c (List.mem_filter.1 hc).1)
      have hbN : bl.length ≤ 12 := by rw [hbl]; exact Nat.le_trans (List.length_filter_le _ _) (by have := Hn.out; omega)
      obtain ⟨M, hM⟩ : ∃ M, bl.length = M := ⟨_, rfl⟩
      rw [hM] at hbN Hown
      have Hm := Lib.hid hM
      replace HB := Lib.hid (nextW HB.out Hbel.out)
      replace BC := Lib.hid (BC.out.nx Hbel.out)
      replace BG := Lib.hid (BG.out.nx Hbel.out)
      replace BS := Lib.hid (BS.out.nx Hbel.out)
      replace HL := Lib.hid (HL.out.below Hbel.out)
      have HI2 := Lib.hid (owned_sl (by have := Hown.out; rw [← hM] at this; exact this : wr.ownsRow _ _ _ _ bl.length (bl.flatMap crsC)))
      obtain ⟨Ai2, ni2, hvi, -⟩ := HI2.out
      subst hvi
      clear hbl hM HI Hown HLb HIl HIa
      obtain ⟨W3, hW3⟩ : ∃ W3, W3 = wr := ⟨_, rfl⟩
      subst hW3
      rw [Hm.out] at HI2 ⊢
      go_wp2_with (at_builtin; go_must (refine appL_Crs (by rfl) (.const (.slice none 0 0)) (.tmp 78) (by rfl) W3.heap.size _ [] (by rfl) (World.ownsRow_nil _ _ _ _) _ bl (by rfl) (by have := HI2.out; exact this) (by have := Hm.out; simp; omega) (Nat.le_refl _) ?_))
      intro v' w5 hown5 hb5 _
      rw [Hm.out] at hown5
      have HM := Lib.hid hown5
      have HQ := Lib.hid hb5
      obtain ⟨Am, nm, rfl, -⟩ := owned_cells hown5
      clear hown5 hb5
      clear Hbel
      go_wp2
      go_loopw [20, 21] (fun i c wr => ∃ (k : Nat) (zs : List Crs), i = .int .i64 k ∧ k ≤ 40 ∧ zs.Perm bl ∧ wr.ownsRow W3.heap.size 50 15 (.slice Am M nm) M (zs.flatMap crsC) ∧ Below W3.heap.size W3 wr) (fun i _ _ => 40 - (intOf i).toNat)
      case atStart => exact ⟨0, bl, rfl, Nat.zero_le _, List.Perm.refl _, HM.out, HQ.out⟩
      case round =>
        clear HM HQ
        obtain ⟨k, zs, rfl, hk40, hperm, hown, hbel⟩ := hrel
        have Hperm := Lib.hid hperm
        have Hown := Lib.hid hown
        have HQ := Lib.hid hbel
        clear hperm hown hbel
        go_upto_region 16 with fail
        obtain ⟨W4, hW4⟩ : ∃ W4, W4 = wr := ⟨_, rfl⟩
        subst hW4
        go_cut [92] (fun s wx => s = .bool (decide (k < len5 ∧ k < 40 ∧ 0 < M)) ∧ wx = W4)
        case first =>
          by_cases h1 : k < len5
          · have hd1 : decide ((k : Int) < (len5 : Int)) = true := decide_eq_true (by omega)
            by_cases h2 : k < 40
            · have hd2 : decide ((k : Int) < 40) = true := decide_eq_true (by omega)
              by_cases h3 : 0 < M
              · have hd3 : decide ((0 : Int) < (M : Int)) = true := decide_eq_true (by omega)
                have hd4 : decide (0 < M) = true := decide_eq_true h3
                have he : decide (k < len5 ∧ k < 40 ∧ 0 < M) = true := decide_eq_true ⟨h1, h2, h3⟩
                go_wp2_with fail
                go_meet
                exact ⟨by rw [he], rfl⟩
              · have hd3 : decide ((0 : Int) < (M : Int)) = false := decide_eq_false (by omega)
                have hd4 : decide (0 < M) = false := decide_eq_false h3
                have he : decide (k < len5 ∧ k < 40 ∧ 0 < M) = false := decide_eq_false (fun h => h3 h.2.2)
                go_wp2_with fail
                go_meet
                exact ⟨by rw [he], rfl⟩
            · have hd2 : decide ((k : Int) < 40) = false := decide_eq_false (by omega)
              have he : decide (k < len5 ∧ k < 40 ∧ 0 < M) = false := decide_eq_false (fun h => h2 h.2.1)
              go_wp2_with fail
              go_meet
              exact ⟨by rw [he], rfl⟩
          · have hd1 : decide ((k : Int) < (len5 : Int)) = false := decide_eq_false (by omega)
            have he : decide (k < len5 ∧ k < 40 ∧ 0 < M) = false := decide_eq_false (fun h => h1 h.1)
            go_wp2_with fail
            go_meet
            exact ⟨by rw [he], rfl⟩
        case rest =>
          obtain ⟨rfl, rfl⟩ := hcut
          by_cases hgo : k < len5 ∧ k < 40 ∧ 0 < M
          · have hgo' : decide (k < len5 ∧ k < 40 ∧ 0 < M) = true := decide_eq_true hgo
            rw [hgo']
            obtain ⟨h1, h2, hM0⟩ := hgo
            clear hgo'
            obtain ⟨b5, o5, hA5, hc5⟩ := ((HV5.out.below HB.out).below HQ.out).2 (by omega)
            subst hA5
            have hck := hc5 k h1
            generalize gi (List.take len5 z5) k = t at hck
            obtain ⟨j, hjM, hj⟩ := uplace t M hM0 (by omega)
            have hj' := hj
            rw [w64] at hj'
            have hu : IntKind.u64.wrap (M : Int) = M := u64n M (by omega)
            have hMn : ¬ (M : Int) = 0 := by omega
            have hMn2 : ¬ M = 0 := by omega
            obtain ⟨q, hqM, hq⟩ : ∃ q : Nat, q < M ∧ (k : Int).tmod (M : Int) = q := ⟨k % M, Nat.mod_lt _ hM0, by rw [Int.tmod_eq_emod_of_nonneg (by omega)]; rfl⟩
            have hw1 : wrap64 (q : Int) = q := IntWalk.wrap64_in _ (by omega)
            have hw2 : IntKind.i64.wrap (q : Int) = q := (w64 _).trans hw1
            have Hzl := Lib.hid (show zs.length = M from Hperm.out.length_eq.trans Hm.out)
            obtain ⟨x, hx⟩ := getE zs q M Hzl.out hqM
            obtain ⟨y, hy⟩ := getE zs j M Hzl.out hjM
            obtain ⟨gm, cm, he, hgW, hgm, -, hcs, hfz⟩ := own_at_Crs Hown.out hx
            simp only [Value.slice.injEq] at he
            obtain ⟨rfl, -, rfl⟩ := he
            obtain ⟨gm', cm', he, -, -, -, hds, -⟩ := own_at_Crs Hown.out hy
            cases he
            simp only [Nat.zero_add] at hcs hds
            obtain ⟨d0, d1, d2, d3, d4, d5, d6, d7, d8, d9, d10, d11, d12, d13, d14⟩ := hcs
            obtain ⟨e0, e1, e2, e3, e4, e5, e6, e7, e8, e9, e10, e11, e12, e13, e14⟩ := hds
            have Hx := Lib.hid hx
            have Hy := Lib.hid hy
            have HgW := Lib.hid hgW
            have hjc : (j : Int) < (M : Int) := Int.ofNat_lt.2 hjM
            have hqc : (q : Int) < (M : Int) := Int.ofNat_lt.2 hqM
            clear hx hy hc5 hgW
            go_wp2_with fail
            refine turn_region (S1 := fun w' => ∀ b o, b < wc.heap.size → w'.cell? ⟨b, o, none⟩ = wc.cell? ⟨b, o, none⟩) (S2 := fun _ => True) 19 20 (.free 0 (.free 1 (.free 2 (.free 3 (.free 4 (.freeB 5 (.freeB 6 (.free 7 (.free 8 (.free 9 (.free 10 (.free 11 (.free 12 (.free 13 (.free 14 (.free 15 (.free 16 (.free 17 (.free 18 (.turn 19 .tail)))))))))))))))))))) (by kernel_rfl) (by kernel_rfl) (fun _ _ d _ _ h => by cases d <;> exact h) (fun _ _ _ => rfl) (trivial) ?_
            simp only [writtenU, List.drop_succ_cons, List.drop_zero, List.getElem?_cons_succ, List.getElem?_cons_zero]
            refine ru_free (v := ?_) (by rfl) ?_ ?_; rotate_left 1; focus (intro w hSw; (try dsimp only at hSw); go_simp; (try with_reducible rfl))
            (try simp only [Act.put, tA, tB, tC])
            refine ru_free (v := ?_) (by rfl) ?_ ?_; rotate_left 1; focus (intro w hSw; (try dsimp only at hSw); go_simp; (try with_reducible rfl))
            (try simp only [Act.put, tA, tB, tC])
            refine ru_free (v := ?_) (by rfl) ?_ ?_; rotate_left 1; focus (intro w hSw; (try dsimp only at hSw); go_simp; (try with_reducible rfl))
            (try simp only [Act.put, tA, tB, tC])
            refine ru_free (v := ?_) (by rfl) ?_ ?_; rotate_left 1; focus (intro w hSw; (try dsimp only at hSw); go_simp; (try with_reducible rfl))
            (try simp only [Act.put, tA, tB, tC])
            refine ru_free (v := ?_) (by rfl) ?_ ?_; rotate_left 1; focus (intro w hSw; (try dsimp only at hSw); go_simp; (try with_reducible rfl))
            (try simp only [Act.put, tA, tB, tC])
            refine ru_freeB (v := ?_) (by rfl) ?_ ?_; rotate_left 1; focus (intro w hSw; (try dsimp only at hSw); go_simp; (try with_reducible rfl))
            (try simp only [Act.put, tA, tB, tC])
            refine ru_freeB (v := ?_) (by rfl) ?_ ?_; rotate_left 1; focus (intro w hSw; (try dsimp only at hSw); go_simp; (try with_reducible rfl))
            (try simp only [Act.put, tA, tB, tC])
            refine ru_free (v := ?_) (by rfl) ?_ ?_; rotate_left 1; focus (intro w hSw; (try dsimp only at hSw); go_simp; (try with_reducible rfl))
            (try simp only [Act.put, tA, tB, tC])
            refine ru_free (v := ?_) (by rfl) ?_ ?_; rotate_left 1; focus (intro w hSw; (try dsimp only at hSw); go_simp; (try with_reducible rfl))
            (try simp only [Act.put, tA, tB, tC])
            refine ru_free (v := ?_) (by rfl) ?_ ?_; rotate_left 1; focus (intro w hSw; (try dsimp only at hSw); go_simp; (try with_reducible rfl))
            (try simp only [Act.put, tA, tB, tC])
            refine ru_free (v := ?_) (by rfl) ?_ ?_; rotate_left 1; focus (intro w hSw; (try dsimp only at hSw); go_simp; (try with_reducible rfl))
            (try simp only [Act.put, tA, tB, tC])
            refine ru_free (v := ?_) (by rfl) ?_ ?_; rotate_left 1; focus (intro w hSw; (try dsimp only at hSw); go_simp; (try with_reducible rfl))
            (try simp only [Act.put, tA, tB, tC])
            refine ru_free (v := ?_) (by rfl) ?_ ?_; rotate_left 1; focus (intro w hSw; (try dsimp only at hSw); go_simp; (try with_reducible rfl))
            (try simp only [Act.put, tA, tB, tC])
            refine ru_free (v := ?_) (by rfl) ?_ ?_; rotate_left 1; focus (intro w hSw; (try dsimp only at hSw); go_simp; (try with_reducible rfl))
            (try simp only [Act.put, tA, tB, tC])
            refine ru_free (v := ?_) (by rfl) ?_ ?_; rotate_left 1; focus (intro w hSw; (try dsimp only at hSw); go_simp; (try with_reducible rfl))
            (try simp only [Act.put, tA, tB, tC])
            refine ru_free (v := ?_) (by rfl) ?_ ?_; rotate_left 1; focus (intro w hSw; (try dsimp only at hSw); go_simp; (try with_reducible rfl))
            (try simp only [Act.put, tA, tB, tC])
            refine ru_free (v := ?_) (by rfl) ?_ ?_; rotate_left 1; focus (intro w hSw; (try dsimp only at hSw); go_simp; (try with_reducible rfl))
            (try simp only [Act.put, tA, tB, tC])
            refine ru_free (v := ?_) (by rfl) ?_ ?_; rotate_left 1; focus (intro w hSw; (try dsimp only at hSw); go_simp; (try with_reducible rfl))
            (try simp only [Act.put, tA, tB, tC])
            refine ru_free (v := ?_) (by rfl) ?_ ?_; rotate_left 1; focus (intro w hSw; (try dsimp only at hSw); go_simp; (try with_reducible rfl))
            (try simp only [Act.put, tA, tB, tC])
            refine ru_turn (by rfl) (fun K hK => ?_)
            go_simp
            (try go_wp2_with fail)
            refine hK.out _ _ ?_ ?_
            · (try dsimp only); first | done | trivial
            clear hK K
            (try simp only [Act.put, tA, tB, tC])
            refine ru_done ?_
            generalize hV1 : World.drew _ = V1
            have hr1 : V1.ownsRow W3.heap.size 50 15 (.slice (some ⟨gm, 0, none⟩) M nm) M ((zs.set q y).flatMap crsC) := by
              rw [← hV1]; exact own_below (own_all_Crs Hown.out Hx.out y rfl).1 (Below.refl _ _).drew
            have hb1 : Below W3.heap.size W3 V1 := by
              rw [← hV1]; exact (HQ.out.grown (own_all_Crs Hown.out Hx.out y rfl).2 HQ.out.size (fun k hk => by cases hk; exact HgW.out)).drew
            have hset : (zs.set q y)[j]? = some y := by
              rw [List.getElem?_set]
              split
              · rw [if_pos (by rw [Hzl.out]; exact hqM)]
              · exact Hy.out
            have Hset := Lib.hid hset
            have Hr1 := Lib.hid hr1
            have Hb1 := Lib.hid hb1
            clear hV1 d0 d1 d2 d3 d4 d5 d6 d7 d8 d9 d10 d11 d12 d13 d14 e0 e1 e2 e3 e4 e5 e6 e7 e8 e9 e10 e11 e12 e13 e14 hfz hgm hck
            obtain ⟨gm', cm', he, -, hgm1, -, hds, hfz1⟩ := own_at_Crs hr1 hset
            cases he
            simp only [Nat.zero_add] at hds
            obtain ⟨e0, e1, e2, e3, e4, e5, e6, e7, e8, e9, e10, e11, e12, e13, e14⟩ := hds
            clear hr1 hb1 hset
            go_upto_region 17 with fail
            generalize hV : World.setCell _ _ _ = V
            have HV := Lib.hid hV
            clear hV e0 e1 e2 e3 e4 e5 e6 e7 e8 e9 e10 e11 e12 e13 e14 hfz1 hgm1
            go_wp2
            go_roundw
            case rel =>
              refine ⟨k + 1, (zs.set q y).set j x, by go_num, by omega, (swap_perm Hx.out Hy.out).trans Hperm.out, ?_, ?_⟩
              · rw [← HV.out]; exact (own_all_Crs Hr1.out Hset.out x rfl).1
              · rw [← HV.out]; exact Hb1.out.grown (own_all_Crs Hr1.out Hset.out x rfl).2 Hb1.out.size (fun k hk => by cases hk; exact HgW.out)
            case measure => simp [intOf]; omega
          · have hgo' : decide (k < len5 ∧ k < 40 ∧ 0 < M) = false := decide_eq_false hgo
            rw [hgo']
            clear hgo' hgo
            have ht : things L ≤ 24 := by have := things_bd L; have := HLn.out; omega
            have Hx0 := Lib.hid (show (List.replicate P inp0).length = P ∧ (List.replicate P inp0).all irtI = true from ⟨List.length_replicate, all_rep P⟩)
            have HAsk := Lib.hid (asked_ok (ib := bl) Hhas.out (show 0 ≤ F ∧ F ≤ 9999 by omega) Hok.out Hhere.out ht Hbi.out)
            have hq1 := why_ok (ib := bl) Hhas.out (show 0 ≤ F ∧ F ≤ 9999 by omega) Hok.out Hhere.out ht Hbi.out Hx0.out
            have hq2 := why_ok (ib := zs) Hhas.out (show 0 ≤ F ∧ F ≤ 9999 by omega) Hok.out Hhere.out ht (fun c hc => Hbi.out c (Hperm.out.mem_iff.1 hc)) Hx0.out
            obtain ⟨X, hX⟩ : ∃ X, X = stayL a b P n a0_4 r F (inpOf (List.replicate P inp0)) L bl := ⟨_, rfl⟩
            obtain ⟨Y, hY⟩ : ∃ Y, Y = st lessB (outsL a b P n a0_4 r F (inpOf (List.replicate P inp0)) L bl) := ⟨_, rfl⟩
            obtain ⟨p1, p2⟩ := step_perm (a := a) (b := b) (n := n) (s := a0_4) (r := r) (f := F) (P := P) (inp := inpOf (List.replicate P inp0)) (l := L) Hperm.out Hbk.out
            have HlX := Lib.hid (show X.length ≤ 31 from by rw [hX]; exact (outs_le (by omega) HAsk.out.2).2)
            have HlY := Lib.hid (show Y.length ≤ 600 from by rw [hY, st_length]; exact (outs_le (by omega) HAsk.out.2).1)
            have HS := Lib.hid (fun w2 v t u hv ht hu => rgstep_yes a b P n a0_4 r F hs4 v L t (List.replicate P inp0) u bl w2 hv (by have := HLn.out; omega) ht (by have := Hx0.out.1; omega) hu (by have := Hm.out; omega) (F + 1) X Y hq1 rfl hX hY)
            have HS2 := Lib.hid (fun w2 v t u hv ht hu => rgstep_yes a b P n a0_4 r F hs4 v L t (List.replicate P inp0) u zs w2 hv (by have := HLn.out; omega) ht (by have := Hx0.out.1; omega) hu (by have := Hm.out; have := Hperm.out.length_eq; omega) (F + 1) X Y hq2 rfl (by rw [p1]; exact hX) (by rw [p2]; exact hY))
            have hmk : ∀ w, (Instr.makeSlice 26 (.int .i64 (P : Int)) (.int .i64 (P : Int))).run Tryz.prog w = .ok (.slice (some ⟨w.heap.size, 0, none⟩) P P) (w.alloc (.cells ((List.replicate P inp0).flatMap inpC).toArray 61)) := fun w => make_inp P (by omega) w
            have Hmk := Lib.hid hmk
            have Hzl := Lib.hid (show zs.length = M from Hperm.out.length_eq.trans Hm.out)
            have HI := Lib.hid (show IsSl crsC wc (.slice Ai2 M ni2) bl from by have := HI2.out.below HQ.out; exact this)
            have HZ := Lib.hid (owned_sl (by have := Hown.out; rw [← Hzl.out] at this; exact this : wc.ownsRow _ _ _ (.slice Am zs.length nm) zs.length (zs.flatMap crsC)))
            rw [Hzl.out] at HZ
            replace HB := Lib.hid (nextW HB.out HQ.out)
            replace BC := Lib.hid (BC.out.nx HQ.out)
            replace BG := Lib.hid (BG.out.nx HQ.out)
            replace BS := Lib.hid (BS.out.nx HQ.out)
            replace HL := Lib.hid (HL.out.below HQ.out)
            clear hX hY p1 p2 hq1 hq2 ht hmk Hown HQ HI2 Hbi Hbk HAsk
            obtain ⟨Wa, hWa⟩ : ∃ Wa, Wa = wc := ⟨_, rfl⟩
            subst hWa
            have hgl := BG.out.has
            have hsl := BS.out.has
            have hcl := BC.out.has
            obtain ⟨c0, c1, c2, c3, c4, -⟩ := BC.out
            obtain ⟨g0, g1, g2, g3, g4, -⟩ := BG.out
            obtain ⟨s0, s1, -⟩ := BS.out
            go_upto_region 20 with fail
            go_cut [22, 23, 24] (fun sA sB sC wx => ∃ blk A7 n7 A8 n8, sA = .pointer (some ⟨blk, 0, none⟩) ∧ sB = .slice A8 Y.length n8 ∧ sC = .int .i64 0 ∧ RegBox wx blk ⟨F + 1, .slice A7 X.length n7⟩ ∧ IsSl entC wx (.slice A7 X.length n7) X ∧ IsSl crsC wx (.slice A8 Y.length n8) Y ∧ Below Wa.heap.size Wa wx)
            case first =>
              refine tree_region (S := (fun w' => (∀ b o, b < (Wa).heap.size → w'.cell? ⟨b, o, none⟩ = (Wa).cell? ⟨b, o, none⟩) ∧ (∀ b o, b < (Wa).heap.size → w'.frozen? ⟨b, o, none⟩ = (Wa).frozen? ⟨b, o, none⟩) ∧ Below (Wa).heap.size (Wa) w')) (.free 0 (.free 1 (.free 2 (.free 3 (.free 4 (.free 6 (.two 5 (.two 7 (.free 8 (.free 9 (.free 10 (.free 11 (.one 12 (.one 13 (.free 14 (.free 15 .done)))))))) 12 (.one 7 (.free 8 (.free 9 (.free 10 (.free 11 (.one 13 (.free 14 (.free 15 .done))))))))) 12 (.one 5 (.one 7 (.free 8 (.free 9 (.free 10 (.free 11 (.one 13 (.free 14 (.free 15 .done)))))))))))))))) (by kernel_rfl) (by kernel_rfl) (fun _ _ d _ _ h => by cases d <;> exact h) (keepW0 _) (fun hS => ?_)
              simp only [written, List.getElem?_cons_succ, List.getElem?_cons_zero]
              refine rw_free (v := ?_) (by rfl) ?_ ?_; rotate_left 1; focus (intro w hSw; (try dsimp only at hSw); go_simp; (try with_reducible rfl))
              (try simp only [Act.put, tA, tB, tC])
              refine rw_free (v := ?_) (by rfl) ?_ ?_; rotate_left 1; focus (intro w hSw; (try dsimp only at hSw); go_simp; (try with_reducible rfl))
              (try simp only [Act.put, tA, tB, tC])
              refine rw_free (v := ?_) (by rfl) ?_ ?_; rotate_left 1; focus (intro w hSw; (try dsimp only at hSw); go_simp; (try with_reducible rfl))
              (try simp only [Act.put, tA, tB, tC])
              refine rw_free (v := ?_) (by rfl) ?_ ?_; rotate_left 1; focus (intro w hSw; (try dsimp only at hSw); go_simp; (try with_reducible rfl))
              (try simp only [Act.put, tA, tB, tC])
              refine rw_free (v := ?_) (by rfl) ?_ ?_; rotate_left 1; focus (intro w hSw; (try dsimp only at hSw); go_simp; (try with_reducible rfl))
              (try simp only [Act.put, tA, tB, tC])
              refine rw_free (v := ?_) (by rfl) ?_ ?_; rotate_left 1; focus (intro w hSw; (try dsimp only at hSw); go_simp; (try with_reducible rfl))
              (try simp only [Act.put, tA, tB, tC])
              refine rw_two ?_ ?_
              · skip
                refine rw_call (by rfl) (fun K hK => ?_)
                go_simp
                (simp only [Hmk.out])
                (try go_wp2_with fail)
                refine hK.out _ _ ?_ (fun hS' => ?_)
                · (try dsimp only); first | exact keepW (by assumption) (by assumption) | exact keepB (by assumption) (by assumption) | exact keepA (by assumption) | assumption
                clear hS hK K
                have hS := hS'
                clear hS'
                (try simp only [Act.put, tA, tB, tC])
                refine rw_two ?_ ?_
                · skip
                  refine rw_call (by rfl) (fun K hK => ?_)
                  go_simp
                  (refine (HS.out _ _ _ _ (HL.out.below hS.2.2) (by first | with_reducible exact zrowN _ P (by omega) (by simp) | with_reducible exact zrowND _ P (by omega) (by simp) | with_reducible exact zrowNA _ _ P (by omega) (by simp) | with_reducible exact zrowNE _ _ P (by omega) (by simp)) (HI.out.below hS.2.2)).mono ?_; rintro e w5 ⟨⟨vl, vo, rfl, ho5, ho6⟩, hb5⟩; obtain ⟨A7, n7, rfl, -⟩ := owned_sl ho5; obtain ⟨A8, n8, rfl, -⟩ := owned_sl ho6)
                  (try go_wp2_with fail)
                  refine hK.out _ _ ?_ (fun hS' => ?_)
                  · (try dsimp only); first | exact keepW (by assumption) (by assumption) | exact keepB (by assumption) (by assumption) | exact keepA (by assumption) | assumption
                  clear hS hK K
                  have hS := hS'
                  clear hS'
                  (try simp only [Act.put, tA, tB, tC])
                  refine rw_free (v := ?_) (by rfl) ?_ ?_; rotate_left 1; focus (intro w hSw; (try dsimp only at hSw); go_simp; (try with_reducible rfl))
                  (try simp only [Act.put, tA, tB, tC])
                  refine rw_free (v := ?_) (by rfl) ?_ ?_; rotate_left 1; focus (intro w hSw; (try dsimp only at hSw); go_simp; (try with_reducible rfl))
                  (try simp only [Act.put, tA, tB, tC])
                  refine rw_free (v := ?_) (by rfl) ?_ ?_; rotate_left 1; focus (intro w hSw; (try dsimp only at hSw); go_simp; (try with_reducible rfl))
                  (try simp only [Act.put, tA, tB, tC])
                  refine rw_free (v := ?_) (by rfl) ?_ ?_; rotate_left 1; focus (intro w hSw; (try dsimp only at hSw); go_simp; (try with_reducible rfl))
                  (try simp only [Act.put, tA, tB, tC])
                  refine rw_call (by rfl) (fun K hK => ?_)
                  go_simp
                  (skip)
                  (try go_wp2_with fail)
                  refine hK.out _ _ ?_ (fun hS' => ?_)
                  · (try dsimp only); first | exact keepW (by assumption) (by assumption) | exact keepB (by assumption) (by assumption) | exact keepA (by assumption) | assumption
                  clear hS hK K
                  have hS := hS'
                  clear hS'
                  (try simp only [Act.put, tA, tB, tC])
                  first | (with_reducible have hs := (by first | exact RegBox.nx (zrA _ rfl) hb5 | exact RegBox.nx (zrB _ rfl) hb5 | exact RegBox.nx (zrC _ _ rfl) hb5 | exact RegBox.nx (zrD _ _ rfl) hb5 : RegBox w5 _ r0); (try simp only [World.size_alloc] at hs); have Hs := Lib.hid hs; obtain ⟨n0, n1, m0, m1⟩ := hs) | skip
                  refine rw_call (by rfl) (fun K hK => ?_)
                  go_simp
                  (skip)
                  (try go_wp2_with fail)
                  refine hK.out _ _ ?_ (fun hS' => ?_)
                  · (try dsimp only); first | (have _h := Hs.out; exact keepOf (RegBox.bel hS.2.2 ⟨F + 1, .slice A7 X.length n7⟩ (by first | exact Nat.le_refl _ | simp) rfl)) | exact keepOf (below_swap hS.2.2 (by have := hb5.size; simp at this; omega))
                  clear hS hK K
                  have hS := hS'
                  clear hS'
                  (try simp only [Act.put, tA, tB, tC])
                  refine rw_free (v := ?_) (by rfl) ?_ ?_; rotate_left 1; focus (intro w hSw; (try dsimp only at hSw); go_simp; (try with_reducible rfl))
                  (try simp only [Act.put, tA, tB, tC])
                  refine rw_free (v := ?_) (by rfl) ?_ ?_; rotate_left 1; focus (intro w hSw; (try dsimp only at hSw); go_simp; (try with_reducible rfl))
                  (try simp only [Act.put, tA, tB, tC])
                  refine rw_done ?_
                  (try clear n0 n1 m0 m1)
                  go_wp2_with fail
                  go_meet
                  exact ⟨_, A7, n7, A8, n8, rfl, rfl, rfl, (by first | (have _h := Hs.out; exact _h.put ⟨F + 1, .slice A7 X.length n7⟩) | exact RegBox.n1 _ ⟨F + 1, .slice A7 X.length n7⟩ _ rfl), (by first | (have _h := Hs.out; exact owned_sl (own_old2 ho5 (by simp <;> omega) _ _)) | exact (owned_sl ho5).below ((Below.refl _ _).alloc (Nat.le_refl _) _)), (by first | (have _h := Hs.out; exact owned_sl (own_old2 ho6 (by simp <;> omega) _ _)) | exact (owned_sl ho6).below ((Below.refl _ _).alloc (Nat.le_refl _) _)), hS.2.2⟩
                · skip
                  refine rw_call (by rfl) (fun K hK => ?_)
                  go_simp
                  (skip)
                  (try go_wp2_with fail)
                  refine hK.out _ _ ?_ (fun hS' => ?_)
                  · (try dsimp only); first | exact keepW (by assumption) (by assumption) | exact keepB (by assumption) (by assumption) | exact keepA (by assumption) | assumption
                  clear hS hK K
                  have hS := hS'
                  clear hS'
                  (try simp only [Act.put, tA, tB, tC])
                  refine rw_call (by rfl) (fun K hK => ?_)
                  go_simp
                  (refine (HS.out _ _ _ _ (HL.out.below hS.2.2) (by first | with_reducible exact zrowN _ P (by omega) (by simp) | with_reducible exact zrowND _ P (by omega) (by simp) | with_reducible exact zrowNA _ _ P (by omega) (by simp) | with_reducible exact zrowNE _ _ P (by omega) (by simp)) (HI.out.below hS.2.2)).mono ?_; rintro e w5 ⟨⟨vl, vo, rfl, ho5, ho6⟩, hb5⟩; obtain ⟨A7, n7, rfl, -⟩ := owned_sl ho5; obtain ⟨A8, n8, rfl, -⟩ := owned_sl ho6)
                  (try go_wp2_with fail)
                  refine hK.out _ _ ?_ (fun hS' => ?_)
                  · (try dsimp only); first | exact keepW (by assumption) (by assumption) | exact keepB (by assumption) (by assumption) | exact keepA (by assumption) | assumption
                  clear hS hK K
                  have hS := hS'
                  clear hS'
                  (try simp only [Act.put, tA, tB, tC])
                  refine rw_free (v := ?_) (by rfl) ?_ ?_; rotate_left 1; focus (intro w hSw; (try dsimp only at hSw); go_simp; (try with_reducible rfl))
                  (try simp only [Act.put, tA, tB, tC])
                  refine rw_free (v := ?_) (by rfl) ?_ ?_; rotate_left 1; focus (intro w hSw; (try dsimp only at hSw); go_simp; (try with_reducible rfl))
                  (try simp only [Act.put, tA, tB, tC])
                  refine rw_free (v := ?_) (by rfl) ?_ ?_; rotate_left 1; focus (intro w hSw; (try dsimp only at hSw); go_simp; (try with_reducible rfl))
                  (try simp only [Act.put, tA, tB, tC])
                  refine rw_free (v := ?_) (by rfl) ?_ ?_; rotate_left 1; focus (intro w hSw; (try dsimp only at hSw); go_simp; (try with_reducible rfl))
                  (try simp only [Act.put, tA, tB, tC])
                  first | (with_reducible have hs := (by first | exact RegBox.nx (zrA _ rfl) hb5 | exact RegBox.nx (zrB _ rfl) hb5 | exact RegBox.nx (zrC _ _ rfl) hb5 | exact RegBox.nx (zrD _ _ rfl) hb5 : RegBox w5 _ r0); (try simp only [World.size_alloc] at hs); have Hs := Lib.hid hs; obtain ⟨n0, n1, m0, m1⟩ := hs) | skip
                  refine rw_call (by rfl) (fun K hK => ?_)
                  go_simp
                  (skip)
                  (try go_wp2_with fail)
                  refine hK.out _ _ ?_ (fun hS' => ?_)
                  · (try dsimp only); first | (have _h := Hs.out; exact keepOf (RegBox.bel hS.2.2 ⟨F + 1, .slice A7 X.length n7⟩ (by first | exact Nat.le_refl _ | simp) rfl)) | exact keepOf (below_swap hS.2.2 (by have := hb5.size; simp at this; omega))
                  clear hS hK K
                  have hS := hS'
                  clear hS'
                  (try simp only [Act.put, tA, tB, tC])
                  refine rw_free (v := ?_) (by rfl) ?_ ?_; rotate_left 1; focus (intro w hSw; (try dsimp only at hSw); go_simp; (try with_reducible rfl))
                  (try simp only [Act.put, tA, tB, tC])
                  refine rw_free (v := ?_) (by rfl) ?_ ?_; rotate_left 1; focus (intro w hSw; (try dsimp only at hSw); go_simp; (try with_reducible rfl))
                  (try simp only [Act.put, tA, tB, tC])
                  refine rw_done ?_
                  (try clear n0 n1 m0 m1)
                  go_wp2_with fail
                  go_meet
                  exact ⟨_, A7, n7, A8, n8, rfl, rfl, rfl, (by first | (have _h := Hs.out; exact _h.put ⟨F + 1, .slice A7 X.length n7⟩) | exact RegBox.n1 _ ⟨F + 1, .slice A7 X.length n7⟩ _ rfl), (by first | (have _h := Hs.out; exact owned_sl (own_old2 ho5 (by simp <;> omega) _ _)) | exact (owned_sl ho5).below ((Below.refl _ _).alloc (Nat.le_refl _) _)), (by first | (have _h := Hs.out; exact owned_sl (own_old2 ho6 (by simp <;> omega) _ _)) | exact (owned_sl ho6).below ((Below.refl _ _).alloc (Nat.le_refl _) _)), hS.2.2⟩
              · skip
                refine rw_call (by rfl) (fun K hK => ?_)
                go_simp
                (skip)
                (try go_wp2_with fail)
                refine hK.out _ _ ?_ (fun hS' => ?_)
                · (try dsimp only); first | exact keepW (by assumption) (by assumption) | exact keepB (by assumption) (by assumption) | exact keepA (by assumption) | assumption
                clear hS hK K
                have hS := hS'
                clear hS'
                (try simp only [Act.put, tA, tB, tC])
                refine rw_call (by rfl) (fun K hK => ?_)
                go_simp
                (simp only [Hmk.out])
                (try go_wp2_with fail)
                refine hK.out _ _ ?_ (fun hS' => ?_)
                · (try dsimp only); first | exact keepW (by assumption) (by assumption) | exact keepB (by assumption) (by assumption) | exact keepA (by assumption) | assumption
                clear hS hK K
                have hS := hS'
                clear hS'
                (try simp only [Act.put, tA, tB, tC])
                refine rw_call (by rfl) (fun K hK => ?_)
                go_simp
                (refine (HS.out _ _ _ _ (HL.out.below hS.2.2) (by first | with_reducible exact zrowN _ P (by omega) (by simp) | with_reducible exact zrowND _ P (by omega) (by simp) | with_reducible exact zrowNA _ _ P (by omega) (by simp) | with_reducible exact zrowNE _ _ P (by omega) (by simp)) (HI.out.below hS.2.2)).mono ?_; rintro e w5 ⟨⟨vl, vo, rfl, ho5, ho6⟩, hb5⟩; obtain ⟨A7, n7, rfl, -⟩ := owned_sl ho5; obtain ⟨A8, n8, rfl, -⟩ := owned_sl ho6)
                (try go_wp2_with fail)
                refine hK.out _ _ ?_ (fun hS' => ?_)
                · (try dsimp only); first | exact keepW (by assumption) (by assumption) | exact keepB (by assumption) (by assumption) | exact keepA (by assumption) | assumption
                clear hS hK K
                have hS := hS'
                clear hS'
                (try simp only [Act.put, tA, tB, tC])
                refine rw_free (v := ?_) (by rfl) ?_ ?_; rotate_left 1; focus (intro w hSw; (try dsimp only at hSw); go_simp; (try with_reducible rfl))
                (try simp only [Act.put, tA, tB, tC])
                refine rw_free (v := ?_) (by rfl) ?_ ?_; rotate_left 1; focus (intro w hSw; (try dsimp only at hSw); go_simp; (try with_reducible rfl))
                (try simp only [Act.put, tA, tB, tC])
                refine rw_free (v := ?_) (by rfl) ?_ ?_; rotate_left 1; focus (intro w hSw; (try dsimp only at hSw); go_simp; (try with_reducible rfl))
                (try simp only [Act.put, tA, tB, tC])
                refine rw_free (v := ?_) (by rfl) ?_ ?_; rotate_left 1; focus (intro w hSw; (try dsimp only at hSw); go_simp; (try with_reducible rfl))
                (try simp only [Act.put, tA, tB, tC])
                first | (with_reducible have hs := (by first | exact RegBox.nx (zrA _ rfl) hb5 | exact RegBox.nx (zrB _ rfl) hb5 | exact RegBox.nx (zrC _ _ rfl) hb5 | exact RegBox.nx (zrD _ _ rfl) hb5 : RegBox w5 _ r0); (try simp only [World.size_alloc] at hs); have Hs := Lib.hid hs; obtain ⟨n0, n1, m0, m1⟩ := hs) | skip
                refine rw_call (by rfl) (fun K hK => ?_)
                go_simp
                (skip)
                (try go_wp2_with fail)
                refine hK.out _ _ ?_ (fun hS' => ?_)
                · (try dsimp only); first | (have _h := Hs.out; exact keepOf (RegBox.bel hS.2.2 ⟨F + 1, .slice A7 X.length n7⟩ (by first | exact Nat.le_refl _ | simp) rfl)) | exact keepOf (below_swap hS.2.2 (by have := hb5.size; simp at this; omega))
                clear hS hK K
                have hS := hS'
                clear hS'
                (try simp only [Act.put, tA, tB, tC])
                refine rw_free (v := ?_) (by rfl) ?_ ?_; rotate_left 1; focus (intro w hSw; (try dsimp only at hSw); go_simp; (try with_reducible rfl))
                (try simp only [Act.put, tA, tB, tC])
                refine rw_free (v := ?_) (by rfl) ?_ ?_; rotate_left 1; focus (intro w hSw; (try dsimp only at hSw); go_simp; (try with_reducible rfl))
                (try simp only [Act.put, tA, tB, tC])
                refine rw_done ?_
                (try clear n0 n1 m0 m1)
                go_wp2_with fail
                go_meet
                exact ⟨_, A7, n7, A8, n8, rfl, rfl, rfl, (by first | (have _h := Hs.out; exact _h.put ⟨F + 1, .slice A7 X.length n7⟩) | exact RegBox.n1 _ ⟨F + 1, .slice A7 X.length n7⟩ _ rfl), (by first | (have _h := Hs.out; exact owned_sl (own_old2 ho5 (by simp <;> omega) _ _)) | exact (owned_sl ho5).below ((Below.refl _ _).alloc (Nat.le_refl _) _)), (by first | (have _h := Hs.out; exact owned_sl (own_old2 ho6 (by simp <;> omega) _ _)) | exact (owned_sl ho6).below ((Below.refl _ _).alloc (Nat.le_refl _) _)), hS.2.2⟩
            case rest =>
              obtain ⟨be, A7, n7, A8, n8, rfl, rfl, rfl, hbe, hsx, hsy, hb⟩ := hcut
              have BE := Lib.hid hbe
              have HX := Lib.hid hsx
              have HY := Lib.hid hsy
              replace HB := Lib.hid (nextW HB.out hb)
              replace BC := Lib.hid (BC.out.nx hb)
              replace BG := Lib.hid (BG.out.nx hb)
              replace BS := Lib.hid (BS.out.nx hb)
              replace HL := Lib.hid (HL.out.below hb)
              replace HZ := Lib.hid (HZ.out.below hb)
              clear hbe hsx hsy hb g0 g1 g2 g3 g4 s0 s1 c0 c1 c2 c3 c4 hgl hsl hcl HS HI
              have HI := HZ
              have HS := HS2
              clear HS2
              obtain ⟨Wb, hWb⟩ : ∃ Wb, Wb = wc := ⟨_, rfl⟩
              subst hWb
              have hgl := BG.out.has
              have hsl := BS.out.has
              have hcl := BC.out.has
              obtain ⟨c0, c1, c2, c3, c4, -⟩ := BC.out
              obtain ⟨g0, g1, g2, g3, g4, -⟩ := BG.out
              obtain ⟨s0, s1, -⟩ := BS.out
              go_upto_region 21 with fail
              go_cut [25, 26, 27] (fun sA sB sC wx => ∃ blk A9 n9 Aa na, sA = .pointer (some ⟨blk, 0, none⟩) ∧ sB = .slice Aa Y.length na ∧ sC = .int .i64 0 ∧ RegBox wx blk ⟨F + 1, .slice A9 X.length n9⟩ ∧ IsSl entC wx (.slice A9 X.length n9) X ∧ IsSl crsC wx (.slice Aa Y.length na) Y ∧ Below Wb.heap.size Wb wx)
              case first =>
                refine tree_region (S := (fun w' => (∀ b o, b < (Wb).heap.size → w'.cell? ⟨b, o, none⟩ = (Wb).cell? ⟨b, o, none⟩) ∧ (∀ b o, b < (Wb).heap.size → w'.frozen? ⟨b, o, none⟩ = (Wb).frozen? ⟨b, o, none⟩) ∧ Below (Wb).heap.size (Wb) w')) (.free 0 (.free 1 (.free 2 (.free 3 (.free 4 (.free 6 (.two 5 (.two 7 (.free 8 (.free 9 (.free 10 (.free 11 (.one 12 (.one 13 (.free 14 (.free 15 .done)))))))) 12 (.one 7 (.free 8 (.free 9 (.free 10 (.free 11 (.one 13 (.free 14 (.free 15 .done))))))))) 12 (.one 5 (.one 7 (.free 8 (.free 9 (.free 10 (.free 11 (.one 13 (.free 14 (.free 15 .done)))))))))))))))) (by kernel_rfl) (by kernel_rfl) (fun _ _ d _ _ h => by cases d <;> exact h) (keepW0 _) (fun hS => ?_)
                simp only [written, List.getElem?_cons_succ, List.getElem?_cons_zero]
                refine rw_free (v := ?_) (by rfl) ?_ ?_; rotate_left 1; focus (intro w hSw; (try dsimp only at hSw); go_simp; (try with_reducible rfl))
                (try simp only [Act.put, tA, tB, tC])
                refine rw_free (v := ?_) (by rfl) ?_ ?_; rotate_left 1; focus (intro w hSw; (try dsimp only at hSw); go_simp; (try with_reducible rfl))
                (try simp only [Act.put, tA, tB, tC])
                refine rw_free (v := ?_) (by rfl) ?_ ?_; rotate_left 1; focus (intro w hSw; (try dsimp only at hSw); go_simp; (try with_reducible rfl))
                (try simp only [Act.put, tA, tB, tC])
                refine rw_free (v := ?_) (by rfl) ?_ ?_; rotate_left 1; focus (intro w hSw; (try dsimp only at hSw); go_simp; (try with_reducible rfl))
                (try simp only [Act.put, tA, tB, tC])
                refine rw_free (v := ?_) (by rfl) ?_ ?_; rotate_left 1; focus (intro w hSw; (try dsimp only at hSw); go_simp; (try with_reducible rfl))
                (try simp only [Act.put, tA, tB, tC])
                refine rw_free (v := ?_) (by rfl) ?_ ?_; rotate_left 1; focus (intro w hSw; (try dsimp only at hSw); go_simp; (try with_reducible rfl))
                (try simp only [Act.put, tA, tB, tC])
                refine rw_two ?_ ?_
                · skip
                  refine rw_call (by rfl) (fun K hK => ?_)
                  go_simp
                  (simp only [Hmk.out])
                  (try go_wp2_with fail)
                  refine hK.out _ _ ?_ (fun hS' => ?_)
                  · (try dsimp only); first | exact keepW (by assumption) (by assumption) | exact keepB (by assumption) (by assumption) | exact keepA (by assumption) | assumption
                  clear hS hK K
                  have hS := hS'
                  clear hS'
                  (try simp only [Act.put, tA, tB, tC])
                  refine rw_two ?_ ?_
                  · skip
                    refine rw_call (by rfl) (fun K hK => ?_)
                    go_simp
                    (refine (HS.out _ _ _ _ (HL.out.below hS.2.2) (by first | with_reducible exact zrowN _ P (by omega) (by simp) | with_reducible exact zrowND _ P (by omega) (by simp) | with_reducible exact zrowNA _ _ P (by omega) (by simp) | with_reducible exact zrowNE _ _ P (by omega) (by simp)) (HI.out.below hS.2.2)).mono ?_; rintro e w5 ⟨⟨vl, vo, rfl, ho5, ho6⟩, hb5⟩; obtain ⟨A9, n9, rfl, -⟩ := owned_sl ho5; obtain ⟨Aa, na, rfl, -⟩ := owned_sl ho6)
                    (try go_wp2_with fail)
                    refine hK.out _ _ ?_ (fun hS' => ?_)
                    · (try dsimp only); first | exact keepW (by assumption) (by assumption) | exact keepB (by assumption) (by assumption) | exact keepA (by assumption) | assumption
                    clear hS hK K
                    have hS := hS'
                    clear hS'
                    (try simp only [Act.put, tA, tB, tC])
                    refine rw_free (v := ?_) (by rfl) ?_ ?_; rotate_left 1; focus (intro w hSw; (try dsimp only at hSw); go_simp; (try with_reducible rfl))
                    (try simp only [Act.put, tA, tB, tC])
                    refine rw_free (v := ?_) (by rfl) ?_ ?_; rotate_left 1; focus (intro w hSw; (try dsimp only at hSw); go_simp; (try with_reducible rfl))
                    (try simp only [Act.put, tA, tB, tC])
                    refine rw_free (v := ?_) (by rfl) ?_ ?_; rotate_left 1; focus (intro w hSw; (try dsimp only at hSw); go_simp; (try with_reducible rfl))
                    (try simp only [Act.put, tA, tB, tC])
                    refine rw_free (v := ?_) (by rfl) ?_ ?_; rotate_left 1; focus (intro w hSw; (try dsimp only at hSw); go_simp; (try with_reducible rfl))
                    (try simp only [Act.put, tA, tB, tC])
                    refine rw_call (by rfl) (fun K hK => ?_)
                    go_simp
                    (skip)
                    (try go_wp2_with fail)
                    refine hK.out _ _ ?_ (fun hS' => ?_)
                    · (try dsimp only); first | exact keepW (by assumption) (by assumption) | exact keepB (by assumption) (by assumption) | exact keepA (by assumption) | assumption
                    clear hS hK K
                    have hS := hS'
                    clear hS'
                    (try simp only [Act.put, tA, tB, tC])
                    first | (with_reducible have hs := (by first | exact RegBox.nx (zrA _ rfl) hb5 | exact RegBox.nx (zrB _ rfl) hb5 | exact RegBox.nx (zrC _ _ rfl) hb5 | exact RegBox.nx (zrD _ _ rfl) hb5 : RegBox w5 _ r0); (try simp only [World.size_alloc] at hs); have Hs := Lib.hid hs; obtain ⟨n0, n1, m0, m1⟩ := hs) | skip
                    refine rw_call (by rfl) (fun K hK => ?_)
                    go_simp
                    (skip)
                    (try go_wp2_with fail)
                    refine hK.out _ _ ?_ (fun hS' => ?_)
                    · (try dsimp only); first | (have _h := Hs.out; exact keepOf (RegBox.bel hS.2.2 ⟨F + 1, .slice A9 X.length n9⟩ (by first | exact Nat.le_refl _ | simp) rfl)) | exact keepOf (below_swap hS.2.2 (by have := hb5.size; simp at this; omega))
                    clear hS hK K
                    have hS := hS'
                    clear hS'
                    (try simp only [Act.put, tA, tB, tC])
                    refine rw_free (v := ?_) (by rfl) ?_ ?_; rotate_left 1; focus (intro w hSw; (try dsimp only at hSw); go_simp; (try with_reducible rfl))
                    (try simp only [Act.put, tA, tB, tC])
                    refine rw_free (v := ?_) (by rfl) ?_ ?_; rotate_left 1; focus (intro w hSw; (try dsimp only at hSw); go_simp; (try with_reducible rfl))
                    (try simp only [Act.put, tA, tB, tC])
                    refine rw_done ?_
                    (try clear n0 n1 m0 m1)
                    go_wp2_with fail
                    go_meet
                    exact ⟨_, A9, n9, Aa, na, rfl, rfl, rfl, (by first | (have _h := Hs.out; exact _h.put ⟨F + 1, .slice A9 X.length n9⟩) | exact RegBox.n1 _ ⟨F + 1, .slice A9 X.length n9⟩ _ rfl), (by first | (have _h := Hs.out; exact owned_sl (own_old2 ho5 (by simp <;> omega) _ _)) | exact (owned_sl ho5).below ((Below.refl _ _).alloc (Nat.le_refl _) _)), (by first | (have _h := Hs.out; exact owned_sl (own_old2 ho6 (by simp <;> omega) _ _)) | exact (owned_sl ho6).below ((Below.refl _ _).alloc (Nat.le_refl _) _)), hS.2.2⟩
                  · skip
                    refine rw_call (by rfl) (fun K hK => ?_)
                    go_simp
                    (skip)
                    (try go_wp2_with fail)
                    refine hK.out _ _ ?_ (fun hS' => ?_)
                    · (try dsimp only); first | exact keepW (by assumption) (by assumption) | exact keepB (by assumption) (by assumption) | exact keepA (by assumption) | assumption
                    clear hS hK K
                    have hS := hS'
                    clear hS'
                    (try simp only [Act.put, tA, tB, tC])
                    refine rw_call (by rfl) (fun K hK => ?_)
                    go_simp
                    (refine (HS.out _ _ _ _ (HL.out.below hS.2.2) (by first | with_reducible exact zrowN _ P (by omega) (by simp) | with_reducible exact zrowND _ P (by omega) (by simp) | with_reducible exact zrowNA _ _ P (by omega) (by simp) | with_reducible exact zrowNE _ _ P (by omega) (by simp)) (HI.out.below hS.2.2)).mono ?_; rintro e w5 ⟨⟨vl, vo, rfl, ho5, ho6⟩, hb5⟩; obtain ⟨A9, n9, rfl, -⟩ := owned_sl ho5; obtain ⟨Aa, na, rfl, -⟩ := owned_sl ho6)
                    (try go_wp2_with fail)
                    refine hK.out _ _ ?_ (fun hS' => ?_)
                    · (try dsimp only); first | exact keepW (by assumption) (by assumption) | exact keepB (by assumption) (by assumption) | exact keepA (by assumption) | assumption
                    clear hS hK K
                    have hS := hS'
                    clear hS'
                    (try simp only [Act.put, tA, tB, tC])
                    refine rw_free (v := ?_) (by rfl) ?_ ?_; rotate_left 1; focus (intro w hSw; (try dsimp only at hSw); go_simp; (try with_reducible rfl))
                    (try simp only [Act.put, tA, tB, tC])
                    refine rw_free (v := ?_) (by rfl) ?_ ?_; rotate_left 1; focus (intro w hSw; (try dsimp only at hSw); go_simp; (try with_reducible rfl))
                    (try simp only [Act.put, tA, tB, tC])
                    refine rw_free (v := ?_) (by rfl) ?_ ?_; rotate_left 1; focus (intro w hSw; (try dsimp only at hSw); go_simp; (try with_reducible rfl))
                    (try simp only [Act.put, tA, tB, tC])
                    refine rw_free (v := ?_) (by rfl) ?_ ?_; rotate_left 1; focus (intro w hSw; (try dsimp only at hSw); go_simp; (try with_reducible rfl))
                    (try simp only [Act.put, tA, tB, tC])
                    first | (with_reducible have hs := (by first | exact RegBox.nx (zrA _ rfl) hb5 | exact RegBox.nx (zrB _ rfl) hb5 | exact RegBox.nx (zrC _ _ rfl) hb5 | exact RegBox.nx (zrD _ _ rfl) hb5 : RegBox w5 _ r0); (try simp only [World.size_alloc] at hs); have Hs := Lib.hid hs; obtain ⟨n0, n1, m0, m1⟩ := hs) | skip
                    refine rw_call (by rfl) (fun K hK => ?_)
                    go_simp
                    (skip)
                    (try go_wp2_with fail)
                    refine hK.out _ _ ?_ (fun hS' => ?_)
                    · (try dsimp only); first | (have _h := Hs.out; exact keepOf (RegBox.bel hS.2.2 ⟨F + 1, .slice A9 X.length n9⟩ (by first | exact Nat.le_refl _ | simp) rfl)) | exact keepOf (below_swap hS.2.2 (by have := hb5.size; simp at this; omega))
                    clear hS hK K
                    have hS := hS'
                    clear hS'
                    (try simp only [Act.put, tA, tB, tC])
                    refine rw_free (v := ?_) (by rfl) ?_ ?_; rotate_left 1; focus (intro w hSw; (try dsimp only at hSw); go_simp; (try with_reducible rfl))
                    (try simp only [Act.put, tA, tB, tC])
                    refine rw_free (v := ?_) (by rfl) ?_ ?_; rotate_left 1; focus (intro w hSw; (try dsimp only at hSw); go_simp; (try with_reducible rfl))
                    (try simp only [Act.put, tA, tB, tC])
                    refine rw_done ?_
                    (try clear n0 n1 m0 m1)
                    go_wp2_with fail
                    go_meet
                    exact ⟨_, A9, n9, Aa, na, rfl, rfl, rfl, (by first | (have _h := Hs.out; exact _h.put ⟨F + 1, .slice A9 X.length n9⟩) | exact RegBox.n1 _ ⟨F + 1, .slice A9 X.length n9⟩ _ rfl), (by first | (have _h := Hs.out; exact owned_sl (own_old2 ho5 (by simp <;> omega) _ _)) | exact (owned_sl ho5).below ((Below.refl _ _).alloc (Nat.le_refl _) _)), (by first | (have _h := Hs.out; exact owned_sl (own_old2 ho6 (by simp <;> omega) _ _)) | exact (owned_sl ho6).below ((Below.refl _ _).alloc (Nat.le_refl _) _)), hS.2.2⟩
                · skip
                  refine rw_call (by rfl) (fun K hK => ?_)
                  go_simp
                  (skip)
                  (try go_wp2_with fail)
                  refine hK.out _ _ ?_ (fun hS' => ?_)
                  · (try dsimp only); first | exact keepW (by assumption) (by assumption) | exact keepB (by assumption) (by assumption) | exact keepA (by assumption) | assumption
                  clear hS hK K
                  have hS := hS'
                  clear hS'
                  (try simp only [Act.put, tA, tB, tC])
                  refine rw_call (by rfl) (fun K hK => ?_)
                  go_simp
                  (simp only [Hmk.out])
                  (try go_wp2_with fail)
                  refine hK.out _ _ ?_ (fun hS' => ?_)
                  · (try dsimp only); first | exact keepW (by assumption) (by assumption) | exact keepB (by assumption) (by assumption) | exact keepA (by assumption) | assumption
                  clear hS hK K
                  have hS := hS'
                  clear hS'
                  (try simp only [Act.put, tA, tB, tC])
                  refine rw_call (by rfl) (fun K hK => ?_)
                  go_simp
                  (refine (HS.out _ _ _ _ (HL.out.below hS.2.2) (by first | with_reducible exact zrowN _ P (by omega) (by simp) | with_reducible exact zrowND _ P (by omega) (by simp) | with_reducible exact zrowNA _ _ P (by omega) (by simp) | with_reducible exact zrowNE _ _ P (by omega) (by simp)) (HI.out.below hS.2.2)).mono ?_; rintro e w5 ⟨⟨vl, vo, rfl, ho5, ho6⟩, hb5⟩; obtain ⟨A9, n9, rfl, -⟩ := owned_sl ho5; obtain ⟨Aa, na, rfl, -⟩ := owned_sl ho6)
                  (try go_wp2_with fail)
                  refine hK.out _ _ ?_ (fun hS' => ?_)
                  · (try dsimp only); first | exact keepW (by assumption) (by assumption) | exact keepB (by assumption) (by assumption) | exact keepA (by assumption) | assumption
                  clear hS hK K
                  have hS := hS'
                  clear hS'
                  (try simp only [Act.put, tA, tB, tC])
                  refine rw_free (v := ?_) (by rfl) ?_ ?_; rotate_left 1; focus (intro w hSw; (try dsimp only at hSw); go_simp; (try with_reducible rfl))
                  (try simp only [Act.put, tA, tB, tC])
                  refine rw_free (v := ?_) (by rfl) ?_ ?_; rotate_left 1; focus (intro w hSw; (try dsimp only at hSw); go_simp; (try with_reducible rfl))
                  (try simp only [Act.put, tA, tB, tC])
                  refine rw_free (v := ?_) (by rfl) ?_ ?_; rotate_left 1; focus (intro w hSw; (try dsimp only at hSw); go_simp; (try with_reducible rfl))
                  (try simp only [Act.put, tA, tB, tC])
                  refine rw_free (v := ?_) (by rfl) ?_ ?_; rotate_left 1; focus (intro w hSw; (try dsimp only at hSw); go_simp; (try with_reducible rfl))
                  (try simp only [Act.put, tA, tB, tC])
                  first | (with_reducible have hs := (by first | exact RegBox.nx (zrA _ rfl) hb5 | exact RegBox.nx (zrB _ rfl) hb5 | exact RegBox.nx (zrC _ _ rfl) hb5 | exact RegBox.nx (zrD _ _ rfl) hb5 : RegBox w5 _ r0); (try simp only [World.size_alloc] at hs); have Hs := Lib.hid hs; obtain ⟨n0, n1, m0, m1⟩ := hs) | skip
                  refine rw_call (by rfl) (fun K hK => ?_)
                  go_simp
                  (skip)
                  (try go_wp2_with fail)
                  refine hK.out _ _ ?_ (fun hS' => ?_)
                  · (try dsimp only); first | (have _h := Hs.out; exact keepOf (RegBox.bel hS.2.2 ⟨F + 1, .slice A9 X.length n9⟩ (by first | exact Nat.le_refl _ | simp) rfl)) | exact keepOf (below_swap hS.2.2 (by have := hb5.size; simp at this; omega))
                  clear hS hK K
                  have hS := hS'
                  clear hS'
                  (try simp only [Act.put, tA, tB, tC])
                  refine rw_free (v := ?_) (by rfl) ?_ ?_; rotate_left 1; focus (intro w hSw; (try dsimp only at hSw); go_simp; (try with_reducible rfl))
                  (try simp only [Act.put, tA, tB, tC])
                  refine rw_free (v := ?_) (by rfl) ?_ ?_; rotate_left 1; focus (intro w hSw; (try dsimp only at hSw); go_simp; (try with_reducible rfl))
                  (try simp only [Act.put, tA, tB, tC])
                  refine rw_done ?_
                  (try clear n0 n1 m0 m1)
                  go_wp2_with fail
                  go_meet
                  exact ⟨_, A9, n9, Aa, na, rfl, rfl, rfl, (by first | (have _h := Hs.out; exact _h.put ⟨F + 1, .slice A9 X.length n9⟩) | exact RegBox.n1 _ ⟨F + 1, .slice A9 X.length n9⟩ _ rfl), (by first | (have _h := Hs.out; exact owned_sl (own_old2 ho5 (by simp <;> omega) _ _)) | exact (owned_sl ho5).below ((Below.refl _ _).alloc (Nat.le_refl _) _)), (by first | (have _h := Hs.out; exact owned_sl (own_old2 ho6 (by simp <;> omega) _ _)) | exact (owned_sl ho6).below ((Below.refl _ _).alloc (Nat.le_refl _) _)), hS.2.2⟩
              case rest =>
                obtain ⟨bf, A9, n9, Aa, na, rfl, rfl, rfl, hbf, hsx, hsy, hb⟩ := hcut
                have BF := Lib.hid hbf
                have HX2 := Lib.hid hsx
                have HY2 := Lib.hid hsy
                replace HB := Lib.hid (nextW HB.out hb)
                replace BE := Lib.hid (BE.out.nx hb)
                replace HX := Lib.hid (HX.out.below hb)
                replace HY := Lib.hid (HY.out.below hb)
                clear hbf hsx hsy hb g0 g1 g2 g3 g4 s0 s1 c0 c1 c2 c3 c4 hgl hsl hcl HS HI HZ BC BG BS HL
                have hpl := BE.out.has
                have hul := BF.out.has
                obtain ⟨p0, p1, -⟩ := BE.out
                obtain ⟨u0, u1, -⟩ := BF.out
                go_wp2_with fail
                refine (sregion_any _ _ _ X _ HX.out HX2.out (by have := HlX.out; omega)).mono ?_
                rintro e W8 ⟨rfl, hb⟩
                replace HB := Lib.hid (nextW HB.out hb)
                replace HY := Lib.hid (HY.out.below hb)
                replace HY2 := Lib.hid (HY2.out.below hb)
                clear hb p0 p1 u0 u1 hpl hul BE BF HX HX2
                go_wp2_with fail
                refine (plain_Crs _ _ Y _ HY.out HY2.out (by have := HlY.out; omega)).mono ?_
                rintro e W9 ⟨rfl, hb⟩
                replace HB := Lib.hid (nextW HB.out hb)
                clear hb
                go_wp2
                go_ret
                exact ⟨rfl, HB.out⟩

set_option maxRecDepth 100000 in
theorem lifted (os : Os) (started : os.Started) (H : Type) (enc : TypeId × Value → H) :
    ReturnsInHanded {} Tryz.checked os 5 .any (Rows.regionBlastsSpec.pre6 enc Tryz.prog Tryz.f5 Rows.regionBlastsRow.domain false) (Rows.regionBlastsSpec.post enc Tryz.prog Tryz.f5 false true false false) := by
  refine returnsInHanded_of_change (C := Tryz.checked) own started (by kernel_rfl) Tryz.func5
    (ChangeSpec.witness6 (enc := enc) (C := Tryz.checked) false ⟨#[], #[.agg #[.int .i64 0, .int .i64 0, .int .i64 0, .int .i64 0, .int .u64 0], .int .i64 0, .int .i64 0, .slice none 0 0, .slice none 0 0, .slice none 0 0], []⟩ 8 (by kernel_rfl) (by kernel_rfl) (by kernel_rfl) (by kernel_rfl)) ?_
  intro W base args ds gs before hval0 hW hcnd _
  have hval : ∀ (j : Nat) t v, Tryz.f5.params[j]? = some t → args[j]? = some v → Value.okWide Tryz.prog W .any base t v := hval0
  have hW' := hW
  obtain ⟨p, q, hA0, hV, rfl, hfz, hnd⟩ := hW
  have hA : DataW.TrodAll enc Tryz.prog W 0 (fun _ => true) true Tryz.f5.params.toList args.toList ds p := hA0
  rw [Tryz.params5] at hA hval
  obtain ⟨v0, vs0, d0, ds0, p0, q0, hargs, rfl, rfl, h0, r0⟩ := trodAll_cons hA
  obtain ⟨v1, vs1, d1, ds1, p1, q1, rfl, rfl, rfl, h1, r1⟩ := trodAll_cons r0
  obtain ⟨v2, vs2, d2, ds2, p2, q2, rfl, rfl, rfl, h2, r2⟩ := trodAll_cons r1
  obtain ⟨v3, vs3, d3, ds3, p3, q3, rfl, rfl, rfl, h3, r3⟩ := trodAll_cons r2
  obtain ⟨v4, vs4, d4, ds4, p4, q4, rfl, rfl, rfl, h4, r4⟩ := trodAll_cons r3
  obtain ⟨v5, vs5, d5, ds5, p5, q5, rfl, rfl, rfl, h5, r5⟩ := trodAll_cons r4
  obtain ⟨rfl, rfl, rfl⟩ := trodAll_nil r5
  obtain rfl : args = #[v0, v1, v2, v3, v4, v5] := by cases args; simp_all
  obtain ⟨rfl, rfl⟩ := trodVars_none hV
  obtain ⟨cs0, rfl, -⟩ := okWide_struct Tryz.underlying24 (hval 0 24 v0 rfl rfl)
  have k0 := h0
  have lt0 : ∀ x ∈ p0, x.block < W.heap.size := by obtain ⟨m, hm⟩ := k0; exact DataW.trod_lt m _ _ _ hm
  obtain ⟨fuel0, hf0⟩ := h0
  obtain ⟨l0⟩ := cs0
  obtain ⟨a0_0, a0_1, a0_2, a0_3, a0_4, rfl, w0_0, w0_1, w0_2, w0_3, w0_4⟩ := open_T24 (cs := l0) hf0
  obtain ⟨a1, rfl, rfl, rfl, w1⟩ := open_int Tryz.underlying3 (hval 1 3 v1 rfl rfl) h1
  obtain ⟨a2, rfl, rfl, rfl, w2⟩ := open_int Tryz.underlying3 (hval 2 3 v2 rfl rfl) h2
  obtain ⟨A3, len3, cap3, rfl⟩ := okWide_slice Tryz.underlying25 (hval 3 25 v3 rfl rfl)
  have k3 := h3
  have lt3 : ∀ x ∈ p3, x.block < W.heap.size := by obtain ⟨m, hm⟩ := k3; exact DataW.trod_lt m _ _ _ hm
  obtain ⟨l3, w3, o3⟩ : ∃ l : List Fx.Ent, Fx.IsSl Fx.entC W (.slice A3 len3 cap3) l ∧ ∀ e ∈ l, Fx.Ent.ok e := by
    obtain ⟨fuel, hf⟩ := h3
    exact open_sl25 hf
  obtain ⟨A4, len4, cap4, rfl⟩ := okWide_slice Tryz.underlying27 (hval 4 27 v4 rfl rfl)
  have k4 := h4
  have lt4 : ∀ x ∈ p4, x.block < W.heap.size := by obtain ⟨m, hm⟩ := k4; exact DataW.trod_lt m _ _ _ hm
  obtain ⟨l4, w4, o4⟩ : ∃ l : List Fx.Crs, Fx.IsSl Fx.crsC W (.slice A4 len4 cap4) l ∧ ∀ e ∈ l, Fx.Crs.ok e := by
    obtain ⟨fuel, hf⟩ := h4
    exact open_sl27 hf
  obtain ⟨a5, len5, cap5, rfl⟩ := okWide_slice Tryz.underlying52 (hval 5 52 v5 rfl rfl)
  have k5 := h5
  have lt5 : ∀ x ∈ p5, x.block < W.heap.size := by obtain ⟨m, hm⟩ := k5; exact DataW.trod_lt m _ _ _ hm
  obtain ⟨z5, w5⟩ : ∃ zs, IsRow .i64 W a5 len5 cap5 zs := by
    obtain ⟨fuel, hf⟩ := h5
    rcases open_ints Tryz.underlying52 Tryz.underlying3 (by kernel_rfl) hf with ⟨hcs, _⟩ | ⟨x, l, c, zs, hcs, _, hl, hm, hz, _, hcell, hwz⟩
    · simp [Value.cells] at hcs
      obtain ⟨rfl, rfl, rfl⟩ := hcs
      exact ⟨[], .inl ⟨rfl, rfl, rfl, rfl⟩⟩
    · simp [Value.cells] at hcs
      obtain ⟨rfl, rfl, rfl⟩ := hcs
      exact ⟨zs, .inr ⟨_, rfl, hl, hm, by simpa using hz, hcell, hwz⟩⟩
  clear hA0 hval0
  refine (walk a0_0 a0_1 a0_2 a0_3 a0_4 a1 a2 _ l3 _ l4 a5 len5 cap5 z5 W w0_0 w0_1 w0_2 w0_3 w0_4 w1 w2 w3 o3 w4 o4 w5).mono fun e W' ⟨he, bel⟩ => ?_
  subst he
  exact ⟨_, rfl, _, _, _, [], _, [], hW', trodAll_mk1 (shut_bool Tryz.underlying4 _), (trodAll_cons_mk (Below.trod laidOut (by kernel_rfl) (of_decide_eq_true (by kernel_rfl)) k0 bel lt0) (trodAll_cons_mk (shut_int Tryz.underlying3 w1) (trodAll_cons_mk (shut_int Tryz.underlying3 w2) (trodAll_cons_mk (Below.trod laidOut (by kernel_rfl) (of_decide_eq_true (by kernel_rfl)) k3 bel lt3) (trodAll_cons_mk (Below.trod laidOut (by kernel_rfl) (of_decide_eq_true (by kernel_rfl)) k4 bel lt4) (trodAll_cons_mk (Below.trod laidOut (by kernel_rfl) (of_decide_eq_true (by kernel_rfl)) k5 bel lt5) trodAll_mk0)))))), rfl, bel.frame _, fun h => by cases h⟩

theorem over : Rows.regionBlastsRow.holds Tryz.pinned (OpenSpec.ofChange Rows.regionBlastsSpec) :=
  OpenClaim.holds_of_wide 5 Tryz.f5 rfl rfl rfl rfl rfl rfl rfl ⟨rfl, rfl, rfl, rfl, rfl⟩ rfl rfl rfl rfl rfl (by kernel_rfl) Tryz.func5 (by kernel_rfl)
    (of_decide_eq_true (by kernel_rfl)) (by unfold Func.isWrapper; first | (rw [if_pos (by decide +kernel)]; kernel_rfl) | (rw [if_neg (by decide +kernel)]; exact ⟨rfl, rfl⟩))
    (fun os started H enc _ => lifted os started H enc)

end Go.Proofs.YtbblpnmcbifocaaGreat.regionBlasts
namespace Go.Proofs.YtbblpnmcbifocaaGreat
theorem regionBlasts_proved : Rows.RegionBlastsSaid := regionBlasts.over
end Go.Proofs.YtbblpnmcbifocaaGreat
