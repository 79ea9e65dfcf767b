/- joustlaw06.CrossTells returns true for every input; no conditions. -/
import Derived.Test.YtbmboidmgdpnoaaCrAwake
import Derived.Test.YtbmboidmgdpnoaaCrRightR
import Derived.Test.YtbmboidmgdpnoaaCrRef
import Derived.Test.YtbmboidmgdpnoaaGOwnTCross
import Derived.Test.YtbmboidmgdpnoaaGrNew
import Derived.Test.YtbmboidmgdpnoaaRows
import Derived.WalkKit
import Derived.ProofKit
import Derived.OpenShut
import Derived.ShutString
import Derived.ChangeOld
import Derived.Below
import Derived.Deep.Slices
namespace Go.Proofs.Ytbmboidmgdpnoaa.crossTells
open Go.ChangeShapes Go.WideShapes Go.ChangeAt Go.RowKit
open Go.ChangeMaps (open_string shut_string)
set_option linter.unusedVariables false

theorem own : ownKnob Try.prog.godebug = none := by kernel_rfl
theorem laidOut : laidOutB Try.prog = true := by kernel_rfl
open Fx (IsRow)
theorem open_T24 {H : Type} {enc : TypeId × Value → H} {W : World} {fuel : Nat} {cs : List Value} {x : DataW H × List MemPlace} (h : DataW.trod enc Try.prog W 0 (fun _ => true) true fuel 24 cs = some x) :
    ∃ (a0 : Int) (a1 : Int) (a2 : Int) (a3 : Int) (a4 : Int), cs = [.int .i64 a0, .int .i64 a1, .int .i64 a2, .int .i64 a3, .int .u64 a4] ∧ (Lit.int .i64 a0).wf = true ∧ (Lit.int .i64 a1).wf = true ∧ (Lit.int .i64 a2).wf = true ∧ (Lit.int .i64 a3).wf = true ∧ (Lit.int .u64 a4).wf = true := by
  obtain ⟨xs, n, -, -, hl, hxl, hg⟩ := DataW.trod_struct Try.underlying24 h
  have hl' : cs.length = 5 := hl.trans (by kernel_rfl)
  have c3 : Try.prog.cellsOf 3 = 1 := by kernel_rfl
  have c22 : Try.prog.cellsOf 22 = 1 := by kernel_rfl
  clear hl h
  match cs, hl' with
  | [z0, z1, z2, z3, z4], _ =>
    have g0 : DataW.trod enc Try.prog W 0 (fun _ => true) true n 3 (([z0, z1, z2, z3, z4].drop 0).take (Try.prog.cellsOf 3)) = xs[0]? := hg 0 _ rfl
    rw [c3, List.getElem?_eq_getElem (show 0 < xs.length by rw [hxl]; decide)] at g0
    have g1 : DataW.trod enc Try.prog W 0 (fun _ => true) true n 3 (([z0, z1, z2, z3, z4].drop 1).take (Try.prog.cellsOf 3)) = xs[1]? := hg 1 _ rfl
    rw [c3, List.getElem?_eq_getElem (show 1 < xs.length by rw [hxl]; decide)] at g1
    have g2 : DataW.trod enc Try.prog W 0 (fun _ => true) true n 3 (([z0, z1, z2, z3, z4].drop 2).take (Try.prog.cellsOf 3)) = xs[2]? := hg 2 _ rfl
    rw [c3, List.getElem?_eq_getElem (show 2 < xs.length by rw [hxl]; decide)] at g2
    have g3 : DataW.trod enc Try.prog W 0 (fun _ => true) true n 3 (([z0, z1, z2, z3, z4].drop 3).take (Try.prog.cellsOf 3)) = xs[3]? := hg 3 _ rfl
    rw [c3, List.getElem?_eq_getElem (show 3 < xs.length by rw [hxl]; decide)] at g3
    have g4 : DataW.trod enc Try.prog W 0 (fun _ => true) true n 22 (([z0, z1, z2, z3, z4].drop 4).take (Try.prog.cellsOf 22)) = xs[4]? := hg 4 _ rfl
    rw [c22, List.getElem?_eq_getElem (show 4 < xs.length by rw [hxl]; decide)] at g4
    obtain ⟨a0, e0, -, w0⟩ := DataW.trod_int (cs := [z0]) Try.underlying3 g0
    simp only [List.cons.injEq, and_true] at e0
    subst e0
    clear g0
    obtain ⟨a1, e1, -, w1⟩ := DataW.trod_int (cs := [z1]) Try.underlying3 g1
    simp only [List.cons.injEq, and_true] at e1
    subst e1
    clear g1
    obtain ⟨a2, e2, -, w2⟩ := DataW.trod_int (cs := [z2]) Try.underlying3 g2
    simp only [List.cons.injEq, and_true] at e2
    subst e2
    clear g2
    obtain ⟨a3, e3, -, w3⟩ := DataW.trod_int (cs := [z3]) Try.underlying3 g3
    simp only [List.cons.injEq, and_true] at e3
    subst e3
    clear g3
    obtain ⟨a4, e4, -, w4⟩ := DataW.trod_int (cs := [z4]) Try.underlying22 g4
    simp only [List.cons.injEq, and_true] at e4
    subst e4
    clear g4
    exact ⟨a0, a1, a2, a3, a4, rfl, w0, w1, w2, w3, w4⟩

theorem open_T26 {H : Type} {enc : TypeId × Value → H} {W : World} {fuel : Nat} {cs : List Value} {x : DataW H × List MemPlace} (h : DataW.trod enc Try.prog W 0 (fun _ => true) true fuel 26 cs = some x) :
    ∃ (a0 : Int) (a1 : Int) (a2 : Int) (a3 : Int) (a4 : Int) (a5 : Int) (a6 : Int) (a7 : Int) (a8 : Int), cs = [.int .i64 a0, .int .i64 a1, .int .i64 a2, .int .i64 a3, .int .i64 a4, .int .i64 a5, .int .i64 a6, .int .i64 a7, .int .i64 a8] ∧ (Lit.int .i64 a0).wf = true ∧ (Lit.int .i64 a1).wf = true ∧ (Lit.int .i64 a2).wf = true ∧ (Lit.int .i64 a3).wf = true ∧ (Lit.int .i64 a4).wf = true ∧ (Lit.int .i64 a5).wf = true ∧ (Lit.int .i64 a6).wf = true ∧ (Lit.int .i64 a7).wf = true ∧ (Lit.int .i64 a8).wf = true := by
  obtain ⟨xs, n, -, -, hl, hxl, hg⟩ := DataW.trod_struct Try.underlying26 h
  have hl' : cs.length = 9 := hl.trans (by kernel_rfl)
  have c3 : Try.prog.cellsOf 3 = 1 := by kernel_rfl
  clear hl h
  match cs, hl' with
  | [z0, z1, z2, z3, z4, z5, z6, z7, z8], _ =>
    have g0 : DataW.trod enc Try.prog W 0 (fun _ => true) true n 3 (([z0, z1, z2, z3, z4, z5, z6, z7, z8].drop 0).take (Try.prog.cellsOf 3)) = xs[0]? := hg 0 _ rfl
    rw [c3, List.getElem?_eq_getElem (show 0 < xs.length by rw [hxl]; decide)] at g0
    have g1 : DataW.trod enc Try.prog W 0 (fun _ => true) true n 3 (([z0, z1, z2, z3, z4, z5, z6, z7, z8].drop 1).take (Try.prog.cellsOf 3)) = xs[1]? := hg 1 _ rfl
    rw [c3, List.getElem?_eq_getElem (show 1 < xs.length by rw [hxl]; decide)] at g1
    have g2 : DataW.trod enc Try.prog W 0 (fun _ => true) true n 3 (([z0, z1, z2, z3, z4, z5, z6, z7, z8].drop 2).take (Try.prog.cellsOf 3)) = xs[2]? := hg 2 _ rfl
    rw [c3, List.getElem?_eq_getElem (show 2 < xs.length by rw [hxl]; decide)] at g2
    have g3 : DataW.trod enc Try.prog W 0 (fun _ => true) true n 3 (([z0, z1, z2, z3, z4, z5, z6, z7, z8].drop 3).take (Try.prog.cellsOf 3)) = xs[3]? := hg 3 _ rfl
    rw [c3, List.getElem?_eq_getElem (show 3 < xs.length by rw [hxl]; decide)] at g3
    have g4 : DataW.trod enc Try.prog W 0 (fun _ => true) true n 3 (([z0, z1, z2, z3, z4, z5, z6, z7, z8].drop 4).take (Try.prog.cellsOf 3)) = xs[4]? := hg 4 _ rfl
    rw [c3, List.getElem?_eq_getElem (show 4 < xs.length by rw [hxl]; decide)] at g4
    have g5 : DataW.trod enc Try.prog W 0 (fun _ => true) true n 3 (([z0, z1, z2, z3, z4, z5, z6, z7, z8].drop 5).take (Try.prog.cellsOf 3)) = xs[5]? := hg 5 _ rfl
    rw [c3, List.getElem?_eq_getElem (show 5 < xs.length by rw [hxl]; decide)] at g5
    have g6 : DataW.trod enc Try.prog W 0 (fun _ => true) true n 3 (([z0, z1, z2, z3, z4, z5, z6, z7, z8].drop 6).take (Try.prog.cellsOf 3)) = xs[6]? := hg 6 _ rfl
    rw [c3, List.getElem?_eq_getElem (show 6 < xs.length by rw [hxl]; decide)] at g6
    have g7 : DataW.trod enc Try.prog W 0 (fun _ => true) true n 3 (([z0, z1, z2, z3, z4, z5, z6, z7, z8].drop 7).take (Try.prog.cellsOf 3)) = xs[7]? := hg 7 _ rfl
    rw [c3, List.getElem?_eq_getElem (show 7 < xs.length by rw [hxl]; decide)] at g7
    have g8 : DataW.trod enc Try.prog W 0 (fun _ => true) true n 3 (([z0, z1, z2, z3, z4, z5, z6, z7, z8].drop 8).take (Try.prog.cellsOf 3)) = xs[8]? := hg 8 _ rfl
    rw [c3, List.getElem?_eq_getElem (show 8 < xs.length by rw [hxl]; decide)] at g8
    obtain ⟨a0, e0, -, w0⟩ := DataW.trod_int (cs := [z0]) Try.underlying3 g0
    simp only [List.cons.injEq, and_true] at e0
    subst e0
    clear g0
    obtain ⟨a1, e1, -, w1⟩ := DataW.trod_int (cs := [z1]) Try.underlying3 g1
    simp only [List.cons.injEq, and_true] at e1
    subst e1
    clear g1
    obtain ⟨a2, e2, -, w2⟩ := DataW.trod_int (cs := [z2]) Try.underlying3 g2
    simp only [List.cons.injEq, and_true] at e2
    subst e2
    clear g2
    obtain ⟨a3, e3, -, w3⟩ := DataW.trod_int (cs := [z3]) Try.underlying3 g3
    simp only [List.cons.injEq, and_true] at e3
    subst e3
    clear g3
    obtain ⟨a4, e4, -, w4⟩ := DataW.trod_int (cs := [z4]) Try.underlying3 g4
    simp only [List.cons.injEq, and_true] at e4
    subst e4
    clear g4
    obtain ⟨a5, e5, -, w5⟩ := DataW.trod_int (cs := [z5]) Try.underlying3 g5
    simp only [List.cons.injEq, and_true] at e5
    subst e5
    clear g5
    obtain ⟨a6, e6, -, w6⟩ := DataW.trod_int (cs := [z6]) Try.underlying3 g6
    simp only [List.cons.injEq, and_true] at e6
    subst e6
    clear g6
    obtain ⟨a7, e7, -, w7⟩ := DataW.trod_int (cs := [z7]) Try.underlying3 g7
    simp only [List.cons.injEq, and_true] at e7
    subst e7
    clear g7
    obtain ⟨a8, e8, -, w8⟩ := DataW.trod_int (cs := [z8]) Try.underlying3 g8
    simp only [List.cons.injEq, and_true] at e8
    subst e8
    clear g8
    exact ⟨a0, a1, a2, a3, a4, a5, a6, a7, a8, rfl, w0, w1, w2, w3, w4, w5, w6, w7, w8⟩

theorem open_T28 {H : Type} {enc : TypeId × Value → H} {W : World} {fuel : Nat} {cs : List Value} {x : DataW H × List MemPlace} (h : DataW.trod enc Try.prog W 0 (fun _ => true) true fuel 28 cs = some x) :
    ∃ (a0 : Int) (a1 : Int) (a2 : Int) (a3 : Int) (a4 : Int) (a5 : Int) (a6 : Int) (a7 : Int) (a8 : Int) (a9 : Int) (a10 : Int) (a11 : Int) (a12 : Int) (a13 : Int) (a14 : Int), cs = [.int .i64 a0, .int .i64 a1, .int .i64 a2, .int .i64 a3, .int .i64 a4, .int .i64 a5, .int .i64 a6, .int .i64 a7, .int .i64 a8, .int .i64 a9, .int .i64 a10, .int .i64 a11, .int .i64 a12, .int .i64 a13, .int .i64 a14] ∧ (Lit.int .i64 a0).wf = true ∧ (Lit.int .i64 a1).wf = true ∧ (Lit.int .i64 a2).wf = true ∧ (Lit.int .i64 a3).wf = true ∧ (Lit.int .i64 a4).wf = true ∧ (Lit.int .i64 a5).wf = true ∧ (Lit.int .i64 a6).wf = true ∧ (Lit.int .i64 a7).wf = true ∧ (Lit.int .i64 a8).wf = true ∧ (Lit.int .i64 a9).wf = true ∧ (Lit.int .i64 a10).wf = true ∧ (Lit.int .i64 a11).wf = true ∧ (Lit.int .i64 a12).wf = true ∧ (Lit.int .i64 a13).wf = true ∧ (Lit.int .i64 a14).wf = true := by
  obtain ⟨xs, n, -, -, hl, hxl, hg⟩ := DataW.trod_struct Try.underlying28 h
  have hl' : cs.length = 15 := hl.trans (by kernel_rfl)
  have c3 : Try.prog.cellsOf 3 = 1 := by kernel_rfl
  have c26 : Try.prog.cellsOf 26 = 9 := by kernel_rfl
  clear hl h
  match cs, hl' with
  | [z0, z1, z2, z3, z4, z5, z6, z7, z8, z9, z10, z11, z12, z13, z14], _ =>
    have g0 : DataW.trod enc Try.prog W 0 (fun _ => true) true n 3 (([z0, z1, z2, z3, z4, z5, z6, z7, z8, z9, z10, z11, z12, z13, z14].drop 0).take (Try.prog.cellsOf 3)) = xs[0]? := hg 0 _ rfl
    rw [c3, List.getElem?_eq_getElem (show 0 < xs.length by rw [hxl]; decide)] at g0
    have g1 : DataW.trod enc Try.prog W 0 (fun _ => true) true n 3 (([z0, z1, z2, z3, z4, z5, z6, z7, z8, z9, z10, z11, z12, z13, z14].drop 1).take (Try.prog.cellsOf 3)) = xs[1]? := hg 1 _ rfl
    rw [c3, List.getElem?_eq_getElem (show 1 < xs.length by rw [hxl]; decide)] at g1
    have g2 : DataW.trod enc Try.prog W 0 (fun _ => true) true n 3 (([z0, z1, z2, z3, z4, z5, z6, z7, z8, z9, z10, z11, z12, z13, z14].drop 2).take (Try.prog.cellsOf 3)) = xs[2]? := hg 2 _ rfl
    rw [c3, List.getElem?_eq_getElem (show 2 < xs.length by rw [hxl]; decide)] at g2
    have g3 : DataW.trod enc Try.prog W 0 (fun _ => true) true n 3 (([z0, z1, z2, z3, z4, z5, z6, z7, z8, z9, z10, z11, z12, z13, z14].drop 3).take (Try.prog.cellsOf 3)) = xs[3]? := hg 3 _ rfl
    rw [c3, List.getElem?_eq_getElem (show 3 < xs.length by rw [hxl]; decide)] at g3
    have g4 : DataW.trod enc Try.prog W 0 (fun _ => true) true n 26 (([z0, z1, z2, z3, z4, z5, z6, z7, z8, z9, z10, z11, z12, z13, z14].drop 4).take (Try.prog.cellsOf 26)) = xs[4]? := hg 4 _ rfl
    rw [c26, List.getElem?_eq_getElem (show 4 < xs.length by rw [hxl]; decide)] at g4
    have g5 : DataW.trod enc Try.prog W 0 (fun _ => true) true n 3 (([z0, z1, z2, z3, z4, z5, z6, z7, z8, z9, z10, z11, z12, z13, z14].drop 13).take (Try.prog.cellsOf 3)) = xs[5]? := hg 5 _ rfl
    rw [c3, List.getElem?_eq_getElem (show 5 < xs.length by rw [hxl]; decide)] at g5
    have g6 : DataW.trod enc Try.prog W 0 (fun _ => true) true n 3 (([z0, z1, z2, z3, z4, z5, z6, z7, z8, z9, z10, z11, z12, z13, z14].drop 14).take (Try.prog.cellsOf 3)) = xs[6]? := hg 6 _ rfl
    rw [c3, List.getElem?_eq_getElem (show 6 < xs.length by rw [hxl]; decide)] at g6
    obtain ⟨a0, e0, -, w0⟩ := DataW.trod_int (cs := [z0]) Try.underlying3 g0
    simp only [List.cons.injEq, and_true] at e0
    subst e0
    clear g0
    obtain ⟨a1, e1, -, w1⟩ := DataW.trod_int (cs := [z1]) Try.underlying3 g1
    simp only [List.cons.injEq, and_true] at e1
    subst e1
    clear g1
    obtain ⟨a2, e2, -, w2⟩ := DataW.trod_int (cs := [z2]) Try.underlying3 g2
    simp only [List.cons.injEq, and_true] at e2
    subst e2
    clear g2
    obtain ⟨a3, e3, -, w3⟩ := DataW.trod_int (cs := [z3]) Try.underlying3 g3
    simp only [List.cons.injEq, and_true] at e3
    subst e3
    clear g3
    obtain ⟨a4, a5, a6, a7, a8, a9, a10, a11, a12, e4, w4, w5, w6, w7, w8, w9, w10, w11, w12⟩ := open_T26 (cs := [z4, z5, z6, z7, z8, z9, z10, z11, z12]) g4
    simp only [List.cons.injEq, and_true] at e4
    obtain ⟨rfl, rfl, rfl, rfl, rfl, rfl, rfl, rfl, rfl⟩ := e4
    clear g4
    obtain ⟨a13, e5, -, w13⟩ := DataW.trod_int (cs := [z13]) Try.underlying3 g5
    simp only [List.cons.injEq, and_true] at e5
    subst e5
    clear g5
    obtain ⟨a14, e6, -, w14⟩ := DataW.trod_int (cs := [z14]) Try.underlying3 g6
    simp only [List.cons.injEq, and_true] at e6
    subst e6
    clear g6
    exact ⟨a0, a1, a2, a3, a4, a5, a6, a7, a8, a9, a10, a11, a12, a13, a14, rfl, w0, w1, w2, w3, w4, w5, w6, w7, w8, w9, w10, w11, w12, w13, w14⟩

theorem open_sl29 {H : Type} {enc : TypeId × Value → H} {W : World} {fuel : Nat} {v : Value} {x : DataW H × List MemPlace} (h : DataW.trod enc Try.prog W 0 (fun _ => true) true fuel 29 [v] = some x) :
    ∃ l : List Fx.Crs, Fx.IsSl Fx.crsC W v l ∧ ∀ e ∈ l, Fx.Crs.ok e := by
  rcases Go.Deep.open_slice Try.underlying29 h with ⟨hcs, _⟩ | ⟨a, len, cap, m, n, D, Pl, hcs, _, hl, hm, hmm, _, hel⟩
  · simp at hcs
    subst hcs
    exact ⟨[], Fx.IsSl.nil _ _, by simp⟩
  · simp at hcs
    subst hcs
    have hmc : m = cap := hmm
    have hce : Try.prog.cellsOf 28 = 15 := by kernel_rfl
    refine Fx.sl_of_cells (base := 0) default 15 Fx.crsC_len (by omega) hl fun i hi => ?_
    obtain ⟨cs', hc, ht⟩ := hel i (by omega)
    rw [hce] at hc
    obtain ⟨a0, a1, a2, a3, a4, a5, a6, a7, a8, a9, a10, a11, a12, a13, a14, rfl, w0, w1, w2, w3, w4, w5, w6, w7, w8, w9, w10, w11, w12, w13, w14⟩ := open_T28 ht
    exact ⟨⟨a0, a1, a2, a3, ⟨a4, a5, a6, a7, a8, a9, a10, a11, a12⟩, a13, a14⟩, ⟨w0, w1, w2, w3, w4, w5, w6, w7, w8, w9, w10, w11, w12, w13, w14⟩, hc⟩

open Fx

def c71 : Crs := ⟨0, 0, 71, 0, ⟨0, 0, 0, 0, 0, 0, 0, 0, 0⟩, 0, 0⟩

theorem nr_no {a b p n : Int} (h : rt a b p n = false) (r : Int) : nr a b p n r = [] := by
  unfold nr
  rw [if_neg]
  intro hh
  have := (hasB_rt hh).1
  rw [h] at this
  cases this

theorem flat_two (a b : List Crs) : ([a, b] : List (List Crs)).flatten = a ++ b := by simp

/-- grid.New: a grid on which the same messages are right. -/
theorem new_cr (a b p n s : Int) (c : Crs) (w : World) :
    Calls Try.prog 10 #[.agg #[.int .i64 a, .int .i64 b, .int .i64 p, .int .i64 n, .int .u64 s]] w fun e w' => ∃ ga gb gp gn gs q, e = .returned (.tuple #[.agg #[.int .i64 ga, .int .i64 gb, .int .i64 gp, .int .i64 gn, .int .u64 gs], .int .i64 q]) ∧ crightB ga gb gp gn c = crightB a b p n c ∧ Below w.heap.size w w' := by
  by_cases h : rt a b p n = true
  · exact (new_yes a b p n s w h).mono fun e w' ⟨h1, h2⟩ => ⟨a, b, p, n, s, 0, h1, rfl, h2⟩
  · rw [Bool.not_eq_true] at h
    refine (new_no a b p n s w h).mono fun e w' ⟨h1, h2⟩ => ⟨0, 0, 0, 0, 0, 10, h1, ?_, h2⟩
    unfold crightB
    rw [nr_no h, nr_no (show rt 0 0 0 0 = false from by decide)]
    rfl

set_option maxRecDepth 100000 in
set_option maxHeartbeats 8000000 in
theorem walk (a0_0 : Int) (a0_1 : Int) (a0_2 : Int) (a0_3 : Int) (a0_4 : Int) (a1 : Fx.Crs) (a2 : Fx.Crs) (v3 : Value) (l3 : List Fx.Crs) (v4 : Value) (l4 : List Fx.Crs) (a5 : Int) (w : World) (w0_0 : (Lit.int .i64 a0_0).wf = true) (w0_1 : (Lit.int .i64 a0_1).wf = true) (w0_2 : (Lit.int .i64 a0_2).wf = true) (w0_3 : (Lit.int .i64 a0_3).wf = true) (w0_4 : (Lit.int .u64 a0_4).wf = true) (w1 : Fx.Crs.ok a1) (w2 : Fx.Crs.ok a2) (w3 : Fx.IsSl Fx.crsC w v3 l3) (k3 : ∀ e ∈ l3, Fx.Crs.ok e) (w4 : Fx.IsSl Fx.crsC w v4 l4) (k4 : ∀ e ∈ l4, Fx.Crs.ok e) (w5 : (Lit.int .i64 a5).wf = true) :
    Calls Try.prog 3 #[.agg #[.int .i64 a0_0, .int .i64 a0_1, .int .i64 a0_2, .int .i64 a0_3, .int .u64 a0_4], .agg #[.int .i64 a1.kind, .int .i64 a1.src, .int .i64 a1.dst, .int .i64 a1.frame, .int .i64 a1.e.id, .int .i64 a1.e.kind, .int .i64 a1.e.x, .int .i64 a1.e.y, .int .i64 a1.e.vx, .int .i64 a1.e.vy, .int .i64 a1.e.health, .int .i64 a1.e.age, .int .i64 a1.e.owner, .int .i64 a1.x, .int .i64 a1.y], .agg #[.int .i64 a2.kind, .int .i64 a2.src, .int .i64 a2.dst, .int .i64 a2.frame, .int .i64 a2.e.id, .int .i64 a2.e.kind, .int .i64 a2.e.x, .int .i64 a2.e.y, .int .i64 a2.e.vx, .int .i64 a2.e.vy, .int .i64 a2.e.health, .int .i64 a2.e.age, .int .i64 a2.e.owner, .int .i64 a2.x, .int .i64 a2.y], v3, v4, .int .i64 a5] w fun e w' => e = .returned (.bool true) ∧ Below w.heap.size w w' := by
  clear w0_0 w0_1 w0_2 w0_3 w0_4 w1 w2 k3 k4 w5
  have HV3 := Lib.hid w3
  have HV4 := Lib.hid w4
  obtain ⟨A, c, rfl, -, -, -⟩ := w3
  obtain ⟨B, d, rfl, -, -, -⟩ := w4
  have HA := Lib.hid awake_cr
  have HC := Lib.hid csort_any
  have HL := Lib.hid (less_any a1 a2)
  have HRL := Lib.hid (rless_any a1 a2)
  have HT := Lib.hid cto_any
  have HRT := Lib.hid rto_any
  have HRS := Lib.hid rsort_any
  have HP := Lib.hid plain_Crs
  have HKp := Lib.hid kept_Crs
  obtain ⟨n, hnn⟩ : ∃ n, l3.length = n := ⟨_, rfl⟩
  obtain ⟨m, hmm⟩ : ∃ m, l4.length = m := ⟨_, rfl⟩
  rw [hnn] at HV3 ⊢
  rw [hmm] at HV4 ⊢
  have Hn := Lib.hid hnn
  have Hm := Lib.hid hmm
  clear hnn hmm
  by_cases h1 : n ≤ 40
  · have hd1 : decide ((40 : Int) < (n : Int)) = false := decide_eq_false (by omega)
    by_cases h2 : m ≤ 40
    · have hd2 : decide ((40 : Int) < (m : Int)) = false := decide_eq_false (by omega)
      go_enter Try.func3, Try.ntmps3
      go_wp2_with fail
      refine (new_cr _ _ _ _ _ a1 _).mono ?_
      rintro e v1 ⟨ga, gb, gp, gn, gs, gq, rfl, hG, hb1⟩
      have HG := Lib.hid hG
      have Hb1 := Lib.hid hb1
      have hz1 : w.heap.size + 1 + 1 < v1.heap.size := by have := hb1.size; simp at this; omega
      clear hb1 hG
      have HB0 := Lib.hid (show Below w.heap.size w (v1.alloc (.cells #[.int .i64 ga, .int .i64 gb, .int .i64 gp, .int .i64 gn, .int .u64 gs] 32)) from (unbox (unbox (unbox Hb1.out))).alloc (by omega) _)
      go_wp2_with fail
      refine (own_Crs _ l3 c71 _ (HV3.out.below HB0.out) (by have := Hn.out; omega)).mono ?_
      rintro e v2 ⟨g1, rfl, hbo, hg1, hblk⟩
      rw [Hn.out]
      have HbG := Lib.hid hbo
      have HK1 := Lib.hid hblk
      have HB2 := Lib.hid (nextW HB0.out hbo)
      clear hbo hblk HB0
      go_wp2_with (at_builtin; go_must (refine appL_Crs (by rfl) (.const (.slice none 0 0)) (.tmp 34) (by rfl) v2.heap.size _ [] (by rfl) ⟨rfl, .inl ⟨rfl, rfl⟩⟩ _ l3 (by rfl) (HV3.out.below HB2.out) (by have := Hn.out; simp; omega) (Nat.le_refl _) ?_))
      intro vA v3 ho3 hb3 hg3
      have HO3 := Lib.hid (show v3.ownsRow v2.heap.size 28 15 vA l3.length (l3.flatMap crsC) from by simpa using ho3)
      have HB3 := Lib.hid (nextW HB2.out hb3)
      have Hb23 := Lib.hid hb3
      have hz3 : v2.heap.size ≤ v3.heap.size := hb3.size
      clear ho3 hb3 hg3
      go_wp2_with (at_builtin; go_must (refine appL_Crs (by rfl) (.tmp 35) (.tmp 36) (by rfl) v2.heap.size _ l3 (by rfl) HO3.out _ l4 (by rfl) (HV4.out.below HB3.out) (by have := Hn.out; have := Hm.out; omega) hz3 ?_))
      intro vB v4 ho4 hb4 hg4
      have HOB := Lib.hid (owned_sl (show v4.ownsRow v2.heap.size 28 15 vB (l3 ++ l4).length ((l3 ++ l4).flatMap crsC) from by simpa using ho4))
      have Hv24 := Lib.hid (show Below v2.heap.size v2 v4 from Hb23.out.trans hb4)
      have HB4 := Lib.hid (nextW HB2.out Hv24.out)
      have HBW := Lib.hid (nextW HbG.out Hv24.out)
      have HKb := Lib.hid (HK1.out.below Hv24.out HK1.out.lt)
      clear ho4 hb4 hg4 HO3 HB3 Hb23
      have hcell : ∀ b o, b < v1.heap.size → v4.cell? ⟨b, o, none⟩ = v1.cell? ⟨b, o, none⟩ := fun b o hb => by rw [HBW.out.cell (p := ⟨b, o, none⟩) (by simp; omega), World.cell?_alloc_lt _ _ _ hb]
      have cc0 : (v4).cell? ⟨w.heap.size, 0, none⟩ = some (.int .i64 a0_0) := by rw [hcell _ _ (by omega), Hb1.out.cell (p := ⟨w.heap.size, _, none⟩) (by simp; omega), World.cell?_alloc_lt _ _ _ (by simp; omega), World.cell?_alloc_lt _ _ _ (by simp), cell_box _ _ _ _ _ rfl]; rfl
      have cc1 : (v4).cell? ⟨w.heap.size, 1, none⟩ = some (.int .i64 a0_1) := by rw [hcell _ _ (by omega), Hb1.out.cell (p := ⟨w.heap.size, _, none⟩) (by simp; omega), World.cell?_alloc_lt _ _ _ (by simp; omega), World.cell?_alloc_lt _ _ _ (by simp), cell_box _ _ _ _ _ rfl]; rfl
      have cc2 : (v4).cell? ⟨w.heap.size, 2, none⟩ = some (.int .i64 a0_2) := by rw [hcell _ _ (by omega), Hb1.out.cell (p := ⟨w.heap.size, _, none⟩) (by simp; omega), World.cell?_alloc_lt _ _ _ (by simp; omega), World.cell?_alloc_lt _ _ _ (by simp), cell_box _ _ _ _ _ rfl]; rfl
      have cc3 : (v4).cell? ⟨w.heap.size, 3, none⟩ = some (.int .i64 a0_3) := by rw [hcell _ _ (by omega), Hb1.out.cell (p := ⟨w.heap.size, _, none⟩) (by simp; omega), World.cell?_alloc_lt _ _ _ (by simp; omega), World.cell?_alloc_lt _ _ _ (by simp), cell_box _ _ _ _ _ rfl]; rfl
      have cc4 : (v4).cell? ⟨w.heap.size, 4, none⟩ = some (.int .u64 a0_4) := by rw [hcell _ _ (by omega), Hb1.out.cell (p := ⟨w.heap.size, _, none⟩) (by simp; omega), World.cell?_alloc_lt _ _ _ (by simp; omega), World.cell?_alloc_lt _ _ _ (by simp), cell_box _ _ _ _ _ rfl]; rfl
      have y0 : v4.cell? ⟨w.heap.size + 1, 0, none⟩ = some (.int .i64 a1.kind) := by rw [hcell _ _ (by omega), Hb1.out.cell (p := ⟨w.heap.size + 1, _, none⟩) (by simp), World.cell?_alloc_lt _ _ _ (by simp), cell_box _ _ _ _ _ (by simp)]; rfl
      have y1 : v4.cell? ⟨w.heap.size + 1, 1, none⟩ = some (.int .i64 a1.src) := by rw [hcell _ _ (by omega), Hb1.out.cell (p := ⟨w.heap.size + 1, _, none⟩) (by simp), World.cell?_alloc_lt _ _ _ (by simp), cell_box _ _ _ _ _ (by simp)]; rfl
      have y2 : v4.cell? ⟨w.heap.size + 1, 2, none⟩ = some (.int .i64 a1.dst) := by rw [hcell _ _ (by omega), Hb1.out.cell (p := ⟨w.heap.size + 1, _, none⟩) (by simp), World.cell?_alloc_lt _ _ _ (by simp), cell_box _ _ _ _ _ (by simp)]; rfl
      have y3 : v4.cell? ⟨w.heap.size + 1, 3, none⟩ = some (.int .i64 a1.frame) := by rw [hcell _ _ (by omega), Hb1.out.cell (p := ⟨w.heap.size + 1, _, none⟩) (by simp), World.cell?_alloc_lt _ _ _ (by simp), cell_box _ _ _ _ _ (by simp)]; rfl
      have y4 : v4.cell? ⟨w.heap.size + 1, 4, none⟩ = some (.int .i64 a1.e.id) := by rw [hcell _ _ (by omega), Hb1.out.cell (p := ⟨w.heap.size + 1, _, none⟩) (by simp), World.cell?_alloc_lt _ _ _ (by simp), cell_box _ _ _ _ _ (by simp)]; rfl
      have y5 : v4.cell? ⟨w.heap.size + 1, 5, none⟩ = some (.int .i64 a1.e.kind) := by rw [hcell _ _ (by omega), Hb1.out.cell (p := ⟨w.heap.size + 1, _, none⟩) (by simp), World.cell?_alloc_lt _ _ _ (by simp), cell_box _ _ _ _ _ (by simp)]; rfl
      have y6 : v4.cell? ⟨w.heap.size + 1, 6, none⟩ = some (.int .i64 a1.e.x) := by rw [hcell _ _ (by omega), Hb1.out.cell (p := ⟨w.heap.size + 1, _, none⟩) (by simp), World.cell?_alloc_lt _ _ _ (by simp), cell_box _ _ _ _ _ (by simp)]; rfl
      have y7 : v4.cell? ⟨w.heap.size + 1, 7, none⟩ = some (.int .i64 a1.e.y) := by rw [hcell _ _ (by omega), Hb1.out.cell (p := ⟨w.heap.size + 1, _, none⟩) (by simp), World.cell?_alloc_lt _ _ _ (by simp), cell_box _ _ _ _ _ (by simp)]; rfl
      have y8 : v4.cell? ⟨w.heap.size + 1, 8, none⟩ = some (.int .i64 a1.e.vx) := by rw [hcell _ _ (by omega), Hb1.out.cell (p := ⟨w.heap.size + 1, _, none⟩) (by simp), World.cell?_alloc_lt _ _ _ (by simp), cell_box _ _ _ _ _ (by simp)]; rfl
      have y9 : v4.cell? ⟨w.heap.size + 1, 9, none⟩ = some (.int .i64 a1.e.vy) := by rw [hcell _ _ (by omega), Hb1.out.cell (p := ⟨w.heap.size + 1, _, none⟩) (by simp), World.cell?_alloc_lt _ _ _ (by simp), cell_box _ _ _ _ _ (by simp)]; rfl
      have y10 : v4.cell? ⟨w.heap.size + 1, 10, none⟩ = some (.int .i64 a1.e.health) := by rw [hcell _ _ (by omega), Hb1.out.cell (p := ⟨w.heap.size + 1, _, none⟩) (by simp), World.cell?_alloc_lt _ _ _ (by simp), cell_box _ _ _ _ _ (by simp)]; rfl
      have y11 : v4.cell? ⟨w.heap.size + 1, 11, none⟩ = some (.int .i64 a1.e.age) := by rw [hcell _ _ (by omega), Hb1.out.cell (p := ⟨w.heap.size + 1, _, none⟩) (by simp), World.cell?_alloc_lt _ _ _ (by simp), cell_box _ _ _ _ _ (by simp)]; rfl
      have y12 : v4.cell? ⟨w.heap.size + 1, 12, none⟩ = some (.int .i64 a1.e.owner) := by rw [hcell _ _ (by omega), Hb1.out.cell (p := ⟨w.heap.size + 1, _, none⟩) (by simp), World.cell?_alloc_lt _ _ _ (by simp), cell_box _ _ _ _ _ (by simp)]; rfl
      have y13 : v4.cell? ⟨w.heap.size + 1, 13, none⟩ = some (.int .i64 a1.x) := by rw [hcell _ _ (by omega), Hb1.out.cell (p := ⟨w.heap.size + 1, _, none⟩) (by simp), World.cell?_alloc_lt _ _ _ (by simp), cell_box _ _ _ _ _ (by simp)]; rfl
      have y14 : v4.cell? ⟨w.heap.size + 1, 14, none⟩ = some (.int .i64 a1.y) := by rw [hcell _ _ (by omega), Hb1.out.cell (p := ⟨w.heap.size + 1, _, none⟩) (by simp), World.cell?_alloc_lt _ _ _ (by simp), cell_box _ _ _ _ _ (by simp)]; rfl
      have z0 : v4.cell? ⟨w.heap.size + 1 + 1, 0, none⟩ = some (.int .i64 a2.kind) := by rw [hcell _ _ (by omega), Hb1.out.cell (p := ⟨w.heap.size + 1 + 1, _, none⟩) (by simp), cell_box _ _ _ _ _ (by simp)]; rfl
      have z1 : v4.cell? ⟨w.heap.size + 1 + 1, 1, none⟩ = some (.int .i64 a2.src) := by rw [hcell _ _ (by omega), Hb1.out.cell (p := ⟨w.heap.size + 1 + 1, _, none⟩) (by simp), cell_box _ _ _ _ _ (by simp)]; rfl
      have z2 : v4.cell? ⟨w.heap.size + 1 + 1, 2, none⟩ = some (.int .i64 a2.dst) := by rw [hcell _ _ (by omega), Hb1.out.cell (p := ⟨w.heap.size + 1 + 1, _, none⟩) (by simp), cell_box _ _ _ _ _ (by simp)]; rfl
      have z3 : v4.cell? ⟨w.heap.size + 1 + 1, 3, none⟩ = some (.int .i64 a2.frame) := by rw [hcell _ _ (by omega), Hb1.out.cell (p := ⟨w.heap.size + 1 + 1, _, none⟩) (by simp), cell_box _ _ _ _ _ (by simp)]; rfl
      have z4 : v4.cell? ⟨w.heap.size + 1 + 1, 4, none⟩ = some (.int .i64 a2.e.id) := by rw [hcell _ _ (by omega), Hb1.out.cell (p := ⟨w.heap.size + 1 + 1, _, none⟩) (by simp), cell_box _ _ _ _ _ (by simp)]; rfl
      have z5 : v4.cell? ⟨w.heap.size + 1 + 1, 5, none⟩ = some (.int .i64 a2.e.kind) := by rw [hcell _ _ (by omega), Hb1.out.cell (p := ⟨w.heap.size + 1 + 1, _, none⟩) (by simp), cell_box _ _ _ _ _ (by simp)]; rfl
      have z6 : v4.cell? ⟨w.heap.size + 1 + 1, 6, none⟩ = some (.int .i64 a2.e.x) := by rw [hcell _ _ (by omega), Hb1.out.cell (p := ⟨w.heap.size + 1 + 1, _, none⟩) (by simp), cell_box _ _ _ _ _ (by simp)]; rfl
      have z7 : v4.cell? ⟨w.heap.size + 1 + 1, 7, none⟩ = some (.int .i64 a2.e.y) := by rw [hcell _ _ (by omega), Hb1.out.cell (p := ⟨w.heap.size + 1 + 1, _, none⟩) (by simp), cell_box _ _ _ _ _ (by simp)]; rfl
      have z8 : v4.cell? ⟨w.heap.size + 1 + 1, 8, none⟩ = some (.int .i64 a2.e.vx) := by rw [hcell _ _ (by omega), Hb1.out.cell (p := ⟨w.heap.size + 1 + 1, _, none⟩) (by simp), cell_box _ _ _ _ _ (by simp)]; rfl
      have z9 : v4.cell? ⟨w.heap.size + 1 + 1, 9, none⟩ = some (.int .i64 a2.e.vy) := by rw [hcell _ _ (by omega), Hb1.out.cell (p := ⟨w.heap.size + 1 + 1, _, none⟩) (by simp), cell_box _ _ _ _ _ (by simp)]; rfl
      have z10 : v4.cell? ⟨w.heap.size + 1 + 1, 10, none⟩ = some (.int .i64 a2.e.health) := by rw [hcell _ _ (by omega), Hb1.out.cell (p := ⟨w.heap.size + 1 + 1, _, none⟩) (by simp), cell_box _ _ _ _ _ (by simp)]; rfl
      have z11 : v4.cell? ⟨w.heap.size + 1 + 1, 11, none⟩ = some (.int .i64 a2.e.age) := by rw [hcell _ _ (by omega), Hb1.out.cell (p := ⟨w.heap.size + 1 + 1, _, none⟩) (by simp), cell_box _ _ _ _ _ (by simp)]; rfl
      have z12 : v4.cell? ⟨w.heap.size + 1 + 1, 12, none⟩ = some (.int .i64 a2.e.owner) := by rw [hcell _ _ (by omega), Hb1.out.cell (p := ⟨w.heap.size + 1 + 1, _, none⟩) (by simp), cell_box _ _ _ _ _ (by simp)]; rfl
      have z13 : v4.cell? ⟨w.heap.size + 1 + 1, 13, none⟩ = some (.int .i64 a2.x) := by rw [hcell _ _ (by omega), Hb1.out.cell (p := ⟨w.heap.size + 1 + 1, _, none⟩) (by simp), cell_box _ _ _ _ _ (by simp)]; rfl
      have z14 : v4.cell? ⟨w.heap.size + 1 + 1, 14, none⟩ = some (.int .i64 a2.y) := by rw [hcell _ _ (by omega), Hb1.out.cell (p := ⟨w.heap.size + 1 + 1, _, none⟩) (by simp), cell_box _ _ _ _ _ (by simp)]; rfl
      have cg0 : (v4).cell? ⟨v1.heap.size, 0, none⟩ = some (.int .i64 ga) := by rw [HBW.out.cell (p := ⟨v1.heap.size, _, none⟩) (by simp)]; simp
      have cg1 : (v4).cell? ⟨v1.heap.size, 1, none⟩ = some (.int .i64 gb) := by rw [HBW.out.cell (p := ⟨v1.heap.size, _, none⟩) (by simp)]; simp
      have cg2 : (v4).cell? ⟨v1.heap.size, 2, none⟩ = some (.int .i64 gp) := by rw [HBW.out.cell (p := ⟨v1.heap.size, _, none⟩) (by simp)]; simp
      have cg3 : (v4).cell? ⟨v1.heap.size, 3, none⟩ = some (.int .i64 gn) := by rw [HBW.out.cell (p := ⟨v1.heap.size, _, none⟩) (by simp)]; simp
      have cg4 : (v4).cell? ⟨v1.heap.size, 4, none⟩ = some (.int .u64 gs) := by rw [HBW.out.cell (p := ⟨v1.heap.size, _, none⟩) (by simp)]; simp
      have hsG : v1.heap.size < v4.heap.size := by have := HBW.out.size; simp at this; omega
      have hs0 : w.heap.size < v4.heap.size := by omega
      have hs1 : w.heap.size + 1 < v4.heap.size := by omega
      have hs2 : w.heap.size + 1 + 1 < v4.heap.size := by omega
      have HIn := Lib.hid (show IsSl crsC v4 (.slice (some ⟨g1, 0, none⟩) n (n + 3)) l3 from by have h := OwnedCrs.sl (w' := v4) HKb.out; rwa [Hn.out] at h)
      have HV3r := Lib.hid (HV3.out.below HB4.out)
      have HV4r := Lib.hid (HV4.out.below HB4.out)
      have HR := Lib.hid (fun w => rcross_any a0_0 a0_1 a0_2 a0_3 a0_4 a1 w)
      have HR1 := Lib.hid (fun w => cright_any ga gb gp gn gs a1 w)
      rw [HG.out] at HR1
      have hln : l3.length ≤ 40 := by have := Hn.out; omega
      have hlm : (l3 ++ l4).length ≤ 80 := by rw [List.length_append]; have := Hn.out; have := Hm.out; omega
      have HTl := Lib.hid (show (toL l3 a5).length ≤ 40 from Nat.le_trans (List.length_filter_le _ _) hln)
      have HSl := Lib.hid (show (st lessB (l3 ++ l4)).length ≤ 80 from by rw [st_length]; exact hlm)
      obtain ⟨C, e', hvB, -, -, -⟩ := HOB.out
      rw [hvB] at HOB ⊢
      have hlm2 : (l3 ++ l4).length ≤ 1000 := by omega
      have Hlm := Lib.hid hlm
      obtain ⟨N, hN⟩ : ∃ N, (l3 ++ l4).length = N := ⟨_, rfl⟩
      rw [hN] at HOB ⊢
      have HNl := Lib.hid (show (l3 ++ l4).length ≤ 1000 from hlm2)
      clear hcell hvB hN hlm2 hlm HV3 HV4 Hb1 HBW HB2 HG HbG Hv24 HK1
      generalize crightB a0_0 a0_1 a0_2 a0_3 a1 = rb at *
      generalize lessB a1 a2 = lb at *
      go_upto_region 6 with fail
      refine plan_region' (S := (fun w' => (∀ b o, b < (v4).heap.size → w'.cell? ⟨b, o, none⟩ = (v4).cell? ⟨b, o, none⟩) ∧ (∀ b o, b < (v4).heap.size → w'.frozen? ⟨b, o, none⟩ = (v4).frozen? ⟨b, o, none⟩) ∧ Below (v4).heap.size (v4) w')) [(0, false), (1, true), (2, true), (3, true), (5, true), (6, true), (4, false), (7, false), (8, true), (9, true), (10, true), (11, true), (12, true), (14, true), (15, true), (13, false), (16, false), (17, true), (18, true), (19, true), (20, true), (21, true), (24, true), (22, false), (23, false), (25, false), (26, false), (27, true), (28, true), (29, true), (30, true), (32, true), (33, true), (31, false), (34, false), (35, false), (36, true), (37, true), (38, true), (39, true), (40, true), (41, false), (42, true), (43, true)] (by kernel_rfl) (by kernel_rfl) (fun _ _ d _ _ h => by cases d <;> exact h) (keepW0 _) (fun hS => ?_)
      simp only [picked, List.getElem?_cons_succ, List.getElem?_cons_zero]
      refine row_call (by rfl) (fun K hK => ?_)
      go_simp
      (refine (HA.out _).mono ?_; rintro e u1 ⟨rfl, hx1⟩)
      (try go_wp2_with fail)
      refine hK.out _ _ ?_ (fun hS' => ?_)
      · (try dsimp only); first | exact keepW (by assumption) (by assumption) | exact keepB (by assumption) (by assumption) | exact keepA (by assumption) | assumption
      clear hS hK K
      have hS := hS'
      clear hS'
      (try simp only [Act.put, List.setIfInBounds_toArray, List.set_cons_zero, List.set_cons_succ])
      refine row_free (v := ?_) (by rfl) ?_ ?_
      rotate_left 1
      focus (intro w hSw; (try dsimp only at hSw); go_simp; (try with_reducible rfl))
      (try simp only [Act.put, List.setIfInBounds_toArray, List.set_cons_zero, List.set_cons_succ])
      refine row_free (v := ?_) (by rfl) ?_ ?_
      rotate_left 1
      focus (intro w hSw; (try dsimp only at hSw); go_simp; (try with_reducible rfl))
      (try simp only [Act.put, List.setIfInBounds_toArray, List.set_cons_zero, List.set_cons_succ])
      refine row_free (v := ?_) (by rfl) ?_ ?_
      rotate_left 1
      focus (intro w hSw; (try dsimp only at hSw); go_simp; (try with_reducible rfl))
      (try simp only [Act.put, List.setIfInBounds_toArray, List.set_cons_zero, List.set_cons_succ])
      refine row_free (v := ?_) (by rfl) ?_ ?_
      rotate_left 1
      focus (intro w hSw; (try dsimp only at hSw); go_simp; (try with_reducible rfl))
      (try simp only [Act.put, List.setIfInBounds_toArray, List.set_cons_zero, List.set_cons_succ])
      refine row_free (v := ?_) (by rfl) ?_ ?_
      rotate_left 1
      focus (intro w hSw; (try dsimp only at hSw); go_simp; (try with_reducible rfl))
      (try simp only [Act.put, List.setIfInBounds_toArray, List.set_cons_zero, List.set_cons_succ])
      refine row_call (by rfl) (fun K hK => ?_)
      go_simp
      (refine (HR1.out _).mono ?_; rintro e u2 ⟨rfl, hx2⟩)
      (try go_wp2_with fail)
      refine hK.out _ _ ?_ (fun hS' => ?_)
      · (try dsimp only); first | exact keepW (by assumption) (by assumption) | exact keepB (by assumption) (by assumption) | exact keepA (by assumption) | assumption
      clear hS hK K
      have hS := hS'
      clear hS'
      (try simp only [Act.put, List.setIfInBounds_toArray, List.set_cons_zero, List.set_cons_succ])
      refine row_call (by rfl) (fun K hK => ?_)
      go_simp
      (refine (HR.out _).mono ?_; rintro e u3 ⟨rfl, hx3⟩)
      (try go_wp2_with fail)
      refine hK.out _ _ ?_ (fun hS' => ?_)
      · (try dsimp only); first | exact keepW (by assumption) (by assumption) | exact keepB (by assumption) (by assumption) | exact keepA (by assumption) | assumption
      clear hS hK K
      have hS := hS'
      clear hS'
      (try simp only [Act.put, List.setIfInBounds_toArray, List.set_cons_zero, List.set_cons_succ])
      refine row_free (v := ?_) (by rfl) ?_ ?_
      rotate_left 1
      focus (intro w hSw; (try dsimp only at hSw); go_simp; (try with_reducible rfl))
      (try simp only [Act.put, List.setIfInBounds_toArray, List.set_cons_zero, List.set_cons_succ])
      refine row_free (v := ?_) (by rfl) ?_ ?_
      rotate_left 1
      focus (intro w hSw; (try dsimp only at hSw); go_simp; (try with_reducible rfl))
      (try simp only [Act.put, List.setIfInBounds_toArray, List.set_cons_zero, List.set_cons_succ])
      refine row_free (v := ?_) (by rfl) ?_ ?_
      rotate_left 1
      focus (intro w hSw; (try dsimp only at hSw); go_simp; (try with_reducible rfl))
      (try simp only [Act.put, List.setIfInBounds_toArray, List.set_cons_zero, List.set_cons_succ])
      refine row_free (v := ?_) (by rfl) ?_ ?_
      rotate_left 1
      focus (intro w hSw; (try dsimp only at hSw); go_simp; (try with_reducible rfl))
      (try simp only [Act.put, List.setIfInBounds_toArray, List.set_cons_zero, List.set_cons_succ])
      refine row_free (v := ?_) (by rfl) ?_ ?_
      rotate_left 1
      focus (intro w hSw; (try dsimp only at hSw); go_simp; (try with_reducible rfl))
      (try simp only [Act.put, List.setIfInBounds_toArray, List.set_cons_zero, List.set_cons_succ])
      refine row_free (v := ?_) (by rfl) ?_ ?_
      rotate_left 1
      focus (intro w hSw; (try dsimp only at hSw); go_simp; (try with_reducible rfl))
      (try simp only [Act.put, List.setIfInBounds_toArray, List.set_cons_zero, List.set_cons_succ])
      refine row_free (v := ?_) (by rfl) ?_ ?_
      rotate_left 1
      focus (intro w hSw; (try dsimp only at hSw); go_simp; (try with_reducible rfl))
      (try simp only [Act.put, List.setIfInBounds_toArray, List.set_cons_zero, List.set_cons_succ])
      refine row_call (by rfl) (fun K hK => ?_)
      go_simp
      (refine (HL.out _).mono ?_; rintro e u4 ⟨rfl, hx4⟩)
      (try go_wp2_with fail)
      refine hK.out _ _ ?_ (fun hS' => ?_)
      · (try dsimp only); first | exact keepW (by assumption) (by assumption) | exact keepB (by assumption) (by assumption) | exact keepA (by assumption) | assumption
      clear hS hK K
      have hS := hS'
      clear hS'
      (try simp only [Act.put, List.setIfInBounds_toArray, List.set_cons_zero, List.set_cons_succ])
      refine row_call (by rfl) (fun K hK => ?_)
      go_simp
      (refine (HRL.out _).mono ?_; rintro e u5 ⟨rfl, hx5⟩)
      (try go_wp2_with fail)
      refine hK.out _ _ ?_ (fun hS' => ?_)
      · (try dsimp only); first | exact keepW (by assumption) (by assumption) | exact keepB (by assumption) (by assumption) | exact keepA (by assumption) | assumption
      clear hS hK K
      have hS := hS'
      clear hS'
      (try simp only [Act.put, List.setIfInBounds_toArray, List.set_cons_zero, List.set_cons_succ])
      refine row_free (v := ?_) (by rfl) ?_ ?_
      rotate_left 1
      focus (intro w hSw; (try dsimp only at hSw); go_simp; (try with_reducible rfl))
      (try simp only [Act.put, List.setIfInBounds_toArray, List.set_cons_zero, List.set_cons_succ])
      refine row_free (v := ?_) (by rfl) ?_ ?_
      rotate_left 1
      focus (intro w hSw; (try dsimp only at hSw); go_simp; (try with_reducible rfl))
      (try simp only [Act.put, List.setIfInBounds_toArray, List.set_cons_zero, List.set_cons_succ])
      refine row_free (v := ?_) (by rfl) ?_ ?_
      rotate_left 1
      focus (intro w hSw; (try dsimp only at hSw); go_simp; (try with_reducible rfl))
      (try simp only [Act.put, List.setIfInBounds_toArray, List.set_cons_zero, List.set_cons_succ])
      refine row_free (v := ?_) (by rfl) ?_ ?_
      rotate_left 1
      focus (intro w hSw; (try dsimp only at hSw); go_simp; (try with_reducible rfl))
      (try simp only [Act.put, List.setIfInBounds_toArray, List.set_cons_zero, List.set_cons_succ])
      refine row_free (v := ?_) (by rfl) ?_ ?_
      rotate_left 1
      focus (intro w hSw; (try dsimp only at hSw); go_simp; (try with_reducible rfl))
      (try simp only [Act.put, List.setIfInBounds_toArray, List.set_cons_zero, List.set_cons_succ])
      refine row_free (v := ?_) (by rfl) ?_ ?_
      rotate_left 1
      focus (intro w hSw; (try dsimp only at hSw); go_simp; (try with_reducible rfl))
      (try simp only [Act.put, List.setIfInBounds_toArray, List.set_cons_zero, List.set_cons_succ])
      refine row_call (by rfl) (fun K hK => ?_)
      go_simp
      (skip)
      (try go_wp2_with fail)
      refine hK.out _ _ ?_ (fun hS' => ?_)
      · (try dsimp only); first | exact keepW (by assumption) (by assumption) | exact keepB (by assumption) (by assumption) | exact keepA (by assumption) | assumption
      clear hS hK K
      have hS := hS'
      clear hS'
      (try simp only [Act.put, List.setIfInBounds_toArray, List.set_cons_zero, List.set_cons_succ])
      refine row_call (by rfl) (fun K hK => ?_)
      go_simp
      (refine (HC.out _ _ [l3, l4] _ (vals_new u5 [.slice (some ⟨g1, 0, none⟩) n (n + 3), .slice B m d] _ _ (by rfl)) (AllSl.cons (HIn.out.below hS.2.2) (AllSl.cons (HV4r.out.below hS.2.2) (AllSl.nil _))) (by simp) (by rw [flat_two]; have := HNl.out; omega)).mono ?_; rw [flat_two]; rintro e u6 ⟨v61, rfl, ho61, hx6⟩)
      (try go_wp2_with fail)
      refine hK.out _ _ ?_ (fun hS' => ?_)
      · (try dsimp only); first | exact keepW (by assumption) (by assumption) | exact keepB (by assumption) (by assumption) | exact keepA (by assumption) | assumption
      clear hS hK K
      have hS := hS'
      clear hS'
      (try simp only [Act.put, List.setIfInBounds_toArray, List.set_cons_zero, List.set_cons_succ])
      refine row_call (by rfl) (fun K hK => ?_)
      go_simp
      (refine (HRS.out _ (l3 ++ l4) _ (HOB.out.below hS.2.2) HNl.out).mono ?_; rintro e u7 ⟨v63, rfl, ho63, hx7⟩)
      (try go_wp2_with fail)
      refine hK.out _ _ ?_ (fun hS' => ?_)
      · (try dsimp only); first | exact keepW (by assumption) (by assumption) | exact keepB (by assumption) (by assumption) | exact keepA (by assumption) | assumption
      clear hS hK K
      have hS := hS'
      clear hS'
      (try simp only [Act.put, List.setIfInBounds_toArray, List.set_cons_zero, List.set_cons_succ])
      refine row_call (by rfl) (fun K hK => ?_)
      go_simp
      (refine (HP.out v61 v63 (st lessB (l3 ++ l4)) _ ((owned_sl ho61).below hx7) (owned_sl ho63) (by have := HSl.out; omega)).mono ?_; rintro e u8 ⟨rfl, hx8⟩)
      (try go_wp2_with fail)
      refine hK.out _ _ ?_ (fun hS' => ?_)
      · (try dsimp only); first | exact keepW (by assumption) (by assumption) | exact keepB (by assumption) (by assumption) | exact keepA (by assumption) | assumption
      clear hS hK K
      have hS := hS'
      clear hS'
      (try simp only [Act.put, List.setIfInBounds_toArray, List.set_cons_zero, List.set_cons_succ])
      refine row_free (v := ?_) (by rfl) ?_ ?_
      rotate_left 1
      focus (intro w hSw; (try dsimp only at hSw); go_simp; (try with_reducible rfl))
      (try simp only [Act.put, List.setIfInBounds_toArray, List.set_cons_zero, List.set_cons_succ])
      refine row_free (v := ?_) (by rfl) ?_ ?_
      rotate_left 1
      focus (intro w hSw; (try dsimp only at hSw); go_simp; (try with_reducible rfl))
      (try simp only [Act.put, List.setIfInBounds_toArray, List.set_cons_zero, List.set_cons_succ])
      refine row_free (v := ?_) (by rfl) ?_ ?_
      rotate_left 1
      focus (intro w hSw; (try dsimp only at hSw); go_simp; (try with_reducible rfl))
      (try simp only [Act.put, List.setIfInBounds_toArray, List.set_cons_zero, List.set_cons_succ])
      refine row_free (v := ?_) (by rfl) ?_ ?_
      rotate_left 1
      focus (intro w hSw; (try dsimp only at hSw); go_simp; (try with_reducible rfl))
      (try simp only [Act.put, List.setIfInBounds_toArray, List.set_cons_zero, List.set_cons_succ])
      refine row_free (v := ?_) (by rfl) ?_ ?_
      rotate_left 1
      focus (intro w hSw; (try dsimp only at hSw); go_simp; (try with_reducible rfl))
      (try simp only [Act.put, List.setIfInBounds_toArray, List.set_cons_zero, List.set_cons_succ])
      refine row_free (v := ?_) (by rfl) ?_ ?_
      rotate_left 1
      focus (intro w hSw; (try dsimp only at hSw); go_simp; (try with_reducible rfl))
      (try simp only [Act.put, List.setIfInBounds_toArray, List.set_cons_zero, List.set_cons_succ])
      refine row_call (by rfl) (fun K hK => ?_)
      go_simp
      (refine (HT.out _ l3 a5 _ (HIn.out.below hS.2.2) (by omega)).mono ?_; rintro e u9 ⟨v69, rfl, ho69, hx9⟩)
      (try go_wp2_with fail)
      refine hK.out _ _ ?_ (fun hS' => ?_)
      · (try dsimp only); first | exact keepW (by assumption) (by assumption) | exact keepB (by assumption) (by assumption) | exact keepA (by assumption) | assumption
      clear hS hK K
      have hS := hS'
      clear hS'
      (try simp only [Act.put, List.setIfInBounds_toArray, List.set_cons_zero, List.set_cons_succ])
      refine row_call (by rfl) (fun K hK => ?_)
      go_simp
      (refine (HRT.out _ l3 a5 _ (HV3r.out.below hS.2.2) (by omega)).mono ?_; rintro e u10 ⟨v72, rfl, ho72, hx10⟩)
      (try go_wp2_with fail)
      refine hK.out _ _ ?_ (fun hS' => ?_)
      · (try dsimp only); first | exact keepW (by assumption) (by assumption) | exact keepB (by assumption) (by assumption) | exact keepA (by assumption) | assumption
      clear hS hK K
      have hS := hS'
      clear hS'
      (try simp only [Act.put, List.setIfInBounds_toArray, List.set_cons_zero, List.set_cons_succ])
      refine row_call (by rfl) (fun K hK => ?_)
      go_simp
      (refine (HP.out v69 v72 (toL l3 a5) _ ((owned_sl ho69).below hx10) (owned_sl ho72) (by have := HTl.out; omega)).mono ?_; rintro e u11 ⟨rfl, hx11⟩)
      (try go_wp2_with fail)
      refine hK.out _ _ ?_ (fun hS' => ?_)
      · (try dsimp only); first | exact keepW (by assumption) (by assumption) | exact keepB (by assumption) (by assumption) | exact keepA (by assumption) | assumption
      clear hS hK K
      have hS := hS'
      clear hS'
      (try simp only [Act.put, List.setIfInBounds_toArray, List.set_cons_zero, List.set_cons_succ])
      refine row_free (v := ?_) (by rfl) ?_ ?_
      rotate_left 1
      focus (intro w hSw; (try dsimp only at hSw); go_simp; (try with_reducible rfl))
      (try simp only [Act.put, List.setIfInBounds_toArray, List.set_cons_zero, List.set_cons_succ])
      refine row_free (v := ?_) (by rfl) ?_ ?_
      rotate_left 1
      focus (intro w hSw; (try dsimp only at hSw); go_simp; (try with_reducible rfl))
      (try simp only [Act.put, List.setIfInBounds_toArray, List.set_cons_zero, List.set_cons_succ])
      refine row_free (v := ?_) (by rfl) ?_ ?_
      rotate_left 1
      focus (intro w hSw; (try dsimp only at hSw); go_simp; (try with_reducible rfl))
      (try simp only [Act.put, List.setIfInBounds_toArray, List.set_cons_zero, List.set_cons_succ])
      refine row_free (v := ?_) (by rfl) ?_ ?_
      rotate_left 1
      focus (intro w hSw; (try dsimp only at hSw); go_simp; (try with_reducible rfl))
      (try simp only [Act.put, List.setIfInBounds_toArray, List.set_cons_zero, List.set_cons_succ])
      refine row_free (v := ?_) (by rfl) ?_ ?_
      rotate_left 1
      focus (intro w hSw; (try dsimp only at hSw); go_simp; (try with_reducible rfl))
      (try simp only [Act.put, List.setIfInBounds_toArray, List.set_cons_zero, List.set_cons_succ])
      refine row_call (by rfl) (fun K hK => ?_)
      go_simp
      (refine (by have h := HKp.out _ g1 l3 c71 _ (HV3r.out.below hS.2.2) (HKb.out.below hS.2.2 HKb.out.lt) (by omega); rw [Hn.out] at h; exact h : Calls _ _ _ _ _).mono ?_; rintro e u12 ⟨rfl, hx12⟩)
      (try go_wp2_with fail)
      refine hK.out _ _ ?_ (fun hS' => ?_)
      · (try dsimp only); first | exact keepW (by assumption) (by assumption) | exact keepB (by assumption) (by assumption) | exact keepA (by assumption) | assumption
      clear hS hK K
      have hS := hS'
      clear hS'
      (try simp only [Act.put, List.setIfInBounds_toArray, List.set_cons_zero, List.set_cons_succ])
      refine row_free (v := ?_) (by rfl) ?_ ?_
      rotate_left 1
      focus (intro w hSw; (try dsimp only at hSw); go_simp; (try with_reducible rfl))
      (try simp only [Act.put, List.setIfInBounds_toArray, List.set_cons_zero, List.set_cons_succ])
      refine row_free (v := ?_) (by rfl) ?_ ?_
      rotate_left 1
      focus (intro w hSw; (try dsimp only at hSw); go_simp; (try with_reducible rfl))
      (try simp only [Act.put, List.setIfInBounds_toArray, List.set_cons_zero, List.set_cons_succ])
      refine row_done ?_
      go_wp2
      go_ret
      exact ⟨rfl, nextW HB4.out hS.2.2⟩
    · have hd2 : decide ((40 : Int) < (m : Int)) = true := decide_eq_true (by omega)
      go_enter Try.func3, Try.ntmps3
      go_wp2_with fail
      refine (HA.out _).mono ?_
      rintro e v1 ⟨rfl, hbv1⟩
      obtain ⟨hcv1, hfv1⟩ := bcell hbv1
      have Hbv1 := Lib.hid hbv1
      clear hbv1
      go_wp2
      go_ret
      exact ⟨rfl, unbox (unbox (unbox Hbv1.out))⟩
  · have hd1 : decide ((40 : Int) < (n : Int)) = true := decide_eq_true (by omega)
    go_enter Try.func3, Try.ntmps3
    go_wp2_with fail
    refine (HA.out _).mono ?_
    rintro e v1 ⟨rfl, hbv1⟩
    obtain ⟨hcv1, hfv1⟩ := bcell hbv1
    have Hbv1 := Lib.hid hbv1
    clear hbv1
    go_wp2
    go_ret
    exact ⟨rfl, unbox (unbox (unbox Hbv1.out))⟩

set_option maxRecDepth 100000 in
theorem lifted (os : Os) (started : os.Started) (H : Type) (enc : TypeId × Value → H) :
    ReturnsInHanded {} Try.checked os 3 .any (Rows.crossTellsSpec.pre6 enc Try.prog Try.f3 Rows.crossTellsRow.domain false) (Rows.crossTellsSpec.post enc Try.prog Try.f3 false true false false) := by
  refine returnsInHanded_of_change (C := Try.checked) own started (by kernel_rfl) Try.func3
    (ChangeSpec.witness6 (enc := enc) (C := Try.checked) false ⟨#[], #[.agg #[.int .i64 0, .int .i64 0, .int .i64 0, .int .i64 0, .int .u64 0], .agg #[.int .i64 0, .int .i64 0, .int .i64 0, .int .i64 0, .int .i64 0, .int .i64 0, .int .i64 0, .int .i64 0, .int .i64 0, .int .i64 0, .int .i64 0, .int .i64 0, .int .i64 0, .int .i64 0, .int .i64 0], .agg #[.int .i64 0, .int .i64 0, .int .i64 0, .int .i64 0, .int .i64 0, .int .i64 0, .int .i64 0, .int .i64 0, .int .i64 0, .int .i64 0, .int .i64 0, .int .i64 0, .int .i64 0, .int .i64 0, .int .i64 0], .slice none 0 0, .slice none 0 0, .int .i64 0], []⟩ 8 (by kernel_rfl) (by kernel_rfl) (by kernel_rfl) (by kernel_rfl)) ?_
  intro W base args ds gs before hval0 hW hcnd _
  have hval : ∀ (j : Nat) t v, Try.f3.params[j]? = some t → args[j]? = some v → Value.okWide Try.prog W .any base t v := hval0
  have hW' := hW
  obtain ⟨p, q, hA0, hV, rfl, hfz, hnd⟩ := hW
  have hA : DataW.TrodAll enc Try.prog W 0 (fun _ => true) true Try.f3.params.toList args.toList ds p := hA0
  rw [Try.params3] at hA hval
  obtain ⟨v0, vs0, d0, ds0, p0, q0, hargs, rfl, rfl, h0, r0⟩ := trodAll_cons hA
  obtain ⟨v1, vs1, d1, ds1, p1, q1, rfl, rfl, rfl, h1, r1⟩ := trodAll_cons r0
  obtain ⟨v2, vs2, d2, ds2, p2, q2, rfl, rfl, rfl, h2, r2⟩ := trodAll_cons r1
  obtain ⟨v3, vs3, d3, ds3, p3, q3, rfl, rfl, rfl, h3, r3⟩ := trodAll_cons r2
  obtain ⟨v4, vs4, d4, ds4, p4, q4, rfl, rfl, rfl, h4, r4⟩ := trodAll_cons r3
  obtain ⟨v5, vs5, d5, ds5, p5, q5, rfl, rfl, rfl, h5, r5⟩ := trodAll_cons r4
  obtain ⟨rfl, rfl, rfl⟩ := trodAll_nil r5
  obtain rfl : args = #[v0, v1, v2, v3, v4, v5] := by cases args; simp_all
  obtain ⟨rfl, rfl⟩ := trodVars_none hV
  obtain ⟨cs0, rfl, -⟩ := okWide_struct Try.underlying24 (hval 0 24 v0 rfl rfl)
  have k0 := h0
  have lt0 : ∀ x ∈ p0, x.block < W.heap.size := by obtain ⟨m, hm⟩ := k0; exact DataW.trod_lt m _ _ _ hm
  obtain ⟨fuel0, hf0⟩ := h0
  obtain ⟨l0⟩ := cs0
  obtain ⟨a0_0, a0_1, a0_2, a0_3, a0_4, rfl, w0_0, w0_1, w0_2, w0_3, w0_4⟩ := open_T24 (cs := l0) hf0
  obtain ⟨cs1, rfl, -⟩ := okWide_struct Try.underlying28 (hval 1 28 v1 rfl rfl)
  have k1 := h1
  have lt1 : ∀ x ∈ p1, x.block < W.heap.size := by obtain ⟨m, hm⟩ := k1; exact DataW.trod_lt m _ _ _ hm
  obtain ⟨fuel1, hf1⟩ := h1
  obtain ⟨l1⟩ := cs1
  obtain ⟨a1_0, a1_1, a1_2, a1_3, a1_4, a1_5, a1_6, a1_7, a1_8, a1_9, a1_10, a1_11, a1_12, a1_13, a1_14, rfl, w1_0, w1_1, w1_2, w1_3, w1_4, w1_5, w1_6, w1_7, w1_8, w1_9, w1_10, w1_11, w1_12, w1_13, w1_14⟩ := open_T28 (cs := l1) hf1
  obtain ⟨cs2, rfl, -⟩ := okWide_struct Try.underlying28 (hval 2 28 v2 rfl rfl)
  have k2 := h2
  have lt2 : ∀ x ∈ p2, x.block < W.heap.size := by obtain ⟨m, hm⟩ := k2; exact DataW.trod_lt m _ _ _ hm
  obtain ⟨fuel2, hf2⟩ := h2
  obtain ⟨l2⟩ := cs2
  obtain ⟨a2_0, a2_1, a2_2, a2_3, a2_4, a2_5, a2_6, a2_7, a2_8, a2_9, a2_10, a2_11, a2_12, a2_13, a2_14, rfl, w2_0, w2_1, w2_2, w2_3, w2_4, w2_5, w2_6, w2_7, w2_8, w2_9, w2_10, w2_11, w2_12, w2_13, w2_14⟩ := open_T28 (cs := l2) hf2
  obtain ⟨A3, len3, cap3, rfl⟩ := okWide_slice Try.underlying29 (hval 3 29 v3 rfl rfl)
  have k3 := h3
  have lt3 : ∀ x ∈ p3, x.block < W.heap.size := by obtain ⟨m, hm⟩ := k3; exact DataW.trod_lt m _ _ _ hm
  obtain ⟨l3, w3, o3⟩ : ∃ l : List Fx.Crs, Fx.IsSl Fx.crsC W (.slice A3 len3 cap3) l ∧ ∀ e ∈ l, Fx.Crs.ok e := by
    obtain ⟨fuel, hf⟩ := h3
    exact open_sl29 hf
  obtain ⟨A4, len4, cap4, rfl⟩ := okWide_slice Try.underlying29 (hval 4 29 v4 rfl rfl)
  have k4 := h4
  have lt4 : ∀ x ∈ p4, x.block < W.heap.size := by obtain ⟨m, hm⟩ := k4; exact DataW.trod_lt m _ _ _ hm
  obtain ⟨l4, w4, o4⟩ : ∃ l : List Fx.Crs, Fx.IsSl Fx.crsC W (.slice A4 len4 cap4) l ∧ ∀ e ∈ l, Fx.Crs.ok e := by
    obtain ⟨fuel, hf⟩ := h4
    exact open_sl29 hf
  obtain ⟨a5, rfl, rfl, rfl, w5⟩ := open_int Try.underlying3 (hval 5 3 v5 rfl rfl) h5
  clear hA0 hval0
  refine (walk a0_0 a0_1 a0_2 a0_3 a0_4 ⟨a1_0, a1_1, a1_2, a1_3, ⟨a1_4, a1_5, a1_6, a1_7, a1_8, a1_9, a1_10, a1_11, a1_12⟩, a1_13, a1_14⟩ ⟨a2_0, a2_1, a2_2, a2_3, ⟨a2_4, a2_5, a2_6, a2_7, a2_8, a2_9, a2_10, a2_11, a2_12⟩, a2_13, a2_14⟩ _ l3 _ l4 a5 W w0_0 w0_1 w0_2 w0_3 w0_4 ⟨w1_0, w1_1, w1_2, w1_3, w1_4, w1_5, w1_6, w1_7, w1_8, w1_9, w1_10, w1_11, w1_12, w1_13, w1_14⟩ ⟨w2_0, w2_1, w2_2, w2_3, w2_4, w2_5, w2_6, w2_7, w2_8, w2_9, w2_10, w2_11, w2_12, w2_13, w2_14⟩ w3 o3 w4 o4 w5).mono fun e W' ⟨he, bel⟩ => ?_
  subst he
  exact ⟨_, rfl, _, _, _, [], _, [], hW', trodAll_mk1 (shut_bool Try.underlying4 _), (trodAll_cons_mk (Below.trod laidOut (by kernel_rfl) (of_decide_eq_true (by kernel_rfl)) k0 bel lt0) (trodAll_cons_mk (Below.trod laidOut (by kernel_rfl) (of_decide_eq_true (by kernel_rfl)) k1 bel lt1) (trodAll_cons_mk (Below.trod laidOut (by kernel_rfl) (of_decide_eq_true (by kernel_rfl)) k2 bel lt2) (trodAll_cons_mk (Below.trod laidOut (by kernel_rfl) (of_decide_eq_true (by kernel_rfl)) k3 bel lt3) (trodAll_cons_mk (Below.trod laidOut (by kernel_rfl) (of_decide_eq_true (by kernel_rfl)) k4 bel lt4) (trodAll_cons_mk (shut_int Try.underlying3 w5) trodAll_mk0)))))), rfl, bel.frame _, fun h => by cases h⟩

theorem over : Rows.crossTellsRow.holds Try.pinned (OpenSpec.ofChange Rows.crossTellsSpec) :=
  OpenClaim.holds_of_wide 3 Try.f3 rfl rfl rfl rfl rfl rfl rfl ⟨rfl, rfl, rfl, rfl, rfl⟩ rfl rfl rfl rfl rfl (by kernel_rfl) Try.func3 (by kernel_rfl)
    (of_decide_eq_true (by kernel_rfl)) (by unfold Func.isWrapper; first | (rw [if_pos (by decide +kernel)]; kernel_rfl) | (rw [if_neg (by decide +kernel)]; exact ⟨rfl, rfl⟩))
    (fun os started H enc _ => lifted os started H enc)

end Go.Proofs.Ytbmboidmgdpnoaa.crossTells
namespace Go.Proofs.Ytbmboidmgdpnoaa
theorem crossTells_proved : Rows.CrossTellsSaid := crossTells.over
end Go.Proofs.Ytbmboidmgdpnoaa
