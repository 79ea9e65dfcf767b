/- joustlaw12.SnapshotTells returns true for every input; no conditions. -/
import Derived.Test.YtlpkaljepaclpaaGreatM34
import Derived.Test.YtlpkaljepaclpaaGreatM44
import Derived.Test.YtlpkaljepaclpaaGreatM40
import Derived.Test.YtlpkaljepaclpaaGreatM45
import Derived.Test.YtlpkaljepaclpaaGreatM46
import Derived.Test.YtlpkaljepaclpaaGreatRows
import Derived.WalkKit
import Derived.ProofKit
import Derived.OpenShut
import Derived.ShutString
import Derived.ChangeOld
import Derived.Below
import Derived.Deep.Slices
namespace Go.Proofs.YtlpkaljepaclpaaGreat.snapshotTells
open Go.ChangeShapes Go.WideShapes Go.ChangeAt Go.RowKit
open Go.ChangeMaps (open_string shut_string)
set_option linter.unusedVariables false
set_option maxRecDepth 100000

theorem own : ownKnob Tryz.prog.godebug = none := by kernel_rfl
theorem laidOut : laidOutB Tryz.prog = true := by kernel_rfl
open Fx (IsRow)
theorem open_T24 {H : Type} {enc : TypeId × Value → H} {W : World} {fuel : Nat} {cs : List Value} {x : DataW H × List MemPlace} (h : DataW.trod enc Tryz.prog W 0 (fun _ => true) true fuel 24 cs = some x) :
    ∃ (a0 : Int) (a1 : Int) (a2 : Int) (a3 : Int) (a4 : Int), cs = [.int .i64 a0, .int .i64 a1, .int .i64 a2, .int .i64 a3, .int .u64 a4] ∧ (Lit.int .i64 a0).wf = true ∧ (Lit.int .i64 a1).wf = true ∧ (Lit.int .i64 a2).wf = true ∧ (Lit.int .i64 a3).wf = true ∧ (Lit.int .u64 a4).wf = true := by
  obtain ⟨xs, n, -, -, hl, hxl, hg⟩ := DataW.trod_struct Tryz.underlying24 h
  have hl' : cs.length = 5 := hl.trans (by kernel_rfl)
  have c3 : Tryz.prog.cellsOf 3 = 1 := by kernel_rfl
  have c22 : Tryz.prog.cellsOf 22 = 1 := by kernel_rfl
  clear hl h
  match cs, hl' with
  | [z0, z1, z2, z3, z4], _ =>
    have g0 : DataW.trod enc Tryz.prog W 0 (fun _ => true) true n 3 (([z0, z1, z2, z3, z4].drop 0).take (Tryz.prog.cellsOf 3)) = xs[0]? := hg 0 _ rfl
    rw [c3, List.getElem?_eq_getElem (show 0 < xs.length by rw [hxl]; decide)] at g0
    have g1 : DataW.trod enc Tryz.prog W 0 (fun _ => true) true n 3 (([z0, z1, z2, z3, z4].drop 1).take (Tryz.prog.cellsOf 3)) = xs[1]? := hg 1 _ rfl
    rw [c3, List.getElem?_eq_getElem (show 1 < xs.length by rw [hxl]; decide)] at g1
    have g2 : DataW.trod enc Tryz.prog W 0 (fun _ => true) true n 3 (([z0, z1, z2, z3, z4].drop 2).take (Tryz.prog.cellsOf 3)) = xs[2]? := hg 2 _ rfl
    rw [c3, List.getElem?_eq_getElem (show 2 < xs.length by rw [hxl]; decide)] at g2
    have g3 : DataW.trod enc Tryz.prog W 0 (fun _ => true) true n 3 (([z0, z1, z2, z3, z4].drop 3).take (Tryz.prog.cellsOf 3)) = xs[3]? := hg 3 _ rfl
    rw [c3, List.getElem?_eq_getElem (show 3 < xs.length by rw [hxl]; decide)] at g3
    have g4 : DataW.trod enc Tryz.prog W 0 (fun _ => true) true n 22 (([z0, z1, z2, z3, z4].drop 4).take (Tryz.prog.cellsOf 22)) = xs[4]? := hg 4 _ rfl
    rw [c22, List.getElem?_eq_getElem (show 4 < xs.length by rw [hxl]; decide)] at g4
    obtain ⟨a0, e0, -, w0⟩ := DataW.trod_int (cs := [z0]) Tryz.underlying3 g0
    simp only [List.cons.injEq, and_true] at e0
    subst e0
    clear g0
    obtain ⟨a1, e1, -, w1⟩ := DataW.trod_int (cs := [z1]) Tryz.underlying3 g1
    simp only [List.cons.injEq, and_true] at e1
    subst e1
    clear g1
    obtain ⟨a2, e2, -, w2⟩ := DataW.trod_int (cs := [z2]) Tryz.underlying3 g2
    simp only [List.cons.injEq, and_true] at e2
    subst e2
    clear g2
    obtain ⟨a3, e3, -, w3⟩ := DataW.trod_int (cs := [z3]) Tryz.underlying3 g3
    simp only [List.cons.injEq, and_true] at e3
    subst e3
    clear g3
    obtain ⟨a4, e4, -, w4⟩ := DataW.trod_int (cs := [z4]) Tryz.underlying22 g4
    simp only [List.cons.injEq, and_true] at e4
    subst e4
    clear g4
    exact ⟨a0, a1, a2, a3, a4, rfl, w0, w1, w2, w3, w4⟩

theorem open_T59 {H : Type} {enc : TypeId × Value → H} {W : World} {fuel : Nat} {cs : List Value} {x : DataW H × List MemPlace} (h : DataW.trod enc Tryz.prog W 0 (fun _ => true) true fuel 59 cs = some x) :
    ∃ (a0 : Int) (a1 : Value), cs = [.int .i64 a0, a1] ∧ (Lit.int .i64 a0).wf = true ∧ (∃ m y, DataW.trod enc Tryz.prog W 0 (fun _ => true) true m 46 [a1] = some y) := by
  obtain ⟨xs, n, -, -, hl, hxl, hg⟩ := DataW.trod_struct Tryz.underlying59 h
  have hl' : cs.length = 2 := hl.trans (by kernel_rfl)
  have c3 : Tryz.prog.cellsOf 3 = 1 := by kernel_rfl
  have c46 : Tryz.prog.cellsOf 46 = 1 := by kernel_rfl
  clear hl h
  match cs, hl' with
  | [z0, z1], _ =>
    have g0 : DataW.trod enc Tryz.prog W 0 (fun _ => true) true n 3 (([z0, z1].drop 0).take (Tryz.prog.cellsOf 3)) = xs[0]? := hg 0 _ rfl
    rw [c3, List.getElem?_eq_getElem (show 0 < xs.length by rw [hxl]; decide)] at g0
    have g1 : DataW.trod enc Tryz.prog W 0 (fun _ => true) true n 46 (([z0, z1].drop 1).take (Tryz.prog.cellsOf 46)) = xs[1]? := hg 1 _ rfl
    rw [c46, List.getElem?_eq_getElem (show 1 < xs.length by rw [hxl]; decide)] at g1
    obtain ⟨a0, e0, -, w0⟩ := DataW.trod_int (cs := [z0]) Tryz.underlying3 g0
    simp only [List.cons.injEq, and_true] at e0
    subst e0
    clear g0
    have w1 : ∃ m y, DataW.trod enc Tryz.prog W 0 (fun _ => true) true m 46 [z1] = some y := ⟨n, _, g1⟩
    clear g1
    exact ⟨a0, z1, rfl, w0, w1⟩

theorem open_T63 {H : Type} {enc : TypeId × Value → H} {W : World} {fuel : Nat} {cs : List Value} {x : DataW H × List MemPlace} (h : DataW.trod enc Tryz.prog W 0 (fun _ => true) true fuel 63 cs = some x) :
    ∃ (a0 : Int) (a1 : Value) (a2 : Value), cs = [.int .i64 a0, a1, a2] ∧ (Lit.int .i64 a0).wf = true ∧ (∃ m y, DataW.trod enc Tryz.prog W 0 (fun _ => true) true m 46 [a1] = some y) ∧ (∃ m y, DataW.trod enc Tryz.prog W 0 (fun _ => true) true m 51 [a2] = some y) := by
  obtain ⟨xs, n, -, -, hl, hxl, hg⟩ := DataW.trod_struct Tryz.underlying63 h
  have hl' : cs.length = 3 := hl.trans (by kernel_rfl)
  have c51 : Tryz.prog.cellsOf 51 = 1 := by kernel_rfl
  have c59 : Tryz.prog.cellsOf 59 = 2 := by kernel_rfl
  clear hl h
  match cs, hl' with
  | [z0, z1, z2], _ =>
    have g0 : DataW.trod enc Tryz.prog W 0 (fun _ => true) true n 59 (([z0, z1, z2].drop 0).take (Tryz.prog.cellsOf 59)) = xs[0]? := hg 0 _ rfl
    rw [c59, List.getElem?_eq_getElem (show 0 < xs.length by rw [hxl]; decide)] at g0
    have g1 : DataW.trod enc Tryz.prog W 0 (fun _ => true) true n 51 (([z0, z1, z2].drop 2).take (Tryz.prog.cellsOf 51)) = xs[1]? := hg 1 _ rfl
    rw [c51, List.getElem?_eq_getElem (show 1 < xs.length by rw [hxl]; decide)] at g1
    obtain ⟨a0, a1, e0, w0, w1⟩ := open_T59 (cs := [z0, z1]) g0
    simp only [List.cons.injEq, and_true] at e0
    obtain ⟨rfl, rfl⟩ := e0
    clear g0
    have w2 : ∃ m y, DataW.trod enc Tryz.prog W 0 (fun _ => true) true m 51 [z2] = some y := ⟨n, _, g1⟩
    clear g1
    exact ⟨a0, z1, z2, rfl, w0, w1, w2⟩

theorem open_T45 {H : Type} {enc : TypeId × Value → H} {W : World} {fuel : Nat} {cs : List Value} {x : DataW H × List MemPlace} (h : DataW.trod enc Tryz.prog W 0 (fun _ => true) true fuel 45 cs = some x) :
    ∃ (a0 : Int) (a1 : Int) (a2 : Int) (a3 : Int) (a4 : Int) (a5 : Int) (a6 : Int) (a7 : Int) (a8 : Int), cs = [.int .i64 a0, .int .i64 a1, .int .i64 a2, .int .i64 a3, .int .i64 a4, .int .i64 a5, .int .i64 a6, .int .i64 a7, .int .i64 a8] ∧ (Lit.int .i64 a0).wf = true ∧ (Lit.int .i64 a1).wf = true ∧ (Lit.int .i64 a2).wf = true ∧ (Lit.int .i64 a3).wf = true ∧ (Lit.int .i64 a4).wf = true ∧ (Lit.int .i64 a5).wf = true ∧ (Lit.int .i64 a6).wf = true ∧ (Lit.int .i64 a7).wf = true ∧ (Lit.int .i64 a8).wf = true := by
  obtain ⟨xs, n, -, -, hl, hxl, hg⟩ := DataW.trod_struct Tryz.underlying45 h
  have hl' : cs.length = 9 := hl.trans (by kernel_rfl)
  have c3 : Tryz.prog.cellsOf 3 = 1 := by kernel_rfl
  clear hl h
  match cs, hl' with
  | [z0, z1, z2, z3, z4, z5, z6, z7, z8], _ =>
    have g0 : DataW.trod enc Tryz.prog W 0 (fun _ => true) true n 3 (([z0, z1, z2, z3, z4, z5, z6, z7, z8].drop 0).take (Tryz.prog.cellsOf 3)) = xs[0]? := hg 0 _ rfl
    rw [c3, List.getElem?_eq_getElem (show 0 < xs.length by rw [hxl]; decide)] at g0
    have g1 : DataW.trod enc Tryz.prog W 0 (fun _ => true) true n 3 (([z0, z1, z2, z3, z4, z5, z6, z7, z8].drop 1).take (Tryz.prog.cellsOf 3)) = xs[1]? := hg 1 _ rfl
    rw [c3, List.getElem?_eq_getElem (show 1 < xs.length by rw [hxl]; decide)] at g1
    have g2 : DataW.trod enc Tryz.prog W 0 (fun _ => true) true n 3 (([z0, z1, z2, z3, z4, z5, z6, z7, z8].drop 2).take (Tryz.prog.cellsOf 3)) = xs[2]? := hg 2 _ rfl
    rw [c3, List.getElem?_eq_getElem (show 2 < xs.length by rw [hxl]; decide)] at g2
    have g3 : DataW.trod enc Tryz.prog W 0 (fun _ => true) true n 3 (([z0, z1, z2, z3, z4, z5, z6, z7, z8].drop 3).take (Tryz.prog.cellsOf 3)) = xs[3]? := hg 3 _ rfl
    rw [c3, List.getElem?_eq_getElem (show 3 < xs.length by rw [hxl]; decide)] at g3
    have g4 : DataW.trod enc Tryz.prog W 0 (fun _ => true) true n 3 (([z0, z1, z2, z3, z4, z5, z6, z7, z8].drop 4).take (Tryz.prog.cellsOf 3)) = xs[4]? := hg 4 _ rfl
    rw [c3, List.getElem?_eq_getElem (show 4 < xs.length by rw [hxl]; decide)] at g4
    have g5 : DataW.trod enc Tryz.prog W 0 (fun _ => true) true n 3 (([z0, z1, z2, z3, z4, z5, z6, z7, z8].drop 5).take (Tryz.prog.cellsOf 3)) = xs[5]? := hg 5 _ rfl
    rw [c3, List.getElem?_eq_getElem (show 5 < xs.length by rw [hxl]; decide)] at g5
    have g6 : DataW.trod enc Tryz.prog W 0 (fun _ => true) true n 3 (([z0, z1, z2, z3, z4, z5, z6, z7, z8].drop 6).take (Tryz.prog.cellsOf 3)) = xs[6]? := hg 6 _ rfl
    rw [c3, List.getElem?_eq_getElem (show 6 < xs.length by rw [hxl]; decide)] at g6
    have g7 : DataW.trod enc Tryz.prog W 0 (fun _ => true) true n 3 (([z0, z1, z2, z3, z4, z5, z6, z7, z8].drop 7).take (Tryz.prog.cellsOf 3)) = xs[7]? := hg 7 _ rfl
    rw [c3, List.getElem?_eq_getElem (show 7 < xs.length by rw [hxl]; decide)] at g7
    have g8 : DataW.trod enc Tryz.prog W 0 (fun _ => true) true n 3 (([z0, z1, z2, z3, z4, z5, z6, z7, z8].drop 8).take (Tryz.prog.cellsOf 3)) = xs[8]? := hg 8 _ rfl
    rw [c3, List.getElem?_eq_getElem (show 8 < xs.length by rw [hxl]; decide)] at g8
    obtain ⟨a0, e0, -, w0⟩ := DataW.trod_int (cs := [z0]) Tryz.underlying3 g0
    simp only [List.cons.injEq, and_true] at e0
    subst e0
    clear g0
    obtain ⟨a1, e1, -, w1⟩ := DataW.trod_int (cs := [z1]) Tryz.underlying3 g1
    simp only [List.cons.injEq, and_true] at e1
    subst e1
    clear g1
    obtain ⟨a2, e2, -, w2⟩ := DataW.trod_int (cs := [z2]) Tryz.underlying3 g2
    simp only [List.cons.injEq, and_true] at e2
    subst e2
    clear g2
    obtain ⟨a3, e3, -, w3⟩ := DataW.trod_int (cs := [z3]) Tryz.underlying3 g3
    simp only [List.cons.injEq, and_true] at e3
    subst e3
    clear g3
    obtain ⟨a4, e4, -, w4⟩ := DataW.trod_int (cs := [z4]) Tryz.underlying3 g4
    simp only [List.cons.injEq, and_true] at e4
    subst e4
    clear g4
    obtain ⟨a5, e5, -, w5⟩ := DataW.trod_int (cs := [z5]) Tryz.underlying3 g5
    simp only [List.cons.injEq, and_true] at e5
    subst e5
    clear g5
    obtain ⟨a6, e6, -, w6⟩ := DataW.trod_int (cs := [z6]) Tryz.underlying3 g6
    simp only [List.cons.injEq, and_true] at e6
    subst e6
    clear g6
    obtain ⟨a7, e7, -, w7⟩ := DataW.trod_int (cs := [z7]) Tryz.underlying3 g7
    simp only [List.cons.injEq, and_true] at e7
    subst e7
    clear g7
    obtain ⟨a8, e8, -, w8⟩ := DataW.trod_int (cs := [z8]) Tryz.underlying3 g8
    simp only [List.cons.injEq, and_true] at e8
    subst e8
    clear g8
    exact ⟨a0, a1, a2, a3, a4, a5, a6, a7, a8, rfl, w0, w1, w2, w3, w4, w5, w6, w7, w8⟩

theorem open_sn46 {H : Type} {enc : TypeId × Value → H} {W : World} {fuel : Nat} {v : Value} {x : DataW H × List MemPlace} (h : DataW.trod enc Tryz.prog W 0 (fun _ => true) true fuel 46 [v] = some x) :
    ∃ l0 : List Fx.Ent, Fx.IsSl Fx.entC W v l0 ∧ ∀ e0 ∈ l0, Fx.Ent.ok e0 := by
  rcases Go.Deep.open_slice Tryz.underlying46 h with ⟨hcs, _⟩ | ⟨a, len, cap, m, n, D, Pl, hcs, _, hl, hm, hmm, _, hel⟩
  · simp at hcs
    subst hcs
    exact ⟨[], Fx.IsSl.nil _ _, by simp⟩
  · simp at hcs
    subst hcs
    have hmc : m = cap := hmm
    have hce : Tryz.prog.cellsOf 45 = 9 := by kernel_rfl
    refine Fx.sl_of_cells (base := 0) default 9 Fx.entC_len (by omega) hl fun i hi => ?_
    obtain ⟨cs', hc, ht⟩ := hel i (by omega)
    rw [hce] at hc
    obtain ⟨a0, a1, a2, a3, a4, a5, a6, a7, a8, rfl, w0, w1, w2, w3, w4, w5, w6, w7, w8⟩ := open_T45 ht
    exact ⟨⟨a0, a1, a2, a3, a4, a5, a6, a7, a8⟩, ⟨w0, w1, w2, w3, w4, w5, w6, w7, w8⟩, hc⟩

theorem open_T50 {H : Type} {enc : TypeId × Value → H} {W : World} {fuel : Nat} {cs : List Value} {x : DataW H × List MemPlace} (h : DataW.trod enc Tryz.prog W 0 (fun _ => true) true fuel 50 cs = some x) :
    ∃ (a0 : Int) (a1 : Int) (a2 : Int) (a3 : Int) (a4 : Int) (a5 : Int) (a6 : Int) (a7 : Int) (a8 : Int) (a9 : Int) (a10 : Int) (a11 : Int) (a12 : Int) (a13 : Int) (a14 : Int), cs = [.int .i64 a0, .int .i64 a1, .int .i64 a2, .int .i64 a3, .int .i64 a4, .int .i64 a5, .int .i64 a6, .int .i64 a7, .int .i64 a8, .int .i64 a9, .int .i64 a10, .int .i64 a11, .int .i64 a12, .int .i64 a13, .int .i64 a14] ∧ (Lit.int .i64 a0).wf = true ∧ (Lit.int .i64 a1).wf = true ∧ (Lit.int .i64 a2).wf = true ∧ (Lit.int .i64 a3).wf = true ∧ (Lit.int .i64 a4).wf = true ∧ (Lit.int .i64 a5).wf = true ∧ (Lit.int .i64 a6).wf = true ∧ (Lit.int .i64 a7).wf = true ∧ (Lit.int .i64 a8).wf = true ∧ (Lit.int .i64 a9).wf = true ∧ (Lit.int .i64 a10).wf = true ∧ (Lit.int .i64 a11).wf = true ∧ (Lit.int .i64 a12).wf = true ∧ (Lit.int .i64 a13).wf = true ∧ (Lit.int .i64 a14).wf = true := by
  obtain ⟨xs, n, -, -, hl, hxl, hg⟩ := DataW.trod_struct Tryz.underlying50 h
  have hl' : cs.length = 15 := hl.trans (by kernel_rfl)
  have c3 : Tryz.prog.cellsOf 3 = 1 := by kernel_rfl
  have c45 : Tryz.prog.cellsOf 45 = 9 := by kernel_rfl
  clear hl h
  match cs, hl' with
  | [z0, z1, z2, z3, z4, z5, z6, z7, z8, z9, z10, z11, z12, z13, z14], _ =>
    have g0 : DataW.trod enc Tryz.prog W 0 (fun _ => true) true n 3 (([z0, z1, z2, z3, z4, z5, z6, z7, z8, z9, z10, z11, z12, z13, z14].drop 0).take (Tryz.prog.cellsOf 3)) = xs[0]? := hg 0 _ rfl
    rw [c3, List.getElem?_eq_getElem (show 0 < xs.length by rw [hxl]; decide)] at g0
    have g1 : DataW.trod enc Tryz.prog W 0 (fun _ => true) true n 3 (([z0, z1, z2, z3, z4, z5, z6, z7, z8, z9, z10, z11, z12, z13, z14].drop 1).take (Tryz.prog.cellsOf 3)) = xs[1]? := hg 1 _ rfl
    rw [c3, List.getElem?_eq_getElem (show 1 < xs.length by rw [hxl]; decide)] at g1
    have g2 : DataW.trod enc Tryz.prog W 0 (fun _ => true) true n 3 (([z0, z1, z2, z3, z4, z5, z6, z7, z8, z9, z10, z11, z12, z13, z14].drop 2).take (Tryz.prog.cellsOf 3)) = xs[2]? := hg 2 _ rfl
    rw [c3, List.getElem?_eq_getElem (show 2 < xs.length by rw [hxl]; decide)] at g2
    have g3 : DataW.trod enc Tryz.prog W 0 (fun _ => true) true n 3 (([z0, z1, z2, z3, z4, z5, z6, z7, z8, z9, z10, z11, z12, z13, z14].drop 3).take (Tryz.prog.cellsOf 3)) = xs[3]? := hg 3 _ rfl
    rw [c3, List.getElem?_eq_getElem (show 3 < xs.length by rw [hxl]; decide)] at g3
    have g4 : DataW.trod enc Tryz.prog W 0 (fun _ => true) true n 45 (([z0, z1, z2, z3, z4, z5, z6, z7, z8, z9, z10, z11, z12, z13, z14].drop 4).take (Tryz.prog.cellsOf 45)) = xs[4]? := hg 4 _ rfl
    rw [c45, List.getElem?_eq_getElem (show 4 < xs.length by rw [hxl]; decide)] at g4
    have g5 : DataW.trod enc Tryz.prog W 0 (fun _ => true) true n 3 (([z0, z1, z2, z3, z4, z5, z6, z7, z8, z9, z10, z11, z12, z13, z14].drop 13).take (Tryz.prog.cellsOf 3)) = xs[5]? := hg 5 _ rfl
    rw [c3, List.getElem?_eq_getElem (show 5 < xs.length by rw [hxl]; decide)] at g5
    have g6 : DataW.trod enc Tryz.prog W 0 (fun _ => true) true n 3 (([z0, z1, z2, z3, z4, z5, z6, z7, z8, z9, z10, z11, z12, z13, z14].drop 14).take (Tryz.prog.cellsOf 3)) = xs[6]? := hg 6 _ rfl
    rw [c3, List.getElem?_eq_getElem (show 6 < xs.length by rw [hxl]; decide)] at g6
    obtain ⟨a0, e0, -, w0⟩ := DataW.trod_int (cs := [z0]) Tryz.underlying3 g0
    simp only [List.cons.injEq, and_true] at e0
    subst e0
    clear g0
    obtain ⟨a1, e1, -, w1⟩ := DataW.trod_int (cs := [z1]) Tryz.underlying3 g1
    simp only [List.cons.injEq, and_true] at e1
    subst e1
    clear g1
    obtain ⟨a2, e2, -, w2⟩ := DataW.trod_int (cs := [z2]) Tryz.underlying3 g2
    simp only [List.cons.injEq, and_true] at e2
    subst e2
    clear g2
    obtain ⟨a3, e3, -, w3⟩ := DataW.trod_int (cs := [z3]) Tryz.underlying3 g3
    simp only [List.cons.injEq, and_true] at e3
    subst e3
    clear g3
    obtain ⟨a4, a5, a6, a7, a8, a9, a10, a11, a12, e4, w4, w5, w6, w7, w8, w9, w10, w11, w12⟩ := open_T45 (cs := [z4, z5, z6, z7, z8, z9, z10, z11, z12]) g4
    simp only [List.cons.injEq, and_true] at e4
    obtain ⟨rfl, rfl, rfl, rfl, rfl, rfl, rfl, rfl, rfl⟩ := e4
    clear g4
    obtain ⟨a13, e5, -, w13⟩ := DataW.trod_int (cs := [z13]) Tryz.underlying3 g5
    simp only [List.cons.injEq, and_true] at e5
    subst e5
    clear g5
    obtain ⟨a14, e6, -, w14⟩ := DataW.trod_int (cs := [z14]) Tryz.underlying3 g6
    simp only [List.cons.injEq, and_true] at e6
    subst e6
    clear g6
    exact ⟨a0, a1, a2, a3, a4, a5, a6, a7, a8, a9, a10, a11, a12, a13, a14, rfl, w0, w1, w2, w3, w4, w5, w6, w7, w8, w9, w10, w11, w12, w13, w14⟩

theorem open_sn51 {H : Type} {enc : TypeId × Value → H} {W : World} {fuel : Nat} {v : Value} {x : DataW H × List MemPlace} (h : DataW.trod enc Tryz.prog W 0 (fun _ => true) true fuel 51 [v] = some x) :
    ∃ l0 : List Fx.Crs, Fx.IsSl Fx.crsC W v l0 ∧ ∀ e0 ∈ l0, Fx.Crs.ok e0 := by
  rcases Go.Deep.open_slice Tryz.underlying51 h with ⟨hcs, _⟩ | ⟨a, len, cap, m, n, D, Pl, hcs, _, hl, hm, hmm, _, hel⟩
  · simp at hcs
    subst hcs
    exact ⟨[], Fx.IsSl.nil _ _, by simp⟩
  · simp at hcs
    subst hcs
    have hmc : m = cap := hmm
    have hce : Tryz.prog.cellsOf 50 = 15 := by kernel_rfl
    refine Fx.sl_of_cells (base := 0) default 15 Fx.crsC_len (by omega) hl fun i hi => ?_
    obtain ⟨cs', hc, ht⟩ := hel i (by omega)
    rw [hce] at hc
    obtain ⟨a0, a1, a2, a3, a4, a5, a6, a7, a8, a9, a10, a11, a12, a13, a14, rfl, w0, w1, w2, w3, w4, w5, w6, w7, w8, w9, w10, w11, w12, w13, w14⟩ := open_T50 ht
    exact ⟨⟨a0, a1, a2, a3, ⟨a4, a5, a6, a7, a8, a9, a10, a11, a12⟩, a13, a14⟩, ⟨w0, w1, w2, w3, w4, w5, w6, w7, w8, w9, w10, w11, w12, w13, w14⟩, hc⟩

theorem open_sl51 {H : Type} {enc : TypeId × Value → H} {W : World} {fuel : Nat} {v : Value} {x : DataW H × List MemPlace} (h : DataW.trod enc Tryz.prog W 0 (fun _ => true) true fuel 51 [v] = some x) :
    ∃ l : List Fx.Crs, Fx.IsSl Fx.crsC W v l ∧ ∀ e ∈ l, Fx.Crs.ok e := by
  rcases Go.Deep.open_slice Tryz.underlying51 h with ⟨hcs, _⟩ | ⟨a, len, cap, m, n, D, Pl, hcs, _, hl, hm, hmm, _, hel⟩
  · simp at hcs
    subst hcs
    exact ⟨[], Fx.IsSl.nil _ _, by simp⟩
  · simp at hcs
    subst hcs
    have hmc : m = cap := hmm
    have hce : Tryz.prog.cellsOf 50 = 15 := by kernel_rfl
    refine Fx.sl_of_cells (base := 0) default 15 Fx.crsC_len (by omega) hl fun i hi => ?_
    obtain ⟨cs', hc, ht⟩ := hel i (by omega)
    rw [hce] at hc
    obtain ⟨a0, a1, a2, a3, a4, a5, a6, a7, a8, a9, a10, a11, a12, a13, a14, rfl, w0, w1, w2, w3, w4, w5, w6, w7, w8, w9, w10, w11, w12, w13, w14⟩ := open_T50 ht
    exact ⟨⟨a0, a1, a2, a3, ⟨a4, a5, a6, a7, a8, a9, a10, a11, a12⟩, a13, a14⟩, ⟨w0, w1, w2, w3, w4, w5, w6, w7, w8, w9, w10, w11, w12, w13, w14⟩, hc⟩

open Fx

set_option maxHeartbeats 2000000 in
theorem sbase_same (f : Int) (vE uE : Value) (es : List Ent) (vL uL : Value) (l : List Crs) (w : World) (h1 : IsSl entC w vE es) (h2 : IsSl entC w uE es) (h3 : IsSl crsC w vL l) (h4 : IsSl crsC w uL l) (hne : es.length ≤ 1000) (hnl : l.length ≤ 1000) :
    Calls Tryz.prog 37 #[.agg #[.int .i64 f, vE, vL], .agg #[.int .i64 f, uE, uL]] w fun e w' => e = .returned (.bool true) ∧ Below w.heap.size w w' := by
  have HR := Lib.hid (fun w1 a b => sregion_any f vE uE es w1 a b hne)
  have HP := Lib.hid (fun w1 a b => plain_Crs vL uL l w1 a b hnl)
  have H1 := Lib.hid h1
  have H2 := Lib.hid h2
  have H3 := Lib.hid h3
  have H4 := Lib.hid h4
  obtain ⟨A1, c1, rfl, -⟩ := h1
  obtain ⟨A2, c2, rfl, -⟩ := h2
  obtain ⟨A3, c3, rfl, -⟩ := h3
  obtain ⟨A4, c4, rfl, -⟩ := h4
  generalize es.length = nE at *
  generalize l.length = nL at *
  go_enter Tryz.func37, Tryz.ntmps37
  go_wp2_with fail
  refine (HR.out _ (H1.out.below (((Below.refl _ _).alloc (Nat.le_refl _) _).alloc (by simp) _)) (H2.out.below (((Below.refl _ _).alloc (Nat.le_refl _) _).alloc (by simp) _))).mono ?_
  rintro e w1 ⟨rfl, hb1⟩
  have hb : Below w.heap.size w w1 := unbox (unbox hb1)
  have HB := Lib.hid hb
  have s1 : w1.cell? ⟨w.heap.size, 2, none⟩ = some (.slice A3 nL c3) := by
    rw [hb1.cell (p := ⟨w.heap.size, 2, none⟩) (by simp; omega), World.cell?_alloc_lt _ _ _ (by simp), World.cell?_alloc_new]; rfl
  have s2 : w1.cell? ⟨w.heap.size + 1, 2, none⟩ = some (.slice A4 nL c4) := by
    rw [hb1.cell (p := ⟨w.heap.size + 1, 2, none⟩) (by simp), cell_box _ _ _ _ _ (by simp)]; rfl
  have hl1 := World.block_lt_of_cell? _ _ s2
  clear hb1 hb
  go_wp2_with fail
  refine (HP.out _ (H3.out.below HB.out) (H4.out.below HB.out)).mono ?_
  rintro e w2 ⟨rfl, hb2⟩
  have NX := nextW HB.out hb2
  clear hb2
  go_wp2
  go_ret
  exact ⟨rfl, NX⟩

set_option maxRecDepth 100000 in
set_option maxHeartbeats 16000000 in
theorem walk (a0_0 : Int) (a0_1 : Int) (a0_2 : Int) (a0_3 : Int) (a0_4 : Int) (a1 : Int) (a2_0 : Int) (a2_1 : Value) (a2_2 : Value) (v3 : Value) (l3 : List Fx.Crs) (a4 : Option Addr) (len4 cap4 : Nat) (z4 : List Int) (w : World) (w0_0 : (Lit.int .i64 a0_0).wf = true) (w0_1 : (Lit.int .i64 a0_1).wf = true) (w0_2 : (Lit.int .i64 a0_2).wf = true) (w0_3 : (Lit.int .i64 a0_3).wf = true) (w0_4 : (Lit.int .u64 a0_4).wf = true) (w1 : (Lit.int .i64 a1).wf = true) (w2_0 : (Lit.int .i64 a2_0).wf = true) (w2_1 : ∃ l0 : List Fx.Ent, Fx.IsSl Fx.entC w a2_1 l0 ∧ ∀ e0 ∈ l0, Fx.Ent.ok e0) (w2_2 : ∃ l0 : List Fx.Crs, Fx.IsSl Fx.crsC w a2_2 l0 ∧ ∀ e0 ∈ l0, Fx.Crs.ok e0) (w3 : Fx.IsSl Fx.crsC w v3 l3) (k3 : ∀ e ∈ l3, Fx.Crs.ok e) (w4 : IsRow .u8 w a4 len4 cap4 z4) :
    Calls Tryz.prog 5 #[.agg #[.int .i64 a0_0, .int .i64 a0_1, .int .i64 a0_2, .int .i64 a0_3, .int .u64 a0_4], .int .i64 a1, .agg #[.int .i64 a2_0, a2_1, a2_2], v3, .slice a4 len4 cap4] w fun e w' => e = .returned (.bool true) ∧ Below w.heap.size w w' := by
  clear w0_0 w0_1 w0_2 w0_3 w1 w2_0 k3
  obtain ⟨es, hE, -⟩ := w2_1
  obtain ⟨bl, hBl, -⟩ := w2_2
  obtain ⟨hsl, hok, hlen⟩ := w4.sl8
  clear w4
  generalize z4.take len4 = x at *
  have HE := Lib.hid hE
  have HBl := Lib.hid hBl
  have HL := Lib.hid w3
  have HX := Lib.hid (show IsSl byC w (.slice a4 len4 cap4) x from hsl)
  have HLen := Lib.hid hlen
  obtain ⟨AE, cE, rfl, -⟩ := hE
  obtain ⟨AB, cB, rfl, -⟩ := hBl
  obtain ⟨AL, cL, rfl, -⟩ := w3
  obtain ⟨nE, hnE⟩ : ∃ n, es.length = n := ⟨_, rfl⟩
  obtain ⟨nB, hnB⟩ : ∃ n, bl.length = n := ⟨_, rfl⟩
  obtain ⟨nL, hnL⟩ : ∃ n, l3.length = n := ⟨_, rfl⟩
  have HnL := Lib.hid hnL
  have HA := Lib.hid awake_sn
  rw [hnE] at HE ⊢
  rw [hnB] at HBl ⊢
  rw [hnL] at HL ⊢
  go_enter Tryz.func5, Tryz.ntmps5
  go_upto_region 1 with fail
  generalize hW : World.alloc _ _ = W
  have BC := Lib.hid (show CfgBox W w.heap.size ⟨a0_0, a0_1, a0_2, a0_3, a0_4⟩ from by rw [← hW]; exact CfgBox.n2a _ ⟨a0_0, a0_1, a0_2, a0_3, a0_4⟩ _ _ rfl)
  have BS := Lib.hid (show Blk W (w.heap.size + 1) 63 #[.int .i64 a2_0, .slice AE nE cE, .slice AB nB cB] from by rw [← hW]; exact Blk.new' _ _ _ (by simp))
  have HB := Lib.hid (show Below w.heap.size w W from by rw [← hW]; exact ((Below.refl _ _).alloc (Nat.le_refl _) _).alloc (by simp) _)
  clear hW
  have hss := BS.out.lt
  have s1 : W.cell? ⟨w.heap.size + 1, 1, none⟩ = some (.slice AE nE cE) := BS.out.cell 1
  have s2 : W.cell? ⟨w.heap.size + 1, 2, none⟩ = some (.slice AB nB cB) := BS.out.cell 2
  by_cases b1 : 40 < nE
  · go_wp2_with fail
    refine (HA.out _).mono ?_
    rintro e w1 ⟨rfl, hb⟩
    go_wp2
    go_ret
    exact ⟨rfl, nextW HB.out hb⟩
  · by_cases b2 : 40 < nB
    · go_wp2_with fail
      refine (HA.out _).mono ?_
      rintro e w1 ⟨rfl, hb⟩
      go_wp2
      go_ret
      exact ⟨rfl, nextW HB.out hb⟩
    · by_cases b3 : 40 < nL
      · go_wp2_with fail
        refine (HA.out _).mono ?_
        rintro e w1 ⟨rfl, hb⟩
        go_wp2
        go_ret
        exact ⟨rfl, nextW HB.out hb⟩
      · by_cases b4 : 3000 < len4
        · go_wp2_with fail
          refine (HA.out _).mono ?_
          rintro e w1 ⟨rfl, hb⟩
          go_wp2
          go_ret
          exact ⟨rfl, nextW HB.out hb⟩
        · have hcc := BC.out.has
          obtain ⟨c0, c1, c2, c3, c4, -⟩ := BC.out
          by_cases hrt : rt a0_0 a0_1 a0_2 a0_3 = true
          · have HN := Lib.hid (fun w => new_yes a0_0 a0_1 a0_2 a0_3 a0_4 w hrt)
            clear hrt
            go_wp2_with fail
            refine (HN.out _).mono ?_
            rintro e w1 ⟨rfl, hb1⟩
            have NX := nextW HB.out hb1
            replace HB := Lib.hid NX
            replace BC := Lib.hid (BC.out.nx hb1)
            replace BS := Lib.hid (BS.out.below hb1 hss)
            clear hb1 NX c0 c1 c2 c3 c4 hcc hss s1 s2 HN
            have BG0 := CfgBox.n1 w1 ⟨a0_0, a0_1, a0_2, a0_3, a0_4⟩ 39 rfl
            go_upto_region 4 with fail
            generalize hW : World.alloc _ _ = W1
            have hal : Below w1.heap.size w1 W1 := by rw [← hW]; exact (Below.refl _ _).alloc (Nat.le_refl _) _
            have BG := Lib.hid (show CfgBox W1 w1.heap.size ⟨a0_0, a0_1, a0_2, a0_3, a0_4⟩ from by rw [← hW]; exact BG0)
            clear BG0 hW
            have hss := BS.out.lt
            have NX := nextW HB.out hal
            replace HB := Lib.hid NX
            replace BC := Lib.hid (BC.out.nx hal)
            replace BS := Lib.hid (BS.out.below hal hss)
            clear hal NX hss
            generalize w1.heap.size = gg at *
            have HEn : es.length ≤ 1000 := by omega
            have HBn : bl.length ≤ 5000 := by omega
            have hxn : x.length ≤ 1000000 := by have := HLen.out; omega
            have HPk := Lib.hid (fun v w hv => packcross_any a0_0 a0_1 a0_2 a0_3 a0_4 v l3 w hv (by omega))
            have HFk := Lib.hid (fun v w hv => fpack_any a0_0 a0_1 a0_2 a0_3 a0_4 v l3 w hv (by omega))
            rw [show fpkC a0_0 a0_1 a0_2 a0_3 l3 = pkC a0_0 a0_1 a0_2 a0_3 l3 from rfl] at HFk
            have HTk := Lib.hid (fun v w hv => takecross_any a0_0 a0_1 a0_2 a0_3 a0_4 v x w hv hok hxn)
            have HGk := Lib.hid (fun v w hv => ftake_any a0_0 a0_1 a0_2 a0_3 a0_4 v x w hv hok hxn)
            have HPb := Lib.hid (fun vE vL w h1 h2 => pack_any a0_0 a0_1 a0_2 a0_3 a0_4 a1 a2_0 vE es vL bl w h1 HEn h2 HBn)
            have HFb := Lib.hid (fun vE vL w h1 h2 => fpackB_any a0_0 a0_1 a0_2 a0_3 a0_4 a1 a2_0 vE es vL bl w h1 HEn h2 HBn)
            rw [show fpkB a0_0 a0_1 a0_2 a0_3 a1 a2_0 es bl = pkB a0_0 a0_1 a0_2 a0_3 a1 a2_0 es bl from rfl] at HFb
            have HTb := Lib.hid (fun v w hv => take_any a0_0 a0_1 a0_2 a0_3 a0_4 a1 v x w hv hok hxn)
            have HGb := Lib.hid (fun v w hv => ftakeB_any a0_0 a0_1 a0_2 a0_3 a0_4 a1 v x w hv hok hxn)
            have HMy := Lib.hid (fun vE vL w h1 h2 => may_any a0_0 a0_1 a0_2 a0_3 a0_4 a1 a2_0 vE es vL bl w h1 HEn h2 (by omega))
            have HFm := Lib.hid (fun vE vL w h1 h2 => fmay_any a0_0 a0_1 a0_2 a0_3 a0_4 a1 a2_0 vE es vL bl w h1 HEn h2 (by omega))
            have htc : (tkC a0_0 a0_1 a0_2 a0_3 x).1.length ≤ 1000 := by
              unfold tkC
              split
              · simp
              · split
                · simp
                · split
                  · exact list_le' _ _
                  · simp
            have htb : (tkB a0_0 a0_1 a0_2 a0_3 a1 x).1.es.length ≤ 1000 ∧ (tkB a0_0 a0_1 a0_2 a0_3 a1 x).1.l.length ≤ 1000 := by
              unfold tkB
              split
              · simp
              · split
                · simp
                · split
                  · exact ⟨list_le' _ _, list_le' _ _⟩
                  · simp
            have HPl := Lib.hid (fun u v w hu hv => plain_Crs u v (tkC a0_0 a0_1 a0_2 a0_3 x).1 w hu hv htc)
            have HSb := Lib.hid (fun vE uE vL uL w h1 h2 h3 h4 => sbase_same (tkB a0_0 a0_1 a0_2 a0_3 a1 x).1.f vE uE (tkB a0_0 a0_1 a0_2 a0_3 a1 x).1.es vL uL (tkB a0_0 a0_1 a0_2 a0_3 a1 x).1.l w h1 h2 h3 h4 htb.1 htb.2)
            have HOw := Lib.hid (fun v w hv => own_Crs v l3 ⟨0, 0, 71, 0, ⟨0, 0, 0, 0, 0, 0, 0, 0, 0⟩, 0, 0⟩ w hv (by omega))
            have HKp := Lib.hid (fun v g w hv hr => kept_Crs v g l3 ⟨0, 0, 71, 0, ⟨0, 0, 0, 0, 0, 0, 0, 0, 0⟩, 0, 0⟩ w hv hr (by omega))
            have HSm := Lib.hid same_by
            rw [hnL] at HOw HKp
            generalize pkC a0_0 a0_1 a0_2 a0_3 l3 = QC at *
            generalize tkC a0_0 a0_1 a0_2 a0_3 x = TC at *
            generalize pkB a0_0 a0_1 a0_2 a0_3 a1 a2_0 es bl = QB at *
            generalize tkB a0_0 a0_1 a0_2 a0_3 a1 x = TB at *
            generalize mayB a0_0 a0_1 a0_2 a0_3 a1 a2_0 es bl = may at *
            clear HEn HBn hxn htc htb hnE hnB hnL b1 b2 b3 b4
            obtain ⟨nQC, hQC⟩ : ∃ n, QC.1.length = n := ⟨_, rfl⟩
            obtain ⟨nTC, hTC⟩ : ∃ n, TC.1.length = n := ⟨_, rfl⟩
            obtain ⟨nQB, hQB⟩ : ∃ n, QB.1.length = n := ⟨_, rfl⟩
            obtain ⟨nTE, hTE⟩ : ∃ n, TB.1.es.length = n := ⟨_, rfl⟩
            obtain ⟨nTL, hTL⟩ : ∃ n, TB.1.l.length = n := ⟨_, rfl⟩
            have HnQC := Lib.hid hQC
            have HnTC := Lib.hid hTC
            have HnQB := Lib.hid hQB
            have HnTE := Lib.hid hTE
            have HnTL := Lib.hid hTL
            clear hQC hTC hQB hTE hTL
            go_wp2_with fail
            refine (HOw.out _ _ (HL.out.below HB.out)).mono ?_
            rintro e w2 ⟨gi_, rfl, hb2, hg2, hblk⟩
            have KB := Lib.hid hblk
            have F0 := Lib.hid (show IsSl crsC w2 (.slice (some ⟨gi_, 0, none⟩) nL (nL + 3)) l3 from by have h := OwnedCrs.sl (w' := w2) hblk; rw [HnL.out] at h; exact h)
            have hss := BS.out.lt
            have NX := nextW HB.out hb2
            replace HB := Lib.hid NX
            replace BC := Lib.hid (BC.out.nx hb2)
            replace BG := Lib.hid (BG.out.nx hb2)
            replace BS := Lib.hid (BS.out.below hb2 hss)
            clear hb2 hg2 hblk NX hss HOw
            have hcc := BG.out.has
            obtain ⟨c0, c1, c2, c3, c4, -⟩ := BG.out
            go_wp2_with fail
            refine (HPk.out _ _ F0.out).mono ?_
            rintro e w3 ⟨v3, rfl, ho3, hb3⟩
            clear c0 c1 c2 c3 c4 hcc
            have hss := BS.out.lt
            have hkk := KB.out.lt
            have NX := nextW HB.out hb3
            replace HB := Lib.hid NX
            replace BC := Lib.hid (BC.out.nx hb3)
            replace BG := Lib.hid (BG.out.nx hb3)
            replace BS := Lib.hid (BS.out.below hb3 hss)
            replace KB := Lib.hid (KB.out.below hb3 hkk)
            replace F0 := Lib.hid (F0.out.below hb3)
            clear NX hss hkk
            have F1 := Lib.hid (show IsSl byC w3 v3 _ from ho3.sl)
            obtain ⟨A3, d3, rfl, -⟩ := ho3.sl
            rw [HnQC.out] at F1
            simp only [HnQC.out]
            clear ho3
            clear hb3 HPk
            have hcc := BC.out.has
            obtain ⟨c0, c1, c2, c3, c4, -⟩ := BC.out
            go_wp2_with fail
            refine (HFk.out _ _ (HL.out.below HB.out)).mono ?_
            rintro e w4 ⟨v4, rfl, ho4, hb4⟩
            clear c0 c1 c2 c3 c4 hcc
            have hss := BS.out.lt
            have hkk := KB.out.lt
            have NX := nextW HB.out hb4
            replace HB := Lib.hid NX
            replace BC := Lib.hid (BC.out.nx hb4)
            replace BG := Lib.hid (BG.out.nx hb4)
            replace BS := Lib.hid (BS.out.below hb4 hss)
            replace KB := Lib.hid (KB.out.below hb4 hkk)
            replace F0 := Lib.hid (F0.out.below hb4)
            replace F1 := Lib.hid (F1.out.below hb4)
            clear NX hss hkk
            have F2 := Lib.hid (show IsSl byC w4 v4 _ from ho4.sl)
            obtain ⟨A4, d4, rfl, -⟩ := ho4.sl
            rw [HnQC.out] at F2
            simp only [HnQC.out]
            clear ho4
            clear hb4 HFk
            have hcc := BG.out.has
            obtain ⟨c0, c1, c2, c3, c4, -⟩ := BG.out
            go_wp2_with fail
            refine (HTk.out _ _ (HX.out.below HB.out)).mono ?_
            rintro e w5 ⟨v5, rfl, ho5, hb5⟩
            clear c0 c1 c2 c3 c4 hcc
            have hss := BS.out.lt
            have hkk := KB.out.lt
            have NX := nextW HB.out hb5
            replace HB := Lib.hid NX
            replace BC := Lib.hid (BC.out.nx hb5)
            replace BG := Lib.hid (BG.out.nx hb5)
            replace BS := Lib.hid (BS.out.below hb5 hss)
            replace KB := Lib.hid (KB.out.below hb5 hkk)
            replace F0 := Lib.hid (F0.out.below hb5)
            replace F1 := Lib.hid (F1.out.below hb5)
            replace F2 := Lib.hid (F2.out.below hb5)
            clear NX hss hkk
            have F3 := Lib.hid (show IsSl crsC w5 v5 _ from owned_sl ho5)
            obtain ⟨A5, d5, rfl, -⟩ := owned_sl ho5
            rw [HnTC.out] at F3
            simp only [HnTC.out]
            clear ho5
            clear hb5 HTk
            have hcc := BC.out.has
            obtain ⟨c0, c1, c2, c3, c4, -⟩ := BC.out
            go_wp2_with fail
            refine (HGk.out _ _ (HX.out.below HB.out)).mono ?_
            rintro e w6 ⟨v6, rfl, ho6, hb6⟩
            clear c0 c1 c2 c3 c4 hcc
            have hss := BS.out.lt
            have hkk := KB.out.lt
            have NX := nextW HB.out hb6
            replace HB := Lib.hid NX
            replace BC := Lib.hid (BC.out.nx hb6)
            replace BG := Lib.hid (BG.out.nx hb6)
            replace BS := Lib.hid (BS.out.below hb6 hss)
            replace KB := Lib.hid (KB.out.below hb6 hkk)
            replace F0 := Lib.hid (F0.out.below hb6)
            replace F1 := Lib.hid (F1.out.below hb6)
            replace F2 := Lib.hid (F2.out.below hb6)
            replace F3 := Lib.hid (F3.out.below hb6)
            clear NX hss hkk
            have F4 := Lib.hid (show IsSl crsC w6 v6 _ from owned_sl ho6)
            obtain ⟨A6, d6, rfl, -⟩ := owned_sl ho6
            rw [HnTC.out] at F4
            simp only [HnTC.out]
            clear ho6
            clear hb6 HGk
            have hcc := BG.out.has
            obtain ⟨c0, c1, c2, c3, c4, -⟩ := BG.out
            have hss := BS.out.lt
            have s0 : w6.cell? ⟨w.heap.size + 1, 0, none⟩ = some (.int .i64 a2_0) := BS.out.cell 0
            have s1 : w6.cell? ⟨w.heap.size + 1, 1, none⟩ = some (.slice AE nE cE) := BS.out.cell 1
            have s2 : w6.cell? ⟨w.heap.size + 1, 2, none⟩ = some (.slice AB nB cB) := BS.out.cell 2
            go_wp2_with fail
            refine (HPb.out _ _ _ (HE.out.below HB.out) (HBl.out.below HB.out)).mono ?_
            rintro e w7 ⟨v7, rfl, ho7, hb7⟩
            clear c0 c1 c2 c3 c4 hcc hss s0 s1 s2
            have hss := BS.out.lt
            have hkk := KB.out.lt
            have NX := nextW HB.out hb7
            replace HB := Lib.hid NX
            replace BC := Lib.hid (BC.out.nx hb7)
            replace BG := Lib.hid (BG.out.nx hb7)
            replace BS := Lib.hid (BS.out.below hb7 hss)
            replace KB := Lib.hid (KB.out.below hb7 hkk)
            replace F0 := Lib.hid (F0.out.below hb7)
            replace F1 := Lib.hid (F1.out.below hb7)
            replace F2 := Lib.hid (F2.out.below hb7)
            replace F3 := Lib.hid (F3.out.below hb7)
            replace F4 := Lib.hid (F4.out.below hb7)
            clear NX hss hkk
            have F5 := Lib.hid (show IsSl byC w7 v7 _ from ho7.sl)
            obtain ⟨A7, d7, rfl, -⟩ := ho7.sl
            rw [HnQB.out] at F5
            simp only [HnQB.out]
            clear ho7
            clear hb7 HPb
            have hcc := BC.out.has
            obtain ⟨c0, c1, c2, c3, c4, -⟩ := BC.out
            have hss := BS.out.lt
            have s0 : w7.cell? ⟨w.heap.size + 1, 0, none⟩ = some (.int .i64 a2_0) := BS.out.cell 0
            have s1 : w7.cell? ⟨w.heap.size + 1, 1, none⟩ = some (.slice AE nE cE) := BS.out.cell 1
            have s2 : w7.cell? ⟨w.heap.size + 1, 2, none⟩ = some (.slice AB nB cB) := BS.out.cell 2
            go_wp2_with fail
            refine (HFb.out _ _ _ (HE.out.below HB.out) (HBl.out.below HB.out)).mono ?_
            rintro e w8 ⟨v8, rfl, ho8, hb8⟩
            clear c0 c1 c2 c3 c4 hcc hss s0 s1 s2
            have hss := BS.out.lt
            have hkk := KB.out.lt
            have NX := nextW HB.out hb8
            replace HB := Lib.hid NX
            replace BC := Lib.hid (BC.out.nx hb8)
            replace BG := Lib.hid (BG.out.nx hb8)
            replace BS := Lib.hid (BS.out.below hb8 hss)
            replace KB := Lib.hid (KB.out.below hb8 hkk)
            replace F0 := Lib.hid (F0.out.below hb8)
            replace F1 := Lib.hid (F1.out.below hb8)
            replace F2 := Lib.hid (F2.out.below hb8)
            replace F3 := Lib.hid (F3.out.below hb8)
            replace F4 := Lib.hid (F4.out.below hb8)
            replace F5 := Lib.hid (F5.out.below hb8)
            clear NX hss hkk
            have F6 := Lib.hid (show IsSl byC w8 v8 _ from ho8.sl)
            obtain ⟨A8, d8, rfl, -⟩ := ho8.sl
            rw [HnQB.out] at F6
            simp only [HnQB.out]
            clear ho8
            clear hb8 HFb
            have hcc := BG.out.has
            obtain ⟨c0, c1, c2, c3, c4, -⟩ := BG.out
            go_wp2_with fail
            refine (HTb.out _ _ (HX.out.below HB.out)).mono ?_
            rintro e w9 ⟨vE9, vL9, rfl, hoE9, hoL9, hb9⟩
            clear c0 c1 c2 c3 c4 hcc
            have hss := BS.out.lt
            have hkk := KB.out.lt
            have NX := nextW HB.out hb9
            replace HB := Lib.hid NX
            replace BC := Lib.hid (BC.out.nx hb9)
            replace BG := Lib.hid (BG.out.nx hb9)
            replace BS := Lib.hid (BS.out.below hb9 hss)
            replace KB := Lib.hid (KB.out.below hb9 hkk)
            replace F0 := Lib.hid (F0.out.below hb9)
            replace F1 := Lib.hid (F1.out.below hb9)
            replace F2 := Lib.hid (F2.out.below hb9)
            replace F3 := Lib.hid (F3.out.below hb9)
            replace F4 := Lib.hid (F4.out.below hb9)
            replace F5 := Lib.hid (F5.out.below hb9)
            replace F6 := Lib.hid (F6.out.below hb9)
            clear NX hss hkk
            have F7 := Lib.hid (show IsSl entC w9 vE9 _ from owned_sl hoE9)
            have F8 := Lib.hid (show IsSl crsC w9 vL9 _ from owned_sl hoL9)
            obtain ⟨AE9, dE9, rfl, -⟩ := owned_sl hoE9
            obtain ⟨AL9, dL9, rfl, -⟩ := owned_sl hoL9
            rw [HnTE.out] at F7
            rw [HnTL.out] at F8
            simp only [HnTE.out, HnTL.out]
            clear hoE9 hoL9
            clear hb9 HTb
            go_upto_region 14 with fail
            generalize hW9 : World.alloc _ _ = w9b
            have hal : Below w9.heap.size w9 w9b := by rw [← hW9]; exact (Below.refl _ _).alloc (Nat.le_refl _) _
            have BY0 : Blk w9b w9.heap.size 63 #[.int .i64 TB.1.f, .slice AE9 nTE dE9, .slice AL9 nTL dL9] := by rw [← hW9]; exact Blk.new' _ _ _ rfl
            have hss := BS.out.lt
            have hkk := KB.out.lt
            have NX := nextW HB.out hal
            replace HB := Lib.hid NX
            replace BC := Lib.hid (BC.out.nx hal)
            replace BG := Lib.hid (BG.out.nx hal)
            replace BS := Lib.hid (BS.out.below hal hss)
            replace KB := Lib.hid (KB.out.below hal hkk)
            replace F0 := Lib.hid (F0.out.below hal)
            replace F1 := Lib.hid (F1.out.below hal)
            replace F2 := Lib.hid (F2.out.below hal)
            replace F3 := Lib.hid (F3.out.below hal)
            replace F4 := Lib.hid (F4.out.below hal)
            replace F5 := Lib.hid (F5.out.below hal)
            replace F6 := Lib.hid (F6.out.below hal)
            replace F7 := Lib.hid (F7.out.below hal)
            replace F8 := Lib.hid (F8.out.below hal)
            clear NX hss hkk
            have BY := Lib.hid BY0
            clear hal hW9 BY0
            generalize w9.heap.size = gy at *
            have hcc := BC.out.has
            obtain ⟨c0, c1, c2, c3, c4, -⟩ := BC.out
            go_wp2_with fail
            refine (HGb.out _ _ (HX.out.below HB.out)).mono ?_
            rintro e w10 ⟨vE10, vL10, rfl, hoE10, hoL10, hb10⟩
            clear c0 c1 c2 c3 c4 hcc
            have hss := BS.out.lt
            have hkk := KB.out.lt
            have NX := nextW HB.out hb10
            replace HB := Lib.hid NX
            replace BC := Lib.hid (BC.out.nx hb10)
            replace BG := Lib.hid (BG.out.nx hb10)
            replace BS := Lib.hid (BS.out.below hb10 hss)
            replace KB := Lib.hid (KB.out.below hb10 hkk)
            replace F0 := Lib.hid (F0.out.below hb10)
            replace F1 := Lib.hid (F1.out.below hb10)
            replace F2 := Lib.hid (F2.out.below hb10)
            replace F3 := Lib.hid (F3.out.below hb10)
            replace F4 := Lib.hid (F4.out.below hb10)
            replace F5 := Lib.hid (F5.out.below hb10)
            replace F6 := Lib.hid (F6.out.below hb10)
            replace F7 := Lib.hid (F7.out.below hb10)
            replace F8 := Lib.hid (F8.out.below hb10)
            have hlbBY := BY.out.lt
            replace BY := Lib.hid (BY.out.below hb10 hlbBY)
            clear hlbBY
            clear NX hss hkk
            have F9 := Lib.hid (show IsSl entC w10 vE10 _ from owned_sl hoE10)
            have G1 := Lib.hid (show IsSl crsC w10 vL10 _ from owned_sl hoL10)
            obtain ⟨AE10, dE10, rfl, -⟩ := owned_sl hoE10
            obtain ⟨AL10, dL10, rfl, -⟩ := owned_sl hoL10
            rw [HnTE.out] at F9
            rw [HnTL.out] at G1
            simp only [HnTE.out, HnTL.out]
            clear hoE10 hoL10
            clear hb10 HGb
            go_upto_region 15 with fail
            generalize hW10 : World.alloc _ _ = w10b
            have hal : Below w10.heap.size w10 w10b := by rw [← hW10]; exact (Below.refl _ _).alloc (Nat.le_refl _) _
            have BZ0 : Blk w10b w10.heap.size 63 #[.int .i64 TB.1.f, .slice AE10 nTE dE10, .slice AL10 nTL dL10] := by rw [← hW10]; exact Blk.new' _ _ _ rfl
            have hss := BS.out.lt
            have hkk := KB.out.lt
            have NX := nextW HB.out hal
            replace HB := Lib.hid NX
            replace BC := Lib.hid (BC.out.nx hal)
            replace BG := Lib.hid (BG.out.nx hal)
            replace BS := Lib.hid (BS.out.below hal hss)
            replace KB := Lib.hid (KB.out.below hal hkk)
            replace F0 := Lib.hid (F0.out.below hal)
            replace F1 := Lib.hid (F1.out.below hal)
            replace F2 := Lib.hid (F2.out.below hal)
            replace F3 := Lib.hid (F3.out.below hal)
            replace F4 := Lib.hid (F4.out.below hal)
            replace F5 := Lib.hid (F5.out.below hal)
            replace F6 := Lib.hid (F6.out.below hal)
            replace F7 := Lib.hid (F7.out.below hal)
            replace F8 := Lib.hid (F8.out.below hal)
            replace F9 := Lib.hid (F9.out.below hal)
            replace G1 := Lib.hid (G1.out.below hal)
            have hlbBY := BY.out.lt
            replace BY := Lib.hid (BY.out.below hal hlbBY)
            clear hlbBY
            clear NX hss hkk
            have BZ := Lib.hid BZ0
            clear hal hW10 BZ0
            generalize w10.heap.size = gz at *
            have hc1 := BG.out.has
            have hc2 := BC.out.has
            have hc3 := BS.out.lt
            have hc4 := BY.out.lt
            have hc5 := BZ.out.lt
            obtain ⟨g0, g1, g2, g3, g4, -⟩ := BG.out
            obtain ⟨c0, c1, c2, c3, c4, -⟩ := BC.out
            have s0 : w10b.cell? ⟨w.heap.size + 1, 0, none⟩ = some (.int .i64 a2_0) := BS.out.cell 0
            have s1 : w10b.cell? ⟨w.heap.size + 1, 1, none⟩ = some (.slice AE nE cE) := BS.out.cell 1
            have s2 : w10b.cell? ⟨w.heap.size + 1, 2, none⟩ = some (.slice AB nB cB) := BS.out.cell 2
            have y0 := BY.out.cell 0
            have y1 := BY.out.cell 1
            have y2 := BY.out.cell 2
            have z0 := BZ.out.cell 0
            have z1 := BZ.out.cell 1
            have z2 := BZ.out.cell 2
            simp only [List.getElem?_toArray, List.getElem?_cons_zero, List.getElem?_cons_succ] at y0 y1 y2 z0 z1 z2
            have heq1 : (QC.2 == QC.2) = true := by simp
            have heq2 : (TC.2 == TC.2) = true := by simp
            have heq3 : (QB.2 == QB.2) = true := by simp
            have heq4 : (TB.2 == TB.2) = true := by simp
            have heq5 : (may == may) = true := by simp
            have hkl := KB.out.lt
            refine plan_region' (S := (fun w' => (∀ b o, b < (w10b).heap.size → w'.cell? ⟨b, o, none⟩ = (w10b).cell? ⟨b, o, none⟩) ∧ (∀ b o, b < (w10b).heap.size → w'.frozen? ⟨b, o, none⟩ = (w10b).frozen? ⟨b, o, none⟩) ∧ Below (w10b).heap.size (w10b) w')) [(0, false), (1, true), (2, true), (3, true), (4, false), (5, true), (6, true), (7, true), (8, true), (9, true), (10, true), (11, true), (12, true), (13, true), (14, false), (15, true), (16, true), (17, true), (18, true), (19, true), (20, true), (21, true), (22, true), (23, true), (24, false), (25, true), (26, true), (27, true), (28, true), (29, true), (30, true), (31, true), (32, true), (33, true), (34, false), (35, true), (36, true), (37, true), (38, true), (39, true), (40, true), (41, true), (42, true), (43, true), (44, true), (46, true), (47, true), (48, true), (45, false), (49, false), (50, true), (51, true), (52, true), (53, true), (54, true), (55, true), (56, false), (57, true), (58, true)] (by kernel_rfl) (by kernel_rfl) (fun _ _ d _ _ h => by cases d <;> exact h) (keepW0 _) (fun hS => ?_)
            simp only [picked, List.getElem?_cons_succ, List.getElem?_cons_zero]
            refine row_call (by rfl) (fun K hK => ?_)
            go_simp
            (refine (HA.out _).mono ?_; rintro e wa ⟨rfl, hba⟩)
            (try go_wp2_with fail)
            refine hK.out _ _ ?_ (fun hS' => ?_)
            · (try dsimp only); first | exact keepW (by assumption) (by assumption) | exact keepB (by assumption) (by assumption) | exact keepA (by assumption) | assumption
            clear hS hK K
            have hS := hS'
            clear hS'
            iterate 3
             (try simp only [Act.put, tA, tB, tC])
             refine row_free (v := ?_) (by rfl) ?_ ?_; rotate_left 1; focus (intro w hSw; (try dsimp only at hSw); go_simp; (try with_reducible rfl))
            (try simp only [Act.put, tA, tB, tC])
            refine row_call (by rfl) (fun K hK => ?_)
            go_simp
            (refine (HSm.out _ _ QC.1 _ (F1.out.below hS.2.2) (F2.out.below hS.2.2)).mono ?_; rintro e wb ⟨rfl, rfl⟩)
            (try go_wp2_with fail)
            refine hK.out _ _ ?_ (fun hS' => ?_)
            · (try dsimp only); first | exact keepW (by assumption) (by assumption) | exact keepB (by assumption) (by assumption) | exact keepA (by assumption) | assumption
            clear hS hK K
            have hS := hS'
            clear hS'
            iterate 9
             (try simp only [Act.put, tA, tB, tC])
             refine row_free (v := ?_) (by rfl) ?_ ?_; rotate_left 1; focus (intro w hSw; (try dsimp only at hSw); go_simp; (try with_reducible rfl))
            (try simp only [Act.put, tA, tB, tC])
            refine row_call (by rfl) (fun K hK => ?_)
            go_simp
            (refine (HPl.out _ _ _ (F3.out.below hS.2.2) (F4.out.below hS.2.2)).mono ?_; rintro e wc ⟨rfl, hbc⟩)
            (try go_wp2_with fail)
            refine hK.out _ _ ?_ (fun hS' => ?_)
            · (try dsimp only); first | exact keepW (by assumption) (by assumption) | exact keepB (by assumption) (by assumption) | exact keepA (by assumption) | assumption
            clear hS hK K
            have hS := hS'
            clear hS'
            iterate 9
             (try simp only [Act.put, tA, tB, tC])
             refine row_free (v := ?_) (by rfl) ?_ ?_; rotate_left 1; focus (intro w hSw; (try dsimp only at hSw); go_simp; (try with_reducible rfl))
            (try simp only [Act.put, tA, tB, tC])
            refine row_call (by rfl) (fun K hK => ?_)
            go_simp
            (refine (HSm.out _ _ QB.1 _ (F5.out.below hS.2.2) (F6.out.below hS.2.2)).mono ?_; rintro e wd ⟨rfl, rfl⟩)
            (try go_wp2_with fail)
            refine hK.out _ _ ?_ (fun hS' => ?_)
            · (try dsimp only); first | exact keepW (by assumption) (by assumption) | exact keepB (by assumption) (by assumption) | exact keepA (by assumption) | assumption
            clear hS hK K
            have hS := hS'
            clear hS'
            iterate 9
             (try simp only [Act.put, tA, tB, tC])
             refine row_free (v := ?_) (by rfl) ?_ ?_; rotate_left 1; focus (intro w hSw; (try dsimp only at hSw); go_simp; (try with_reducible rfl))
            (try simp only [Act.put, tA, tB, tC])
            refine row_call (by rfl) (fun K hK => ?_)
            go_simp
            (refine (HSb.out _ _ _ _ _ (F7.out.below hS.2.2) (F9.out.below hS.2.2) (F8.out.below hS.2.2) (G1.out.below hS.2.2)).mono ?_; rintro e we ⟨rfl, hbe⟩)
            (try go_wp2_with fail)
            refine hK.out _ _ ?_ (fun hS' => ?_)
            · (try dsimp only); first | exact keepW (by assumption) (by assumption) | exact keepB (by assumption) (by assumption) | exact keepA (by assumption) | assumption
            clear hS hK K
            have hS := hS'
            clear hS'
            iterate 13
             (try simp only [Act.put, tA, tB, tC])
             refine row_free (v := ?_) (by rfl) ?_ ?_; rotate_left 1; focus (intro w hSw; (try dsimp only at hSw); go_simp; (try with_reducible rfl))
            (try simp only [Act.put, tA, tB, tC])
            refine row_call (by rfl) (fun K hK => ?_)
            go_simp
            (refine (HMy.out _ _ _ (HE.out.below (nextW HB.out hS.2.2)) (HBl.out.below (nextW HB.out hS.2.2))).mono ?_; rintro e wf ⟨rfl, hbf⟩)
            (try go_wp2_with fail)
            refine hK.out _ _ ?_ (fun hS' => ?_)
            · (try dsimp only); first | exact keepW (by assumption) (by assumption) | exact keepB (by assumption) (by assumption) | exact keepA (by assumption) | assumption
            clear hS hK K
            have hS := hS'
            clear hS'
            (try simp only [Act.put, tA, tB, tC])
            refine row_call (by rfl) (fun K hK => ?_)
            go_simp
            (refine (HFm.out _ _ _ (HE.out.below (nextW HB.out hS.2.2)) (HBl.out.below (nextW HB.out hS.2.2))).mono ?_; rintro e wg ⟨rfl, hbg⟩)
            (try go_wp2_with fail)
            refine hK.out _ _ ?_ (fun hS' => ?_)
            · (try dsimp only); first | exact keepW (by assumption) (by assumption) | exact keepB (by assumption) (by assumption) | exact keepA (by assumption) | assumption
            clear hS hK K
            have hS := hS'
            clear hS'
            iterate 6
             (try simp only [Act.put, tA, tB, tC])
             refine row_free (v := ?_) (by rfl) ?_ ?_; rotate_left 1; focus (intro w hSw; (try dsimp only at hSw); go_simp; (try with_reducible rfl))
            (try simp only [Act.put, tA, tB, tC])
            refine row_call (by rfl) (fun K hK => ?_)
            go_simp
            (refine (HKp.out _ gi_ _ (HL.out.below (nextW HB.out hS.2.2)) (KB.out.below hS.2.2 hkl)).mono ?_; rintro e wh ⟨rfl, hbh⟩)
            (try go_wp2_with fail)
            refine hK.out _ _ ?_ (fun hS' => ?_)
            · (try dsimp only); first | exact keepW (by assumption) (by assumption) | exact keepB (by assumption) (by assumption) | exact keepA (by assumption) | assumption
            clear hS hK K
            have hS := hS'
            clear hS'
            iterate 2
             (try simp only [Act.put, tA, tB, tC])
             refine row_free (v := ?_) (by rfl) ?_ ?_; rotate_left 1; focus (intro w hSw; (try dsimp only at hSw); go_simp; (try with_reducible rfl))
            (try simp only [Act.put, tA, tB, tC])
            refine row_done ?_
            have NX := nextW HB.out hS.2.2
            clear hS
            go_wp2
            go_ret
            exact ⟨rfl, NX⟩
          · have HN := Lib.hid (fun w => new_no a0_0 a0_1 a0_2 a0_3 a0_4 w (by simpa using hrt))
            clear hrt
            go_wp2_with fail
            refine (HN.out _).mono ?_
            rintro e w1 ⟨rfl, hb1⟩
            have NX := nextW HB.out hb1
            replace HB := Lib.hid (NX.alloc NX.size (.cells #[.int .i64 0, .int .i64 0, .int .i64 0, .int .i64 0, .int .u64 0] 39))
            clear hb1 NX
            go_wp2_with fail
            refine (HA.out _).mono ?_
            rintro e w1 ⟨rfl, hb⟩
            go_wp2
            go_ret
            exact ⟨rfl, nextW HB.out hb⟩

set_option maxRecDepth 100000 in
theorem lifted (os : Os) (started : os.Started) (H : Type) (enc : TypeId × Value → H) :
    ReturnsInHanded {} Tryz.checked os 5 .any (Rows.snapshotTellsSpec.pre6 enc Tryz.prog Tryz.f5 Rows.snapshotTellsRow.domain false) (Rows.snapshotTellsSpec.post enc Tryz.prog Tryz.f5 false true false false) := by
  refine returnsInHanded_of_change (C := Tryz.checked) own started (by kernel_rfl) Tryz.func5
    (ChangeSpec.witness6 (enc := enc) (C := Tryz.checked) false ⟨#[], #[.agg #[.int .i64 0, .int .i64 0, .int .i64 0, .int .i64 0, .int .u64 0], .int .i64 0, .agg #[.int .i64 0, .slice none 0 0, .slice none 0 0], .slice none 0 0, .slice none 0 0], []⟩ 8 (by kernel_rfl) (by kernel_rfl) (by kernel_rfl) (by kernel_rfl)) ?_
  intro W base args ds gs before hval0 hW hcnd _
  have hval : ∀ (j : Nat) t v, Tryz.f5.params[j]? = some t → args[j]? = some v → Value.okWide Tryz.prog W .any base t v := hval0
  have hW' := hW
  obtain ⟨p, q, hA0, hV, rfl, hfz, hnd⟩ := hW
  have hA : DataW.TrodAll enc Tryz.prog W 0 (fun _ => true) true Tryz.f5.params.toList args.toList ds p := hA0
  rw [Tryz.params5] at hA hval
  obtain ⟨v0, vs0, d0, ds0, p0, q0, hargs, rfl, rfl, h0, r0⟩ := trodAll_cons hA
  obtain ⟨v1, vs1, d1, ds1, p1, q1, rfl, rfl, rfl, h1, r1⟩ := trodAll_cons r0
  obtain ⟨v2, vs2, d2, ds2, p2, q2, rfl, rfl, rfl, h2, r2⟩ := trodAll_cons r1
  obtain ⟨v3, vs3, d3, ds3, p3, q3, rfl, rfl, rfl, h3, r3⟩ := trodAll_cons r2
  obtain ⟨v4, vs4, d4, ds4, p4, q4, rfl, rfl, rfl, h4, r4⟩ := trodAll_cons r3
  obtain ⟨rfl, rfl, rfl⟩ := trodAll_nil r4
  obtain rfl : args = #[v0, v1, v2, v3, v4] := by cases args; simp_all
  obtain ⟨rfl, rfl⟩ := trodVars_none hV
  obtain ⟨cs0, rfl, -⟩ := okWide_struct Tryz.underlying24 (hval 0 24 v0 rfl rfl)
  have k0 := h0
  have lt0 : ∀ x ∈ p0, x.block < W.heap.size := by obtain ⟨m, hm⟩ := k0; exact DataW.trod_lt m _ _ _ hm
  obtain ⟨fuel0, hf0⟩ := h0
  obtain ⟨l0⟩ := cs0
  obtain ⟨a0_0, a0_1, a0_2, a0_3, a0_4, rfl, w0_0, w0_1, w0_2, w0_3, w0_4⟩ := open_T24 (cs := l0) hf0
  obtain ⟨a1, rfl, rfl, rfl, w1⟩ := open_int Tryz.underlying3 (hval 1 3 v1 rfl rfl) h1
  obtain ⟨cs2, rfl, -⟩ := okWide_struct Tryz.underlying63 (hval 2 63 v2 rfl rfl)
  have k2 := h2
  have lt2 : ∀ x ∈ p2, x.block < W.heap.size := by obtain ⟨m, hm⟩ := k2; exact DataW.trod_lt m _ _ _ hm
  obtain ⟨fuel2, hf2⟩ := h2
  obtain ⟨l2⟩ := cs2
  obtain ⟨a2_0, a2_1, a2_2, rfl, w2_0, w2_1, w2_2⟩ := open_T63 (cs := l2) hf2
  have w2_1 : ∃ l0 : List Fx.Ent, Fx.IsSl Fx.entC W a2_1 l0 ∧ ∀ e0 ∈ l0, Fx.Ent.ok e0 := by obtain ⟨m, y, h⟩ := w2_1; exact open_sn46 h
  have w2_2 : ∃ l0 : List Fx.Crs, Fx.IsSl Fx.crsC W a2_2 l0 ∧ ∀ e0 ∈ l0, Fx.Crs.ok e0 := by obtain ⟨m, y, h⟩ := w2_2; exact open_sn51 h
  obtain ⟨A3, len3, cap3, rfl⟩ := okWide_slice Tryz.underlying51 (hval 3 51 v3 rfl rfl)
  have k3 := h3
  have lt3 : ∀ x ∈ p3, x.block < W.heap.size := by obtain ⟨m, hm⟩ := k3; exact DataW.trod_lt m _ _ _ hm
  obtain ⟨l3, w3, o3⟩ : ∃ l : List Fx.Crs, Fx.IsSl Fx.crsC W (.slice A3 len3 cap3) l ∧ ∀ e ∈ l, Fx.Crs.ok e := by
    obtain ⟨fuel, hf⟩ := h3
    exact open_sl51 hf
  obtain ⟨a4, len4, cap4, rfl⟩ := okWide_slice Tryz.underlying64 (hval 4 64 v4 rfl rfl)
  have k4 := h4
  have lt4 : ∀ x ∈ p4, x.block < W.heap.size := by obtain ⟨m, hm⟩ := k4; exact DataW.trod_lt m _ _ _ hm
  obtain ⟨z4, w4⟩ : ∃ zs, IsRow .u8 W a4 len4 cap4 zs := by
    obtain ⟨fuel, hf⟩ := h4
    rcases open_ints Tryz.underlying64 Tryz.underlying5 (by kernel_rfl) hf with ⟨hcs, _⟩ | ⟨x, l, c, zs, hcs, _, hl, hm, hz, _, hcell, hwz⟩
    · simp [Value.cells] at hcs
      obtain ⟨rfl, rfl, rfl⟩ := hcs
      exact ⟨[], .inl ⟨rfl, rfl, rfl, rfl⟩⟩
    · simp [Value.cells] at hcs
      obtain ⟨rfl, rfl, rfl⟩ := hcs
      exact ⟨zs, .inr ⟨_, rfl, hl, hm, by simpa using hz, hcell, hwz⟩⟩
  clear hA0 hval0
  refine (walk a0_0 a0_1 a0_2 a0_3 a0_4 a1 a2_0 a2_1 a2_2 _ l3 a4 len4 cap4 z4 W w0_0 w0_1 w0_2 w0_3 w0_4 w1 w2_0 w2_1 w2_2 w3 o3 w4).mono fun e W' ⟨he, bel⟩ => ?_
  subst he
  exact ⟨_, rfl, _, _, _, [], _, [], hW', trodAll_mk1 (shut_bool Tryz.underlying4 _), (trodAll_cons_mk (Below.trod laidOut (by kernel_rfl) (of_decide_eq_true (by kernel_rfl)) k0 bel lt0) (trodAll_cons_mk (shut_int Tryz.underlying3 w1) (trodAll_cons_mk (Below.trod laidOut (by kernel_rfl) (of_decide_eq_true (by kernel_rfl)) k2 bel lt2) (trodAll_cons_mk (Below.trod laidOut (by kernel_rfl) (of_decide_eq_true (by kernel_rfl)) k3 bel lt3) (trodAll_cons_mk (Below.trod laidOut (by kernel_rfl) (of_decide_eq_true (by kernel_rfl)) k4 bel lt4) trodAll_mk0))))), rfl, bel.frame _, fun h => by cases h⟩

theorem over : Rows.snapshotTellsRow.holds Tryz.pinned (OpenSpec.ofChange Rows.snapshotTellsSpec) :=
  OpenClaim.holds_of_wide 5 Tryz.f5 rfl rfl rfl rfl rfl rfl rfl ⟨rfl, rfl, rfl, rfl, rfl⟩ rfl rfl rfl rfl rfl (by kernel_rfl) Tryz.func5 (by kernel_rfl)
    (of_decide_eq_true (by kernel_rfl)) (by unfold Func.isWrapper; first | (rw [if_pos (by decide +kernel)]; kernel_rfl) | (rw [if_neg (by decide +kernel)]; exact ⟨rfl, rfl⟩))
    (fun os started H enc _ => lifted os started H enc)

end Go.Proofs.YtlpkaljepaclpaaGreat.snapshotTells
namespace Go.Proofs.YtlpkaljepaclpaaGreat
theorem snapshotTells_proved : Rows.SnapshotTellsSaid := snapshotTells.over
end Go.Proofs.YtlpkaljepaclpaaGreat
