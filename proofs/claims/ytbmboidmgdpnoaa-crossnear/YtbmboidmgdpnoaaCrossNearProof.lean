/- joustlaw06.CrossNear returns true for every input; no conditions. -/
import Derived.Test.YtbmboidmgdpnoaaCrAwake
import Derived.Test.YtbmboidmgdpnoaaCrRight
import Derived.Test.YtbmboidmgdpnoaaGrNew
import Derived.Test.YtbmboidmgdpnoaaRows
import Derived.WalkKit
import Derived.ProofKit
import Derived.OpenShut
import Derived.ShutString
import Derived.ChangeOld
import Derived.Below
namespace Go.Proofs.Ytbmboidmgdpnoaa.crossNear
open Go.ChangeShapes Go.WideShapes Go.ChangeAt Go.RowKit
open Go.ChangeMaps (open_string shut_string)
set_option linter.unusedVariables false

theorem own : ownKnob Try.prog.godebug = none := by kernel_rfl
theorem laidOut : laidOutB Try.prog = true := by kernel_rfl

theorem open_T24 {H : Type} {enc : TypeId × Value → H} {W : World} {fuel : Nat} {cs : List Value} {x : DataW H × List MemPlace} (h : DataW.trod enc Try.prog W 0 (fun _ => true) true fuel 24 cs = some x) :
    ∃ (a0 : Int) (a1 : Int) (a2 : Int) (a3 : Int) (a4 : Int), cs = [.int .i64 a0, .int .i64 a1, .int .i64 a2, .int .i64 a3, .int .u64 a4] ∧ (Lit.int .i64 a0).wf = true ∧ (Lit.int .i64 a1).wf = true ∧ (Lit.int .i64 a2).wf = true ∧ (Lit.int .i64 a3).wf = true ∧ (Lit.int .u64 a4).wf = true := by
  obtain ⟨xs, n, -, -, hl, hxl, hg⟩ := DataW.trod_struct Try.underlying24 h
  have hl' : cs.length = 5 := hl.trans (by kernel_rfl)
  have c3 : Try.prog.cellsOf 3 = 1 := by kernel_rfl
  have c22 : Try.prog.cellsOf 22 = 1 := by kernel_rfl
  clear hl h
  match cs, hl' with
  | [z0, z1, z2, z3, z4], _ =>
    have g0 : DataW.trod enc Try.prog W 0 (fun _ => true) true n 3 (([z0, z1, z2, z3, z4].drop 0).take (Try.prog.cellsOf 3)) = xs[0]? := hg 0 _ rfl
    rw [c3, List.getElem?_eq_getElem (show 0 < xs.length by rw [hxl]; decide)] at g0
    have g1 : DataW.trod enc Try.prog W 0 (fun _ => true) true n 3 (([z0, z1, z2, z3, z4].drop 1).take (Try.prog.cellsOf 3)) = xs[1]? := hg 1 _ rfl
    rw [c3, List.getElem?_eq_getElem (show 1 < xs.length by rw [hxl]; decide)] at g1
    have g2 : DataW.trod enc Try.prog W 0 (fun _ => true) true n 3 (([z0, z1, z2, z3, z4].drop 2).take (Try.prog.cellsOf 3)) = xs[2]? := hg 2 _ rfl
    rw [c3, List.getElem?_eq_getElem (show 2 < xs.length by rw [hxl]; decide)] at g2
    have g3 : DataW.trod enc Try.prog W 0 (fun _ => true) true n 3 (([z0, z1, z2, z3, z4].drop 3).take (Try.prog.cellsOf 3)) = xs[3]? := hg 3 _ rfl
    rw [c3, List.getElem?_eq_getElem (show 3 < xs.length by rw [hxl]; decide)] at g3
    have g4 : DataW.trod enc Try.prog W 0 (fun _ => true) true n 22 (([z0, z1, z2, z3, z4].drop 4).take (Try.prog.cellsOf 22)) = xs[4]? := hg 4 _ rfl
    rw [c22, List.getElem?_eq_getElem (show 4 < xs.length by rw [hxl]; decide)] at g4
    obtain ⟨a0, e0, -, w0⟩ := DataW.trod_int (cs := [z0]) Try.underlying3 g0
    simp only [List.cons.injEq, and_true] at e0
    subst e0
    clear g0
    obtain ⟨a1, e1, -, w1⟩ := DataW.trod_int (cs := [z1]) Try.underlying3 g1
    simp only [List.cons.injEq, and_true] at e1
    subst e1
    clear g1
    obtain ⟨a2, e2, -, w2⟩ := DataW.trod_int (cs := [z2]) Try.underlying3 g2
    simp only [List.cons.injEq, and_true] at e2
    subst e2
    clear g2
    obtain ⟨a3, e3, -, w3⟩ := DataW.trod_int (cs := [z3]) Try.underlying3 g3
    simp only [List.cons.injEq, and_true] at e3
    subst e3
    clear g3
    obtain ⟨a4, e4, -, w4⟩ := DataW.trod_int (cs := [z4]) Try.underlying22 g4
    simp only [List.cons.injEq, and_true] at e4
    subst e4
    clear g4
    exact ⟨a0, a1, a2, a3, a4, rfl, w0, w1, w2, w3, w4⟩

theorem open_T26 {H : Type} {enc : TypeId × Value → H} {W : World} {fuel : Nat} {cs : List Value} {x : DataW H × List MemPlace} (h : DataW.trod enc Try.prog W 0 (fun _ => true) true fuel 26 cs = some x) :
    ∃ (a0 : Int) (a1 : Int) (a2 : Int) (a3 : Int) (a4 : Int) (a5 : Int) (a6 : Int) (a7 : Int) (a8 : Int), cs = [.int .i64 a0, .int .i64 a1, .int .i64 a2, .int .i64 a3, .int .i64 a4, .int .i64 a5, .int .i64 a6, .int .i64 a7, .int .i64 a8] ∧ (Lit.int .i64 a0).wf = true ∧ (Lit.int .i64 a1).wf = true ∧ (Lit.int .i64 a2).wf = true ∧ (Lit.int .i64 a3).wf = true ∧ (Lit.int .i64 a4).wf = true ∧ (Lit.int .i64 a5).wf = true ∧ (Lit.int .i64 a6).wf = true ∧ (Lit.int .i64 a7).wf = true ∧ (Lit.int .i64 a8).wf = true := by
  obtain ⟨xs, n, -, -, hl, hxl, hg⟩ := DataW.trod_struct Try.underlying26 h
  have hl' : cs.length = 9 := hl.trans (by kernel_rfl)
  have c3 : Try.prog.cellsOf 3 = 1 := by kernel_rfl
  clear hl h
  match cs, hl' with
  | [z0, z1, z2, z3, z4, z5, z6, z7, z8], _ =>
    have g0 : DataW.trod enc Try.prog W 0 (fun _ => true) true n 3 (([z0, z1, z2, z3, z4, z5, z6, z7, z8].drop 0).take (Try.prog.cellsOf 3)) = xs[0]? := hg 0 _ rfl
    rw [c3, List.getElem?_eq_getElem (show 0 < xs.length by rw [hxl]; decide)] at g0
    have g1 : DataW.trod enc Try.prog W 0 (fun _ => true) true n 3 (([z0, z1, z2, z3, z4, z5, z6, z7, z8].drop 1).take (Try.prog.cellsOf 3)) = xs[1]? := hg 1 _ rfl
    rw [c3, List.getElem?_eq_getElem (show 1 < xs.length by rw [hxl]; decide)] at g1
    have g2 : DataW.trod enc Try.prog W 0 (fun _ => true) true n 3 (([z0, z1, z2, z3, z4, z5, z6, z7, z8].drop 2).take (Try.prog.cellsOf 3)) = xs[2]? := hg 2 _ rfl
    rw [c3, List.getElem?_eq_getElem (show 2 < xs.length by rw [hxl]; decide)] at g2
    have g3 : DataW.trod enc Try.prog W 0 (fun _ => true) true n 3 (([z0, z1, z2, z3, z4, z5, z6, z7, z8].drop 3).take (Try.prog.cellsOf 3)) = xs[3]? := hg 3 _ rfl
    rw [c3, List.getElem?_eq_getElem (show 3 < xs.length by rw [hxl]; decide)] at g3
    have g4 : DataW.trod enc Try.prog W 0 (fun _ => true) true n 3 (([z0, z1, z2, z3, z4, z5, z6, z7, z8].drop 4).take (Try.prog.cellsOf 3)) = xs[4]? := hg 4 _ rfl
    rw [c3, List.getElem?_eq_getElem (show 4 < xs.length by rw [hxl]; decide)] at g4
    have g5 : DataW.trod enc Try.prog W 0 (fun _ => true) true n 3 (([z0, z1, z2, z3, z4, z5, z6, z7, z8].drop 5).take (Try.prog.cellsOf 3)) = xs[5]? := hg 5 _ rfl
    rw [c3, List.getElem?_eq_getElem (show 5 < xs.length by rw [hxl]; decide)] at g5
    have g6 : DataW.trod enc Try.prog W 0 (fun _ => true) true n 3 (([z0, z1, z2, z3, z4, z5, z6, z7, z8].drop 6).take (Try.prog.cellsOf 3)) = xs[6]? := hg 6 _ rfl
    rw [c3, List.getElem?_eq_getElem (show 6 < xs.length by rw [hxl]; decide)] at g6
    have g7 : DataW.trod enc Try.prog W 0 (fun _ => true) true n 3 (([z0, z1, z2, z3, z4, z5, z6, z7, z8].drop 7).take (Try.prog.cellsOf 3)) = xs[7]? := hg 7 _ rfl
    rw [c3, List.getElem?_eq_getElem (show 7 < xs.length by rw [hxl]; decide)] at g7
    have g8 : DataW.trod enc Try.prog W 0 (fun _ => true) true n 3 (([z0, z1, z2, z3, z4, z5, z6, z7, z8].drop 8).take (Try.prog.cellsOf 3)) = xs[8]? := hg 8 _ rfl
    rw [c3, List.getElem?_eq_getElem (show 8 < xs.length by rw [hxl]; decide)] at g8
    obtain ⟨a0, e0, -, w0⟩ := DataW.trod_int (cs := [z0]) Try.underlying3 g0
    simp only [List.cons.injEq, and_true] at e0
    subst e0
    clear g0
    obtain ⟨a1, e1, -, w1⟩ := DataW.trod_int (cs := [z1]) Try.underlying3 g1
    simp only [List.cons.injEq, and_true] at e1
    subst e1
    clear g1
    obtain ⟨a2, e2, -, w2⟩ := DataW.trod_int (cs := [z2]) Try.underlying3 g2
    simp only [List.cons.injEq, and_true] at e2
    subst e2
    clear g2
    obtain ⟨a3, e3, -, w3⟩ := DataW.trod_int (cs := [z3]) Try.underlying3 g3
    simp only [List.cons.injEq, and_true] at e3
    subst e3
    clear g3
    obtain ⟨a4, e4, -, w4⟩ := DataW.trod_int (cs := [z4]) Try.underlying3 g4
    simp only [List.cons.injEq, and_true] at e4
    subst e4
    clear g4
    obtain ⟨a5, e5, -, w5⟩ := DataW.trod_int (cs := [z5]) Try.underlying3 g5
    simp only [List.cons.injEq, and_true] at e5
    subst e5
    clear g5
    obtain ⟨a6, e6, -, w6⟩ := DataW.trod_int (cs := [z6]) Try.underlying3 g6
    simp only [List.cons.injEq, and_true] at e6
    subst e6
    clear g6
    obtain ⟨a7, e7, -, w7⟩ := DataW.trod_int (cs := [z7]) Try.underlying3 g7
    simp only [List.cons.injEq, and_true] at e7
    subst e7
    clear g7
    obtain ⟨a8, e8, -, w8⟩ := DataW.trod_int (cs := [z8]) Try.underlying3 g8
    simp only [List.cons.injEq, and_true] at e8
    subst e8
    clear g8
    exact ⟨a0, a1, a2, a3, a4, a5, a6, a7, a8, rfl, w0, w1, w2, w3, w4, w5, w6, w7, w8⟩

theorem open_T28 {H : Type} {enc : TypeId × Value → H} {W : World} {fuel : Nat} {cs : List Value} {x : DataW H × List MemPlace} (h : DataW.trod enc Try.prog W 0 (fun _ => true) true fuel 28 cs = some x) :
    ∃ (a0 : Int) (a1 : Int) (a2 : Int) (a3 : Int) (a4 : Int) (a5 : Int) (a6 : Int) (a7 : Int) (a8 : Int) (a9 : Int) (a10 : Int) (a11 : Int) (a12 : Int) (a13 : Int) (a14 : Int), cs = [.int .i64 a0, .int .i64 a1, .int .i64 a2, .int .i64 a3, .int .i64 a4, .int .i64 a5, .int .i64 a6, .int .i64 a7, .int .i64 a8, .int .i64 a9, .int .i64 a10, .int .i64 a11, .int .i64 a12, .int .i64 a13, .int .i64 a14] ∧ (Lit.int .i64 a0).wf = true ∧ (Lit.int .i64 a1).wf = true ∧ (Lit.int .i64 a2).wf = true ∧ (Lit.int .i64 a3).wf = true ∧ (Lit.int .i64 a4).wf = true ∧ (Lit.int .i64 a5).wf = true ∧ (Lit.int .i64 a6).wf = true ∧ (Lit.int .i64 a7).wf = true ∧ (Lit.int .i64 a8).wf = true ∧ (Lit.int .i64 a9).wf = true ∧ (Lit.int .i64 a10).wf = true ∧ (Lit.int .i64 a11).wf = true ∧ (Lit.int .i64 a12).wf = true ∧ (Lit.int .i64 a13).wf = true ∧ (Lit.int .i64 a14).wf = true := by
  obtain ⟨xs, n, -, -, hl, hxl, hg⟩ := DataW.trod_struct Try.underlying28 h
  have hl' : cs.length = 15 := hl.trans (by kernel_rfl)
  have c3 : Try.prog.cellsOf 3 = 1 := by kernel_rfl
  have c26 : Try.prog.cellsOf 26 = 9 := by kernel_rfl
  clear hl h
  match cs, hl' with
  | [z0, z1, z2, z3, z4, z5, z6, z7, z8, z9, z10, z11, z12, z13, z14], _ =>
    have g0 : DataW.trod enc Try.prog W 0 (fun _ => true) true n 3 (([z0, z1, z2, z3, z4, z5, z6, z7, z8, z9, z10, z11, z12, z13, z14].drop 0).take (Try.prog.cellsOf 3)) = xs[0]? := hg 0 _ rfl
    rw [c3, List.getElem?_eq_getElem (show 0 < xs.length by rw [hxl]; decide)] at g0
    have g1 : DataW.trod enc Try.prog W 0 (fun _ => true) true n 3 (([z0, z1, z2, z3, z4, z5, z6, z7, z8, z9, z10, z11, z12, z13, z14].drop 1).take (Try.prog.cellsOf 3)) = xs[1]? := hg 1 _ rfl
    rw [c3, List.getElem?_eq_getElem (show 1 < xs.length by rw [hxl]; decide)] at g1
    have g2 : DataW.trod enc Try.prog W 0 (fun _ => true) true n 3 (([z0, z1, z2, z3, z4, z5, z6, z7, z8, z9, z10, z11, z12, z13, z14].drop 2).take (Try.prog.cellsOf 3)) = xs[2]? := hg 2 _ rfl
    rw [c3, List.getElem?_eq_getElem (show 2 < xs.length by rw [hxl]; decide)] at g2
    have g3 : DataW.trod enc Try.prog W 0 (fun _ => true) true n 3 (([z0, z1, z2, z3, z4, z5, z6, z7, z8, z9, z10, z11, z12, z13, z14].drop 3).take (Try.prog.cellsOf 3)) = xs[3]? := hg 3 _ rfl
    rw [c3, List.getElem?_eq_getElem (show 3 < xs.length by rw [hxl]; decide)] at g3
    have g4 : DataW.trod enc Try.prog W 0 (fun _ => true) true n 26 (([z0, z1, z2, z3, z4, z5, z6, z7, z8, z9, z10, z11, z12, z13, z14].drop 4).take (Try.prog.cellsOf 26)) = xs[4]? := hg 4 _ rfl
    rw [c26, List.getElem?_eq_getElem (show 4 < xs.length by rw [hxl]; decide)] at g4
    have g5 : DataW.trod enc Try.prog W 0 (fun _ => true) true n 3 (([z0, z1, z2, z3, z4, z5, z6, z7, z8, z9, z10, z11, z12, z13, z14].drop 13).take (Try.prog.cellsOf 3)) = xs[5]? := hg 5 _ rfl
    rw [c3, List.getElem?_eq_getElem (show 5 < xs.length by rw [hxl]; decide)] at g5
    have g6 : DataW.trod enc Try.prog W 0 (fun _ => true) true n 3 (([z0, z1, z2, z3, z4, z5, z6, z7, z8, z9, z10, z11, z12, z13, z14].drop 14).take (Try.prog.cellsOf 3)) = xs[6]? := hg 6 _ rfl
    rw [c3, List.getElem?_eq_getElem (show 6 < xs.length by rw [hxl]; decide)] at g6
    obtain ⟨a0, e0, -, w0⟩ := DataW.trod_int (cs := [z0]) Try.underlying3 g0
    simp only [List.cons.injEq, and_true] at e0
    subst e0
    clear g0
    obtain ⟨a1, e1, -, w1⟩ := DataW.trod_int (cs := [z1]) Try.underlying3 g1
    simp only [List.cons.injEq, and_true] at e1
    subst e1
    clear g1
    obtain ⟨a2, e2, -, w2⟩ := DataW.trod_int (cs := [z2]) Try.underlying3 g2
    simp only [List.cons.injEq, and_true] at e2
    subst e2
    clear g2
    obtain ⟨a3, e3, -, w3⟩ := DataW.trod_int (cs := [z3]) Try.underlying3 g3
    simp only [List.cons.injEq, and_true] at e3
    subst e3
    clear g3
    obtain ⟨a4, a5, a6, a7, a8, a9, a10, a11, a12, e4, w4, w5, w6, w7, w8, w9, w10, w11, w12⟩ := open_T26 (cs := [z4, z5, z6, z7, z8, z9, z10, z11, z12]) g4
    simp only [List.cons.injEq, and_true] at e4
    obtain ⟨rfl, rfl, rfl, rfl, rfl, rfl, rfl, rfl, rfl⟩ := e4
    clear g4
    obtain ⟨a13, e5, -, w13⟩ := DataW.trod_int (cs := [z13]) Try.underlying3 g5
    simp only [List.cons.injEq, and_true] at e5
    subst e5
    clear g5
    obtain ⟨a14, e6, -, w14⟩ := DataW.trod_int (cs := [z14]) Try.underlying3 g6
    simp only [List.cons.injEq, and_true] at e6
    subst e6
    clear g6
    exact ⟨a0, a1, a2, a3, a4, a5, a6, a7, a8, a9, a10, a11, a12, a13, a14, rfl, w0, w1, w2, w3, w4, w5, w6, w7, w8, w9, w10, w11, w12, w13, w14⟩

open Fx

theorem cright_parts {a b p n : Int} {c : Crs} (h : crightB a b p n c = true) : inB (nr a b p n c.src) c.dst = true ∧ (c.kind = 2 ∨ (c.kind = 1 ∧ ¬ c.dst = c.src ∧ ofr a b p n c.e.x c.e.y = c.dst)) := by
  unfold crightB at h
  rw [Bool.and_eq_true, Bool.and_eq_true] at h
  refine ⟨h.1, ?_⟩
  have h2 := h.2.2
  split at h2
  · rename_i hk
    unfold handB at h2
    simp only [Bool.and_eq_true, decide_eq_true_eq] at h2
    exact Or.inr ⟨hk, h2.1, h2.2.2.2.2⟩
  · split at h2
    · rename_i hk
      exact Or.inl hk
    · cases h2

set_option maxRecDepth 100000 in
set_option maxHeartbeats 16000000 in
theorem walk (a0_0 : Int) (a0_1 : Int) (a0_2 : Int) (a0_3 : Int) (a0_4 : Int) (a1 : Fx.Crs) (w : World) (w0_0 : (Lit.int .i64 a0_0).wf = true) (w0_1 : (Lit.int .i64 a0_1).wf = true) (w0_2 : (Lit.int .i64 a0_2).wf = true) (w0_3 : (Lit.int .i64 a0_3).wf = true) (w0_4 : (Lit.int .u64 a0_4).wf = true) (w1 : Fx.Crs.ok a1) :
    Calls Try.prog 6 #[.agg #[.int .i64 a0_0, .int .i64 a0_1, .int .i64 a0_2, .int .i64 a0_3, .int .u64 a0_4], .agg #[.int .i64 a1.kind, .int .i64 a1.src, .int .i64 a1.dst, .int .i64 a1.frame, .int .i64 a1.e.id, .int .i64 a1.e.kind, .int .i64 a1.e.x, .int .i64 a1.e.y, .int .i64 a1.e.vx, .int .i64 a1.e.vy, .int .i64 a1.e.health, .int .i64 a1.e.age, .int .i64 a1.e.owner, .int .i64 a1.x, .int .i64 a1.y]] w fun e w' => e = .returned (.bool true) ∧ Below w.heap.size w w' := by
  clear w0_0 w0_1 w0_2 w0_3 w0_4 w1
  have HA := Lib.hid awake_cr
  go_enter Try.func6, Try.ntmps6
  go_wp2_with fail
  refine (config_any _ _ _ _ _ _).mono ?_
  rintro e v1 ⟨a, b, p, n, rfl, hsm, hb1⟩
  obtain ⟨hrt, -, -, -⟩ := hsm
  have hz1 : w.heap.size + 1 < v1.heap.size := by have := hb1.size; simp at this; omega
  have hz0 : w.heap.size < v1.heap.size := by omega
  have p0 : v1.cell? ⟨w.heap.size, 0, none⟩ = some (.int .i64 a0_0) := by rw [hb1.cell (p := ⟨w.heap.size, 0, none⟩) (by simp; omega), World.cell?_alloc_lt _ _ _ (by simp), cell_box _ _ _ _ _ rfl]; rfl
  have f0 : v1.frozen? ⟨w.heap.size, 0, none⟩ = false := by rw [hb1.frozen (p := ⟨w.heap.size, 0, none⟩) (by simp; omega)]; simp
  have p1 : v1.cell? ⟨w.heap.size, 1, none⟩ = some (.int .i64 a0_1) := by rw [hb1.cell (p := ⟨w.heap.size, 1, none⟩) (by simp; omega), World.cell?_alloc_lt _ _ _ (by simp), cell_box _ _ _ _ _ rfl]; rfl
  have f1 : v1.frozen? ⟨w.heap.size, 1, none⟩ = false := by rw [hb1.frozen (p := ⟨w.heap.size, 1, none⟩) (by simp; omega)]; simp
  have p2 : v1.cell? ⟨w.heap.size, 2, none⟩ = some (.int .i64 a0_2) := by rw [hb1.cell (p := ⟨w.heap.size, 2, none⟩) (by simp; omega), World.cell?_alloc_lt _ _ _ (by simp), cell_box _ _ _ _ _ rfl]; rfl
  have f2 : v1.frozen? ⟨w.heap.size, 2, none⟩ = false := by rw [hb1.frozen (p := ⟨w.heap.size, 2, none⟩) (by simp; omega)]; simp
  have p3 : v1.cell? ⟨w.heap.size, 3, none⟩ = some (.int .i64 a0_3) := by rw [hb1.cell (p := ⟨w.heap.size, 3, none⟩) (by simp; omega), World.cell?_alloc_lt _ _ _ (by simp), cell_box _ _ _ _ _ rfl]; rfl
  have f3 : v1.frozen? ⟨w.heap.size, 3, none⟩ = false := by rw [hb1.frozen (p := ⟨w.heap.size, 3, none⟩) (by simp; omega)]; simp
  have p4 : v1.cell? ⟨w.heap.size, 4, none⟩ = some (.int .u64 a0_4) := by rw [hb1.cell (p := ⟨w.heap.size, 4, none⟩) (by simp; omega), World.cell?_alloc_lt _ _ _ (by simp), cell_box _ _ _ _ _ rfl]; rfl
  have f4 : v1.frozen? ⟨w.heap.size, 4, none⟩ = false := by rw [hb1.frozen (p := ⟨w.heap.size, 4, none⟩) (by simp; omega)]; simp
  have x0 : v1.cell? ⟨w.heap.size + 1, 0, none⟩ = some (.int .i64 a1.kind) := by rw [hb1.cell (p := ⟨w.heap.size + 1, 0, none⟩) (by simp), cell_box _ _ _ _ _ (by simp)]; rfl
  have x1 : v1.cell? ⟨w.heap.size + 1, 1, none⟩ = some (.int .i64 a1.src) := by rw [hb1.cell (p := ⟨w.heap.size + 1, 1, none⟩) (by simp), cell_box _ _ _ _ _ (by simp)]; rfl
  have x2 : v1.cell? ⟨w.heap.size + 1, 2, none⟩ = some (.int .i64 a1.dst) := by rw [hb1.cell (p := ⟨w.heap.size + 1, 2, none⟩) (by simp), cell_box _ _ _ _ _ (by simp)]; rfl
  have x3 : v1.cell? ⟨w.heap.size + 1, 3, none⟩ = some (.int .i64 a1.frame) := by rw [hb1.cell (p := ⟨w.heap.size + 1, 3, none⟩) (by simp), cell_box _ _ _ _ _ (by simp)]; rfl
  have x4 : v1.cell? ⟨w.heap.size + 1, 4, none⟩ = some (.int .i64 a1.e.id) := by rw [hb1.cell (p := ⟨w.heap.size + 1, 4, none⟩) (by simp), cell_box _ _ _ _ _ (by simp)]; rfl
  have x5 : v1.cell? ⟨w.heap.size + 1, 5, none⟩ = some (.int .i64 a1.e.kind) := by rw [hb1.cell (p := ⟨w.heap.size + 1, 5, none⟩) (by simp), cell_box _ _ _ _ _ (by simp)]; rfl
  have x6 : v1.cell? ⟨w.heap.size + 1, 6, none⟩ = some (.int .i64 a1.e.x) := by rw [hb1.cell (p := ⟨w.heap.size + 1, 6, none⟩) (by simp), cell_box _ _ _ _ _ (by simp)]; rfl
  have x7 : v1.cell? ⟨w.heap.size + 1, 7, none⟩ = some (.int .i64 a1.e.y) := by rw [hb1.cell (p := ⟨w.heap.size + 1, 7, none⟩) (by simp), cell_box _ _ _ _ _ (by simp)]; rfl
  have x8 : v1.cell? ⟨w.heap.size + 1, 8, none⟩ = some (.int .i64 a1.e.vx) := by rw [hb1.cell (p := ⟨w.heap.size + 1, 8, none⟩) (by simp), cell_box _ _ _ _ _ (by simp)]; rfl
  have x9 : v1.cell? ⟨w.heap.size + 1, 9, none⟩ = some (.int .i64 a1.e.vy) := by rw [hb1.cell (p := ⟨w.heap.size + 1, 9, none⟩) (by simp), cell_box _ _ _ _ _ (by simp)]; rfl
  have x10 : v1.cell? ⟨w.heap.size + 1, 10, none⟩ = some (.int .i64 a1.e.health) := by rw [hb1.cell (p := ⟨w.heap.size + 1, 10, none⟩) (by simp), cell_box _ _ _ _ _ (by simp)]; rfl
  have x11 : v1.cell? ⟨w.heap.size + 1, 11, none⟩ = some (.int .i64 a1.e.age) := by rw [hb1.cell (p := ⟨w.heap.size + 1, 11, none⟩) (by simp), cell_box _ _ _ _ _ (by simp)]; rfl
  have x12 : v1.cell? ⟨w.heap.size + 1, 12, none⟩ = some (.int .i64 a1.e.owner) := by rw [hb1.cell (p := ⟨w.heap.size + 1, 12, none⟩) (by simp), cell_box _ _ _ _ _ (by simp)]; rfl
  have x13 : v1.cell? ⟨w.heap.size + 1, 13, none⟩ = some (.int .i64 a1.x) := by rw [hb1.cell (p := ⟨w.heap.size + 1, 13, none⟩) (by simp), cell_box _ _ _ _ _ (by simp)]; rfl
  have x14 : v1.cell? ⟨w.heap.size + 1, 14, none⟩ = some (.int .i64 a1.y) := by rw [hb1.cell (p := ⟨w.heap.size + 1, 14, none⟩) (by simp), cell_box _ _ _ _ _ (by simp)]; rfl
  have Hb1 := Lib.hid hb1
  have HN := Lib.hid (fun w => new_yes a b p n a0_4 w hrt)
  clear hb1 hrt
  go_wp2_with fail
  refine (HN.out _).mono ?_
  rintro e v2 ⟨rfl, hb2⟩
  obtain ⟨V, hV⟩ : ∃ V, (((((v1.setCell ⟨w.heap.size, 0, none⟩ (.int .i64 a)).setCell ⟨w.heap.size, 1, none⟩ (.int .i64 b)).setCell ⟨w.heap.size, 2, none⟩ (.int .i64 p)).setCell ⟨w.heap.size, 3, none⟩ (.int .i64 n)).setCell ⟨w.heap.size, 4, none⟩ (.int .u64 a0_4)) = V := ⟨_, rfl⟩
  rw [hV] at hb2
  have hsz : V.heap.size = v1.heap.size := by rw [← hV]; simp [World.setCell]
  have k0 : v2.cell? ⟨w.heap.size, 0, none⟩ = some (.int .i64 a) := by rw [hb2.cell (p := ⟨w.heap.size, 0, none⟩) (by rw [hsz]; exact hz0), ← hV]; simp [go_sem, p0, p1, p2, p3, p4]
  have k1 : v2.cell? ⟨w.heap.size, 1, none⟩ = some (.int .i64 b) := by rw [hb2.cell (p := ⟨w.heap.size, 1, none⟩) (by rw [hsz]; exact hz0), ← hV]; simp [go_sem, p0, p1, p2, p3, p4]
  have k2 : v2.cell? ⟨w.heap.size, 2, none⟩ = some (.int .i64 p) := by rw [hb2.cell (p := ⟨w.heap.size, 2, none⟩) (by rw [hsz]; exact hz0), ← hV]; simp [go_sem, p0, p1, p2, p3, p4]
  have k3 : v2.cell? ⟨w.heap.size, 3, none⟩ = some (.int .i64 n) := by rw [hb2.cell (p := ⟨w.heap.size, 3, none⟩) (by rw [hsz]; exact hz0), ← hV]; simp [go_sem, p0, p1, p2, p3, p4]
  have k4 : v2.cell? ⟨w.heap.size, 4, none⟩ = some (.int .u64 a0_4) := by rw [hb2.cell (p := ⟨w.heap.size, 4, none⟩) (by rw [hsz]; exact hz0), ← hV]; simp [go_sem, p0, p1, p2, p3, p4]
  have y0 : v2.cell? ⟨w.heap.size + 1, 0, none⟩ = some (.int .i64 a1.kind) := by rw [hb2.cell (p := ⟨w.heap.size + 1, 0, none⟩) (by rw [hsz]; exact hz1), ← hV]; simp [go_sem, x0]
  have y1 : v2.cell? ⟨w.heap.size + 1, 1, none⟩ = some (.int .i64 a1.src) := by rw [hb2.cell (p := ⟨w.heap.size + 1, 1, none⟩) (by rw [hsz]; exact hz1), ← hV]; simp [go_sem, x1]
  have y2 : v2.cell? ⟨w.heap.size + 1, 2, none⟩ = some (.int .i64 a1.dst) := by rw [hb2.cell (p := ⟨w.heap.size + 1, 2, none⟩) (by rw [hsz]; exact hz1), ← hV]; simp [go_sem, x2]
  have y3 : v2.cell? ⟨w.heap.size + 1, 3, none⟩ = some (.int .i64 a1.frame) := by rw [hb2.cell (p := ⟨w.heap.size + 1, 3, none⟩) (by rw [hsz]; exact hz1), ← hV]; simp [go_sem, x3]
  have y4 : v2.cell? ⟨w.heap.size + 1, 4, none⟩ = some (.int .i64 a1.e.id) := by rw [hb2.cell (p := ⟨w.heap.size + 1, 4, none⟩) (by rw [hsz]; exact hz1), ← hV]; simp [go_sem, x4]
  have y5 : v2.cell? ⟨w.heap.size + 1, 5, none⟩ = some (.int .i64 a1.e.kind) := by rw [hb2.cell (p := ⟨w.heap.size + 1, 5, none⟩) (by rw [hsz]; exact hz1), ← hV]; simp [go_sem, x5]
  have y6 : v2.cell? ⟨w.heap.size + 1, 6, none⟩ = some (.int .i64 a1.e.x) := by rw [hb2.cell (p := ⟨w.heap.size + 1, 6, none⟩) (by rw [hsz]; exact hz1), ← hV]; simp [go_sem, x6]
  have y7 : v2.cell? ⟨w.heap.size + 1, 7, none⟩ = some (.int .i64 a1.e.y) := by rw [hb2.cell (p := ⟨w.heap.size + 1, 7, none⟩) (by rw [hsz]; exact hz1), ← hV]; simp [go_sem, x7]
  have y8 : v2.cell? ⟨w.heap.size + 1, 8, none⟩ = some (.int .i64 a1.e.vx) := by rw [hb2.cell (p := ⟨w.heap.size + 1, 8, none⟩) (by rw [hsz]; exact hz1), ← hV]; simp [go_sem, x8]
  have y9 : v2.cell? ⟨w.heap.size + 1, 9, none⟩ = some (.int .i64 a1.e.vy) := by rw [hb2.cell (p := ⟨w.heap.size + 1, 9, none⟩) (by rw [hsz]; exact hz1), ← hV]; simp [go_sem, x9]
  have y10 : v2.cell? ⟨w.heap.size + 1, 10, none⟩ = some (.int .i64 a1.e.health) := by rw [hb2.cell (p := ⟨w.heap.size + 1, 10, none⟩) (by rw [hsz]; exact hz1), ← hV]; simp [go_sem, x10]
  have y11 : v2.cell? ⟨w.heap.size + 1, 11, none⟩ = some (.int .i64 a1.e.age) := by rw [hb2.cell (p := ⟨w.heap.size + 1, 11, none⟩) (by rw [hsz]; exact hz1), ← hV]; simp [go_sem, x11]
  have y12 : v2.cell? ⟨w.heap.size + 1, 12, none⟩ = some (.int .i64 a1.e.owner) := by rw [hb2.cell (p := ⟨w.heap.size + 1, 12, none⟩) (by rw [hsz]; exact hz1), ← hV]; simp [go_sem, x12]
  have y13 : v2.cell? ⟨w.heap.size + 1, 13, none⟩ = some (.int .i64 a1.x) := by rw [hb2.cell (p := ⟨w.heap.size + 1, 13, none⟩) (by rw [hsz]; exact hz1), ← hV]; simp [go_sem, x13]
  have y14 : v2.cell? ⟨w.heap.size + 1, 14, none⟩ = some (.int .i64 a1.y) := by rw [hb2.cell (p := ⟨w.heap.size + 1, 14, none⟩) (by rw [hsz]; exact hz1), ← hV]; simp [go_sem, x14]
  have HbV := Lib.hid (show Below w.heap.size w V from by rw [← hV]; exact (((((unbox (unbox Hb1.out)).setCell (Nat.le_refl _) _).setCell (Nat.le_refl _) _).setCell (Nat.le_refl _) _).setCell (Nat.le_refl _) _).setCell (Nat.le_refl _) _)
  have Hb2 := Lib.hid (nextW HbV.out hb2)
  have hz2 : w.heap.size + 1 < v2.heap.size := by have := hb2.size; rw [hsz] at this; omega
  clear hb2 hsz hz1 hz0 Hb1 HN hV HbV p0 p1 p2 p3 p4 f0 f1 f2 f3 f4 x0 x1 x2 x3 x4 x5 x6 x7 x8 x9 x10 x11 x12 x13 x14
  go_wp2_with fail
  refine (HA.out _).mono ?_
  rintro e w3 ⟨rfl, hb3⟩
  have hc3 : ∀ b o, b < v2.heap.size → w3.cell? ⟨b, o, none⟩ = v2.cell? ⟨b, o, none⟩ := fun b o hb => by rw [hb3.cell (p := ⟨b, o, none⟩) (by simp; omega), World.cell?_alloc_lt _ _ _ hb]
  replace k0 := (hc3 _ _ (by omega)).trans k0
  replace k1 := (hc3 _ _ (by omega)).trans k1
  replace k2 := (hc3 _ _ (by omega)).trans k2
  replace k3 := (hc3 _ _ (by omega)).trans k3
  replace k4 := (hc3 _ _ (by omega)).trans k4
  replace y0 := (hc3 _ _ hz2).trans y0
  replace y1 := (hc3 _ _ hz2).trans y1
  replace y2 := (hc3 _ _ hz2).trans y2
  replace y3 := (hc3 _ _ hz2).trans y3
  replace y4 := (hc3 _ _ hz2).trans y4
  replace y5 := (hc3 _ _ hz2).trans y5
  replace y6 := (hc3 _ _ hz2).trans y6
  replace y7 := (hc3 _ _ hz2).trans y7
  replace y8 := (hc3 _ _ hz2).trans y8
  replace y9 := (hc3 _ _ hz2).trans y9
  replace y10 := (hc3 _ _ hz2).trans y10
  replace y11 := (hc3 _ _ hz2).trans y11
  replace y12 := (hc3 _ _ hz2).trans y12
  replace y13 := (hc3 _ _ hz2).trans y13
  replace y14 := (hc3 _ _ hz2).trans y14
  have g0 : w3.cell? ⟨v2.heap.size, 0, none⟩ = some (.int .i64 a) := by rw [hb3.cell (p := ⟨v2.heap.size, 0, none⟩) (by simp)]; simp
  have g1 : w3.cell? ⟨v2.heap.size, 1, none⟩ = some (.int .i64 b) := by rw [hb3.cell (p := ⟨v2.heap.size, 1, none⟩) (by simp)]; simp
  have g2 : w3.cell? ⟨v2.heap.size, 2, none⟩ = some (.int .i64 p) := by rw [hb3.cell (p := ⟨v2.heap.size, 2, none⟩) (by simp)]; simp
  have g3 : w3.cell? ⟨v2.heap.size, 3, none⟩ = some (.int .i64 n) := by rw [hb3.cell (p := ⟨v2.heap.size, 3, none⟩) (by simp)]; simp
  have g4 : w3.cell? ⟨v2.heap.size, 4, none⟩ = some (.int .u64 a0_4) := by rw [hb3.cell (p := ⟨v2.heap.size, 4, none⟩) (by simp)]; simp
  have Hb3 := Lib.hid (nextW Hb2.out (unbox hb3))
  have hz3 : w.heap.size + 1 < w3.heap.size := by have := hb3.size; simp at this; omega
  clear hb3 hc3 Hb2 hz2
  have HRt := Lib.hid (fun w => cright_any a b p n a0_4 a1 w)
  obtain ⟨q, hq⟩ : ∃ q, crightB a b p n a1 = q := ⟨_, rfl⟩
  rw [hq] at HRt
  have Hq := Lib.hid (show q = true → crightB a b p n a1 = true from fun h => by rw [hq, h])
  clear hq
  go_wp2_with fail
  refine (HRt.out _).mono ?_
  rintro e w4 ⟨rfl, hb4⟩
  replace k0 := (hb4.cell (p := ⟨w.heap.size, 0, none⟩) (show w.heap.size < w3.heap.size by omega)).trans k0
  replace k1 := (hb4.cell (p := ⟨w.heap.size, 1, none⟩) (show w.heap.size < w3.heap.size by omega)).trans k1
  replace k2 := (hb4.cell (p := ⟨w.heap.size, 2, none⟩) (show w.heap.size < w3.heap.size by omega)).trans k2
  replace k3 := (hb4.cell (p := ⟨w.heap.size, 3, none⟩) (show w.heap.size < w3.heap.size by omega)).trans k3
  replace k4 := (hb4.cell (p := ⟨w.heap.size, 4, none⟩) (show w.heap.size < w3.heap.size by omega)).trans k4
  replace y0 := (hb4.cell (p := ⟨w.heap.size + 1, 0, none⟩) hz3).trans y0
  replace y1 := (hb4.cell (p := ⟨w.heap.size + 1, 1, none⟩) hz3).trans y1
  replace y2 := (hb4.cell (p := ⟨w.heap.size + 1, 2, none⟩) hz3).trans y2
  replace y3 := (hb4.cell (p := ⟨w.heap.size + 1, 3, none⟩) hz3).trans y3
  replace y4 := (hb4.cell (p := ⟨w.heap.size + 1, 4, none⟩) hz3).trans y4
  replace y5 := (hb4.cell (p := ⟨w.heap.size + 1, 5, none⟩) hz3).trans y5
  replace y6 := (hb4.cell (p := ⟨w.heap.size + 1, 6, none⟩) hz3).trans y6
  replace y7 := (hb4.cell (p := ⟨w.heap.size + 1, 7, none⟩) hz3).trans y7
  replace y8 := (hb4.cell (p := ⟨w.heap.size + 1, 8, none⟩) hz3).trans y8
  replace y9 := (hb4.cell (p := ⟨w.heap.size + 1, 9, none⟩) hz3).trans y9
  replace y10 := (hb4.cell (p := ⟨w.heap.size + 1, 10, none⟩) hz3).trans y10
  replace y11 := (hb4.cell (p := ⟨w.heap.size + 1, 11, none⟩) hz3).trans y11
  replace y12 := (hb4.cell (p := ⟨w.heap.size + 1, 12, none⟩) hz3).trans y12
  replace y13 := (hb4.cell (p := ⟨w.heap.size + 1, 13, none⟩) hz3).trans y13
  replace y14 := (hb4.cell (p := ⟨w.heap.size + 1, 14, none⟩) hz3).trans y14
  have Hb4 := Lib.hid (nextW Hb3.out hb4)
  have hz4 : w.heap.size + 1 < w4.heap.size := by have := hb4.size; omega
  have hz5 : w.heap.size < w4.heap.size := by omega
  clear hb4 Hb3 hz3 HRt g0 g1 g2 g3 g4
  cases q
  · go_wp2_with fail
    refine (HA.out _).mono ?_
    rintro e w5 ⟨rfl, hb5⟩
    have Hb5 := Lib.hid (nextW Hb4.out hb5)
    clear hb5
    go_wp2
    go_ret
    exact ⟨rfl, Hb5.out⟩
  · obtain ⟨hin, hk⟩ := cright_parts (Hq.out (by simp))
    have HN := Lib.hid (fun w => rnear_any a b p n a0_4 a1.src w)
    have HNl := Lib.hid (show (nr a b p n a1.src).length ≤ 1000000 from by
      unfold nr
      split
      · rename_i h
        obtain ⟨-, -, -, ha, ha4, hb, hb4, -⟩ := hasB_rt h
        have := nrTo_len a a1.src (a * b).toNat
        have := mul_le4 ha ha4 hb hb4
        omega
      · simp)
    have HI := Lib.hid (fun A k l w hl => in_any A (nr a b p n a1.src).length k l a1.dst w hl HNl.out)
    have Hin := Lib.hid hin
    generalize nr a b p n a1.src = l at *
    clear hin Hq
    go_upto_region 5 with fail
    refine plan_region' (S := (fun w' => (∀ b o, b < (w4).heap.size → w'.cell? ⟨b, o, none⟩ = (w4).cell? ⟨b, o, none⟩) ∧ (∀ b o, b < (w4).heap.size → w'.frozen? ⟨b, o, none⟩ = (w4).frozen? ⟨b, o, none⟩) ∧ Below (w4).heap.size (w4) w')) [(0, true), (1, true), (2, true), (4, true), (5, true), (3, false), (6, false), (7, true)] (by kernel_rfl) (by kernel_rfl) (fun _ _ d _ _ h => by cases d <;> exact h) (keepW0 _) (fun hS => ?_)
    simp only [picked, List.getElem?_cons_succ, List.getElem?_cons_zero]
    refine row_free (v := ?_) (by rfl) ?_ ?_
    rotate_left 1
    focus (intro w hSw; (try dsimp only at hSw); go_simp; (try with_reducible rfl))
    (try simp only [Act.put, List.setIfInBounds_toArray, List.set_cons_zero, List.set_cons_succ])
    refine row_free (v := ?_) (by rfl) ?_ ?_
    rotate_left 1
    focus (intro w hSw; (try dsimp only at hSw); go_simp; (try with_reducible rfl))
    (try simp only [Act.put, List.setIfInBounds_toArray, List.set_cons_zero, List.set_cons_succ])
    refine row_free (v := ?_) (by rfl) ?_ ?_
    rotate_left 1
    focus (intro w hSw; (try dsimp only at hSw); go_simp; (try with_reducible rfl))
    (try simp only [Act.put, List.setIfInBounds_toArray, List.set_cons_zero, List.set_cons_succ])
    refine row_free (v := ?_) (by rfl) ?_ ?_
    rotate_left 1
    focus (intro w hSw; (try dsimp only at hSw); go_simp; (try with_reducible rfl))
    (try simp only [Act.put, List.setIfInBounds_toArray, List.set_cons_zero, List.set_cons_succ])
    refine row_free (v := ?_) (by rfl) ?_ ?_
    rotate_left 1
    focus (intro w hSw; (try dsimp only at hSw); go_simp; (try with_reducible rfl))
    (try simp only [Act.put, List.setIfInBounds_toArray, List.set_cons_zero, List.set_cons_succ])
    refine row_call (by rfl) (fun K hK => ?_)
    go_simp
    (refine (HN.out _).mono ?_; rintro e w5 ⟨A5, k5, rfl, hI5, hb5⟩)
    (try go_wp2_with fail)
    refine hK.out _ _ ?_ (fun hS' => ?_)
    · (try dsimp only); first | exact keepW (by assumption) (by assumption) | exact keepB (by assumption) (by assumption) | exact keepA (by assumption) | assumption
    clear hS hK K
    have hS := hS'
    clear hS'
    (try simp only [Act.put, List.setIfInBounds_toArray, List.set_cons_zero, List.set_cons_succ])
    refine row_call (by rfl) (fun K hK => ?_)
    go_simp
    (refine (HI.out A5 k5 l _ hI5).mono ?_; rw [Hin.out]; rintro e w6 ⟨rfl, rfl⟩)
    (try go_wp2_with fail)
    refine hK.out _ _ ?_ (fun hS' => ?_)
    · (try dsimp only); first | exact keepW (by assumption) (by assumption) | exact keepB (by assumption) (by assumption) | exact keepA (by assumption) | assumption
    clear hS hK K
    have hS := hS'
    clear hS'
    (try simp only [Act.put, List.setIfInBounds_toArray, List.set_cons_zero, List.set_cons_succ])
    refine row_free (v := ?_) (by rfl) ?_ ?_
    rotate_left 1
    focus (intro w hSw; (try dsimp only at hSw); go_simp; (try with_reducible rfl))
    (try simp only [Act.put, List.setIfInBounds_toArray, List.set_cons_zero, List.set_cons_succ])
    refine row_done ?_
    have Hb5 := Lib.hid (nextW Hb4.out hS.2.2)
    have hcw : ∀ b o, b < w4.heap.size → w5.cell? ⟨b, o, none⟩ = w4.cell? ⟨b, o, none⟩ := hS.1
    have hz6 : w4.heap.size ≤ w5.heap.size := hS.2.2.size
    replace k0 := (hcw w.heap.size 0 hz5).trans k0
    replace k1 := (hcw w.heap.size 1 hz5).trans k1
    replace k2 := (hcw w.heap.size 2 hz5).trans k2
    replace k3 := (hcw w.heap.size 3 hz5).trans k3
    replace k4 := (hcw w.heap.size 4 hz5).trans k4
    replace y0 := (hcw (w.heap.size + 1) 0 hz4).trans y0
    replace y1 := (hcw (w.heap.size + 1) 1 hz4).trans y1
    replace y2 := (hcw (w.heap.size + 1) 2 hz4).trans y2
    replace y3 := (hcw (w.heap.size + 1) 3 hz4).trans y3
    replace y4 := (hcw (w.heap.size + 1) 4 hz4).trans y4
    replace y5 := (hcw (w.heap.size + 1) 5 hz4).trans y5
    replace y6 := (hcw (w.heap.size + 1) 6 hz4).trans y6
    replace y7 := (hcw (w.heap.size + 1) 7 hz4).trans y7
    replace y8 := (hcw (w.heap.size + 1) 8 hz4).trans y8
    replace y9 := (hcw (w.heap.size + 1) 9 hz4).trans y9
    replace y10 := (hcw (w.heap.size + 1) 10 hz4).trans y10
    replace y11 := (hcw (w.heap.size + 1) 11 hz4).trans y11
    replace y12 := (hcw (w.heap.size + 1) 12 hz4).trans y12
    replace y13 := (hcw (w.heap.size + 1) 13 hz4).trans y13
    replace y14 := (hcw (w.heap.size + 1) 14 hz4).trans y14
    replace hz5 : w.heap.size < w5.heap.size := by omega
    replace hz4 : w.heap.size + 1 < w5.heap.size := by omega
    clear hcw hS hz6 hI5 HI HN HNl Hin
    rcases hk with hk | ⟨hk, hne, hof⟩
    · go_wp2
      go_ret
      exact ⟨rfl, Hb5.out⟩
    · have HO := Lib.hid (fun w => rof_any a b p n a0_4 a1.e.x a1.e.y w)
      rw [hof] at HO
      have d1 : (a1.dst != a1.src) = true := by simpa using hne
      have Hne := Lib.hid hne
      clear hof hne
      go_upto_region 8 with fail
      refine plan_region' (S := (fun w' => (∀ b o, b < (w5).heap.size → w'.cell? ⟨b, o, none⟩ = (w5).cell? ⟨b, o, none⟩) ∧ (∀ b o, b < (w5).heap.size → w'.frozen? ⟨b, o, none⟩ = (w5).frozen? ⟨b, o, none⟩) ∧ Below (w5).heap.size (w5) w')) [(0, true), (1, true), (2, true), (3, true), (4, true), (5, true), (6, true), (7, true), (8, true), (9, true), (10, true), (11, true), (12, true), (13, true), (14, true), (15, true), (16, true), (17, true), (18, true), (19, true), (20, true), (22, true), (23, true), (21, false), (24, true), (25, true), (26, true)] (by kernel_rfl) (by kernel_rfl) (fun _ _ d _ _ h => by cases d <;> exact h) (keepW0 _) (fun hS => ?_)
      simp only [picked, List.getElem?_cons_succ, List.getElem?_cons_zero]
      refine row_free (v := ?_) (by rfl) ?_ ?_
      rotate_left 1
      focus (intro w hSw; (try dsimp only at hSw); go_simp; (try with_reducible rfl))
      (try simp only [Act.put, List.setIfInBounds_toArray, List.set_cons_zero, List.set_cons_succ])
      refine row_free (v := ?_) (by rfl) ?_ ?_
      rotate_left 1
      focus (intro w hSw; (try dsimp only at hSw); go_simp; (try with_reducible rfl))
      (try simp only [Act.put, List.setIfInBounds_toArray, List.set_cons_zero, List.set_cons_succ])
      refine row_free (v := ?_) (by rfl) ?_ ?_
      rotate_left 1
      focus (intro w hSw; (try dsimp only at hSw); go_simp; (try with_reducible rfl))
      (try simp only [Act.put, List.setIfInBounds_toArray, List.set_cons_zero, List.set_cons_succ])
      refine row_free (v := ?_) (by rfl) ?_ ?_
      rotate_left 1
      focus (intro w hSw; (try dsimp only at hSw); go_simp; (try with_reducible rfl))
      (try simp only [Act.put, List.setIfInBounds_toArray, List.set_cons_zero, List.set_cons_succ])
      refine row_free (v := ?_) (by rfl) ?_ ?_
      rotate_left 1
      focus (intro w hSw; (try dsimp only at hSw); go_simp; (try with_reducible rfl))
      (try simp only [Act.put, List.setIfInBounds_toArray, List.set_cons_zero, List.set_cons_succ])
      refine row_free (v := ?_) (by rfl) ?_ ?_
      rotate_left 1
      focus (intro w hSw; (try dsimp only at hSw); go_simp; (try with_reducible rfl))
      (try simp only [Act.put, List.setIfInBounds_toArray, List.set_cons_zero, List.set_cons_succ])
      refine row_free (v := ?_) (by rfl) ?_ ?_
      rotate_left 1
      focus (intro w hSw; (try dsimp only at hSw); go_simp; (try with_reducible rfl))
      (try simp only [Act.put, List.setIfInBounds_toArray, List.set_cons_zero, List.set_cons_succ])
      refine row_free (v := ?_) (by rfl) ?_ ?_
      rotate_left 1
      focus (intro w hSw; (try dsimp only at hSw); go_simp; (try with_reducible rfl))
      (try simp only [Act.put, List.setIfInBounds_toArray, List.set_cons_zero, List.set_cons_succ])
      refine row_free (v := ?_) (by rfl) ?_ ?_
      rotate_left 1
      focus (intro w hSw; (try dsimp only at hSw); go_simp; (try with_reducible rfl))
      (try simp only [Act.put, List.setIfInBounds_toArray, List.set_cons_zero, List.set_cons_succ])
      refine row_free (v := ?_) (by rfl) ?_ ?_
      rotate_left 1
      focus (intro w hSw; (try dsimp only at hSw); go_simp; (try with_reducible rfl))
      (try simp only [Act.put, List.setIfInBounds_toArray, List.set_cons_zero, List.set_cons_succ])
      refine row_free (v := ?_) (by rfl) ?_ ?_
      rotate_left 1
      focus (intro w hSw; (try dsimp only at hSw); go_simp; (try with_reducible rfl))
      (try simp only [Act.put, List.setIfInBounds_toArray, List.set_cons_zero, List.set_cons_succ])
      refine row_free (v := ?_) (by rfl) ?_ ?_
      rotate_left 1
      focus (intro w hSw; (try dsimp only at hSw); go_simp; (try with_reducible rfl))
      (try simp only [Act.put, List.setIfInBounds_toArray, List.set_cons_zero, List.set_cons_succ])
      refine row_free (v := ?_) (by rfl) ?_ ?_
      rotate_left 1
      focus (intro w hSw; (try dsimp only at hSw); go_simp; (try with_reducible rfl))
      (try simp only [Act.put, List.setIfInBounds_toArray, List.set_cons_zero, List.set_cons_succ])
      refine row_free (v := ?_) (by rfl) ?_ ?_
      rotate_left 1
      focus (intro w hSw; (try dsimp only at hSw); go_simp; (try with_reducible rfl))
      (try simp only [Act.put, List.setIfInBounds_toArray, List.set_cons_zero, List.set_cons_succ])
      refine row_free (v := ?_) (by rfl) ?_ ?_
      rotate_left 1
      focus (intro w hSw; (try dsimp only at hSw); go_simp; (try with_reducible rfl))
      (try simp only [Act.put, List.setIfInBounds_toArray, List.set_cons_zero, List.set_cons_succ])
      refine row_free (v := ?_) (by rfl) ?_ ?_
      rotate_left 1
      focus (intro w hSw; (try dsimp only at hSw); go_simp; (try with_reducible rfl))
      (try simp only [Act.put, List.setIfInBounds_toArray, List.set_cons_zero, List.set_cons_succ])
      refine row_free (v := ?_) (by rfl) ?_ ?_
      rotate_left 1
      focus (intro w hSw; (try dsimp only at hSw); go_simp; (try with_reducible rfl))
      (try simp only [Act.put, List.setIfInBounds_toArray, List.set_cons_zero, List.set_cons_succ])
      refine row_free (v := ?_) (by rfl) ?_ ?_
      rotate_left 1
      focus (intro w hSw; (try dsimp only at hSw); go_simp; (try with_reducible rfl))
      (try simp only [Act.put, List.setIfInBounds_toArray, List.set_cons_zero, List.set_cons_succ])
      refine row_free (v := ?_) (by rfl) ?_ ?_
      rotate_left 1
      focus (intro w hSw; (try dsimp only at hSw); go_simp; (try with_reducible rfl))
      (try simp only [Act.put, List.setIfInBounds_toArray, List.set_cons_zero, List.set_cons_succ])
      refine row_free (v := ?_) (by rfl) ?_ ?_
      rotate_left 1
      focus (intro w hSw; (try dsimp only at hSw); go_simp; (try with_reducible rfl))
      (try simp only [Act.put, List.setIfInBounds_toArray, List.set_cons_zero, List.set_cons_succ])
      refine row_free (v := ?_) (by rfl) ?_ ?_
      rotate_left 1
      focus (intro w hSw; (try dsimp only at hSw); go_simp; (try with_reducible rfl))
      (try simp only [Act.put, List.setIfInBounds_toArray, List.set_cons_zero, List.set_cons_succ])
      refine row_free (v := ?_) (by rfl) ?_ ?_
      rotate_left 1
      focus (intro w hSw; (try dsimp only at hSw); go_simp; (try with_reducible rfl))
      (try simp only [Act.put, List.setIfInBounds_toArray, List.set_cons_zero, List.set_cons_succ])
      refine row_free (v := ?_) (by rfl) ?_ ?_
      rotate_left 1
      focus (intro w hSw; (try dsimp only at hSw); go_simp; (try with_reducible rfl))
      (try simp only [Act.put, List.setIfInBounds_toArray, List.set_cons_zero, List.set_cons_succ])
      refine row_call (by rfl) (fun K hK => ?_)
      go_simp
      (refine (HO.out _).mono ?_; rintro e w7 ⟨rfl, hb7⟩)
      (try go_wp2_with fail)
      refine hK.out _ _ ?_ (fun hS' => ?_)
      · (try dsimp only); first | exact keepW (by assumption) (by assumption) | exact keepB (by assumption) (by assumption) | exact keepA (by assumption) | assumption
      clear hS hK K
      have hS := hS'
      clear hS'
      (try simp only [Act.put, List.setIfInBounds_toArray, List.set_cons_zero, List.set_cons_succ])
      refine row_free (v := ?_) (by rfl) ?_ ?_
      rotate_left 1
      focus (intro w hSw; (try dsimp only at hSw); go_simp; (try with_reducible rfl))
      (try simp only [Act.put, List.setIfInBounds_toArray, List.set_cons_zero, List.set_cons_succ])
      refine row_free (v := ?_) (by rfl) ?_ ?_
      rotate_left 1
      focus (intro w hSw; (try dsimp only at hSw); go_simp; (try with_reducible rfl))
      (try simp only [Act.put, List.setIfInBounds_toArray, List.set_cons_zero, List.set_cons_succ])
      refine row_free (v := ?_) (by rfl) ?_ ?_
      rotate_left 1
      focus (intro w hSw; (try dsimp only at hSw); go_simp; (try with_reducible rfl))
      (try simp only [Act.put, List.setIfInBounds_toArray, List.set_cons_zero, List.set_cons_succ])
      refine row_done ?_
      go_wp2
      go_ret
      exact ⟨rfl, nextW Hb5.out hS.2.2⟩

set_option maxRecDepth 100000 in
theorem lifted (os : Os) (started : os.Started) (H : Type) (enc : TypeId × Value → H) :
    ReturnsInHanded {} Try.checked os 6 .any (Rows.crossNearSpec.pre6 enc Try.prog Try.f6 Rows.crossNearRow.domain false) (Rows.crossNearSpec.post enc Try.prog Try.f6 false true false false) := by
  refine returnsInHanded_of_change (C := Try.checked) own started (by kernel_rfl) Try.func6
    (ChangeSpec.witness6 (enc := enc) (C := Try.checked) false ⟨#[], #[.agg #[.int .i64 0, .int .i64 0, .int .i64 0, .int .i64 0, .int .u64 0], .agg #[.int .i64 0, .int .i64 0, .int .i64 0, .int .i64 0, .int .i64 0, .int .i64 0, .int .i64 0, .int .i64 0, .int .i64 0, .int .i64 0, .int .i64 0, .int .i64 0, .int .i64 0, .int .i64 0, .int .i64 0]], []⟩ 8 (by kernel_rfl) (by kernel_rfl) (by kernel_rfl) (by kernel_rfl)) ?_
  intro W base args ds gs before hval0 hW hcnd _
  have hval : ∀ (j : Nat) t v, Try.f6.params[j]? = some t → args[j]? = some v → Value.okWide Try.prog W .any base t v := hval0
  have hW' := hW
  obtain ⟨p, q, hA0, hV, rfl, hfz, hnd⟩ := hW
  have hA : DataW.TrodAll enc Try.prog W 0 (fun _ => true) true Try.f6.params.toList args.toList ds p := hA0
  rw [Try.params6] at hA hval
  obtain ⟨v0, vs0, d0, ds0, p0, q0, hargs, rfl, rfl, h0, r0⟩ := trodAll_cons hA
  obtain ⟨v1, vs1, d1, ds1, p1, q1, rfl, rfl, rfl, h1, r1⟩ := trodAll_cons r0
  obtain ⟨rfl, rfl, rfl⟩ := trodAll_nil r1
  obtain rfl : args = #[v0, v1] := by cases args; simp_all
  obtain ⟨rfl, rfl⟩ := trodVars_none hV
  obtain ⟨cs0, rfl, -⟩ := okWide_struct Try.underlying24 (hval 0 24 v0 rfl rfl)
  have k0 := h0
  have lt0 : ∀ x ∈ p0, x.block < W.heap.size := by obtain ⟨m, hm⟩ := k0; exact DataW.trod_lt m _ _ _ hm
  obtain ⟨fuel0, hf0⟩ := h0
  obtain ⟨l0⟩ := cs0
  obtain ⟨a0_0, a0_1, a0_2, a0_3, a0_4, rfl, w0_0, w0_1, w0_2, w0_3, w0_4⟩ := open_T24 (cs := l0) hf0
  obtain ⟨cs1, rfl, -⟩ := okWide_struct Try.underlying28 (hval 1 28 v1 rfl rfl)
  have k1 := h1
  have lt1 : ∀ x ∈ p1, x.block < W.heap.size := by obtain ⟨m, hm⟩ := k1; exact DataW.trod_lt m _ _ _ hm
  obtain ⟨fuel1, hf1⟩ := h1
  obtain ⟨l1⟩ := cs1
  obtain ⟨a1_0, a1_1, a1_2, a1_3, a1_4, a1_5, a1_6, a1_7, a1_8, a1_9, a1_10, a1_11, a1_12, a1_13, a1_14, rfl, w1_0, w1_1, w1_2, w1_3, w1_4, w1_5, w1_6, w1_7, w1_8, w1_9, w1_10, w1_11, w1_12, w1_13, w1_14⟩ := open_T28 (cs := l1) hf1
  clear hA0 hval0
  refine (walk a0_0 a0_1 a0_2 a0_3 a0_4 ⟨a1_0, a1_1, a1_2, a1_3, ⟨a1_4, a1_5, a1_6, a1_7, a1_8, a1_9, a1_10, a1_11, a1_12⟩, a1_13, a1_14⟩ W w0_0 w0_1 w0_2 w0_3 w0_4 ⟨w1_0, w1_1, w1_2, w1_3, w1_4, w1_5, w1_6, w1_7, w1_8, w1_9, w1_10, w1_11, w1_12, w1_13, w1_14⟩).mono fun e W' ⟨he, bel⟩ => ?_
  subst he
  exact ⟨_, rfl, _, _, _, [], _, [], hW', trodAll_mk1 (shut_bool Try.underlying4 _), (trodAll_cons_mk (Below.trod laidOut (by kernel_rfl) (of_decide_eq_true (by kernel_rfl)) k0 bel lt0) (trodAll_cons_mk (Below.trod laidOut (by kernel_rfl) (of_decide_eq_true (by kernel_rfl)) k1 bel lt1) trodAll_mk0)), rfl, bel.frame _, fun h => by cases h⟩

theorem over : Rows.crossNearRow.holds Try.pinned (OpenSpec.ofChange Rows.crossNearSpec) :=
  OpenClaim.holds_of_wide 6 Try.f6 rfl rfl rfl rfl rfl rfl rfl ⟨rfl, rfl, rfl, rfl, rfl⟩ rfl rfl rfl rfl rfl (by kernel_rfl) Try.func6 (by kernel_rfl)
    (of_decide_eq_true (by kernel_rfl)) (by unfold Func.isWrapper; first | (rw [if_pos (by decide +kernel)]; kernel_rfl) | (rw [if_neg (by decide +kernel)]; exact ⟨rfl, rfl⟩))
    (fun os started H enc _ => lifted os started H enc)

end Go.Proofs.Ytbmboidmgdpnoaa.crossNear
namespace Go.Proofs.Ytbmboidmgdpnoaa
theorem crossNear_proved : Rows.CrossNearSaid := crossNear.over
end Go.Proofs.Ytbmboidmgdpnoaa
