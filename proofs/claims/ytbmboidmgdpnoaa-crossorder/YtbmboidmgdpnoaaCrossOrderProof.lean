/- joustlaw06.CrossOrder returns true for every input; no conditions. -/
import Derived.Test.YtbmboidmgdpnoaaCrAwake
import Derived.Test.YtbmboidmgdpnoaaGSeq
import Derived.Test.YtbmboidmgdpnoaaRows
import Derived.WalkKit
import Derived.ProofKit
import Derived.OpenShut
import Derived.ShutString
import Derived.ChangeOld
import Derived.Below
namespace Go.Proofs.Ytbmboidmgdpnoaa.crossOrder
open Go.ChangeShapes Go.WideShapes Go.ChangeAt Go.RowKit
open Go.ChangeMaps (open_string shut_string)
set_option linter.unusedVariables false

theorem own : ownKnob Try.prog.godebug = none := by kernel_rfl
theorem laidOut : laidOutB Try.prog = true := by kernel_rfl

theorem open_T26 {H : Type} {enc : TypeId × Value → H} {W : World} {fuel : Nat} {cs : List Value} {x : DataW H × List MemPlace} (h : DataW.trod enc Try.prog W 0 (fun _ => true) true fuel 26 cs = some x) :
    ∃ (a0 : Int) (a1 : Int) (a2 : Int) (a3 : Int) (a4 : Int) (a5 : Int) (a6 : Int) (a7 : Int) (a8 : Int), cs = [.int .i64 a0, .int .i64 a1, .int .i64 a2, .int .i64 a3, .int .i64 a4, .int .i64 a5, .int .i64 a6, .int .i64 a7, .int .i64 a8] ∧ (Lit.int .i64 a0).wf = true ∧ (Lit.int .i64 a1).wf = true ∧ (Lit.int .i64 a2).wf = true ∧ (Lit.int .i64 a3).wf = true ∧ (Lit.int .i64 a4).wf = true ∧ (Lit.int .i64 a5).wf = true ∧ (Lit.int .i64 a6).wf = true ∧ (Lit.int .i64 a7).wf = true ∧ (Lit.int .i64 a8).wf = true := by
  obtain ⟨xs, n, -, -, hl, hxl, hg⟩ := DataW.trod_struct Try.underlying26 h
  have hl' : cs.length = 9 := hl.trans (by kernel_rfl)
  have c3 : Try.prog.cellsOf 3 = 1 := by kernel_rfl
  clear hl h
  match cs, hl' with
  | [z0, z1, z2, z3, z4, z5, z6, z7, z8], _ =>
    have g0 : DataW.trod enc Try.prog W 0 (fun _ => true) true n 3 (([z0, z1, z2, z3, z4, z5, z6, z7, z8].drop 0).take (Try.prog.cellsOf 3)) = xs[0]? := hg 0 _ rfl
    rw [c3, List.getElem?_eq_getElem (show 0 < xs.length by rw [hxl]; decide)] at g0
    have g1 : DataW.trod enc Try.prog W 0 (fun _ => true) true n 3 (([z0, z1, z2, z3, z4, z5, z6, z7, z8].drop 1).take (Try.prog.cellsOf 3)) = xs[1]? := hg 1 _ rfl
    rw [c3, List.getElem?_eq_getElem (show 1 < xs.length by rw [hxl]; decide)] at g1
    have g2 : DataW.trod enc Try.prog W 0 (fun _ => true) true n 3 (([z0, z1, z2, z3, z4, z5, z6, z7, z8].drop 2).take (Try.prog.cellsOf 3)) = xs[2]? := hg 2 _ rfl
    rw [c3, List.getElem?_eq_getElem (show 2 < xs.length by rw [hxl]; decide)] at g2
    have g3 : DataW.trod enc Try.prog W 0 (fun _ => true) true n 3 (([z0, z1, z2, z3, z4, z5, z6, z7, z8].drop 3).take (Try.prog.cellsOf 3)) = xs[3]? := hg 3 _ rfl
    rw [c3, List.getElem?_eq_getElem (show 3 < xs.length by rw [hxl]; decide)] at g3
    have g4 : DataW.trod enc Try.prog W 0 (fun _ => true) true n 3 (([z0, z1, z2, z3, z4, z5, z6, z7, z8].drop 4).take (Try.prog.cellsOf 3)) = xs[4]? := hg 4 _ rfl
    rw [c3, List.getElem?_eq_getElem (show 4 < xs.length by rw [hxl]; decide)] at g4
    have g5 : DataW.trod enc Try.prog W 0 (fun _ => true) true n 3 (([z0, z1, z2, z3, z4, z5, z6, z7, z8].drop 5).take (Try.prog.cellsOf 3)) = xs[5]? := hg 5 _ rfl
    rw [c3, List.getElem?_eq_getElem (show 5 < xs.length by rw [hxl]; decide)] at g5
    have g6 : DataW.trod enc Try.prog W 0 (fun _ => true) true n 3 (([z0, z1, z2, z3, z4, z5, z6, z7, z8].drop 6).take (Try.prog.cellsOf 3)) = xs[6]? := hg 6 _ rfl
    rw [c3, List.getElem?_eq_getElem (show 6 < xs.length by rw [hxl]; decide)] at g6
    have g7 : DataW.trod enc Try.prog W 0 (fun _ => true) true n 3 (([z0, z1, z2, z3, z4, z5, z6, z7, z8].drop 7).take (Try.prog.cellsOf 3)) = xs[7]? := hg 7 _ rfl
    rw [c3, List.getElem?_eq_getElem (show 7 < xs.length by rw [hxl]; decide)] at g7
    have g8 : DataW.trod enc Try.prog W 0 (fun _ => true) true n 3 (([z0, z1, z2, z3, z4, z5, z6, z7, z8].drop 8).take (Try.prog.cellsOf 3)) = xs[8]? := hg 8 _ rfl
    rw [c3, List.getElem?_eq_getElem (show 8 < xs.length by rw [hxl]; decide)] at g8
    obtain ⟨a0, e0, -, w0⟩ := DataW.trod_int (cs := [z0]) Try.underlying3 g0
    simp only [List.cons.injEq, and_true] at e0
    subst e0
    clear g0
    obtain ⟨a1, e1, -, w1⟩ := DataW.trod_int (cs := [z1]) Try.underlying3 g1
    simp only [List.cons.injEq, and_true] at e1
    subst e1
    clear g1
    obtain ⟨a2, e2, -, w2⟩ := DataW.trod_int (cs := [z2]) Try.underlying3 g2
    simp only [List.cons.injEq, and_true] at e2
    subst e2
    clear g2
    obtain ⟨a3, e3, -, w3⟩ := DataW.trod_int (cs := [z3]) Try.underlying3 g3
    simp only [List.cons.injEq, and_true] at e3
    subst e3
    clear g3
    obtain ⟨a4, e4, -, w4⟩ := DataW.trod_int (cs := [z4]) Try.underlying3 g4
    simp only [List.cons.injEq, and_true] at e4
    subst e4
    clear g4
    obtain ⟨a5, e5, -, w5⟩ := DataW.trod_int (cs := [z5]) Try.underlying3 g5
    simp only [List.cons.injEq, and_true] at e5
    subst e5
    clear g5
    obtain ⟨a6, e6, -, w6⟩ := DataW.trod_int (cs := [z6]) Try.underlying3 g6
    simp only [List.cons.injEq, and_true] at e6
    subst e6
    clear g6
    obtain ⟨a7, e7, -, w7⟩ := DataW.trod_int (cs := [z7]) Try.underlying3 g7
    simp only [List.cons.injEq, and_true] at e7
    subst e7
    clear g7
    obtain ⟨a8, e8, -, w8⟩ := DataW.trod_int (cs := [z8]) Try.underlying3 g8
    simp only [List.cons.injEq, and_true] at e8
    subst e8
    clear g8
    exact ⟨a0, a1, a2, a3, a4, a5, a6, a7, a8, rfl, w0, w1, w2, w3, w4, w5, w6, w7, w8⟩

theorem open_T28 {H : Type} {enc : TypeId × Value → H} {W : World} {fuel : Nat} {cs : List Value} {x : DataW H × List MemPlace} (h : DataW.trod enc Try.prog W 0 (fun _ => true) true fuel 28 cs = some x) :
    ∃ (a0 : Int) (a1 : Int) (a2 : Int) (a3 : Int) (a4 : Int) (a5 : Int) (a6 : Int) (a7 : Int) (a8 : Int) (a9 : Int) (a10 : Int) (a11 : Int) (a12 : Int) (a13 : Int) (a14 : Int), cs = [.int .i64 a0, .int .i64 a1, .int .i64 a2, .int .i64 a3, .int .i64 a4, .int .i64 a5, .int .i64 a6, .int .i64 a7, .int .i64 a8, .int .i64 a9, .int .i64 a10, .int .i64 a11, .int .i64 a12, .int .i64 a13, .int .i64 a14] ∧ (Lit.int .i64 a0).wf = true ∧ (Lit.int .i64 a1).wf = true ∧ (Lit.int .i64 a2).wf = true ∧ (Lit.int .i64 a3).wf = true ∧ (Lit.int .i64 a4).wf = true ∧ (Lit.int .i64 a5).wf = true ∧ (Lit.int .i64 a6).wf = true ∧ (Lit.int .i64 a7).wf = true ∧ (Lit.int .i64 a8).wf = true ∧ (Lit.int .i64 a9).wf = true ∧ (Lit.int .i64 a10).wf = true ∧ (Lit.int .i64 a11).wf = true ∧ (Lit.int .i64 a12).wf = true ∧ (Lit.int .i64 a13).wf = true ∧ (Lit.int .i64 a14).wf = true := by
  obtain ⟨xs, n, -, -, hl, hxl, hg⟩ := DataW.trod_struct Try.underlying28 h
  have hl' : cs.length = 15 := hl.trans (by kernel_rfl)
  have c3 : Try.prog.cellsOf 3 = 1 := by kernel_rfl
  have c26 : Try.prog.cellsOf 26 = 9 := by kernel_rfl
  clear hl h
  match cs, hl' with
  | [z0, z1, z2, z3, z4, z5, z6, z7, z8, z9, z10, z11, z12, z13, z14], _ =>
    have g0 : DataW.trod enc Try.prog W 0 (fun _ => true) true n 3 (([z0, z1, z2, z3, z4, z5, z6, z7, z8, z9, z10, z11, z12, z13, z14].drop 0).take (Try.prog.cellsOf 3)) = xs[0]? := hg 0 _ rfl
    rw [c3, List.getElem?_eq_getElem (show 0 < xs.length by rw [hxl]; decide)] at g0
    have g1 : DataW.trod enc Try.prog W 0 (fun _ => true) true n 3 (([z0, z1, z2, z3, z4, z5, z6, z7, z8, z9, z10, z11, z12, z13, z14].drop 1).take (Try.prog.cellsOf 3)) = xs[1]? := hg 1 _ rfl
    rw [c3, List.getElem?_eq_getElem (show 1 < xs.length by rw [hxl]; decide)] at g1
    have g2 : DataW.trod enc Try.prog W 0 (fun _ => true) true n 3 (([z0, z1, z2, z3, z4, z5, z6, z7, z8, z9, z10, z11, z12, z13, z14].drop 2).take (Try.prog.cellsOf 3)) = xs[2]? := hg 2 _ rfl
    rw [c3, List.getElem?_eq_getElem (show 2 < xs.length by rw [hxl]; decide)] at g2
    have g3 : DataW.trod enc Try.prog W 0 (fun _ => true) true n 3 (([z0, z1, z2, z3, z4, z5, z6, z7, z8, z9, z10, z11, z12, z13, z14].drop 3).take (Try.prog.cellsOf 3)) = xs[3]? := hg 3 _ rfl
    rw [c3, List.getElem?_eq_getElem (show 3 < xs.length by rw [hxl]; decide)] at g3
    have g4 : DataW.trod enc Try.prog W 0 (fun _ => true) true n 26 (([z0, z1, z2, z3, z4, z5, z6, z7, z8, z9, z10, z11, z12, z13, z14].drop 4).take (Try.prog.cellsOf 26)) = xs[4]? := hg 4 _ rfl
    rw [c26, List.getElem?_eq_getElem (show 4 < xs.length by rw [hxl]; decide)] at g4
    have g5 : DataW.trod enc Try.prog W 0 (fun _ => true) true n 3 (([z0, z1, z2, z3, z4, z5, z6, z7, z8, z9, z10, z11, z12, z13, z14].drop 13).take (Try.prog.cellsOf 3)) = xs[5]? := hg 5 _ rfl
    rw [c3, List.getElem?_eq_getElem (show 5 < xs.length by rw [hxl]; decide)] at g5
    have g6 : DataW.trod enc Try.prog W 0 (fun _ => true) true n 3 (([z0, z1, z2, z3, z4, z5, z6, z7, z8, z9, z10, z11, z12, z13, z14].drop 14).take (Try.prog.cellsOf 3)) = xs[6]? := hg 6 _ rfl
    rw [c3, List.getElem?_eq_getElem (show 6 < xs.length by rw [hxl]; decide)] at g6
    obtain ⟨a0, e0, -, w0⟩ := DataW.trod_int (cs := [z0]) Try.underlying3 g0
    simp only [List.cons.injEq, and_true] at e0
    subst e0
    clear g0
    obtain ⟨a1, e1, -, w1⟩ := DataW.trod_int (cs := [z1]) Try.underlying3 g1
    simp only [List.cons.injEq, and_true] at e1
    subst e1
    clear g1
    obtain ⟨a2, e2, -, w2⟩ := DataW.trod_int (cs := [z2]) Try.underlying3 g2
    simp only [List.cons.injEq, and_true] at e2
    subst e2
    clear g2
    obtain ⟨a3, e3, -, w3⟩ := DataW.trod_int (cs := [z3]) Try.underlying3 g3
    simp only [List.cons.injEq, and_true] at e3
    subst e3
    clear g3
    obtain ⟨a4, a5, a6, a7, a8, a9, a10, a11, a12, e4, w4, w5, w6, w7, w8, w9, w10, w11, w12⟩ := open_T26 (cs := [z4, z5, z6, z7, z8, z9, z10, z11, z12]) g4
    simp only [List.cons.injEq, and_true] at e4
    obtain ⟨rfl, rfl, rfl, rfl, rfl, rfl, rfl, rfl, rfl⟩ := e4
    clear g4
    obtain ⟨a13, e5, -, w13⟩ := DataW.trod_int (cs := [z13]) Try.underlying3 g5
    simp only [List.cons.injEq, and_true] at e5
    subst e5
    clear g5
    obtain ⟨a14, e6, -, w14⟩ := DataW.trod_int (cs := [z14]) Try.underlying3 g6
    simp only [List.cons.injEq, and_true] at e6
    subst e6
    clear g6
    exact ⟨a0, a1, a2, a3, a4, a5, a6, a7, a8, a9, a10, a11, a12, a13, a14, rfl, w0, w1, w2, w3, w4, w5, w6, w7, w8, w9, w10, w11, w12, w13, w14⟩

open Fx

theorem cell_box (w : World) (cs : Array Value) (t b i : Nat) (hb : b = w.heap.size) : (w.alloc (.cells cs t)).cell? ⟨b, i, none⟩ = cs[i]? := by
  subst hb; exact World.cell?_alloc_new _ _ _ _

set_option maxRecDepth 100000 in
set_option maxHeartbeats 2000000 in
theorem walk (a0 : Fx.Crs) (a1 : Fx.Crs) (a2 : Fx.Crs) (w : World) (w0 : Fx.Crs.ok a0) (w1 : Fx.Crs.ok a1) (w2 : Fx.Crs.ok a2) :
    Calls Try.prog 5 #[.agg #[.int .i64 a0.kind, .int .i64 a0.src, .int .i64 a0.dst, .int .i64 a0.frame, .int .i64 a0.e.id, .int .i64 a0.e.kind, .int .i64 a0.e.x, .int .i64 a0.e.y, .int .i64 a0.e.vx, .int .i64 a0.e.vy, .int .i64 a0.e.health, .int .i64 a0.e.age, .int .i64 a0.e.owner, .int .i64 a0.x, .int .i64 a0.y], .agg #[.int .i64 a1.kind, .int .i64 a1.src, .int .i64 a1.dst, .int .i64 a1.frame, .int .i64 a1.e.id, .int .i64 a1.e.kind, .int .i64 a1.e.x, .int .i64 a1.e.y, .int .i64 a1.e.vx, .int .i64 a1.e.vy, .int .i64 a1.e.health, .int .i64 a1.e.age, .int .i64 a1.e.owner, .int .i64 a1.x, .int .i64 a1.y], .agg #[.int .i64 a2.kind, .int .i64 a2.src, .int .i64 a2.dst, .int .i64 a2.frame, .int .i64 a2.e.id, .int .i64 a2.e.kind, .int .i64 a2.e.x, .int .i64 a2.e.y, .int .i64 a2.e.vx, .int .i64 a2.e.vy, .int .i64 a2.e.health, .int .i64 a2.e.age, .int .i64 a2.e.owner, .int .i64 a2.x, .int .i64 a2.y]] w fun e w' => e = .returned (.bool true) ∧ Below w.heap.size w w' := by
  have HA := Lib.hid awake_cr
  obtain ⟨x, hx⟩ : ∃ x, lessB a0 a1 = x := ⟨_, rfl⟩
  obtain ⟨y, hy⟩ : ∃ y, lessB a1 a2 = y := ⟨_, rfl⟩
  obtain ⟨z, hz⟩ : ∃ z, lessB a0 a2 = z := ⟨_, rfl⟩
  obtain ⟨u, hu⟩ : ∃ u, lessB a1 a0 = u := ⟨_, rfl⟩
  have H1 := Lib.hid (fun W => by have := less_any a0 a1 W; rw [hx] at this; exact this)
  have H2 := Lib.hid (fun W => by have := less_any a1 a2 W; rw [hy] at this; exact this)
  have H3 := Lib.hid (fun W => by have := less_any a0 a2 W; rw [hz] at this; exact this)
  have H4 := Lib.hid (fun W => by have := less_any a1 a0 W; rw [hu] at this; exact this)
  have HU := Lib.hid (show x = true → u = false from fun h => by rw [h] at hx; rw [← hu]; exact swo_asymm lessB_swo hx)
  have HZ := Lib.hid (show x = true → y = true → z = true from fun h1 h2 => by rw [h1] at hx; rw [h2] at hy; rw [← hz]; exact lessB_swo.trans _ _ _ hx hy)
  clear hx hy hz hu
  go_enter Try.func5, Try.ntmps5
  go_upto_region 1 with fail
  generalize hW : ((w.alloc _).alloc _).alloc _ = W0
  have c0 : W0.cell? ⟨w.heap.size, 0, none⟩ = some (.int .i64 a0.kind) := by rw [← hW, World.cell?_alloc_lt _ _ _ (by simp; omega), World.cell?_alloc_lt _ _ _ (by simp), cell_box _ _ _ _ _ rfl]; rfl
  have c1 : W0.cell? ⟨w.heap.size, 1, none⟩ = some (.int .i64 a0.src) := by rw [← hW, World.cell?_alloc_lt _ _ _ (by simp; omega), World.cell?_alloc_lt _ _ _ (by simp), cell_box _ _ _ _ _ rfl]; rfl
  have c2 : W0.cell? ⟨w.heap.size, 2, none⟩ = some (.int .i64 a0.dst) := by rw [← hW, World.cell?_alloc_lt _ _ _ (by simp; omega), World.cell?_alloc_lt _ _ _ (by simp), cell_box _ _ _ _ _ rfl]; rfl
  have c3 : W0.cell? ⟨w.heap.size, 3, none⟩ = some (.int .i64 a0.frame) := by rw [← hW, World.cell?_alloc_lt _ _ _ (by simp; omega), World.cell?_alloc_lt _ _ _ (by simp), cell_box _ _ _ _ _ rfl]; rfl
  have c4 : W0.cell? ⟨w.heap.size, 4, none⟩ = some (.int .i64 a0.e.id) := by rw [← hW, World.cell?_alloc_lt _ _ _ (by simp; omega), World.cell?_alloc_lt _ _ _ (by simp), cell_box _ _ _ _ _ rfl]; rfl
  have c5 : W0.cell? ⟨w.heap.size, 5, none⟩ = some (.int .i64 a0.e.kind) := by rw [← hW, World.cell?_alloc_lt _ _ _ (by simp; omega), World.cell?_alloc_lt _ _ _ (by simp), cell_box _ _ _ _ _ rfl]; rfl
  have c6 : W0.cell? ⟨w.heap.size, 6, none⟩ = some (.int .i64 a0.e.x) := by rw [← hW, World.cell?_alloc_lt _ _ _ (by simp; omega), World.cell?_alloc_lt _ _ _ (by simp), cell_box _ _ _ _ _ rfl]; rfl
  have c7 : W0.cell? ⟨w.heap.size, 7, none⟩ = some (.int .i64 a0.e.y) := by rw [← hW, World.cell?_alloc_lt _ _ _ (by simp; omega), World.cell?_alloc_lt _ _ _ (by simp), cell_box _ _ _ _ _ rfl]; rfl
  have c8 : W0.cell? ⟨w.heap.size, 8, none⟩ = some (.int .i64 a0.e.vx) := by rw [← hW, World.cell?_alloc_lt _ _ _ (by simp; omega), World.cell?_alloc_lt _ _ _ (by simp), cell_box _ _ _ _ _ rfl]; rfl
  have c9 : W0.cell? ⟨w.heap.size, 9, none⟩ = some (.int .i64 a0.e.vy) := by rw [← hW, World.cell?_alloc_lt _ _ _ (by simp; omega), World.cell?_alloc_lt _ _ _ (by simp), cell_box _ _ _ _ _ rfl]; rfl
  have c10 : W0.cell? ⟨w.heap.size, 10, none⟩ = some (.int .i64 a0.e.health) := by rw [← hW, World.cell?_alloc_lt _ _ _ (by simp; omega), World.cell?_alloc_lt _ _ _ (by simp), cell_box _ _ _ _ _ rfl]; rfl
  have c11 : W0.cell? ⟨w.heap.size, 11, none⟩ = some (.int .i64 a0.e.age) := by rw [← hW, World.cell?_alloc_lt _ _ _ (by simp; omega), World.cell?_alloc_lt _ _ _ (by simp), cell_box _ _ _ _ _ rfl]; rfl
  have c12 : W0.cell? ⟨w.heap.size, 12, none⟩ = some (.int .i64 a0.e.owner) := by rw [← hW, World.cell?_alloc_lt _ _ _ (by simp; omega), World.cell?_alloc_lt _ _ _ (by simp), cell_box _ _ _ _ _ rfl]; rfl
  have c13 : W0.cell? ⟨w.heap.size, 13, none⟩ = some (.int .i64 a0.x) := by rw [← hW, World.cell?_alloc_lt _ _ _ (by simp; omega), World.cell?_alloc_lt _ _ _ (by simp), cell_box _ _ _ _ _ rfl]; rfl
  have c14 : W0.cell? ⟨w.heap.size, 14, none⟩ = some (.int .i64 a0.y) := by rw [← hW, World.cell?_alloc_lt _ _ _ (by simp; omega), World.cell?_alloc_lt _ _ _ (by simp), cell_box _ _ _ _ _ rfl]; rfl
  have d0 : W0.cell? ⟨w.heap.size + 1, 0, none⟩ = some (.int .i64 a1.kind) := by rw [← hW, World.cell?_alloc_lt _ _ _ (by simp), cell_box _ _ _ _ _ (by simp)]; rfl
  have d1 : W0.cell? ⟨w.heap.size + 1, 1, none⟩ = some (.int .i64 a1.src) := by rw [← hW, World.cell?_alloc_lt _ _ _ (by simp), cell_box _ _ _ _ _ (by simp)]; rfl
  have d2 : W0.cell? ⟨w.heap.size + 1, 2, none⟩ = some (.int .i64 a1.dst) := by rw [← hW, World.cell?_alloc_lt _ _ _ (by simp), cell_box _ _ _ _ _ (by simp)]; rfl
  have d3 : W0.cell? ⟨w.heap.size + 1, 3, none⟩ = some (.int .i64 a1.frame) := by rw [← hW, World.cell?_alloc_lt _ _ _ (by simp), cell_box _ _ _ _ _ (by simp)]; rfl
  have d4 : W0.cell? ⟨w.heap.size + 1, 4, none⟩ = some (.int .i64 a1.e.id) := by rw [← hW, World.cell?_alloc_lt _ _ _ (by simp), cell_box _ _ _ _ _ (by simp)]; rfl
  have d5 : W0.cell? ⟨w.heap.size + 1, 5, none⟩ = some (.int .i64 a1.e.kind) := by rw [← hW, World.cell?_alloc_lt _ _ _ (by simp), cell_box _ _ _ _ _ (by simp)]; rfl
  have d6 : W0.cell? ⟨w.heap.size + 1, 6, none⟩ = some (.int .i64 a1.e.x) := by rw [← hW, World.cell?_alloc_lt _ _ _ (by simp), cell_box _ _ _ _ _ (by simp)]; rfl
  have d7 : W0.cell? ⟨w.heap.size + 1, 7, none⟩ = some (.int .i64 a1.e.y) := by rw [← hW, World.cell?_alloc_lt _ _ _ (by simp), cell_box _ _ _ _ _ (by simp)]; rfl
  have d8 : W0.cell? ⟨w.heap.size + 1, 8, none⟩ = some (.int .i64 a1.e.vx) := by rw [← hW, World.cell?_alloc_lt _ _ _ (by simp), cell_box _ _ _ _ _ (by simp)]; rfl
  have d9 : W0.cell? ⟨w.heap.size + 1, 9, none⟩ = some (.int .i64 a1.e.vy) := by rw [← hW, World.cell?_alloc_lt _ _ _ (by simp), cell_box _ _ _ _ _ (by simp)]; rfl
  have d10 : W0.cell? ⟨w.heap.size + 1, 10, none⟩ = some (.int .i64 a1.e.health) := by rw [← hW, World.cell?_alloc_lt _ _ _ (by simp), cell_box _ _ _ _ _ (by simp)]; rfl
  have d11 : W0.cell? ⟨w.heap.size + 1, 11, none⟩ = some (.int .i64 a1.e.age) := by rw [← hW, World.cell?_alloc_lt _ _ _ (by simp), cell_box _ _ _ _ _ (by simp)]; rfl
  have d12 : W0.cell? ⟨w.heap.size + 1, 12, none⟩ = some (.int .i64 a1.e.owner) := by rw [← hW, World.cell?_alloc_lt _ _ _ (by simp), cell_box _ _ _ _ _ (by simp)]; rfl
  have d13 : W0.cell? ⟨w.heap.size + 1, 13, none⟩ = some (.int .i64 a1.x) := by rw [← hW, World.cell?_alloc_lt _ _ _ (by simp), cell_box _ _ _ _ _ (by simp)]; rfl
  have d14 : W0.cell? ⟨w.heap.size + 1, 14, none⟩ = some (.int .i64 a1.y) := by rw [← hW, World.cell?_alloc_lt _ _ _ (by simp), cell_box _ _ _ _ _ (by simp)]; rfl
  have f0 : W0.cell? ⟨w.heap.size + 1 + 1, 0, none⟩ = some (.int .i64 a2.kind) := by rw [← hW, cell_box _ _ _ _ _ (by simp)]; rfl
  have f1 : W0.cell? ⟨w.heap.size + 1 + 1, 1, none⟩ = some (.int .i64 a2.src) := by rw [← hW, cell_box _ _ _ _ _ (by simp)]; rfl
  have f2 : W0.cell? ⟨w.heap.size + 1 + 1, 2, none⟩ = some (.int .i64 a2.dst) := by rw [← hW, cell_box _ _ _ _ _ (by simp)]; rfl
  have f3 : W0.cell? ⟨w.heap.size + 1 + 1, 3, none⟩ = some (.int .i64 a2.frame) := by rw [← hW, cell_box _ _ _ _ _ (by simp)]; rfl
  have f4 : W0.cell? ⟨w.heap.size + 1 + 1, 4, none⟩ = some (.int .i64 a2.e.id) := by rw [← hW, cell_box _ _ _ _ _ (by simp)]; rfl
  have f5 : W0.cell? ⟨w.heap.size + 1 + 1, 5, none⟩ = some (.int .i64 a2.e.kind) := by rw [← hW, cell_box _ _ _ _ _ (by simp)]; rfl
  have f6 : W0.cell? ⟨w.heap.size + 1 + 1, 6, none⟩ = some (.int .i64 a2.e.x) := by rw [← hW, cell_box _ _ _ _ _ (by simp)]; rfl
  have f7 : W0.cell? ⟨w.heap.size + 1 + 1, 7, none⟩ = some (.int .i64 a2.e.y) := by rw [← hW, cell_box _ _ _ _ _ (by simp)]; rfl
  have f8 : W0.cell? ⟨w.heap.size + 1 + 1, 8, none⟩ = some (.int .i64 a2.e.vx) := by rw [← hW, cell_box _ _ _ _ _ (by simp)]; rfl
  have f9 : W0.cell? ⟨w.heap.size + 1 + 1, 9, none⟩ = some (.int .i64 a2.e.vy) := by rw [← hW, cell_box _ _ _ _ _ (by simp)]; rfl
  have f10 : W0.cell? ⟨w.heap.size + 1 + 1, 10, none⟩ = some (.int .i64 a2.e.health) := by rw [← hW, cell_box _ _ _ _ _ (by simp)]; rfl
  have f11 : W0.cell? ⟨w.heap.size + 1 + 1, 11, none⟩ = some (.int .i64 a2.e.age) := by rw [← hW, cell_box _ _ _ _ _ (by simp)]; rfl
  have f12 : W0.cell? ⟨w.heap.size + 1 + 1, 12, none⟩ = some (.int .i64 a2.e.owner) := by rw [← hW, cell_box _ _ _ _ _ (by simp)]; rfl
  have f13 : W0.cell? ⟨w.heap.size + 1 + 1, 13, none⟩ = some (.int .i64 a2.x) := by rw [← hW, cell_box _ _ _ _ _ (by simp)]; rfl
  have f14 : W0.cell? ⟨w.heap.size + 1 + 1, 14, none⟩ = some (.int .i64 a2.y) := by rw [← hW, cell_box _ _ _ _ _ (by simp)]; rfl
  have hz0 : w.heap.size < W0.heap.size := by rw [← hW]; simp; omega
  have hz1 : w.heap.size + 1 < W0.heap.size := by rw [← hW]; simp
  have hz2 : w.heap.size + 1 + 1 < W0.heap.size := by rw [← hW]; simp
  have HB := Lib.hid (show Below w.heap.size w W0 from by rw [← hW]; exact (((Below.refl _ _).alloc (Nat.le_refl _) _).alloc (by simp) _).alloc (by simp; omega) _)
  clear hW
  refine plan_region' (S := (fun w' => (∀ b o, b < (W0).heap.size → w'.cell? ⟨b, o, none⟩ = (W0).cell? ⟨b, o, none⟩) ∧ (∀ b o, b < (W0).heap.size → w'.frozen? ⟨b, o, none⟩ = (W0).frozen? ⟨b, o, none⟩) ∧ Below (W0).heap.size (W0) w')) [(0, true), (1, true), (3, true), (4, true), (6, true), (7, true), (2, false), (5, false), (8, false), (9, true), (10, true), (11, true)] (by kernel_rfl) (by kernel_rfl) (fun _ _ d _ _ h => by cases d <;> exact h) (keepW0 _) (fun hS => ?_)
  simp only [picked, List.getElem?_cons_succ, List.getElem?_cons_zero]
  refine row_free (v := ?_) (by rfl) ?_ ?_
  rotate_left 1
  focus (intro w hSw; (try dsimp only at hSw); go_simp; (try with_reducible rfl))
  (try simp only [Act.put, List.setIfInBounds_toArray, List.set_cons_zero, List.set_cons_succ])
  refine row_free (v := ?_) (by rfl) ?_ ?_
  rotate_left 1
  focus (intro w hSw; (try dsimp only at hSw); go_simp; (try with_reducible rfl))
  (try simp only [Act.put, List.setIfInBounds_toArray, List.set_cons_zero, List.set_cons_succ])
  refine row_free (v := ?_) (by rfl) ?_ ?_
  rotate_left 1
  focus (intro w hSw; (try dsimp only at hSw); go_simp; (try with_reducible rfl))
  (try simp only [Act.put, List.setIfInBounds_toArray, List.set_cons_zero, List.set_cons_succ])
  refine row_free (v := ?_) (by rfl) ?_ ?_
  rotate_left 1
  focus (intro w hSw; (try dsimp only at hSw); go_simp; (try with_reducible rfl))
  (try simp only [Act.put, List.setIfInBounds_toArray, List.set_cons_zero, List.set_cons_succ])
  refine row_free (v := ?_) (by rfl) ?_ ?_
  rotate_left 1
  focus (intro w hSw; (try dsimp only at hSw); go_simp; (try with_reducible rfl))
  (try simp only [Act.put, List.setIfInBounds_toArray, List.set_cons_zero, List.set_cons_succ])
  refine row_free (v := ?_) (by rfl) ?_ ?_
  rotate_left 1
  focus (intro w hSw; (try dsimp only at hSw); go_simp; (try with_reducible rfl))
  (try simp only [Act.put, List.setIfInBounds_toArray, List.set_cons_zero, List.set_cons_succ])
  refine row_call (by rfl) (fun K hK => ?_)
  go_simp
  (refine (H1.out _).mono ?_; rintro e w4 ⟨rfl, hb4⟩)
  (try go_wp2_with fail)
  refine hK.out _ _ ?_ (fun hS' => ?_)
  · (try dsimp only); first | exact keepW (by assumption) (by assumption) | exact keepB (by assumption) (by assumption) | exact keepA (by assumption) | assumption
  clear hS hK K
  have hS := hS'
  clear hS'
  (try simp only [Act.put, List.setIfInBounds_toArray, List.set_cons_zero, List.set_cons_succ])
  refine row_call (by rfl) (fun K hK => ?_)
  go_simp
  (refine (H2.out _).mono ?_; rintro e w4 ⟨rfl, hb4⟩)
  (try go_wp2_with fail)
  refine hK.out _ _ ?_ (fun hS' => ?_)
  · (try dsimp only); first | exact keepW (by assumption) (by assumption) | exact keepB (by assumption) (by assumption) | exact keepA (by assumption) | assumption
  clear hS hK K
  have hS := hS'
  clear hS'
  (try simp only [Act.put, List.setIfInBounds_toArray, List.set_cons_zero, List.set_cons_succ])
  refine row_call (by rfl) (fun K hK => ?_)
  go_simp
  (refine (H3.out _).mono ?_; rintro e w4 ⟨rfl, hb4⟩)
  (try go_wp2_with fail)
  refine hK.out _ _ ?_ (fun hS' => ?_)
  · (try dsimp only); first | exact keepW (by assumption) (by assumption) | exact keepB (by assumption) (by assumption) | exact keepA (by assumption) | assumption
  clear hS hK K
  have hS := hS'
  clear hS'
  (try simp only [Act.put, List.setIfInBounds_toArray, List.set_cons_zero, List.set_cons_succ])
  refine row_free (v := ?_) (by rfl) ?_ ?_
  rotate_left 1
  focus (intro w hSw; (try dsimp only at hSw); go_simp; (try with_reducible rfl))
  (try simp only [Act.put, List.setIfInBounds_toArray, List.set_cons_zero, List.set_cons_succ])
  refine row_free (v := ?_) (by rfl) ?_ ?_
  rotate_left 1
  focus (intro w hSw; (try dsimp only at hSw); go_simp; (try with_reducible rfl))
  (try simp only [Act.put, List.setIfInBounds_toArray, List.set_cons_zero, List.set_cons_succ])
  refine row_free (v := ?_) (by rfl) ?_ ?_
  rotate_left 1
  focus (intro w hSw; (try dsimp only at hSw); go_simp; (try with_reducible rfl))
  (try simp only [Act.put, List.setIfInBounds_toArray, List.set_cons_zero, List.set_cons_succ])
  refine row_done ?_
  have HS := Lib.hid hS.2.2
  obtain ⟨hSc, hSf, -⟩ := hS
  have HB4 := Lib.hid (nextW HB.out HS.out)
  replace c0 := (hSc w.heap.size 0 hz0).trans c0
  replace c1 := (hSc w.heap.size 1 hz0).trans c1
  replace c2 := (hSc w.heap.size 2 hz0).trans c2
  replace c3 := (hSc w.heap.size 3 hz0).trans c3
  replace c4 := (hSc w.heap.size 4 hz0).trans c4
  replace c5 := (hSc w.heap.size 5 hz0).trans c5
  replace c6 := (hSc w.heap.size 6 hz0).trans c6
  replace c7 := (hSc w.heap.size 7 hz0).trans c7
  replace c8 := (hSc w.heap.size 8 hz0).trans c8
  replace c9 := (hSc w.heap.size 9 hz0).trans c9
  replace c10 := (hSc w.heap.size 10 hz0).trans c10
  replace c11 := (hSc w.heap.size 11 hz0).trans c11
  replace c12 := (hSc w.heap.size 12 hz0).trans c12
  replace c13 := (hSc w.heap.size 13 hz0).trans c13
  replace c14 := (hSc w.heap.size 14 hz0).trans c14
  replace d0 := (hSc (w.heap.size + 1) 0 hz1).trans d0
  replace d1 := (hSc (w.heap.size + 1) 1 hz1).trans d1
  replace d2 := (hSc (w.heap.size + 1) 2 hz1).trans d2
  replace d3 := (hSc (w.heap.size + 1) 3 hz1).trans d3
  replace d4 := (hSc (w.heap.size + 1) 4 hz1).trans d4
  replace d5 := (hSc (w.heap.size + 1) 5 hz1).trans d5
  replace d6 := (hSc (w.heap.size + 1) 6 hz1).trans d6
  replace d7 := (hSc (w.heap.size + 1) 7 hz1).trans d7
  replace d8 := (hSc (w.heap.size + 1) 8 hz1).trans d8
  replace d9 := (hSc (w.heap.size + 1) 9 hz1).trans d9
  replace d10 := (hSc (w.heap.size + 1) 10 hz1).trans d10
  replace d11 := (hSc (w.heap.size + 1) 11 hz1).trans d11
  replace d12 := (hSc (w.heap.size + 1) 12 hz1).trans d12
  replace d13 := (hSc (w.heap.size + 1) 13 hz1).trans d13
  replace d14 := (hSc (w.heap.size + 1) 14 hz1).trans d14
  have hz4 : W0.heap.size ≤ w4.heap.size := HS.out.size
  clear HB hSc hSf HS
  cases x
  · have H5 := Lib.hid (fun W => HA.out W)
    go_wp2_with fail
    refine (HA.out _).mono ?_
    rintro e w5 ⟨rfl, hb5⟩
    have Hb5 := Lib.hid (nextW HB4.out hb5)
    clear hb5
    go_wp2_with fail
    all_goals go_ret
    all_goals exact ⟨rfl, Hb5.out⟩
  · obtain rfl := HU.out rfl
    go_wp2_with fail
    refine (HA.out _).mono ?_
    rintro e w5 ⟨rfl, hb5⟩
    have Hb5 := Lib.hid (nextW HB4.out hb5)
    replace c0 := (hb5.cell (p := ⟨w.heap.size, 0, none⟩) (show w.heap.size < w4.heap.size by omega)).trans c0
    replace c1 := (hb5.cell (p := ⟨w.heap.size, 1, none⟩) (show w.heap.size < w4.heap.size by omega)).trans c1
    replace c2 := (hb5.cell (p := ⟨w.heap.size, 2, none⟩) (show w.heap.size < w4.heap.size by omega)).trans c2
    replace c3 := (hb5.cell (p := ⟨w.heap.size, 3, none⟩) (show w.heap.size < w4.heap.size by omega)).trans c3
    replace c4 := (hb5.cell (p := ⟨w.heap.size, 4, none⟩) (show w.heap.size < w4.heap.size by omega)).trans c4
    replace c5 := (hb5.cell (p := ⟨w.heap.size, 5, none⟩) (show w.heap.size < w4.heap.size by omega)).trans c5
    replace c6 := (hb5.cell (p := ⟨w.heap.size, 6, none⟩) (show w.heap.size < w4.heap.size by omega)).trans c6
    replace c7 := (hb5.cell (p := ⟨w.heap.size, 7, none⟩) (show w.heap.size < w4.heap.size by omega)).trans c7
    replace c8 := (hb5.cell (p := ⟨w.heap.size, 8, none⟩) (show w.heap.size < w4.heap.size by omega)).trans c8
    replace c9 := (hb5.cell (p := ⟨w.heap.size, 9, none⟩) (show w.heap.size < w4.heap.size by omega)).trans c9
    replace c10 := (hb5.cell (p := ⟨w.heap.size, 10, none⟩) (show w.heap.size < w4.heap.size by omega)).trans c10
    replace c11 := (hb5.cell (p := ⟨w.heap.size, 11, none⟩) (show w.heap.size < w4.heap.size by omega)).trans c11
    replace c12 := (hb5.cell (p := ⟨w.heap.size, 12, none⟩) (show w.heap.size < w4.heap.size by omega)).trans c12
    replace c13 := (hb5.cell (p := ⟨w.heap.size, 13, none⟩) (show w.heap.size < w4.heap.size by omega)).trans c13
    replace c14 := (hb5.cell (p := ⟨w.heap.size, 14, none⟩) (show w.heap.size < w4.heap.size by omega)).trans c14
    replace d0 := (hb5.cell (p := ⟨w.heap.size + 1, 0, none⟩) (show w.heap.size + 1 < w4.heap.size by omega)).trans d0
    replace d1 := (hb5.cell (p := ⟨w.heap.size + 1, 1, none⟩) (show w.heap.size + 1 < w4.heap.size by omega)).trans d1
    replace d2 := (hb5.cell (p := ⟨w.heap.size + 1, 2, none⟩) (show w.heap.size + 1 < w4.heap.size by omega)).trans d2
    replace d3 := (hb5.cell (p := ⟨w.heap.size + 1, 3, none⟩) (show w.heap.size + 1 < w4.heap.size by omega)).trans d3
    replace d4 := (hb5.cell (p := ⟨w.heap.size + 1, 4, none⟩) (show w.heap.size + 1 < w4.heap.size by omega)).trans d4
    replace d5 := (hb5.cell (p := ⟨w.heap.size + 1, 5, none⟩) (show w.heap.size + 1 < w4.heap.size by omega)).trans d5
    replace d6 := (hb5.cell (p := ⟨w.heap.size + 1, 6, none⟩) (show w.heap.size + 1 < w4.heap.size by omega)).trans d6
    replace d7 := (hb5.cell (p := ⟨w.heap.size + 1, 7, none⟩) (show w.heap.size + 1 < w4.heap.size by omega)).trans d7
    replace d8 := (hb5.cell (p := ⟨w.heap.size + 1, 8, none⟩) (show w.heap.size + 1 < w4.heap.size by omega)).trans d8
    replace d9 := (hb5.cell (p := ⟨w.heap.size + 1, 9, none⟩) (show w.heap.size + 1 < w4.heap.size by omega)).trans d9
    replace d10 := (hb5.cell (p := ⟨w.heap.size + 1, 10, none⟩) (show w.heap.size + 1 < w4.heap.size by omega)).trans d10
    replace d11 := (hb5.cell (p := ⟨w.heap.size + 1, 11, none⟩) (show w.heap.size + 1 < w4.heap.size by omega)).trans d11
    replace d12 := (hb5.cell (p := ⟨w.heap.size + 1, 12, none⟩) (show w.heap.size + 1 < w4.heap.size by omega)).trans d12
    replace d13 := (hb5.cell (p := ⟨w.heap.size + 1, 13, none⟩) (show w.heap.size + 1 < w4.heap.size by omega)).trans d13
    replace d14 := (hb5.cell (p := ⟨w.heap.size + 1, 14, none⟩) (show w.heap.size + 1 < w4.heap.size by omega)).trans d14
    clear hb5
    go_wp2_with fail
    refine (H4.out _).mono ?_
    rintro e w6 ⟨rfl, hb6⟩
    have Hb6 := Lib.hid (nextW Hb5.out hb6)
    clear hb6
    cases y
    · go_wp2
      go_ret
      exact ⟨rfl, Hb6.out⟩
    · obtain rfl : z = true := by have := HZ.out; simpa using this
      go_wp2
      go_ret
      exact ⟨rfl, Hb6.out⟩

set_option maxRecDepth 100000 in
theorem lifted (os : Os) (started : os.Started) (H : Type) (enc : TypeId × Value → H) :
    ReturnsInHanded {} Try.checked os 5 .any (Rows.crossOrderSpec.pre6 enc Try.prog Try.f5 Rows.crossOrderRow.domain false) (Rows.crossOrderSpec.post enc Try.prog Try.f5 false true false false) := by
  refine returnsInHanded_of_change (C := Try.checked) own started (by kernel_rfl) Try.func5
    (ChangeSpec.witness6 (enc := enc) (C := Try.checked) false ⟨#[], #[.agg #[.int .i64 0, .int .i64 0, .int .i64 0, .int .i64 0, .int .i64 0, .int .i64 0, .int .i64 0, .int .i64 0, .int .i64 0, .int .i64 0, .int .i64 0, .int .i64 0, .int .i64 0, .int .i64 0, .int .i64 0], .agg #[.int .i64 0, .int .i64 0, .int .i64 0, .int .i64 0, .int .i64 0, .int .i64 0, .int .i64 0, .int .i64 0, .int .i64 0, .int .i64 0, .int .i64 0, .int .i64 0, .int .i64 0, .int .i64 0, .int .i64 0], .agg #[.int .i64 0, .int .i64 0, .int .i64 0, .int .i64 0, .int .i64 0, .int .i64 0, .int .i64 0, .int .i64 0, .int .i64 0, .int .i64 0, .int .i64 0, .int .i64 0, .int .i64 0, .int .i64 0, .int .i64 0]], []⟩ 8 (by kernel_rfl) (by kernel_rfl) (by kernel_rfl) (by kernel_rfl)) ?_
  intro W base args ds gs before hval0 hW hcnd _
  have hval : ∀ (j : Nat) t v, Try.f5.params[j]? = some t → args[j]? = some v → Value.okWide Try.prog W .any base t v := hval0
  have hW' := hW
  obtain ⟨p, q, hA0, hV, rfl, hfz, hnd⟩ := hW
  have hA : DataW.TrodAll enc Try.prog W 0 (fun _ => true) true Try.f5.params.toList args.toList ds p := hA0
  rw [Try.params5] at hA hval
  obtain ⟨v0, vs0, d0, ds0, p0, q0, hargs, rfl, rfl, h0, r0⟩ := trodAll_cons hA
  obtain ⟨v1, vs1, d1, ds1, p1, q1, rfl, rfl, rfl, h1, r1⟩ := trodAll_cons r0
  obtain ⟨v2, vs2, d2, ds2, p2, q2, rfl, rfl, rfl, h2, r2⟩ := trodAll_cons r1
  obtain ⟨rfl, rfl, rfl⟩ := trodAll_nil r2
  obtain rfl : args = #[v0, v1, v2] := by cases args; simp_all
  obtain ⟨rfl, rfl⟩ := trodVars_none hV
  obtain ⟨cs0, rfl, -⟩ := okWide_struct Try.underlying28 (hval 0 28 v0 rfl rfl)
  have k0 := h0
  have lt0 : ∀ x ∈ p0, x.block < W.heap.size := by obtain ⟨m, hm⟩ := k0; exact DataW.trod_lt m _ _ _ hm
  obtain ⟨fuel0, hf0⟩ := h0
  obtain ⟨l0⟩ := cs0
  obtain ⟨a0_0, a0_1, a0_2, a0_3, a0_4, a0_5, a0_6, a0_7, a0_8, a0_9, a0_10, a0_11, a0_12, a0_13, a0_14, rfl, w0_0, w0_1, w0_2, w0_3, w0_4, w0_5, w0_6, w0_7, w0_8, w0_9, w0_10, w0_11, w0_12, w0_13, w0_14⟩ := open_T28 (cs := l0) hf0
  obtain ⟨cs1, rfl, -⟩ := okWide_struct Try.underlying28 (hval 1 28 v1 rfl rfl)
  have k1 := h1
  have lt1 : ∀ x ∈ p1, x.block < W.heap.size := by obtain ⟨m, hm⟩ := k1; exact DataW.trod_lt m _ _ _ hm
  obtain ⟨fuel1, hf1⟩ := h1
  obtain ⟨l1⟩ := cs1
  obtain ⟨a1_0, a1_1, a1_2, a1_3, a1_4, a1_5, a1_6, a1_7, a1_8, a1_9, a1_10, a1_11, a1_12, a1_13, a1_14, rfl, w1_0, w1_1, w1_2, w1_3, w1_4, w1_5, w1_6, w1_7, w1_8, w1_9, w1_10, w1_11, w1_12, w1_13, w1_14⟩ := open_T28 (cs := l1) hf1
  obtain ⟨cs2, rfl, -⟩ := okWide_struct Try.underlying28 (hval 2 28 v2 rfl rfl)
  have k2 := h2
  have lt2 : ∀ x ∈ p2, x.block < W.heap.size := by obtain ⟨m, hm⟩ := k2; exact DataW.trod_lt m _ _ _ hm
  obtain ⟨fuel2, hf2⟩ := h2
  obtain ⟨l2⟩ := cs2
  obtain ⟨a2_0, a2_1, a2_2, a2_3, a2_4, a2_5, a2_6, a2_7, a2_8, a2_9, a2_10, a2_11, a2_12, a2_13, a2_14, rfl, w2_0, w2_1, w2_2, w2_3, w2_4, w2_5, w2_6, w2_7, w2_8, w2_9, w2_10, w2_11, w2_12, w2_13, w2_14⟩ := open_T28 (cs := l2) hf2
  clear hA0 hval0
  refine (walk ⟨a0_0, a0_1, a0_2, a0_3, ⟨a0_4, a0_5, a0_6, a0_7, a0_8, a0_9, a0_10, a0_11, a0_12⟩, a0_13, a0_14⟩ ⟨a1_0, a1_1, a1_2, a1_3, ⟨a1_4, a1_5, a1_6, a1_7, a1_8, a1_9, a1_10, a1_11, a1_12⟩, a1_13, a1_14⟩ ⟨a2_0, a2_1, a2_2, a2_3, ⟨a2_4, a2_5, a2_6, a2_7, a2_8, a2_9, a2_10, a2_11, a2_12⟩, a2_13, a2_14⟩ W ⟨w0_0, w0_1, w0_2, w0_3, w0_4, w0_5, w0_6, w0_7, w0_8, w0_9, w0_10, w0_11, w0_12, w0_13, w0_14⟩ ⟨w1_0, w1_1, w1_2, w1_3, w1_4, w1_5, w1_6, w1_7, w1_8, w1_9, w1_10, w1_11, w1_12, w1_13, w1_14⟩ ⟨w2_0, w2_1, w2_2, w2_3, w2_4, w2_5, w2_6, w2_7, w2_8, w2_9, w2_10, w2_11, w2_12, w2_13, w2_14⟩).mono fun e W' ⟨he, bel⟩ => ?_
  subst he
  exact ⟨_, rfl, _, _, _, [], _, [], hW', trodAll_mk1 (shut_bool Try.underlying4 _), (trodAll_cons_mk (Below.trod laidOut (by kernel_rfl) (of_decide_eq_true (by kernel_rfl)) k0 bel lt0) (trodAll_cons_mk (Below.trod laidOut (by kernel_rfl) (of_decide_eq_true (by kernel_rfl)) k1 bel lt1) (trodAll_cons_mk (Below.trod laidOut (by kernel_rfl) (of_decide_eq_true (by kernel_rfl)) k2 bel lt2) trodAll_mk0))), rfl, bel.frame _, fun h => by cases h⟩

theorem over : Rows.crossOrderRow.holds Try.pinned (OpenSpec.ofChange Rows.crossOrderSpec) :=
  OpenClaim.holds_of_wide 5 Try.f5 rfl rfl rfl rfl rfl rfl rfl ⟨rfl, rfl, rfl, rfl, rfl⟩ rfl rfl rfl rfl rfl (by kernel_rfl) Try.func5 (by kernel_rfl)
    (of_decide_eq_true (by kernel_rfl)) (by unfold Func.isWrapper; first | (rw [if_pos (by decide +kernel)]; kernel_rfl) | (rw [if_neg (by decide +kernel)]; exact ⟨rfl, rfl⟩))
    (fun os started H enc _ => lifted os started H enc)

end Go.Proofs.Ytbmboidmgdpnoaa.crossOrder
namespace Go.Proofs.Ytbmboidmgdpnoaa
theorem crossOrder_proved : Rows.CrossOrderSaid := crossOrder.over
end Go.Proofs.Ytbmboidmgdpnoaa
