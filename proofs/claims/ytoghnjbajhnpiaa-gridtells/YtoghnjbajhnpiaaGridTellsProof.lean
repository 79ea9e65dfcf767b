/- joustlaw03.GridTells returns true for every input; no conditions. -/
import Derived.Test.YtoghnjbajhnpiaaGrLaw
import Derived.Test.YtoghnjbajhnpiaaRows
import Derived.WalkKit
import Derived.ProofKit
import Derived.OpenShut
import Derived.ShutString
import Derived.ChangeOld
import Derived.Below
namespace Go.Proofs.Ytoghnjbajhnpiaa.gridTells
open Go.ChangeShapes Go.WideShapes Go.ChangeAt Go.RowKit
open Go.ChangeMaps (open_string shut_string)
set_option linter.unusedVariables false

theorem own : ownKnob Try.prog.godebug = none := by kernel_rfl
theorem laidOut : laidOutB Try.prog = true := by kernel_rfl

theorem open_T24 {H : Type} {enc : TypeId × Value → H} {W : World} {fuel : Nat} {cs : List Value} {x : DataW H × List MemPlace} (h : DataW.trod enc Try.prog W 0 (fun _ => true) true fuel 24 cs = some x) :
    ∃ (a0 : Int) (a1 : Int) (a2 : Int) (a3 : Int) (a4 : Int), cs = [.int .i64 a0, .int .i64 a1, .int .i64 a2, .int .i64 a3, .int .u64 a4] ∧ (Lit.int .i64 a0).wf = true ∧ (Lit.int .i64 a1).wf = true ∧ (Lit.int .i64 a2).wf = true ∧ (Lit.int .i64 a3).wf = true ∧ (Lit.int .u64 a4).wf = true := by
  obtain ⟨xs, n, -, -, hl, hxl, hg⟩ := DataW.trod_struct Try.underlying24 h
  have hl' : cs.length = 5 := hl.trans (by kernel_rfl)
  have c3 : Try.prog.cellsOf 3 = 1 := by kernel_rfl
  have c22 : Try.prog.cellsOf 22 = 1 := by kernel_rfl
  clear hl h
  match cs, hl' with
  | [z0, z1, z2, z3, z4], _ =>
    have g0 : DataW.trod enc Try.prog W 0 (fun _ => true) true n 3 (([z0, z1, z2, z3, z4].drop 0).take (Try.prog.cellsOf 3)) = xs[0]? := hg 0 _ rfl
    rw [c3, List.getElem?_eq_getElem (show 0 < xs.length by rw [hxl]; decide)] at g0
    have g1 : DataW.trod enc Try.prog W 0 (fun _ => true) true n 3 (([z0, z1, z2, z3, z4].drop 1).take (Try.prog.cellsOf 3)) = xs[1]? := hg 1 _ rfl
    rw [c3, List.getElem?_eq_getElem (show 1 < xs.length by rw [hxl]; decide)] at g1
    have g2 : DataW.trod enc Try.prog W 0 (fun _ => true) true n 3 (([z0, z1, z2, z3, z4].drop 2).take (Try.prog.cellsOf 3)) = xs[2]? := hg 2 _ rfl
    rw [c3, List.getElem?_eq_getElem (show 2 < xs.length by rw [hxl]; decide)] at g2
    have g3 : DataW.trod enc Try.prog W 0 (fun _ => true) true n 3 (([z0, z1, z2, z3, z4].drop 3).take (Try.prog.cellsOf 3)) = xs[3]? := hg 3 _ rfl
    rw [c3, List.getElem?_eq_getElem (show 3 < xs.length by rw [hxl]; decide)] at g3
    have g4 : DataW.trod enc Try.prog W 0 (fun _ => true) true n 22 (([z0, z1, z2, z3, z4].drop 4).take (Try.prog.cellsOf 22)) = xs[4]? := hg 4 _ rfl
    rw [c22, List.getElem?_eq_getElem (show 4 < xs.length by rw [hxl]; decide)] at g4
    obtain ⟨a0, e0, -, w0⟩ := DataW.trod_int (cs := [z0]) Try.underlying3 g0
    simp only [List.cons.injEq, and_true] at e0
    subst e0
    clear g0
    obtain ⟨a1, e1, -, w1⟩ := DataW.trod_int (cs := [z1]) Try.underlying3 g1
    simp only [List.cons.injEq, and_true] at e1
    subst e1
    clear g1
    obtain ⟨a2, e2, -, w2⟩ := DataW.trod_int (cs := [z2]) Try.underlying3 g2
    simp only [List.cons.injEq, and_true] at e2
    subst e2
    clear g2
    obtain ⟨a3, e3, -, w3⟩ := DataW.trod_int (cs := [z3]) Try.underlying3 g3
    simp only [List.cons.injEq, and_true] at e3
    subst e3
    clear g3
    obtain ⟨a4, e4, -, w4⟩ := DataW.trod_int (cs := [z4]) Try.underlying22 g4
    simp only [List.cons.injEq, and_true] at e4
    subst e4
    clear g4
    exact ⟨a0, a1, a2, a3, a4, rfl, w0, w1, w2, w3, w4⟩

open Fx
theorem keep10 {w0 w w1 : World} {B g h : Nat} {v0 v1 v2 v3 v4 u0 u1 u2 u3 u4 : Value} (hb : Below w.heap.size w w1)
    (H : w.cell? ⟨g, 0, none⟩ = some v0 ∧ w.cell? ⟨g, 1, none⟩ = some v1 ∧ w.cell? ⟨g, 2, none⟩ = some v2 ∧ w.cell? ⟨g, 3, none⟩ = some v3 ∧ w.cell? ⟨g, 4, none⟩ = some v4 ∧ w.cell? ⟨h, 0, none⟩ = some u0 ∧ w.cell? ⟨h, 1, none⟩ = some u1 ∧ w.cell? ⟨h, 2, none⟩ = some u2 ∧ w.cell? ⟨h, 3, none⟩ = some u3 ∧ w.cell? ⟨h, 4, none⟩ = some u4 ∧ Below B w0 w ∧ B ≤ w.heap.size) :
    w1.cell? ⟨g, 0, none⟩ = some v0 ∧ w1.cell? ⟨g, 1, none⟩ = some v1 ∧ w1.cell? ⟨g, 2, none⟩ = some v2 ∧ w1.cell? ⟨g, 3, none⟩ = some v3 ∧ w1.cell? ⟨g, 4, none⟩ = some v4 ∧ w1.cell? ⟨h, 0, none⟩ = some u0 ∧ w1.cell? ⟨h, 1, none⟩ = some u1 ∧ w1.cell? ⟨h, 2, none⟩ = some u2 ∧ w1.cell? ⟨h, 3, none⟩ = some u3 ∧ w1.cell? ⟨h, 4, none⟩ = some u4 ∧ Below B w0 w1 ∧ B ≤ w1.heap.size := by
  obtain ⟨h0, h1, h2, h3, h4, k0, k1, k2, k3, k4, h5, h6⟩ := H
  have hg : g < w.heap.size := World.block_lt_of_cell? _ _ h0
  have hh : h < w.heap.size := World.block_lt_of_cell? _ _ k0
  exact ⟨(hb.cell hg).trans h0, (hb.cell hg).trans h1, (hb.cell hg).trans h2, (hb.cell hg).trans h3, (hb.cell hg).trans h4, (hb.cell hh).trans k0, (hb.cell hh).trans k1, (hb.cell hh).trans k2, (hb.cell hh).trans k3, (hb.cell hh).trans k4, h5.trans (hb.mono h6), Nat.le_trans h6 hb.size⟩

theorem has_no {a b p n r : Int} (h : rt a b p n = false) : hasB a b p n r = false := by
  unfold hasB regs
  rw [h, decide_eq_false_iff_not]
  simp only [Bool.false_eq_true, if_false]
  omega
/-- What New tells of a config, and that all that the grid says then is what the document says of the config. -/
theorem new_like (a b p n s : Int) : ∃ A B P N S E, (∀ w, Calls Try.prog 7 #[.agg #[.int .i64 a, .int .i64 b, .int .i64 p, .int .i64 n, .int .u64 s]] w fun e w' => e = .returned (.tuple #[.agg #[.int .i64 A, .int .i64 B, .int .i64 P, .int .i64 N, .int .u64 S], .int .i64 E]) ∧ Below w.heap.size w w') ∧
    (rt a b p n = true → E = 0) ∧ (rt a b p n = false → E = 10) ∧ regs A B P N = regs a b p n ∧ wid A B P N = wid a b p n ∧ hei A B P N = hei a b p n ∧ (∀ x y, ins A B P N x y = ins a b p n x y) ∧ (∀ x y, ofr A B P N x y = ofr a b p n x y) ∧
    (∀ r, crx A B P N r = crx a b p n r) ∧ (∀ r, cry A B P N r = cry a b p n r) ∧ (∀ r, nr A B P N r = nr a b p n r) := by
  cases h : rt a b p n
  · have h0 : rt 0 0 0 0 = false := by decide +kernel
    refine ⟨0, 0, 0, 0, 0, 10, fun w => new_no a b p n s w h, (fun h => by cases h), fun _ => rfl, ?_, ?_, ?_, ?_, ?_, ?_, ?_, ?_⟩
    · unfold regs; rw [h, h0]; rfl
    · unfold wid; rw [h, h0]; rfl
    · unfold hei; rw [h, h0]; rfl
    · intro x y; unfold ins wid hei; rw [h, h0]; rfl
    · intro x y; unfold ofr; rw [h, h0]; rfl
    · intro r; unfold crx; rw [has_no h, has_no h0]; rfl
    · intro r; unfold cry; rw [has_no h, has_no h0]; rfl
    · intro r; unfold nr; rw [has_no h, has_no h0]; rfl
  · exact ⟨a, b, p, n, s, 0, fun w => new_yes a b p n s w h, fun _ => rfl, (fun h => by cases h), rfl, rfl, rfl, fun _ _ => rfl, fun _ _ => rfl, fun _ => rfl, fun _ => rfl, fun _ => rfl⟩

set_option maxHeartbeats 8000000 in
theorem walk (a0_0 : Int) (a0_1 : Int) (a0_2 : Int) (a0_3 : Int) (a0_4 : Int) (a1 : Int) (a2 : Int) (a3 : Int) (w : World) (w0_0 : (Lit.int .i64 a0_0).wf = true) (w0_1 : (Lit.int .i64 a0_1).wf = true) (w0_2 : (Lit.int .i64 a0_2).wf = true) (w0_3 : (Lit.int .i64 a0_3).wf = true) (w0_4 : (Lit.int .u64 a0_4).wf = true) (w1 : (Lit.int .i64 a1).wf = true) (w2 : (Lit.int .i64 a2).wf = true) (w3 : (Lit.int .i64 a3).wf = true) :
    Calls Try.prog 3 #[.agg #[.int .i64 a0_0, .int .i64 a0_1, .int .i64 a0_2, .int .i64 a0_3, .int .u64 a0_4], .int .i64 a1, .int .i64 a2, .int .i64 a3] w fun e w' => e = .returned (.bool true) ∧ Below w.heap.size w w' := by
  obtain ⟨A, B, P, N, S, E, hnew, hE1, hE2, q1, q2, q3, q4, q5, q6, q7, q8⟩ := new_like a0_0 a0_1 a0_2 a0_3 a0_4
  have HNew := Lib.hid hnew
  have HCor := Lib.hid (fun w => corner_any A B P N S a3 w)
  have HRcor := Lib.hid (fun w => rcorner_any a0_0 a0_1 a0_2 a0_3 a0_4 a3 w)
  have HRt := Lib.hid (fun w => right_any a0_0 a0_1 a0_2 a0_3 a0_4 w)
  have HRegs := Lib.hid (fun w => regions_any A B P N S w)
  have HRregs := Lib.hid (fun w => rregions_any a0_0 a0_1 a0_2 a0_3 a0_4 w)
  have HWid := Lib.hid (fun w => width_any A B P N S w)
  have HHei := Lib.hid (fun w => height_any A B P N S w)
  have HIns := Lib.hid (fun w => inside_any A B P N S a1 a2 w)
  have HRins := Lib.hid (fun w => rinside_any a0_0 a0_1 a0_2 a0_3 a0_4 a1 a2 w)
  have HOf := Lib.hid (fun w => of_any A B P N S a1 a2 w)
  have HRof := Lib.hid (fun w => rof_any a0_0 a0_1 a0_2 a0_3 a0_4 a1 a2 w)
  have HNear := Lib.hid (fun w => near_any A B P N S a3 w)
  have HRnear := Lib.hid (fun w => rnear_any a0_0 a0_1 a0_2 a0_3 a0_4 a3 w)
  rw [q6, q7] at HCor
  rw [q1] at HRegs
  rw [q2] at HWid
  rw [q3] at HHei
  rw [q4] at HIns
  rw [q5] at HOf
  rw [q8] at HNear
  have hw1 : rt a0_0 a0_1 a0_2 a0_3 = true → wid a0_0 a0_1 a0_2 a0_3 = a0_0 * 1024 := fun h => by unfold wid; rw [if_pos h]
  have hh1 : rt a0_0 a0_1 a0_2 a0_3 = true → hei a0_0 a0_1 a0_2 a0_3 = a0_1 * 1024 := fun h => by unfold hei; rw [if_pos h]
  have hw2 : rt a0_0 a0_1 a0_2 a0_3 = false → wid a0_0 a0_1 a0_2 a0_3 = 0 := fun h => by unfold wid; rw [h]; rfl
  have hh2 : rt a0_0 a0_1 a0_2 a0_3 = false → hei a0_0 a0_1 a0_2 a0_3 = 0 := fun h => by unfold hei; rw [h]; rfl
  have hl : (nr a0_0 a0_1 a0_2 a0_3 a3).length ≤ 100 := by
    unfold nr
    split
    · have h := hasB_rt (by assumption)
      have := nrTo_len a0_0 a3 (a0_0 * a0_1).toNat
      have := mul_le4 h.2.2.2.1 h.2.2.2.2.1 h.2.2.2.2.2.1 h.2.2.2.2.2.2.1
      omega
    · simp
  have hbd : rt a0_0 a0_1 a0_2 a0_3 = true → 1 ≤ a0_0 ∧ a0_0 ≤ 4 ∧ 1 ≤ a0_1 ∧ a0_1 ≤ 4 := fun h => by have := rt_bd h; omega
  clear q1 q2 q3 q4 q5 q6 q7 q8 hnew w0_0 w0_1 w0_2 w0_3 w0_4 w1 w2 w3
  generalize crx a0_0 a0_1 a0_2 a0_3 a3 = cx at *
  generalize cry a0_0 a0_1 a0_2 a0_3 a3 = cy at *
  generalize regs a0_0 a0_1 a0_2 a0_3 = rg at *
  generalize ins a0_0 a0_1 a0_2 a0_3 a1 a2 = inn at *
  generalize ofr a0_0 a0_1 a0_2 a0_3 a1 a2 = off at *
  generalize nr a0_0 a0_1 a0_2 a0_3 a3 = l at *
  generalize wid a0_0 a0_1 a0_2 a0_3 = wi at *
  generalize hei a0_0 a0_1 a0_2 a0_3 = he at *
  generalize rt a0_0 a0_1 a0_2 a0_3 = r at *
  cases r
  · obtain rfl := hE2 rfl
    obtain rfl := hw2 rfl
    obtain rfl := hh2 rfl
    clear hE1 hE2 hw1 hh1 hw2 hh2 hbd
    go_enter Try.func3, Try.ntmps3
    go_wp2_with fail
    refine (HNew.out _).mono ?_
    rintro e w1 ⟨rfl, hbw1⟩
    obtain ⟨hcw1, hfw1⟩ := bcell hbw1
    have hzw1 : w.heap.size < w1.heap.size := by have := hbw1.size; (try simp at this); omega
    have Hbw1 := Lib.hid hbw1
    clear hbw1
    go_wp2_with fail
    refine (HCor.out _).mono ?_
    rintro e w2 ⟨rfl, hbw2⟩
    obtain ⟨hcw2, hfw2⟩ := bcell hbw2
    have Hbw2 := Lib.hid hbw2
    clear hbw2
    have hz2 : w.heap.size < w2.heap.size := by have := Hbw2.out.size; simp at this; omega
    have hz2' : w1.heap.size < w2.heap.size := by have := Hbw2.out.size; simp at this; omega
    go_wp2_with fail
    refine (HRcor.out _).mono ?_
    rintro e w3 ⟨rfl, hbw3⟩
    obtain ⟨hcw3, hfw3⟩ := bcell hbw3
    have hzw3 : w.heap.size < w3.heap.size := by have := hbw3.size; (try simp at this); omega
    have Hbw3 := Lib.hid hbw3
    clear hbw3
    have hz3' : w1.heap.size < w3.heap.size := by have := Hbw3.out.size; omega
    go_wp2_with fail
    refine (HRt.out _).mono ?_
    rintro e w4 ⟨rfl, hbw4⟩
    obtain ⟨hcw4, hfw4⟩ := bcell hbw4
    have hzw4 : w.heap.size < w4.heap.size := by have := hbw4.size; (try simp at this); omega
    have Hbw4 := Lib.hid hbw4
    clear hbw4
    have hz4' : w1.heap.size < w4.heap.size := by have := Hbw4.out.size; omega
    go_wp2_with fail
    have c0 : w4.cell? ⟨w1.heap.size, 0, none⟩ = some (.int .i64 A) := by rw [hcw4 _ _ hz3', hcw3 _ _ hz2', hcw2 _ _ (by simp)]; simp
    have c1 : w4.cell? ⟨w1.heap.size, 1, none⟩ = some (.int .i64 B) := by rw [hcw4 _ _ hz3', hcw3 _ _ hz2', hcw2 _ _ (by simp)]; simp
    have c2 : w4.cell? ⟨w1.heap.size, 2, none⟩ = some (.int .i64 P) := by rw [hcw4 _ _ hz3', hcw3 _ _ hz2', hcw2 _ _ (by simp)]; simp
    have c3 : w4.cell? ⟨w1.heap.size, 3, none⟩ = some (.int .i64 N) := by rw [hcw4 _ _ hz3', hcw3 _ _ hz2', hcw2 _ _ (by simp)]; simp
    have c4 : w4.cell? ⟨w1.heap.size, 4, none⟩ = some (.int .u64 S) := by rw [hcw4 _ _ hz3', hcw3 _ _ hz2', hcw2 _ _ (by simp)]; simp
    have hz1' : w.heap.size < w1.heap.size + 1 := by omega
    have e0 : w4.cell? ⟨w.heap.size, 0, none⟩ = some (.int .i64 a0_0) := by rw [hcw4 _ _ hzw3, hcw3 _ _ hz2, hcw2 _ _ (by simp; omega), World.cell?_alloc_lt _ _ _ hzw1, hcw1 _ _ (by simp)]; simp
    have e1 : w4.cell? ⟨w.heap.size, 1, none⟩ = some (.int .i64 a0_1) := by rw [hcw4 _ _ hzw3, hcw3 _ _ hz2, hcw2 _ _ (by simp; omega), World.cell?_alloc_lt _ _ _ hzw1, hcw1 _ _ (by simp)]; simp
    have e2 : w4.cell? ⟨w.heap.size, 2, none⟩ = some (.int .i64 a0_2) := by rw [hcw4 _ _ hzw3, hcw3 _ _ hz2, hcw2 _ _ (by simp; omega), World.cell?_alloc_lt _ _ _ hzw1, hcw1 _ _ (by simp)]; simp
    have e3 : w4.cell? ⟨w.heap.size, 3, none⟩ = some (.int .i64 a0_3) := by rw [hcw4 _ _ hzw3, hcw3 _ _ hz2, hcw2 _ _ (by simp; omega), World.cell?_alloc_lt _ _ _ hzw1, hcw1 _ _ (by simp)]; simp
    have e4 : w4.cell? ⟨w.heap.size, 4, none⟩ = some (.int .u64 a0_4) := by rw [hcw4 _ _ hzw3, hcw3 _ _ hz2, hcw2 _ _ (by simp; omega), World.cell?_alloc_lt _ _ _ hzw1, hcw1 _ _ (by simp)]; simp
    have Hb4 := Lib.hid (show Below w.heap.size w w4 by
      have g1 := unbox Hbw1.out
      have g2 := g1.trans ((unbox Hbw2.out).mono g1.size)
      have g3 := g2.trans (Hbw3.out.mono g2.size)
      exact g3.trans (Hbw4.out.mono g3.size))
    clear hcw1 hcw2 hcw3 hcw4 hfw1 hfw2 hfw3 hfw4 Hbw1 Hbw2 Hbw3 Hbw4 hzw1 hz2 hz2' hzw3 hz3' hzw4 hz4' hz1'
    simp only [List.append_eq, List.cons_append, List.nil_append]
    go_region_held3 (fun w' => w'.cell? ⟨w1.heap.size, 0, none⟩ = some (.int .i64 A) ∧ w'.cell? ⟨w1.heap.size, 1, none⟩ = some (.int .i64 B) ∧ w'.cell? ⟨w1.heap.size, 2, none⟩ = some (.int .i64 P) ∧ w'.cell? ⟨w1.heap.size, 3, none⟩ = some (.int .i64 N) ∧ w'.cell? ⟨w1.heap.size, 4, none⟩ = some (.int .u64 S) ∧ w'.cell? ⟨w.heap.size, 0, none⟩ = some (.int .i64 a0_0) ∧ w'.cell? ⟨w.heap.size, 1, none⟩ = some (.int .i64 a0_1) ∧ w'.cell? ⟨w.heap.size, 2, none⟩ = some (.int .i64 a0_2) ∧ w'.cell? ⟨w.heap.size, 3, none⟩ = some (.int .i64 a0_3) ∧ w'.cell? ⟨w.heap.size, 4, none⟩ = some (.int .u64 a0_4) ∧ Below w4.heap.size w4 w' ∧ w4.heap.size ≤ w'.heap.size)
      (first | exact keep10 (by assumption) (by assumption) | exact ⟨c0, c1, c2, c3, c4, e0, e1, e2, e3, e4, (Below.refl _ _).drew, Nat.le_refl _⟩)
      (first
        | (go_at_call 11; refine (awake_any _).mono ?_; rintro e wz ⟨rfl, hbz⟩)
        | (go_at_call 12; refine (HRegs.out _).mono ?_; rintro e wz ⟨rfl, hbz⟩)
        | (go_at_call 13; refine (HRregs.out _).mono ?_; rintro e wz ⟨rfl, hbz⟩)
        | (go_at_call 14; refine (HWid.out _).mono ?_; rintro e wz ⟨rfl, hbz⟩)
        | (go_at_call 15; refine (HHei.out _).mono ?_; rintro e wz ⟨rfl, hbz⟩)
        | (go_at_call 16; refine (HIns.out _).mono ?_; rintro e wz ⟨rfl, hbz⟩)
        | (go_at_call 17; refine (HRins.out _).mono ?_; rintro e wz ⟨rfl, hbz⟩)
        | (go_at_call 18; refine (HOf.out _).mono ?_; rintro e wz ⟨rfl, hbz⟩)
        | (go_at_call 19; refine (HRof.out _).mono ?_; rintro e wz ⟨rfl, hbz⟩)
        | (go_at_call 21; refine (HNear.out _).mono ?_; rintro e wn ⟨An, cn, rfl, hatn, hbn⟩)
        | (go_at_call 22; refine (HRnear.out _).mono ?_; rintro e wm ⟨Am, cm, rfl, hatm, hbm⟩)
        | (go_at_call 20; refine (plain_yes An Am _ cn cm l _ (hatn.below hbm) hatm (by omega)).mono ?_; rintro e wp ⟨rfl, q, rfl⟩; have hbp := below_drewN (Below.refl wm.heap.size wm) q))
    rename_i hS
    obtain ⟨-, -, -, -, -, -, -, -, -, -, hB5, -⟩ := hS
    have Hb5 := Lib.hid (Hb4.out.trans (hB5.mono Hb4.out.size))
    clear hB5
    go_wp2
    go_ret
    exact ⟨rfl, Hb5.out⟩
  · obtain rfl := hE1 rfl
    obtain rfl := hw1 rfl
    obtain rfl := hh1 rfl
    have hb := hbd rfl
    clear hE1 hE2 hw1 hh1 hw2 hh2 hbd
    go_enter Try.func3, Try.ntmps3
    go_wp2_with fail
    refine (HNew.out _).mono ?_
    rintro e w1 ⟨rfl, hbw1⟩
    obtain ⟨hcw1, hfw1⟩ := bcell hbw1
    have hzw1 : w.heap.size < w1.heap.size := by have := hbw1.size; (try simp at this); omega
    have Hbw1 := Lib.hid hbw1
    clear hbw1
    go_wp2_with fail
    refine (HCor.out _).mono ?_
    rintro e w2 ⟨rfl, hbw2⟩
    obtain ⟨hcw2, hfw2⟩ := bcell hbw2
    have Hbw2 := Lib.hid hbw2
    clear hbw2
    have hz2 : w.heap.size < w2.heap.size := by have := Hbw2.out.size; simp at this; omega
    have hz2' : w1.heap.size < w2.heap.size := by have := Hbw2.out.size; simp at this; omega
    go_wp2_with fail
    refine (HRcor.out _).mono ?_
    rintro e w3 ⟨rfl, hbw3⟩
    obtain ⟨hcw3, hfw3⟩ := bcell hbw3
    have hzw3 : w.heap.size < w3.heap.size := by have := hbw3.size; (try simp at this); omega
    have Hbw3 := Lib.hid hbw3
    clear hbw3
    have hz3' : w1.heap.size < w3.heap.size := by have := Hbw3.out.size; omega
    go_wp2_with fail
    refine (HRt.out _).mono ?_
    rintro e w4 ⟨rfl, hbw4⟩
    obtain ⟨hcw4, hfw4⟩ := bcell hbw4
    have hzw4 : w.heap.size < w4.heap.size := by have := hbw4.size; (try simp at this); omega
    have Hbw4 := Lib.hid hbw4
    clear hbw4
    have hz4' : w1.heap.size < w4.heap.size := by have := Hbw4.out.size; omega
    go_wp2_with fail
    have c0 : w4.cell? ⟨w1.heap.size, 0, none⟩ = some (.int .i64 A) := by rw [hcw4 _ _ hz3', hcw3 _ _ hz2', hcw2 _ _ (by simp)]; simp
    have c1 : w4.cell? ⟨w1.heap.size, 1, none⟩ = some (.int .i64 B) := by rw [hcw4 _ _ hz3', hcw3 _ _ hz2', hcw2 _ _ (by simp)]; simp
    have c2 : w4.cell? ⟨w1.heap.size, 2, none⟩ = some (.int .i64 P) := by rw [hcw4 _ _ hz3', hcw3 _ _ hz2', hcw2 _ _ (by simp)]; simp
    have c3 : w4.cell? ⟨w1.heap.size, 3, none⟩ = some (.int .i64 N) := by rw [hcw4 _ _ hz3', hcw3 _ _ hz2', hcw2 _ _ (by simp)]; simp
    have c4 : w4.cell? ⟨w1.heap.size, 4, none⟩ = some (.int .u64 S) := by rw [hcw4 _ _ hz3', hcw3 _ _ hz2', hcw2 _ _ (by simp)]; simp
    have hz1' : w.heap.size < w1.heap.size + 1 := by omega
    have e0 : w4.cell? ⟨w.heap.size, 0, none⟩ = some (.int .i64 a0_0) := by rw [hcw4 _ _ hzw3, hcw3 _ _ hz2, hcw2 _ _ (by simp; omega), World.cell?_alloc_lt _ _ _ hzw1, hcw1 _ _ (by simp)]; simp
    have e1 : w4.cell? ⟨w.heap.size, 1, none⟩ = some (.int .i64 a0_1) := by rw [hcw4 _ _ hzw3, hcw3 _ _ hz2, hcw2 _ _ (by simp; omega), World.cell?_alloc_lt _ _ _ hzw1, hcw1 _ _ (by simp)]; simp
    have e2 : w4.cell? ⟨w.heap.size, 2, none⟩ = some (.int .i64 a0_2) := by rw [hcw4 _ _ hzw3, hcw3 _ _ hz2, hcw2 _ _ (by simp; omega), World.cell?_alloc_lt _ _ _ hzw1, hcw1 _ _ (by simp)]; simp
    have e3 : w4.cell? ⟨w.heap.size, 3, none⟩ = some (.int .i64 a0_3) := by rw [hcw4 _ _ hzw3, hcw3 _ _ hz2, hcw2 _ _ (by simp; omega), World.cell?_alloc_lt _ _ _ hzw1, hcw1 _ _ (by simp)]; simp
    have e4 : w4.cell? ⟨w.heap.size, 4, none⟩ = some (.int .u64 a0_4) := by rw [hcw4 _ _ hzw3, hcw3 _ _ hz2, hcw2 _ _ (by simp; omega), World.cell?_alloc_lt _ _ _ hzw1, hcw1 _ _ (by simp)]; simp
    have Hb4 := Lib.hid (show Below w.heap.size w w4 by
      have g1 := unbox Hbw1.out
      have g2 := g1.trans ((unbox Hbw2.out).mono g1.size)
      have g3 := g2.trans (Hbw3.out.mono g2.size)
      exact g3.trans (Hbw4.out.mono g3.size))
    clear hcw1 hcw2 hcw3 hcw4 hfw1 hfw2 hfw3 hfw4 Hbw1 Hbw2 Hbw3 Hbw4 hzw1 hz2 hz2' hzw3 hz3' hzw4 hz4' hz1'
    have m1 : IntKind.i64.wrap (a0_0 * 1024) = a0_0 * 1024 := IntWalk.i64_in _ (by omega)
    have m2 : IntKind.i64.wrap (a0_1 * 1024) = a0_1 * 1024 := IntWalk.i64_in _ (by omega)
    go_quiet (fail)
    clear m1 m2
    go_wp2_with fail
    simp only [List.append_eq, List.cons_append, List.nil_append]
    go_region_held3 (fun w' => w'.cell? ⟨w1.heap.size, 0, none⟩ = some (.int .i64 A) ∧ w'.cell? ⟨w1.heap.size, 1, none⟩ = some (.int .i64 B) ∧ w'.cell? ⟨w1.heap.size, 2, none⟩ = some (.int .i64 P) ∧ w'.cell? ⟨w1.heap.size, 3, none⟩ = some (.int .i64 N) ∧ w'.cell? ⟨w1.heap.size, 4, none⟩ = some (.int .u64 S) ∧ w'.cell? ⟨w.heap.size, 0, none⟩ = some (.int .i64 a0_0) ∧ w'.cell? ⟨w.heap.size, 1, none⟩ = some (.int .i64 a0_1) ∧ w'.cell? ⟨w.heap.size, 2, none⟩ = some (.int .i64 a0_2) ∧ w'.cell? ⟨w.heap.size, 3, none⟩ = some (.int .i64 a0_3) ∧ w'.cell? ⟨w.heap.size, 4, none⟩ = some (.int .u64 a0_4) ∧ Below w4.heap.size w4 w' ∧ w4.heap.size ≤ w'.heap.size)
      (first | exact keep10 (by assumption) (by assumption) | exact ⟨c0, c1, c2, c3, c4, e0, e1, e2, e3, e4, (below_drewN (Below.refl _ _) _).drew, Nat.le_refl _⟩)
      (first
        | (go_at_call 11; refine (awake_any _).mono ?_; rintro e wz ⟨rfl, hbz⟩)
        | (go_at_call 12; refine (HRegs.out _).mono ?_; rintro e wz ⟨rfl, hbz⟩)
        | (go_at_call 13; refine (HRregs.out _).mono ?_; rintro e wz ⟨rfl, hbz⟩)
        | (go_at_call 14; refine (HWid.out _).mono ?_; rintro e wz ⟨rfl, hbz⟩)
        | (go_at_call 15; refine (HHei.out _).mono ?_; rintro e wz ⟨rfl, hbz⟩)
        | (go_at_call 16; refine (HIns.out _).mono ?_; rintro e wz ⟨rfl, hbz⟩)
        | (go_at_call 17; refine (HRins.out _).mono ?_; rintro e wz ⟨rfl, hbz⟩)
        | (go_at_call 18; refine (HOf.out _).mono ?_; rintro e wz ⟨rfl, hbz⟩)
        | (go_at_call 19; refine (HRof.out _).mono ?_; rintro e wz ⟨rfl, hbz⟩)
        | (go_at_call 21; refine (HNear.out _).mono ?_; rintro e wn ⟨An, cn, rfl, hatn, hbn⟩)
        | (go_at_call 22; refine (HRnear.out _).mono ?_; rintro e wm ⟨Am, cm, rfl, hatm, hbm⟩)
        | (go_at_call 20; refine (plain_yes An Am _ cn cm l _ (hatn.below hbm) hatm (by omega)).mono ?_; rintro e wp ⟨rfl, q, rfl⟩; have hbp := below_drewN (Below.refl wm.heap.size wm) q))
    rename_i hS
    obtain ⟨-, -, -, -, -, -, -, -, -, -, hB5, -⟩ := hS
    have Hb5 := Lib.hid (Hb4.out.trans (hB5.mono Hb4.out.size))
    clear hB5
    go_wp2
    go_ret
    exact ⟨rfl, Hb5.out⟩

set_option maxRecDepth 100000 in
theorem lifted (os : Os) (started : os.Started) (H : Type) (enc : TypeId × Value → H) :
    ReturnsInHanded {} Try.checked os 3 .any (Rows.gridTellsSpec.pre6 enc Try.prog Try.f3 Rows.gridTellsRow.domain false) (Rows.gridTellsSpec.post enc Try.prog Try.f3 false true false false) := by
  refine returnsInHanded_of_change (C := Try.checked) own started (by kernel_rfl) Try.func3
    (ChangeSpec.witness6 (enc := enc) (C := Try.checked) false ⟨#[], #[.agg #[.int .i64 0, .int .i64 0, .int .i64 0, .int .i64 0, .int .u64 0], .int .i64 0, .int .i64 0, .int .i64 0], []⟩ 8 (by kernel_rfl) (by kernel_rfl) (by kernel_rfl) (by kernel_rfl)) ?_
  intro W base args ds gs before hval0 hW hcnd _
  have hval : ∀ (j : Nat) t v, Try.f3.params[j]? = some t → args[j]? = some v → Value.okWide Try.prog W .any base t v := hval0
  have hW' := hW
  obtain ⟨p, q, hA0, hV, rfl, hfz, hnd⟩ := hW
  have hA : DataW.TrodAll enc Try.prog W 0 (fun _ => true) true Try.f3.params.toList args.toList ds p := hA0
  rw [Try.params3] at hA hval
  obtain ⟨v0, vs0, d0, ds0, p0, q0, hargs, rfl, rfl, h0, r0⟩ := trodAll_cons hA
  obtain ⟨v1, vs1, d1, ds1, p1, q1, rfl, rfl, rfl, h1, r1⟩ := trodAll_cons r0
  obtain ⟨v2, vs2, d2, ds2, p2, q2, rfl, rfl, rfl, h2, r2⟩ := trodAll_cons r1
  obtain ⟨v3, vs3, d3, ds3, p3, q3, rfl, rfl, rfl, h3, r3⟩ := trodAll_cons r2
  obtain ⟨rfl, rfl, rfl⟩ := trodAll_nil r3
  obtain rfl : args = #[v0, v1, v2, v3] := by cases args; simp_all
  obtain ⟨rfl, rfl⟩ := trodVars_none hV
  obtain ⟨cs0, rfl, -⟩ := okWide_struct Try.underlying24 (hval 0 24 v0 rfl rfl)
  have k0 := h0
  have lt0 : ∀ x ∈ p0, x.block < W.heap.size := by obtain ⟨m, hm⟩ := k0; exact DataW.trod_lt m _ _ _ hm
  obtain ⟨fuel0, hf0⟩ := h0
  obtain ⟨l0⟩ := cs0
  obtain ⟨a0_0, a0_1, a0_2, a0_3, a0_4, rfl, w0_0, w0_1, w0_2, w0_3, w0_4⟩ := open_T24 (cs := l0) hf0
  obtain ⟨a1, rfl, rfl, rfl, w1⟩ := open_int Try.underlying3 (hval 1 3 v1 rfl rfl) h1
  obtain ⟨a2, rfl, rfl, rfl, w2⟩ := open_int Try.underlying3 (hval 2 3 v2 rfl rfl) h2
  obtain ⟨a3, rfl, rfl, rfl, w3⟩ := open_int Try.underlying3 (hval 3 3 v3 rfl rfl) h3
  clear hA0 hval0
  refine (walk a0_0 a0_1 a0_2 a0_3 a0_4 a1 a2 a3 W w0_0 w0_1 w0_2 w0_3 w0_4 w1 w2 w3).mono fun e W' ⟨he, bel⟩ => ?_
  subst he
  exact ⟨_, rfl, _, _, _, [], _, [], hW', trodAll_mk1 (shut_bool Try.underlying4 _), (trodAll_cons_mk (Below.trod laidOut (by kernel_rfl) (of_decide_eq_true (by kernel_rfl)) k0 bel lt0) (trodAll_cons_mk (shut_int Try.underlying3 w1) (trodAll_cons_mk (shut_int Try.underlying3 w2) (trodAll_cons_mk (shut_int Try.underlying3 w3) trodAll_mk0)))), rfl, bel.frame _, fun h => by cases h⟩

theorem over : Rows.gridTellsRow.holds Try.pinned (OpenSpec.ofChange Rows.gridTellsSpec) :=
  OpenClaim.holds_of_wide 3 Try.f3 rfl rfl rfl rfl rfl rfl rfl ⟨rfl, rfl, rfl, rfl, rfl⟩ rfl rfl rfl rfl rfl (by kernel_rfl) Try.func3 (by kernel_rfl)
    (of_decide_eq_true (by kernel_rfl)) (by unfold Func.isWrapper; first | (rw [if_pos (by decide +kernel)]; kernel_rfl) | (rw [if_neg (by decide +kernel)]; exact ⟨rfl, rfl⟩))
    (fun os started H enc _ => lifted os started H enc)

end Go.Proofs.Ytoghnjbajhnpiaa.gridTells
namespace Go.Proofs.Ytoghnjbajhnpiaa
theorem gridTells_proved : Rows.GridTellsSaid := gridTells.over
end Go.Proofs.Ytoghnjbajhnpiaa
