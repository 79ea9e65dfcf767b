/- joustlaw05.EntityBounds returns true for every input; no conditions. -/
import Derived.Test.YtcpmicghhmoefaaEnAwake
import Derived.Test.YtcpmicghhmoefaaEnLeafP
import Derived.Test.YtcpmicghhmoefaaGrNew
import Derived.Test.YtcpmicghhmoefaaRows
import Derived.WalkKit
import Derived.ProofKit
import Derived.OpenShut
import Derived.ShutString
import Derived.ChangeOld
import Derived.Below
namespace Go.Proofs.Ytcpmicghhmoefaa.entityBounds
open Go.ChangeShapes Go.WideShapes Go.ChangeAt Go.RowKit
open Go.ChangeMaps (open_string shut_string)
set_option linter.unusedVariables false

theorem own : ownKnob Try.prog.godebug = none := by kernel_rfl
theorem laidOut : laidOutB Try.prog = true := by kernel_rfl

theorem open_T24 {H : Type} {enc : TypeId × Value → H} {W : World} {fuel : Nat} {cs : List Value} {x : DataW H × List MemPlace} (h : DataW.trod enc Try.prog W 0 (fun _ => true) true fuel 24 cs = some x) :
    ∃ (a0 : Int) (a1 : Int) (a2 : Int) (a3 : Int) (a4 : Int), cs = [.int .i64 a0, .int .i64 a1, .int .i64 a2, .int .i64 a3, .int .u64 a4] ∧ (Lit.int .i64 a0).wf = true ∧ (Lit.int .i64 a1).wf = true ∧ (Lit.int .i64 a2).wf = true ∧ (Lit.int .i64 a3).wf = true ∧ (Lit.int .u64 a4).wf = true := by
  obtain ⟨xs, n, -, -, hl, hxl, hg⟩ := DataW.trod_struct Try.underlying24 h
  have hl' : cs.length = 5 := hl.trans (by kernel_rfl)
  have c3 : Try.prog.cellsOf 3 = 1 := by kernel_rfl
  have c22 : Try.prog.cellsOf 22 = 1 := by kernel_rfl
  clear hl h
  match cs, hl' with
  | [z0, z1, z2, z3, z4], _ =>
    have g0 : DataW.trod enc Try.prog W 0 (fun _ => true) true n 3 (([z0, z1, z2, z3, z4].drop 0).take (Try.prog.cellsOf 3)) = xs[0]? := hg 0 _ rfl
    rw [c3, List.getElem?_eq_getElem (show 0 < xs.length by rw [hxl]; decide)] at g0
    have g1 : DataW.trod enc Try.prog W 0 (fun _ => true) true n 3 (([z0, z1, z2, z3, z4].drop 1).take (Try.prog.cellsOf 3)) = xs[1]? := hg 1 _ rfl
    rw [c3, List.getElem?_eq_getElem (show 1 < xs.length by rw [hxl]; decide)] at g1
    have g2 : DataW.trod enc Try.prog W 0 (fun _ => true) true n 3 (([z0, z1, z2, z3, z4].drop 2).take (Try.prog.cellsOf 3)) = xs[2]? := hg 2 _ rfl
    rw [c3, List.getElem?_eq_getElem (show 2 < xs.length by rw [hxl]; decide)] at g2
    have g3 : DataW.trod enc Try.prog W 0 (fun _ => true) true n 3 (([z0, z1, z2, z3, z4].drop 3).take (Try.prog.cellsOf 3)) = xs[3]? := hg 3 _ rfl
    rw [c3, List.getElem?_eq_getElem (show 3 < xs.length by rw [hxl]; decide)] at g3
    have g4 : DataW.trod enc Try.prog W 0 (fun _ => true) true n 22 (([z0, z1, z2, z3, z4].drop 4).take (Try.prog.cellsOf 22)) = xs[4]? := hg 4 _ rfl
    rw [c22, List.getElem?_eq_getElem (show 4 < xs.length by rw [hxl]; decide)] at g4
    obtain ⟨a0, e0, -, w0⟩ := DataW.trod_int (cs := [z0]) Try.underlying3 g0
    simp only [List.cons.injEq, and_true] at e0
    subst e0
    clear g0
    obtain ⟨a1, e1, -, w1⟩ := DataW.trod_int (cs := [z1]) Try.underlying3 g1
    simp only [List.cons.injEq, and_true] at e1
    subst e1
    clear g1
    obtain ⟨a2, e2, -, w2⟩ := DataW.trod_int (cs := [z2]) Try.underlying3 g2
    simp only [List.cons.injEq, and_true] at e2
    subst e2
    clear g2
    obtain ⟨a3, e3, -, w3⟩ := DataW.trod_int (cs := [z3]) Try.underlying3 g3
    simp only [List.cons.injEq, and_true] at e3
    subst e3
    clear g3
    obtain ⟨a4, e4, -, w4⟩ := DataW.trod_int (cs := [z4]) Try.underlying22 g4
    simp only [List.cons.injEq, and_true] at e4
    subst e4
    clear g4
    exact ⟨a0, a1, a2, a3, a4, rfl, w0, w1, w2, w3, w4⟩

open Fx

set_option maxRecDepth 100000 in
set_option maxHeartbeats 8000000 in
theorem walk (a0_0 : Int) (a0_1 : Int) (a0_2 : Int) (a0_3 : Int) (a0_4 : Int) (a1 : Int) (a2 : Int) (a3 : Bool) (a4 : Bool) (w : World) (w0_0 : (Lit.int .i64 a0_0).wf = true) (w0_1 : (Lit.int .i64 a0_1).wf = true) (w0_2 : (Lit.int .i64 a0_2).wf = true) (w0_3 : (Lit.int .i64 a0_3).wf = true) (w0_4 : (Lit.int .u64 a0_4).wf = true) (w1 : (Lit.int .i64 a1).wf = true) (w2 : (Lit.int .i64 a2).wf = true) :
    Calls Try.prog 5 #[.agg #[.int .i64 a0_0, .int .i64 a0_1, .int .i64 a0_2, .int .i64 a0_3, .int .u64 a0_4], .int .i64 a1, .int .i64 a2, .bool a3, .bool a4] w fun e w' => e = .returned (.bool true) ∧ Below w.heap.size w w' := by
  have C := enC
  clear w0_0 w0_1 w0_2 w0_3 w0_4 w1 w2
  have HA := Lib.hid (awake_en C)
  have HR := Lib.hid (show ∀ (a b p n s y0 y1 y2 y3 y4 y5 y6 y7 y8 : Int) (w : World), Calls Try.prog 11 #[.agg #[.int .i64 a, .int .i64 b, .int .i64 p, .int .i64 n, .int .u64 s], .agg #[.int .i64 y0, .int .i64 y1, .int .i64 y2, .int .i64 y3, .int .i64 y4, .int .i64 y5, .int .i64 y6, .int .i64 y7, .int .i64 y8]] w fun e w' => e = .returned (.bool (erightB a b p n ⟨y0, y1, y2, y3, y4, y5, y6, y7, y8⟩)) ∧ Below w.heap.size w w' from fun a b p n s y0 y1 y2 y3 y4 y5 y6 y7 y8 w => C.right a b p n s ⟨y0, y1, y2, y3, y4, y5, y6, y7, y8⟩ w)
  clear C
  have hx0 : 0 ≤ IntKind.u64.wrap a2 % 7 ∧ IntKind.u64.wrap a2 % 7 < 7 := by omega
  have hx1 : 0 ≤ IntKind.u64.wrap a2 := by rw [IntKind.wrap_u64]; omega
  have hx2 : 0 ≤ IntKind.u64.wrap a1 := by rw [IntKind.wrap_u64]; omega
  go_enter Try.func5, Try.ntmps5
  go_wp2_with fail
  refine (config_any _ _ _ _ _ _).mono ?_
  rintro e v1 ⟨a, b, p, n, rfl, hsm, hb1⟩
  obtain ⟨hrt, ha3, hb3, hp4⟩ := hsm
  obtain ⟨hc1, hf1⟩ := bcell hb1
  have hz1 : w.heap.size < v1.heap.size := by have := hb1.size; simp at this; omega
  have Hb1 := Lib.hid hb1
  have Hrt := Lib.hid hrt
  have HN := Lib.hid (fun w => new_yes a b p n a0_4 w hrt)
  clear hb1 hrt
  go_wp2_with fail
  refine (HN.out _).mono ?_
  rintro e v2 ⟨rfl, hb2⟩
  have hsz : (((((v1.setCell ⟨w.heap.size, 0, none⟩ (.int .i64 a)).setCell ⟨w.heap.size, 1, none⟩ (.int .i64 b)).setCell ⟨w.heap.size, 2, none⟩ (.int .i64 p)).setCell ⟨w.heap.size, 3, none⟩ (.int .i64 n)).setCell ⟨w.heap.size, 4, none⟩ (.int .u64 a0_4)).heap.size = v1.heap.size := by simp [World.setCell]
  have k0 : v2.cell? ⟨w.heap.size, 0, none⟩ = some (.int .i64 a) := by rw [hb2.cell (p := ⟨w.heap.size, 0, none⟩) (by rw [hsz]; exact hz1)]; simp [go_sem, hc1]
  have k1 : v2.cell? ⟨w.heap.size, 1, none⟩ = some (.int .i64 b) := by rw [hb2.cell (p := ⟨w.heap.size, 1, none⟩) (by rw [hsz]; exact hz1)]; simp [go_sem, hc1]
  have k2 : v2.cell? ⟨w.heap.size, 2, none⟩ = some (.int .i64 p) := by rw [hb2.cell (p := ⟨w.heap.size, 2, none⟩) (by rw [hsz]; exact hz1)]; simp [go_sem, hc1]
  have Hb2 := Lib.hid (show Below w.heap.size w v2 from ((((((unbox Hb1.out).setCell (Nat.le_refl _) _).setCell (Nat.le_refl _) _).setCell (Nat.le_refl _) _).setCell (Nat.le_refl _) _).setCell (Nat.le_refl _) _).trans (hb2.mono (by rw [hsz]; omega)))
  have hz2 : w.heap.size < v2.heap.size := by have := hb2.size; rw [hsz] at this; omega
  obtain ⟨r1, r2, r3, r4, r5, r6, r7, r8⟩ := rt_bd Hrt.out
  clear hb2 hsz hc1 hf1 hz1 Hb1 HN
  go_upto_region 6 with fail
  generalize (IntKind.u64.wrap a1 % 2 == 1) = sh at *
  cases sh
  · go_upto_region 9 with fail
    generalize IntKind.u64.wrap a2 % 7 = x at *
    obtain rfl | rfl | rfl | rfl | rfl | rfl | rfl : x = 0 ∨ x = 1 ∨ x = 2 ∨ x = 3 ∨ x = 4 ∨ x = 5 ∨ x = 6 := by omega
    · skip
      cases a3 <;> cases a4
      all_goals go_wp2_with fail
      all_goals (try go_region)
      all_goals (try go_wp2_with fail)
      all_goals refine (HA.out _).mono ?_
      all_goals rintro e w5 ⟨rfl, hb5⟩
      all_goals (obtain ⟨hc5, hf5⟩ := bcell hb5; have hz5 : v2.heap.size + 1 < w5.heap.size := (by have := hb5.size; simp at this; omega); have hz6 : v2.heap.size < w5.heap.size := (by omega); have Hb5 := Lib.hid hb5; clear hb5)
      all_goals go_wp2_with fail
      all_goals refine (HR.out _ _ _ _ _ _ _ _ _ _ _ _ _ _ _).mono ?_
      all_goals rintro e w6 ⟨rfl, hb6⟩
      all_goals (go_wp2; go_ret)
      all_goals exact ⟨ret_bool (by simp [erightB, eok, ins, wid, hei, wi, stp, Hrt.out] <;> omega), nextW (nextW Hb2.out (by first | exact unbox (unbox Hb5.out) | exact unbox (unbox (by simpa using Hb5.out)) | exact ((((Below.refl _ _).alloc (Nat.le_refl _) _).alloc (by simp) _).drew).trans (Hb5.out.mono (by first | (simp; done) | (simp; omega) | (simp [World.drew]; done) | (simp [World.drew]; omega))))) hb6⟩
    · skip
      cases a3 <;> cases a4
      all_goals go_wp2_with fail
      all_goals (try go_region)
      all_goals (try go_wp2_with fail)
      all_goals refine (HA.out _).mono ?_
      all_goals rintro e w5 ⟨rfl, hb5⟩
      all_goals (obtain ⟨hc5, hf5⟩ := bcell hb5; have hz5 : v2.heap.size + 1 < w5.heap.size := (by have := hb5.size; simp at this; omega); have hz6 : v2.heap.size < w5.heap.size := (by omega); have Hb5 := Lib.hid hb5; clear hb5)
      all_goals go_wp2_with fail
      all_goals refine (HR.out _ _ _ _ _ _ _ _ _ _ _ _ _ _ _).mono ?_
      all_goals rintro e w6 ⟨rfl, hb6⟩
      all_goals (go_wp2; go_ret)
      all_goals exact ⟨ret_bool (by simp [erightB, eok, ins, wid, hei, wi, stp, Hrt.out] <;> omega), nextW (nextW Hb2.out (by first | exact unbox (unbox Hb5.out) | exact unbox (unbox (by simpa using Hb5.out)) | exact ((((Below.refl _ _).alloc (Nat.le_refl _) _).alloc (by simp) _).drew).trans (Hb5.out.mono (by first | (simp; done) | (simp; omega) | (simp [World.drew]; done) | (simp [World.drew]; omega))))) hb6⟩
    · skip
      cases a3 <;> cases a4
      all_goals go_wp2_with fail
      all_goals (try go_region)
      all_goals (try go_wp2_with fail)
      all_goals refine (HA.out _).mono ?_
      all_goals rintro e w5 ⟨rfl, hb5⟩
      all_goals (obtain ⟨hc5, hf5⟩ := bcell hb5; have hz5 : v2.heap.size + 1 < w5.heap.size := (by have := hb5.size; simp at this; omega); have hz6 : v2.heap.size < w5.heap.size := (by omega); have Hb5 := Lib.hid hb5; clear hb5)
      all_goals go_wp2_with fail
      all_goals refine (HR.out _ _ _ _ _ _ _ _ _ _ _ _ _ _ _).mono ?_
      all_goals rintro e w6 ⟨rfl, hb6⟩
      all_goals (go_wp2; go_ret)
      all_goals exact ⟨ret_bool (by simp [erightB, eok, ins, wid, hei, wi, stp, Hrt.out] <;> omega), nextW (nextW Hb2.out (by first | exact unbox (unbox Hb5.out) | exact unbox (unbox (by simpa using Hb5.out)) | exact ((((Below.refl _ _).alloc (Nat.le_refl _) _).alloc (by simp) _).drew).trans (Hb5.out.mono (by first | (simp; done) | (simp; omega) | (simp [World.drew]; done) | (simp [World.drew]; omega))))) hb6⟩
    · skip
      cases a3 <;> cases a4
      all_goals go_wp2_with fail
      all_goals (try go_region)
      all_goals (try go_wp2_with fail)
      all_goals refine (HA.out _).mono ?_
      all_goals rintro e w5 ⟨rfl, hb5⟩
      all_goals (obtain ⟨hc5, hf5⟩ := bcell hb5; have hz5 : v2.heap.size + 1 < w5.heap.size := (by have := hb5.size; simp at this; omega); have hz6 : v2.heap.size < w5.heap.size := (by omega); have Hb5 := Lib.hid hb5; clear hb5)
      all_goals go_wp2_with fail
      all_goals refine (HR.out _ _ _ _ _ _ _ _ _ _ _ _ _ _ _).mono ?_
      all_goals rintro e w6 ⟨rfl, hb6⟩
      all_goals (go_wp2; go_ret)
      all_goals exact ⟨ret_bool (by simp [erightB, eok, ins, wid, hei, wi, stp, Hrt.out] <;> omega), nextW (nextW Hb2.out (by first | exact unbox (unbox Hb5.out) | exact unbox (unbox (by simpa using Hb5.out)) | exact ((((Below.refl _ _).alloc (Nat.le_refl _) _).alloc (by simp) _).drew).trans (Hb5.out.mono (by first | (simp; done) | (simp; omega) | (simp [World.drew]; done) | (simp [World.drew]; omega))))) hb6⟩
    · skip
      cases a3 <;> cases a4
      all_goals go_wp2_with fail
      all_goals (try go_region)
      all_goals (try go_wp2_with fail)
      all_goals refine (HA.out _).mono ?_
      all_goals rintro e w5 ⟨rfl, hb5⟩
      all_goals (obtain ⟨hc5, hf5⟩ := bcell hb5; have hz5 : v2.heap.size + 1 < w5.heap.size := (by have := hb5.size; simp at this; omega); have hz6 : v2.heap.size < w5.heap.size := (by omega); have Hb5 := Lib.hid hb5; clear hb5)
      all_goals go_wp2_with fail
      all_goals refine (HR.out _ _ _ _ _ _ _ _ _ _ _ _ _ _ _).mono ?_
      all_goals rintro e w6 ⟨rfl, hb6⟩
      all_goals (go_wp2; go_ret)
      all_goals exact ⟨ret_bool (by simp [erightB, eok, ins, wid, hei, wi, stp, Hrt.out] <;> omega), nextW (nextW Hb2.out (by first | exact unbox (unbox Hb5.out) | exact unbox (unbox (by simpa using Hb5.out)) | exact ((((Below.refl _ _).alloc (Nat.le_refl _) _).alloc (by simp) _).drew).trans (Hb5.out.mono (by first | (simp; done) | (simp; omega) | (simp [World.drew]; done) | (simp [World.drew]; omega))))) hb6⟩
    · skip
      cases a3 <;> cases a4
      all_goals go_wp2_with fail
      all_goals (try go_region)
      all_goals (try go_wp2_with fail)
      all_goals refine (HA.out _).mono ?_
      all_goals rintro e w5 ⟨rfl, hb5⟩
      all_goals (obtain ⟨hc5, hf5⟩ := bcell hb5; have hz5 : v2.heap.size + 1 < w5.heap.size := (by have := hb5.size; simp at this; omega); have hz6 : v2.heap.size < w5.heap.size := (by omega); have Hb5 := Lib.hid hb5; clear hb5)
      all_goals go_wp2_with fail
      all_goals refine (HR.out _ _ _ _ _ _ _ _ _ _ _ _ _ _ _).mono ?_
      all_goals rintro e w6 ⟨rfl, hb6⟩
      all_goals (go_wp2; go_ret)
      all_goals exact ⟨ret_bool (by simp [erightB, eok, ins, wid, hei, wi, stp, Hrt.out] <;> omega), nextW (nextW Hb2.out (by first | exact unbox (unbox Hb5.out) | exact unbox (unbox (by simpa using Hb5.out)) | exact ((((Below.refl _ _).alloc (Nat.le_refl _) _).alloc (by simp) _).drew).trans (Hb5.out.mono (by first | (simp; done) | (simp; omega) | (simp [World.drew]; done) | (simp [World.drew]; omega))))) hb6⟩
    · skip
      cases a3 <;> cases a4
      all_goals go_wp2_with fail
      all_goals (try go_region)
      all_goals (try go_wp2_with fail)
      all_goals refine (HA.out _).mono ?_
      all_goals rintro e w5 ⟨rfl, hb5⟩
      all_goals (obtain ⟨hc5, hf5⟩ := bcell hb5; have hz5 : v2.heap.size + 1 < w5.heap.size := (by have := hb5.size; simp at this; omega); have hz6 : v2.heap.size < w5.heap.size := (by omega); have Hb5 := Lib.hid hb5; clear hb5)
      all_goals go_wp2_with fail
      all_goals refine (HR.out _ _ _ _ _ _ _ _ _ _ _ _ _ _ _).mono ?_
      all_goals rintro e w6 ⟨rfl, hb6⟩
      all_goals (go_wp2; go_ret)
      all_goals exact ⟨ret_bool (by simp [erightB, eok, ins, wid, hei, wi, stp, Hrt.out] <;> omega), nextW (nextW Hb2.out (by first | exact unbox (unbox Hb5.out) | exact unbox (unbox (by simpa using Hb5.out)) | exact ((((Below.refl _ _).alloc (Nat.le_refl _) _).alloc (by simp) _).drew).trans (Hb5.out.mono (by first | (simp; done) | (simp; omega) | (simp [World.drew]; done) | (simp [World.drew]; omega))))) hb6⟩
  · go_upto_region 9 with fail
    generalize IntKind.u64.wrap a2 % 7 = x at *
    obtain rfl | rfl | rfl | rfl | rfl | rfl | rfl : x = 0 ∨ x = 1 ∨ x = 2 ∨ x = 3 ∨ x = 4 ∨ x = 5 ∨ x = 6 := by omega
    · skip
      cases a3 <;> cases a4
      all_goals go_wp2_with fail
      all_goals (try go_region)
      all_goals (try go_wp2_with fail)
      all_goals refine (HA.out _).mono ?_
      all_goals rintro e w5 ⟨rfl, hb5⟩
      all_goals (obtain ⟨hc5, hf5⟩ := bcell hb5; have hz5 : v2.heap.size + 1 < w5.heap.size := (by have := hb5.size; simp at this; omega); have hz6 : v2.heap.size < w5.heap.size := (by omega); have Hb5 := Lib.hid hb5; clear hb5)
      all_goals go_wp2_with fail
      all_goals refine (HR.out _ _ _ _ _ _ _ _ _ _ _ _ _ _ _).mono ?_
      all_goals rintro e w6 ⟨rfl, hb6⟩
      all_goals (go_wp2; go_ret)
      all_goals exact ⟨ret_bool (by simp [erightB, eok, ins, wid, hei, wi, stp, Hrt.out] <;> omega), nextW (nextW Hb2.out (by first | exact unbox (unbox Hb5.out) | exact unbox (unbox (by simpa using Hb5.out)) | exact ((((Below.refl _ _).alloc (Nat.le_refl _) _).alloc (by simp) _).drew).trans (Hb5.out.mono (by first | (simp; done) | (simp; omega) | (simp [World.drew]; done) | (simp [World.drew]; omega))))) hb6⟩
    · skip
      cases a3 <;> cases a4
      all_goals go_wp2_with fail
      all_goals (try go_region)
      all_goals (try go_wp2_with fail)
      all_goals refine (HA.out _).mono ?_
      all_goals rintro e w5 ⟨rfl, hb5⟩
      all_goals (obtain ⟨hc5, hf5⟩ := bcell hb5; have hz5 : v2.heap.size + 1 < w5.heap.size := (by have := hb5.size; simp at this; omega); have hz6 : v2.heap.size < w5.heap.size := (by omega); have Hb5 := Lib.hid hb5; clear hb5)
      all_goals go_wp2_with fail
      all_goals refine (HR.out _ _ _ _ _ _ _ _ _ _ _ _ _ _ _).mono ?_
      all_goals rintro e w6 ⟨rfl, hb6⟩
      all_goals (go_wp2; go_ret)
      all_goals exact ⟨ret_bool (by simp [erightB, eok, ins, wid, hei, wi, stp, Hrt.out] <;> omega), nextW (nextW Hb2.out (by first | exact unbox (unbox Hb5.out) | exact unbox (unbox (by simpa using Hb5.out)) | exact ((((Below.refl _ _).alloc (Nat.le_refl _) _).alloc (by simp) _).drew).trans (Hb5.out.mono (by first | (simp; done) | (simp; omega) | (simp [World.drew]; done) | (simp [World.drew]; omega))))) hb6⟩
    · skip
      cases a3 <;> cases a4
      all_goals go_wp2_with fail
      all_goals (try go_region)
      all_goals (try go_wp2_with fail)
      all_goals refine (HA.out _).mono ?_
      all_goals rintro e w5 ⟨rfl, hb5⟩
      all_goals (obtain ⟨hc5, hf5⟩ := bcell hb5; have hz5 : v2.heap.size + 1 < w5.heap.size := (by have := hb5.size; simp at this; omega); have hz6 : v2.heap.size < w5.heap.size := (by omega); have Hb5 := Lib.hid hb5; clear hb5)
      all_goals go_wp2_with fail
      all_goals refine (HR.out _ _ _ _ _ _ _ _ _ _ _ _ _ _ _).mono ?_
      all_goals rintro e w6 ⟨rfl, hb6⟩
      all_goals (go_wp2; go_ret)
      all_goals exact ⟨ret_bool (by simp [erightB, eok, ins, wid, hei, wi, stp, Hrt.out] <;> omega), nextW (nextW Hb2.out (by first | exact unbox (unbox Hb5.out) | exact unbox (unbox (by simpa using Hb5.out)) | exact ((((Below.refl _ _).alloc (Nat.le_refl _) _).alloc (by simp) _).drew).trans (Hb5.out.mono (by first | (simp; done) | (simp; omega) | (simp [World.drew]; done) | (simp [World.drew]; omega))))) hb6⟩
    · skip
      cases a3 <;> cases a4
      all_goals go_wp2_with fail
      all_goals refine (HA.out _).mono ?_
      all_goals rintro e w5 ⟨rfl, hb5⟩
      all_goals (have Hb5 := Lib.hid hb5; clear hb5)
      all_goals (go_wp2; go_ret)
      all_goals exact ⟨rfl, nextW Hb2.out (unbox (unbox Hb5.out))⟩
    · skip
      cases a3 <;> cases a4
      all_goals go_wp2_with fail
      all_goals (try go_region)
      all_goals (try go_wp2_with fail)
      all_goals refine (HA.out _).mono ?_
      all_goals rintro e w5 ⟨rfl, hb5⟩
      all_goals (obtain ⟨hc5, hf5⟩ := bcell hb5; have hz5 : v2.heap.size + 1 < w5.heap.size := (by have := hb5.size; simp at this; omega); have hz6 : v2.heap.size < w5.heap.size := (by omega); have Hb5 := Lib.hid hb5; clear hb5)
      all_goals go_wp2_with fail
      all_goals refine (HR.out _ _ _ _ _ _ _ _ _ _ _ _ _ _ _).mono ?_
      all_goals rintro e w6 ⟨rfl, hb6⟩
      all_goals (go_wp2; go_ret)
      all_goals exact ⟨ret_bool (by simp [erightB, eok, ins, wid, hei, wi, stp, Hrt.out] <;> omega), nextW (nextW Hb2.out (by first | exact unbox (unbox Hb5.out) | exact unbox (unbox (by simpa using Hb5.out)) | exact ((((Below.refl _ _).alloc (Nat.le_refl _) _).alloc (by simp) _).drew).trans (Hb5.out.mono (by first | (simp; done) | (simp; omega) | (simp [World.drew]; done) | (simp [World.drew]; omega))))) hb6⟩
    · skip
      cases a3 <;> cases a4
      all_goals go_wp2_with fail
      all_goals (try go_region)
      all_goals (try go_wp2_with fail)
      all_goals refine (HA.out _).mono ?_
      all_goals rintro e w5 ⟨rfl, hb5⟩
      all_goals (obtain ⟨hc5, hf5⟩ := bcell hb5; have hz5 : v2.heap.size + 1 < w5.heap.size := (by have := hb5.size; simp at this; omega); have hz6 : v2.heap.size < w5.heap.size := (by omega); have Hb5 := Lib.hid hb5; clear hb5)
      all_goals go_wp2_with fail
      all_goals refine (HR.out _ _ _ _ _ _ _ _ _ _ _ _ _ _ _).mono ?_
      all_goals rintro e w6 ⟨rfl, hb6⟩
      all_goals (go_wp2; go_ret)
      all_goals exact ⟨ret_bool (by simp [erightB, eok, ins, wid, hei, wi, stp, Hrt.out] <;> omega), nextW (nextW Hb2.out (by first | exact unbox (unbox Hb5.out) | exact unbox (unbox (by simpa using Hb5.out)) | exact ((((Below.refl _ _).alloc (Nat.le_refl _) _).alloc (by simp) _).drew).trans (Hb5.out.mono (by first | (simp; done) | (simp; omega) | (simp [World.drew]; done) | (simp [World.drew]; omega))))) hb6⟩
    · skip
      cases a3 <;> cases a4
      all_goals go_wp2_with fail
      all_goals (try go_region)
      all_goals (try go_wp2_with fail)
      all_goals refine (HA.out _).mono ?_
      all_goals rintro e w5 ⟨rfl, hb5⟩
      all_goals (obtain ⟨hc5, hf5⟩ := bcell hb5; have hz5 : v2.heap.size + 1 < w5.heap.size := (by have := hb5.size; simp at this; omega); have hz6 : v2.heap.size < w5.heap.size := (by omega); have Hb5 := Lib.hid hb5; clear hb5)
      all_goals go_wp2_with fail
      all_goals refine (HR.out _ _ _ _ _ _ _ _ _ _ _ _ _ _ _).mono ?_
      all_goals rintro e w6 ⟨rfl, hb6⟩
      all_goals (go_wp2; go_ret)
      all_goals exact ⟨ret_bool (by simp [erightB, eok, ins, wid, hei, wi, stp, Hrt.out] <;> omega), nextW (nextW Hb2.out (by first | exact unbox (unbox Hb5.out) | exact unbox (unbox (by simpa using Hb5.out)) | exact ((((Below.refl _ _).alloc (Nat.le_refl _) _).alloc (by simp) _).drew).trans (Hb5.out.mono (by first | (simp; done) | (simp; omega) | (simp [World.drew]; done) | (simp [World.drew]; omega))))) hb6⟩

set_option maxRecDepth 100000 in
theorem lifted (os : Os) (started : os.Started) (H : Type) (enc : TypeId × Value → H) :
    ReturnsInHanded {} Try.checked os 5 .any (Rows.entityBoundsSpec.pre6 enc Try.prog Try.f5 Rows.entityBoundsRow.domain false) (Rows.entityBoundsSpec.post enc Try.prog Try.f5 false true false false) := by
  refine returnsInHanded_of_change (C := Try.checked) own started (by kernel_rfl) Try.func5
    (ChangeSpec.witness6 (enc := enc) (C := Try.checked) false ⟨#[], #[.agg #[.int .i64 0, .int .i64 0, .int .i64 0, .int .i64 0, .int .u64 0], .int .i64 0, .int .i64 0, .bool false, .bool false], []⟩ 8 (by kernel_rfl) (by kernel_rfl) (by kernel_rfl) (by kernel_rfl)) ?_
  intro W base args ds gs before hval0 hW hcnd _
  have hval : ∀ (j : Nat) t v, Try.f5.params[j]? = some t → args[j]? = some v → Value.okWide Try.prog W .any base t v := hval0
  have hW' := hW
  obtain ⟨p, q, hA0, hV, rfl, hfz, hnd⟩ := hW
  have hA : DataW.TrodAll enc Try.prog W 0 (fun _ => true) true Try.f5.params.toList args.toList ds p := hA0
  rw [Try.params5] at hA hval
  obtain ⟨v0, vs0, d0, ds0, p0, q0, hargs, rfl, rfl, h0, r0⟩ := trodAll_cons hA
  obtain ⟨v1, vs1, d1, ds1, p1, q1, rfl, rfl, rfl, h1, r1⟩ := trodAll_cons r0
  obtain ⟨v2, vs2, d2, ds2, p2, q2, rfl, rfl, rfl, h2, r2⟩ := trodAll_cons r1
  obtain ⟨v3, vs3, d3, ds3, p3, q3, rfl, rfl, rfl, h3, r3⟩ := trodAll_cons r2
  obtain ⟨v4, vs4, d4, ds4, p4, q4, rfl, rfl, rfl, h4, r4⟩ := trodAll_cons r3
  obtain ⟨rfl, rfl, rfl⟩ := trodAll_nil r4
  obtain rfl : args = #[v0, v1, v2, v3, v4] := by cases args; simp_all
  obtain ⟨rfl, rfl⟩ := trodVars_none hV
  obtain ⟨cs0, rfl, -⟩ := okWide_struct Try.underlying24 (hval 0 24 v0 rfl rfl)
  have k0 := h0
  have lt0 : ∀ x ∈ p0, x.block < W.heap.size := by obtain ⟨m, hm⟩ := k0; exact DataW.trod_lt m _ _ _ hm
  obtain ⟨fuel0, hf0⟩ := h0
  obtain ⟨l0⟩ := cs0
  obtain ⟨a0_0, a0_1, a0_2, a0_3, a0_4, rfl, w0_0, w0_1, w0_2, w0_3, w0_4⟩ := open_T24 (cs := l0) hf0
  obtain ⟨a1, rfl, rfl, rfl, w1⟩ := open_int Try.underlying3 (hval 1 3 v1 rfl rfl) h1
  obtain ⟨a2, rfl, rfl, rfl, w2⟩ := open_int Try.underlying3 (hval 2 3 v2 rfl rfl) h2
  obtain ⟨a3, rfl, rfl, rfl⟩ := open_bool Try.underlying4 (hval 3 4 v3 rfl rfl) h3
  obtain ⟨a4, rfl, rfl, rfl⟩ := open_bool Try.underlying4 (hval 4 4 v4 rfl rfl) h4
  clear hA0 hval0
  refine (walk a0_0 a0_1 a0_2 a0_3 a0_4 a1 a2 a3 a4 W w0_0 w0_1 w0_2 w0_3 w0_4 w1 w2).mono fun e W' ⟨he, bel⟩ => ?_
  subst he
  exact ⟨_, rfl, _, _, _, [], _, [], hW', trodAll_mk1 (shut_bool Try.underlying4 _), (trodAll_cons_mk (Below.trod laidOut (by kernel_rfl) (of_decide_eq_true (by kernel_rfl)) k0 bel lt0) (trodAll_cons_mk (shut_int Try.underlying3 w1) (trodAll_cons_mk (shut_int Try.underlying3 w2) (trodAll_cons_mk (shut_bool Try.underlying4 _) (trodAll_cons_mk (shut_bool Try.underlying4 _) trodAll_mk0))))), rfl, bel.frame _, fun h => by cases h⟩

theorem over : Rows.entityBoundsRow.holds Try.pinned (OpenSpec.ofChange Rows.entityBoundsSpec) :=
  OpenClaim.holds_of_wide 5 Try.f5 rfl rfl rfl rfl rfl rfl rfl ⟨rfl, rfl, rfl, rfl, rfl⟩ rfl rfl rfl rfl rfl (by kernel_rfl) Try.func5 (by kernel_rfl)
    (of_decide_eq_true (by kernel_rfl)) (by unfold Func.isWrapper; first | (rw [if_pos (by decide +kernel)]; kernel_rfl) | (rw [if_neg (by decide +kernel)]; exact ⟨rfl, rfl⟩))
    (fun os started H enc _ => lifted os started H enc)

end Go.Proofs.Ytcpmicghhmoefaa.entityBounds
namespace Go.Proofs.Ytcpmicghhmoefaa
theorem entityBounds_proved : Rows.EntityBoundsSaid := entityBounds.over
end Go.Proofs.Ytcpmicghhmoefaa
