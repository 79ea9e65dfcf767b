/- joustlaw09.RegionLeaves returns true for every input; no conditions. -/
import Derived.Test.YtbblpnmcbifocaaGreatM48
import Derived.Lib.MinMax
import Derived.Test.YtbblpnmcbifocaaGreatRows
import Derived.WalkKit
import Derived.ProofKit
import Derived.OpenShut
import Derived.ShutString
import Derived.ChangeOld
import Derived.Below
namespace Go.Proofs.YtbblpnmcbifocaaGreat.regionLeaves
open Go.ChangeShapes Go.WideShapes Go.ChangeAt Go.RowKit
open Go.ChangeMaps (open_string shut_string)
set_option linter.unusedVariables false
set_option maxRecDepth 100000

theorem own : ownKnob Tryz.prog.godebug = none := by kernel_rfl
theorem laidOut : laidOutB Tryz.prog = true := by kernel_rfl

theorem open_T24 {H : Type} {enc : TypeId × Value → H} {W : World} {fuel : Nat} {cs : List Value} {x : DataW H × List MemPlace} (h : DataW.trod enc Tryz.prog W 0 (fun _ => true) true fuel 24 cs = some x) :
    ∃ (a0 : Int) (a1 : Int) (a2 : Int) (a3 : Int) (a4 : Int), cs = [.int .i64 a0, .int .i64 a1, .int .i64 a2, .int .i64 a3, .int .u64 a4] ∧ (Lit.int .i64 a0).wf = true ∧ (Lit.int .i64 a1).wf = true ∧ (Lit.int .i64 a2).wf = true ∧ (Lit.int .i64 a3).wf = true ∧ (Lit.int .u64 a4).wf = true := by
  obtain ⟨xs, n, -, -, hl, hxl, hg⟩ := DataW.trod_struct Tryz.underlying24 h
  have hl' : cs.length = 5 := hl.trans (by kernel_rfl)
  have c3 : Tryz.prog.cellsOf 3 = 1 := by kernel_rfl
  have c22 : Tryz.prog.cellsOf 22 = 1 := by kernel_rfl
  clear hl h
  match cs, hl' with
  | [z0, z1, z2, z3, z4], _ =>
    have g0 : DataW.trod enc Tryz.prog W 0 (fun _ => true) true n 3 (([z0, z1, z2, z3, z4].drop 0).take (Tryz.prog.cellsOf 3)) = xs[0]? := hg 0 _ rfl
    rw [c3, List.getElem?_eq_getElem (show 0 < xs.length by rw [hxl]; decide)] at g0
    have g1 : DataW.trod enc Tryz.prog W 0 (fun _ => true) true n 3 (([z0, z1, z2, z3, z4].drop 1).take (Tryz.prog.cellsOf 3)) = xs[1]? := hg 1 _ rfl
    rw [c3, List.getElem?_eq_getElem (show 1 < xs.length by rw [hxl]; decide)] at g1
    have g2 : DataW.trod enc Tryz.prog W 0 (fun _ => true) true n 3 (([z0, z1, z2, z3, z4].drop 2).take (Tryz.prog.cellsOf 3)) = xs[2]? := hg 2 _ rfl
    rw [c3, List.getElem?_eq_getElem (show 2 < xs.length by rw [hxl]; decide)] at g2
    have g3 : DataW.trod enc Tryz.prog W 0 (fun _ => true) true n 3 (([z0, z1, z2, z3, z4].drop 3).take (Tryz.prog.cellsOf 3)) = xs[3]? := hg 3 _ rfl
    rw [c3, List.getElem?_eq_getElem (show 3 < xs.length by rw [hxl]; decide)] at g3
    have g4 : DataW.trod enc Tryz.prog W 0 (fun _ => true) true n 22 (([z0, z1, z2, z3, z4].drop 4).take (Tryz.prog.cellsOf 22)) = xs[4]? := hg 4 _ rfl
    rw [c22, List.getElem?_eq_getElem (show 4 < xs.length by rw [hxl]; decide)] at g4
    obtain ⟨a0, e0, -, w0⟩ := DataW.trod_int (cs := [z0]) Tryz.underlying3 g0
    simp only [List.cons.injEq, and_true] at e0
    subst e0
    clear g0
    obtain ⟨a1, e1, -, w1⟩ := DataW.trod_int (cs := [z1]) Tryz.underlying3 g1
    simp only [List.cons.injEq, and_true] at e1
    subst e1
    clear g1
    obtain ⟨a2, e2, -, w2⟩ := DataW.trod_int (cs := [z2]) Tryz.underlying3 g2
    simp only [List.cons.injEq, and_true] at e2
    subst e2
    clear g2
    obtain ⟨a3, e3, -, w3⟩ := DataW.trod_int (cs := [z3]) Tryz.underlying3 g3
    simp only [List.cons.injEq, and_true] at e3
    subst e3
    clear g3
    obtain ⟨a4, e4, -, w4⟩ := DataW.trod_int (cs := [z4]) Tryz.underlying22 g4
    simp only [List.cons.injEq, and_true] at e4
    subst e4
    clear g4
    exact ⟨a0, a1, a2, a3, a4, rfl, w0, w1, w2, w3, w4⟩

open Fx

theorem first_set (P : Nat) (hP : 1 ≤ P) (d : Int) (hd : d = 1 ∨ d = 2) : ((List.replicate P inp0).set 0 ⟨d, 0, false⟩).length = P ∧ ((List.replicate P inp0).set 0 ⟨d, 0, false⟩).all irtI = true ∧ inpOf ((List.replicate P inp0).set 0 ⟨d, 0, false⟩) 1 = ⟨d, 0, false⟩ := by
  refine ⟨by simp, all_set (all_rep P) 0 (by rcases hd with rfl | rfl <;> decide), ?_⟩
  unfold inpOf
  rw [List.getD_eq_getElem?_getD, show ((1 : Int) - 1).toNat = 0 from rfl, List.getElem?_set_self (by simp; omega)]
  rfl

theorem zero_set (P : Nat) (hP : 1 ≤ P) : inpOf (List.replicate P inp0) 1 = ⟨0, 0, false⟩ := by
  unfold inpOf
  rw [List.getD_eq_getElem?_getD, show ((1 : Int) - 1).toNat = 0 from rfl, List.getElem?_replicate, if_pos (by omega)]
  rfl

theorem row_set {w : World} {B g P : Nat} {v : Int} (h : w.ownsRow B 61 3 (.slice (some ⟨g, 0, none⟩) P P) P ((List.replicate P inp0).flatMap inpC)) (hP : 1 ≤ P) : (w.setCell ⟨g, 0, none⟩ (.int .i64 v)).ownsRow B 61 3 (.slice (some ⟨g, 0, none⟩) P P) P (((List.replicate P inp0).set 0 ⟨v, 0, false⟩).flatMap inpC) :=
  (own_put_Inp h (k := 0) (q := 0) (y := inp0) (z := ⟨v, 0, false⟩) (by rw [List.getElem?_replicate, if_pos (by omega)]) (by omega) rfl).1

theorem own_slP {w : World} {B g P : Nat} {xs : List Inp} (h : w.ownsRow B 61 3 (.slice (some ⟨g, 0, none⟩) P P) P (xs.flatMap inpC)) (hl : xs.length = P) : IsSl inpC w (.slice (some ⟨g, 0, none⟩) P P) xs := by
  subst hl
  exact owned_sl h

theorem rt_max {a b p n : Int} (h : rt a b p n = true) (ha : a ≤ 3) : rt (max 2 a) b p n = true ∧ 2 ≤ max 2 a ∧ max 2 a ≤ 3 := by
  obtain ⟨r1, r2, r3, r4, r5, r6, r7, r8⟩ := rt_bd h
  refine ⟨?_, by omega, by omega⟩
  unfold rt
  exact decide_eq_true ⟨by omega, by omega, r3, r4, r5, r6, r7, r8⟩

set_option maxRecDepth 100000 in
set_option maxHeartbeats 16000000 in
theorem walk (a0_0 : Int) (a0_1 : Int) (a0_2 : Int) (a0_3 : Int) (a0_4 : Int) (a1 : Int) (a2 : Int) (a3 : Int) (w : World) (w0_0 : (Lit.int .i64 a0_0).wf = true) (w0_1 : (Lit.int .i64 a0_1).wf = true) (w0_2 : (Lit.int .i64 a0_2).wf = true) (w0_3 : (Lit.int .i64 a0_3).wf = true) (w0_4 : (Lit.int .u64 a0_4).wf = true) (w1 : (Lit.int .i64 a1).wf = true) (w2 : (Lit.int .i64 a2).wf = true) (w3 : (Lit.int .i64 a3).wf = true) :
    Calls Tryz.prog 7 #[.agg #[.int .i64 a0_0, .int .i64 a0_1, .int .i64 a0_2, .int .i64 a0_3, .int .u64 a0_4], .int .i64 a1, .int .i64 a2, .int .i64 a3] w fun e w' => e = .returned (.bool true) ∧ Below w.heap.size w w' := by
  clear w0_0 w0_1 w0_2 w0_3 w1 w2 w3
  have hs4 : 0 ≤ a0_4 ∧ a0_4 < 18446744073709551616 := by have := bounds_u64 w0_4; omega
  have HA := Lib.hid awake_rg
  go_enter Tryz.func7, Tryz.ntmps7
  go_wp2_with fail
  refine (config_any _ _ _ _ _ _).mono ?_
  rintro e v1 ⟨a, b, p, n, rfl, hsm, hb1⟩
  obtain ⟨hrt, ha3, hb3, hp4⟩ := hsm
  have hrd := rt_bd hrt
  obtain ⟨P, rfl⟩ : ∃ P : Nat, p = (P : Int) := ⟨p.toNat, by omega⟩
  have hP : 1 ≤ P ∧ P ≤ 4 := by omega
  have Hb1 := Lib.hid (unbox hb1)
  have BC1 := Lib.hid ((CfgBox.n1 w ⟨a0_0, a0_1, a0_2, a0_3, a0_4⟩ 24 rfl).nx hb1)
  obtain ⟨hrt2, hA2, hA3⟩ := rt_max hrt ha3
  obtain ⟨A, hA⟩ : ∃ A, max 2 a = A := ⟨_, rfl⟩
  rw [hA] at hrt2 hA2 hA3
  have HN := Lib.hid (fun w => new_yes A b P n a0_4 w hrt2)
  obtain ⟨d, hd⟩ : ∃ d, wrap64 (1 + wrap64 ((IntKind.u64.wrap a2).tmod 2)) = d := ⟨_, rfl⟩
  have hd2 : d = 1 ∨ d = 2 := by have := umod1 a2 2 (by decide) (by decide); rw [hd] at this; omega
  obtain ⟨y, hy⟩ : ∃ y, wrap64 ((IntKind.u64.wrap a1).tmod 1024) = y := ⟨_, rfl⟩
  have hy2 : 0 ≤ y ∧ y < 1024 := by obtain ⟨e1, e2, e3⟩ := umod a1 1024 (by decide) (by decide); rw [hy] at e1; omega
  obtain ⟨h, hh⟩ : ∃ h, wrap64 (1 + wrap64 ((IntKind.u64.wrap a3).tmod 100)) = h := ⟨_, rfl⟩
  have hh2 : 1 ≤ h ∧ h ≤ 100 := by have := umod1 a3 100 (by decide) (by decide); rw [hh] at this; exact this
  obtain ⟨x1, x2, x3⟩ := first_set P hP.1 d hd2
  have x4 := zero_set P hP.1
  obtain ⟨l1, l2, l3, l4⟩ := leaves_all (s := a0_4) hrt2 hA2 hy2 hh2 hd2 x3 x4
  have hab : hasB A b P n 0 = true ∧ hasB A b P n 1 = true := by
    obtain ⟨r1, r2, r3, r4, -⟩ := rt_bd hrt2
    have := Int.mul_le_mul_of_nonneg_left r3 (show 0 ≤ A by omega)
    unfold hasB regs
    rw [if_pos hrt2]
    exact ⟨decide_eq_true (by omega), decide_eq_true (by omega)⟩
  obtain ⟨q1, q2⟩ := wk_right hrt2 hA2 hy2 hh2
  have hO0 : Okl A b P n [wk0 y h] := ⟨by unfold Rise; simp, fun e he => by rw [List.mem_singleton.1 he]; exact q1⟩
  have hH0 : Here A b P n 0 [wk0 y h] := fun e he => by rw [List.mem_singleton.1 he]; exact q2
  have hW1 := why_ok (r := 0) (f := 5) (ib := []) (xs := (List.replicate P inp0).set 0 ⟨d, 0, false⟩) hab.1 (by omega) hO0 hH0 (show things [wk0 y h] ≤ 24 by simp [things, wk0]) (by simp) ⟨x1, x2⟩
  have hAs1 := (asked_ok (r := 0) (f := 5) (ib := []) hab.1 (by omega) hO0 hH0 (show things [wk0 y h] ≤ 24 by simp [things, wk0]) (by simp)).2
  have hIn : ∀ c ∈ ([⟨1, 0, 1, 5, wk1 y h d, 0, 0⟩] : List Crs), inOk A b P n 1 6 c = true := fun c hc => by
    have h1 := outs_at (s := a0_4) (inp := inpOf ((List.replicate P inp0).set 0 ⟨d, 0, false⟩)) hAs1 (c := c) (by rw [l2]; exact hc)
    rw [List.mem_singleton.1 hc] at h1 ⊢
    unfold inOk
    rw [h1.1]
    rfl
  have hW2 := why_ok (r := 1) (f := 6) (l := []) (xs := List.replicate P inp0) hab.2 (by omega) ⟨by unfold Rise; simp, by simp⟩ (by intro e he; simp at he) (by decide) hIn ⟨List.length_replicate, all_rep P⟩
  have hAs2 := (asked_ok (r := 1) (f := 6) (l := []) hab.2 (by omega) ⟨by unfold Rise; simp, by simp⟩ (by intro e he; simp at he) (by decide) hIn).2
  obtain ⟨X, hX⟩ : ∃ X, X = stayL A b P n a0_4 0 5 (inpOf ((List.replicate P inp0).set 0 ⟨d, 0, false⟩)) [wk0 y h] [] := ⟨_, rfl⟩
  obtain ⟨X2, hX2⟩ : ∃ X2, X2 = stayL A b P n a0_4 1 6 (inpOf (List.replicate P inp0)) [] [⟨1, 0, 1, 5, wk1 y h d, 0, 0⟩] := ⟨_, rfl⟩
  obtain ⟨Y2, hY2⟩ : ∃ Y2, Y2 = st lessB (outsL A b P n a0_4 1 6 (inpOf (List.replicate P inp0)) [] [⟨1, 0, 1, 5, wk1 y h d, 0, 0⟩]) := ⟨_, rfl⟩
  have HlX := Lib.hid (show X.length ≤ 31 from by rw [hX]; exact (outs_le (by omega) hAs1).2)
  have HlX2 := Lib.hid (show X2.length ≤ 31 from by rw [hX2]; exact (outs_le (by omega) hAs2).2)
  rw [← hX] at l1
  rw [← hX2] at l4
  have L1 := Lib.hid l1
  have L3 := Lib.hid l3
  have L4 := Lib.hid l4
  have HS1 := Lib.hid (fun w2 v t hv ht => rgstep_yes A b P n a0_4 0 5 hs4 v [wk0 y h] t ((List.replicate P inp0).set 0 ⟨d, 0, false⟩) (.slice none 0 0) [] w2 hv (by simp) ht (by rw [x1]; omega) (IsSl.nil _ _) (by simp) 6 X [⟨1, 0, 1, 5, wk1 y h d, 0, 0⟩] hW1 rfl hX l2.symm)
  have HS2 := Lib.hid (fun w2 v t u hv ht hu => rgstep_yes A b P n a0_4 1 6 hs4 v [] t (List.replicate P inp0) u [⟨1, 0, 1, 5, wk1 y h d, 0, 0⟩] w2 hv (by simp) ht (by rw [List.length_replicate]; omega) hu (by simp) 7 X2 Y2 hW2 rfl hX2 hY2)
  have HP1 := Lib.hid (fun v w2 hv => present_any A b P n a0_4 0 6 v X (.slice none 0 0) [] w2 hv (by have := HlX.out; omega) (IsSl.nil _ _) (by simp))
  have HP2 := Lib.hid (fun u w2 hu => present_any A b P n a0_4 1 6 (.slice none 0 0) [] u [⟨1, 0, 1, 5, wk1 y h d, 0, 0⟩] w2 (IsSl.nil _ _) (by simp) hu (by simp))
  have HP3 := Lib.hid (fun v w2 hv => present_any A b P n a0_4 1 7 v X2 (.slice none 0 0) [] w2 hv (by have := HlX2.out; omega) (IsSl.nil _ _) (by simp))
  rw [show arriveL X [] = X from rfl, l1] at HP1
  rw [l3] at HP2
  rw [show arriveL X2 [] = X2 from rfl, l4] at HP3
  have hmk : ∀ w, (Instr.makeSlice 26 (.int .i64 (P : Int)) (.int .i64 (P : Int))).run Tryz.prog w = .ok (.slice (some ⟨w.heap.size, 0, none⟩) P P) (w.alloc (.cells ((List.replicate P inp0).flatMap inpC).toArray 61)) := fun w => make_inp P (by omega) w
  have Hmk := Lib.hid hmk
  have Hx1 := Lib.hid x1
  clear hb1 hrt hrt2 hrd hAs1 hAs2 hIn hW1 hW2 hX hX2 hY2 l1 l2 l3 l4 x1 x2 x3 x4 hO0 hH0 q1 q2 hab hmk
  have g0 := BC1.out.c0
  have g1 := BC1.out.c1
  have g2 := BC1.out.c2
  have g3 := BC1.out.c3
  have g4 := BC1.out.c4
  have f0 := BC1.out.f0
  have f1 := BC1.out.f1
  have f2 := BC1.out.f2
  have f3 := BC1.out.f3
  have f4 := BC1.out.f4
  have hgl := BC1.out.has
  have HB := Lib.hid ((CfgBox.bel Hb1.out ⟨a, b, P, n, a0_4⟩ (Nat.le_refl _) rfl).setCell (Nat.le_refl _) (p := ⟨w.heap.size, 0, none⟩) (.int .i64 A))
  have BC := Lib.hid ((BC1.out.put ⟨a, b, P, n, a0_4⟩).set0 A)
  go_upto_region 3 with fail
  (try simp only [hA])
  generalize hW : World.setCell _ _ _ = W at *
  clear hW hA g0 g1 g2 g3 g4 f0 f1 f2 f3 f4 hgl BC1 Hb1
  have hcl := BC.out.has
  obtain ⟨c0, c1, c2, c3, c4, -⟩ := BC.out
  go_wp2_with fail
  refine (HN.out _).mono ?_
  rintro e v2 ⟨rfl, hb2⟩
  replace HB := Lib.hid (nextW HB.out hb2)
  replace BC := Lib.hid (BC.out.nx hb2)
  have BG := Lib.hid (CfgBox.n1 v2 ⟨A, b, P, n, a0_4⟩ 30 rfl)
  replace BC := Lib.hid (BC.out.alloc BC.out.has (.cells #[.int .i64 A, .int .i64 b, .int .i64 P, .int .i64 n, .int .u64 a0_4] 30))
  replace HB := Lib.hid (HB.out.alloc HB.out.size (.cells #[.int .i64 A, .int .i64 b, .int .i64 P, .int .i64 n, .int .u64 a0_4] 30))
  clear hb2 c0 c1 c2 c3 c4 hcl HN
  go_wp2_with fail
  refine (HA.out _).mono ?_
  rintro e v3 ⟨rfl, hb3⟩
  replace HB := Lib.hid (nextW HB.out hb3)
  replace BC := Lib.hid (BC.out.nx hb3)
  replace BG := Lib.hid (BG.out.nx hb3)
  clear hb3 HA
  generalize hgb : v2.heap.size = gb at *
  clear hgb
  go_upto_region 7 with fail
  (try simp only [hd])
  go_upto_region 8 with fail
  (try simp only [hy, hh])
  clear hd hy hh
  generalize hW : World.alloc _ _ = W1 at *
  have BE := Lib.hid (show EntBox W1 v3.heap.size (wk0 y h) from by rw [← hW]; exact EntBox.n1 v3 (wk0 y h) _ rfl)
  replace BC := Lib.hid (show CfgBox W1 w.heap.size ⟨A, b, P, n, a0_4⟩ from by rw [← hW]; exact BC.out.alloc BC.out.has _)
  replace BG := Lib.hid (show CfgBox W1 gb ⟨A, b, P, n, a0_4⟩ from by rw [← hW]; exact BG.out.alloc BG.out.has _)
  replace HB := Lib.hid (show Below w.heap.size w W1 from by rw [← hW]; exact HB.out.alloc HB.out.size _)
  generalize v3.heap.size = ge at *
  clear hW
  obtain ⟨c0, c1, c2, c3, c4, -⟩ := BC.out
  have hcl := BC.out.has
  have BGo := BG
  have BEo := BE
  go_upto_region 9 with (simp only [Hmk.out])
  have HR := Lib.hid (by have := make_row P (by omega) W1 W1.heap.size (Nat.le_refl _); rw [List.length_replicate] at this; exact this : (W1.alloc (.cells ((List.replicate P inp0).flatMap inpC).toArray 61)).ownsRow W1.heap.size 61 3 (.slice (some ⟨W1.heap.size, 0, none⟩) P P) P ((List.replicate P inp0).flatMap inpC))
  generalize hW : World.alloc _ _ = W3 at *
  replace BC := Lib.hid (show CfgBox W3 w.heap.size ⟨A, b, P, n, a0_4⟩ from by rw [← hW]; exact BC.out.alloc BC.out.has _)
  replace BG := Lib.hid (show CfgBox W3 gb ⟨A, b, P, n, a0_4⟩ from by rw [← hW]; exact BG.out.alloc BG.out.has _)
  replace BE := Lib.hid (show EntBox W3 ge (wk0 y h) from by rw [← hW]; exact BE.out.alloc BE.out.has _)
  replace HB := Lib.hid (show Below w.heap.size w W3 from by rw [← hW]; exact HB.out.alloc HB.out.size _)
  have hgc := BC.out.has
  have BGl := Lib.hid (show gb < W1.heap.size from BGo.out.has)
  have BEl := Lib.hid (show ge < W1.heap.size from BEo.out.has)
  have hcw : w.heap.size < W1.heap.size := hcl
  have hne1 : W1.heap.size ≠ w.heap.size := by omega
  clear hW c0 c1 c2 c3 c4 hcl
  obtain ⟨gr, cr, he, hgr, hgw, -, hcs, hfz⟩ := own_at_Inp HR.out (k := 0) (y := inp0) (by rw [List.getElem?_replicate, if_pos (by omega)])
  cases he
  simp only [Nat.zero_mul, Nat.add_zero] at hcs
  obtain ⟨z0, z1, z2⟩ := hcs
  have hP0 : 0 < P := by omega
  go_upto_region 10 with fail
  generalize hW : World.setCell _ _ _ = W4 at *
  have HI0 := Lib.hid (show W4.ownsRow W1.heap.size 61 3 (.slice (some ⟨W1.heap.size, 0, none⟩) P P) P (((List.replicate P inp0).set 0 ⟨d, 0, false⟩).flatMap inpC) from by rw [← hW]; exact row_set HR.out hP.1)
  replace BG := Lib.hid (show CfgBox W4 gb ⟨A, b, P, n, a0_4⟩ from by rw [← hW]; exact BG.out.far (by have := BGl.out; omega) _ _)
  replace BC := Lib.hid (show CfgBox W4 w.heap.size ⟨A, b, P, n, a0_4⟩ from by rw [← hW]; exact BC.out.far hne1 _ _)
  replace BE := Lib.hid (show EntBox W4 ge (wk0 y h) from by rw [← hW]; exact BE.out.far (by have := BEl.out; omega) _ _)
  replace HB := Lib.hid (show Below w.heap.size w W4 from by rw [← hW]; exact HB.out.setCell (Nat.le_of_lt hcw) _)
  have HI1 := Lib.hid (own_slP HI0.out Hx1.out : IsSl inpC W4 (.slice (some ⟨W1.heap.size, 0, none⟩) P P) ((List.replicate P inp0).set 0 ⟨d, 0, false⟩))
  generalize W1.heap.size = gr at *
  clear hW HR z0 z1 z2 hfz hgw hgr hne1 hgc
  have hgl := BG.out.has
  have hel := BE.out.has
  obtain ⟨g0, g1, g2, g3, g4, -⟩ := BG.out
  obtain ⟨e0, e1, e2, e3, e4, e5, e6, e7, e8, -⟩ := BE.out
  go_wp2_with fail
  refine (HS1.out _ _ _ (one_Ent _ (wk0 y h) _ 1 (by first | rfl | simp) (by omega)) (HI1.out.below ((Below.refl _ _).alloc (Nat.le_refl _) _))).mono ?_
  rintro e W5 ⟨⟨vl, vo, rfl, ho5, ho6⟩, hb⟩
  replace hb := unbox hb
  have HX := Lib.hid (owned_sl ho5)
  have HY := Lib.hid (owned_sl ho6)
  obtain ⟨A5, n5, rfl, -⟩ := owned_sl ho5
  obtain ⟨A6, n6, rfl, -⟩ := owned_sl ho6
  replace HB := Lib.hid (nextW HB.out hb)
  replace BG := Lib.hid (BG.out.nx hb)
  replace BC := Lib.hid (BC.out.nx hb)
  clear hb ho5 ho6 g0 g1 g2 g3 g4 e0 e1 e2 e3 e4 e5 e6 e7 e8 hgl hel HS1 BE HI0 HI1
  go_upto_region 11 with fail
  generalize hW : World.alloc _ _ = W6 at *
  have BS := Lib.hid (show RegBox W6 W5.heap.size ⟨6, .slice A5 X.length n5⟩ from by rw [← hW]; exact RegBox.n1 W5 ⟨6, .slice A5 X.length n5⟩ _ rfl)
  replace HB := Lib.hid (show Below w.heap.size w W6 from by rw [← hW]; exact HB.out.alloc HB.out.size _)
  replace BG := Lib.hid (show CfgBox W6 gb ⟨A, b, P, n, a0_4⟩ from by rw [← hW]; exact BG.out.alloc BG.out.has _)
  replace BC := Lib.hid (show CfgBox W6 w.heap.size ⟨A, b, P, n, a0_4⟩ from by rw [← hW]; exact BC.out.alloc BC.out.has _)
  have hal : Below W5.heap.size W5 W6 := by rw [← hW]; exact (Below.refl _ _).alloc (Nat.le_refl _) _
  replace HX := Lib.hid (HX.out.below hal)
  replace HY := Lib.hid (HY.out.below hal)
  generalize W5.heap.size = gs at *
  clear hW hal
  have hgl := BG.out.has
  have hsl := BS.out.has
  obtain ⟨g0, g1, g2, g3, g4, -⟩ := BG.out
  obtain ⟨s0, s1, -⟩ := BS.out
  go_wp2_with fail
  refine (HP1.out _ _ HX.out).mono ?_
  rintro e W7 ⟨Ab, nb, rfl, -, hb⟩
  replace HB := Lib.hid (nextW HB.out hb)
  replace BG := Lib.hid (BG.out.nx hb)
  replace BC := Lib.hid (BC.out.nx hb)
  replace HY := Lib.hid (HY.out.below hb)
  clear hb g0 g1 g2 g3 g4 s0 s1 hgl hsl HP1 BS HX
  have hw1 : wrap64 (d * 32) = d * 32 := IntWalk.wrap64_in _ (by omega)
  have hw2 : wrap64 (1023 + d * 32) = 1023 + d * 32 := IntWalk.wrap64_in _ (by omega)
  obtain ⟨bm, om, hAm, hc⟩ := elem_Crs HY.out.at (k := 0) rfl
  subst hAm
  simp only [Nat.zero_mul, Nat.add_zero] at hc
  obtain ⟨m0, m1, m2, m3, m4, m5, m6, m7, m8, m9, m10, m11, m12, m13, m14⟩ := hc
  dsimp only [wk1] at m0 m1 m2 m3 m4 m5 m6 m7 m8 m9 m10 m11 m12 m13 m14
  go_upto_region 14 with fail
  generalize hW : World.alloc _ _ = W8 at *
  have BS := Lib.hid (show RegBox W8 W7.heap.size ⟨6, .slice none 0 0⟩ from by rw [← hW]; exact RegBox.n1 W7 ⟨6, .slice none 0 0⟩ _ rfl)
  replace HB := Lib.hid (show Below w.heap.size w W8 from by rw [← hW]; exact HB.out.alloc HB.out.size _)
  replace BG := Lib.hid (show CfgBox W8 gb ⟨A, b, P, n, a0_4⟩ from by rw [← hW]; exact BG.out.alloc BG.out.has _)
  replace BC := Lib.hid (show CfgBox W8 w.heap.size ⟨A, b, P, n, a0_4⟩ from by rw [← hW]; exact BC.out.alloc BC.out.has _)
  have hal : Below W7.heap.size W7 W8 := by rw [← hW]; exact (Below.refl _ _).alloc (Nat.le_refl _) _
  replace HY := Lib.hid (HY.out.below hal)
  generalize W7.heap.size = gt at *
  clear hW hal m0 m1 m2 m3 m4 m5 m6 m7 m8 m9 m10 m11 m12 m13 m14 hw1 hw2
  have hgl := BG.out.has
  have hsl := BS.out.has
  obtain ⟨g0, g1, g2, g3, g4, -⟩ := BG.out
  obtain ⟨s0, s1, -⟩ := BS.out
  go_wp2_with fail
  refine (HP2.out _ _ HY.out).mono ?_
  rintro e Wa ⟨At, nt, rfl, hit, hb⟩
  have HT := Lib.hid hit
  replace HB := Lib.hid (nextW HB.out hb)
  replace BG := Lib.hid (BG.out.nx hb)
  replace BC := Lib.hid (BC.out.nx hb)
  replace BS := Lib.hid (BS.out.nx hb)
  have HI := Lib.hid (HY.out.below hb)
  clear hb hit g0 g1 g2 g3 g4 s0 s1 hgl hsl HP2 HY
  have hgl := BG.out.has
  have hsl := BS.out.has
  have hcl := BC.out.has
  obtain ⟨c0, c1, c2, c3, c4, -⟩ := BC.out
  obtain ⟨g0, g1, g2, g3, g4, -⟩ := BG.out
  obtain ⟨s0, s1, -⟩ := BS.out
  go_upto_region 15 with fail
  go_cut [18, 19, 20] (fun sA sB sC wx => ∃ blk A7 n7 A8 n8, sA = .pointer (some ⟨blk, 0, none⟩) ∧ sB = .slice A8 Y2.length n8 ∧ sC = .int .i64 0 ∧ RegBox wx blk ⟨7, .slice A7 X2.length n7⟩ ∧ IsSl entC wx (.slice A7 X2.length n7) X2 ∧ IsSl crsC wx (.slice A8 Y2.length n8) Y2 ∧ Below Wa.heap.size Wa wx)
  case first =>
    refine tree_region (S := (fun w' => (∀ b o, b < (Wa).heap.size → w'.cell? ⟨b, o, none⟩ = (Wa).cell? ⟨b, o, none⟩) ∧ (∀ b o, b < (Wa).heap.size → w'.frozen? ⟨b, o, none⟩ = (Wa).frozen? ⟨b, o, none⟩) ∧ Below (Wa).heap.size (Wa) w')) (.free 0 (.free 1 (.free 2 (.free 3 (.free 5 (.two 4 (.two 6 (.free 7 (.free 8 (.free 9 (.free 10 (.one 11 (.one 12 (.free 13 (.free 14 .done)))))))) 11 (.one 6 (.free 7 (.free 8 (.free 9 (.free 10 (.one 12 (.free 13 (.free 14 .done))))))))) 11 (.one 4 (.one 6 (.free 7 (.free 8 (.free 9 (.free 10 (.one 12 (.free 13 (.free 14 .done))))))))))))))) (by kernel_rfl) (by kernel_rfl) (fun _ _ d _ _ h => by cases d <;> exact h) (keepW0 _) (fun hS => ?_)
    simp only [written, List.getElem?_cons_succ, List.getElem?_cons_zero]
    refine rw_free (v := ?_) (by rfl) ?_ ?_; rotate_left 1; focus (intro w hSw; (try dsimp only at hSw); go_simp; (try with_reducible rfl))
    (try simp only [Act.put, tA, tB, tC])
    refine rw_free (v := ?_) (by rfl) ?_ ?_; rotate_left 1; focus (intro w hSw; (try dsimp only at hSw); go_simp; (try with_reducible rfl))
    (try simp only [Act.put, tA, tB, tC])
    refine rw_free (v := ?_) (by rfl) ?_ ?_; rotate_left 1; focus (intro w hSw; (try dsimp only at hSw); go_simp; (try with_reducible rfl))
    (try simp only [Act.put, tA, tB, tC])
    refine rw_free (v := ?_) (by rfl) ?_ ?_; rotate_left 1; focus (intro w hSw; (try dsimp only at hSw); go_simp; (try with_reducible rfl))
    (try simp only [Act.put, tA, tB, tC])
    refine rw_free (v := ?_) (by rfl) ?_ ?_; rotate_left 1; focus (intro w hSw; (try dsimp only at hSw); go_simp; (try with_reducible rfl))
    (try simp only [Act.put, tA, tB, tC])
    refine rw_two ?_ ?_
    · skip
      refine rw_call (by rfl) (fun K hK => ?_)
      go_simp
      (simp only [Hmk.out])
      (try go_wp2_with fail)
      refine hK.out _ _ ?_ (fun hS' => ?_)
      · (try dsimp only); first | exact keepW (by assumption) (by assumption) | exact keepB (by assumption) (by assumption) | exact keepA (by assumption) | assumption
      clear hS hK K
      have hS := hS'
      clear hS'
      (try simp only [Act.put, tA, tB, tC])
      refine rw_two ?_ ?_
      · skip
        refine rw_call (by rfl) (fun K hK => ?_)
        go_simp
        (refine (HS2.out _ _ _ _ (IsSl.nil _ _) (by first | with_reducible exact zrowN _ P (by omega) (by simp) | with_reducible exact zrowND _ P (by omega) (by simp) | with_reducible exact zrowNA _ _ P (by omega) (by simp) | with_reducible exact zrowNE _ _ P (by omega) (by simp)) (HI.out.below hS.2.2)).mono ?_; rintro e w5 ⟨⟨vl, vo, rfl, ho5, ho6⟩, hb5⟩; obtain ⟨A7, n7, rfl, -⟩ := owned_sl ho5; obtain ⟨A8, n8, rfl, -⟩ := owned_sl ho6)
        (try go_wp2_with fail)
        refine hK.out _ _ ?_ (fun hS' => ?_)
        · (try dsimp only); first | exact keepW (by assumption) (by assumption) | exact keepB (by assumption) (by assumption) | exact keepA (by assumption) | assumption
        clear hS hK K
        have hS := hS'
        clear hS'
        (try simp only [Act.put, tA, tB, tC])
        refine rw_free (v := ?_) (by rfl) ?_ ?_; rotate_left 1; focus (intro w hSw; (try dsimp only at hSw); go_simp; (try with_reducible rfl))
        (try simp only [Act.put, tA, tB, tC])
        refine rw_free (v := ?_) (by rfl) ?_ ?_; rotate_left 1; focus (intro w hSw; (try dsimp only at hSw); go_simp; (try with_reducible rfl))
        (try simp only [Act.put, tA, tB, tC])
        refine rw_free (v := ?_) (by rfl) ?_ ?_; rotate_left 1; focus (intro w hSw; (try dsimp only at hSw); go_simp; (try with_reducible rfl))
        (try simp only [Act.put, tA, tB, tC])
        refine rw_free (v := ?_) (by rfl) ?_ ?_; rotate_left 1; focus (intro w hSw; (try dsimp only at hSw); go_simp; (try with_reducible rfl))
        (try simp only [Act.put, tA, tB, tC])
        refine rw_call (by rfl) (fun K hK => ?_)
        go_simp
        (skip)
        (try go_wp2_with fail)
        refine hK.out _ _ ?_ (fun hS' => ?_)
        · (try dsimp only); first | exact keepW (by assumption) (by assumption) | exact keepB (by assumption) (by assumption) | exact keepA (by assumption) | assumption
        clear hS hK K
        have hS := hS'
        clear hS'
        (try simp only [Act.put, tA, tB, tC])
        first | (with_reducible have hs := (by first | exact RegBox.nx (zrA _ rfl) hb5 | exact RegBox.nx (zrB _ rfl) hb5 | exact RegBox.nx (zrC _ _ rfl) hb5 | exact RegBox.nx (zrD _ _ rfl) hb5 : RegBox w5 _ r0); (try simp only [World.size_alloc] at hs); have Hs := Lib.hid hs; obtain ⟨n0, n1, m0, m1⟩ := hs) | skip
        refine rw_call (by rfl) (fun K hK => ?_)
        go_simp
        (skip)
        (try go_wp2_with fail)
        refine hK.out _ _ ?_ (fun hS' => ?_)
        · (try dsimp only); first | (have _h := Hs.out; exact keepOf (RegBox.bel hS.2.2 ⟨7, .slice A7 X2.length n7⟩ (by first | exact Nat.le_refl _ | simp) rfl)) | exact keepOf (below_swap hS.2.2 (by have := hb5.size; simp at this; omega))
        clear hS hK K
        have hS := hS'
        clear hS'
        (try simp only [Act.put, tA, tB, tC])
        refine rw_free (v := ?_) (by rfl) ?_ ?_; rotate_left 1; focus (intro w hSw; (try dsimp only at hSw); go_simp; (try with_reducible rfl))
        (try simp only [Act.put, tA, tB, tC])
        refine rw_free (v := ?_) (by rfl) ?_ ?_; rotate_left 1; focus (intro w hSw; (try dsimp only at hSw); go_simp; (try with_reducible rfl))
        (try simp only [Act.put, tA, tB, tC])
        refine rw_done ?_
        (try clear n0 n1 m0 m1)
        go_wp2_with fail
        go_meet
        exact ⟨_, A7, n7, A8, n8, rfl, rfl, rfl, (by first | (have _h := Hs.out; exact _h.put ⟨7, .slice A7 X2.length n7⟩) | exact RegBox.n1 _ ⟨7, .slice A7 X2.length n7⟩ _ rfl), (by first | (have _h := Hs.out; exact owned_sl (own_old2 ho5 (by simp <;> omega) _ _)) | exact (owned_sl ho5).below ((Below.refl _ _).alloc (Nat.le_refl _) _)), (by first | (have _h := Hs.out; exact owned_sl (own_old2 ho6 (by simp <;> omega) _ _)) | exact (owned_sl ho6).below ((Below.refl _ _).alloc (Nat.le_refl _) _)), hS.2.2⟩
      · skip
        refine rw_call (by rfl) (fun K hK => ?_)
        go_simp
        (skip)
        (try go_wp2_with fail)
        refine hK.out _ _ ?_ (fun hS' => ?_)
        · (try dsimp only); first | exact keepW (by assumption) (by assumption) | exact keepB (by assumption) (by assumption) | exact keepA (by assumption) | assumption
        clear hS hK K
        have hS := hS'
        clear hS'
        (try simp only [Act.put, tA, tB, tC])
        refine rw_call (by rfl) (fun K hK => ?_)
        go_simp
        (refine (HS2.out _ _ _ _ (IsSl.nil _ _) (by first | with_reducible exact zrowN _ P (by omega) (by simp) | with_reducible exact zrowND _ P (by omega) (by simp) | with_reducible exact zrowNA _ _ P (by omega) (by simp) | with_reducible exact zrowNE _ _ P (by omega) (by simp)) (HI.out.below hS.2.2)).mono ?_; rintro e w5 ⟨⟨vl, vo, rfl, ho5, ho6⟩, hb5⟩; obtain ⟨A7, n7, rfl, -⟩ := owned_sl ho5; obtain ⟨A8, n8, rfl, -⟩ := owned_sl ho6)
        (try go_wp2_with fail)
        refine hK.out _ _ ?_ (fun hS' => ?_)
        · (try dsimp only); first | exact keepW (by assumption) (by assumption) | exact keepB (by assumption) (by assumption) | exact keepA (by assumption) | assumption
        clear hS hK K
        have hS := hS'
        clear hS'
        (try simp only [Act.put, tA, tB, tC])
        refine rw_free (v := ?_) (by rfl) ?_ ?_; rotate_left 1; focus (intro w hSw; (try dsimp only at hSw); go_simp; (try with_reducible rfl))
        (try simp only [Act.put, tA, tB, tC])
        refine rw_free (v := ?_) (by rfl) ?_ ?_; rotate_left 1; focus (intro w hSw; (try dsimp only at hSw); go_simp; (try with_reducible rfl))
        (try simp only [Act.put, tA, tB, tC])
        refine rw_free (v := ?_) (by rfl) ?_ ?_; rotate_left 1; focus (intro w hSw; (try dsimp only at hSw); go_simp; (try with_reducible rfl))
        (try simp only [Act.put, tA, tB, tC])
        refine rw_free (v := ?_) (by rfl) ?_ ?_; rotate_left 1; focus (intro w hSw; (try dsimp only at hSw); go_simp; (try with_reducible rfl))
        (try simp only [Act.put, tA, tB, tC])
        first | (with_reducible have hs := (by first | exact RegBox.nx (zrA _ rfl) hb5 | exact RegBox.nx (zrB _ rfl) hb5 | exact RegBox.nx (zrC _ _ rfl) hb5 | exact RegBox.nx (zrD _ _ rfl) hb5 : RegBox w5 _ r0); (try simp only [World.size_alloc] at hs); have Hs := Lib.hid hs; obtain ⟨n0, n1, m0, m1⟩ := hs) | skip
        refine rw_call (by rfl) (fun K hK => ?_)
        go_simp
        (skip)
        (try go_wp2_with fail)
        refine hK.out _ _ ?_ (fun hS' => ?_)
        · (try dsimp only); first | (have _h := Hs.out; exact keepOf (RegBox.bel hS.2.2 ⟨7, .slice A7 X2.length n7⟩ (by first | exact Nat.le_refl _ | simp) rfl)) | exact keepOf (below_swap hS.2.2 (by have := hb5.size; simp at this; omega))
        clear hS hK K
        have hS := hS'
        clear hS'
        (try simp only [Act.put, tA, tB, tC])
        refine rw_free (v := ?_) (by rfl) ?_ ?_; rotate_left 1; focus (intro w hSw; (try dsimp only at hSw); go_simp; (try with_reducible rfl))
        (try simp only [Act.put, tA, tB, tC])
        refine rw_free (v := ?_) (by rfl) ?_ ?_; rotate_left 1; focus (intro w hSw; (try dsimp only at hSw); go_simp; (try with_reducible rfl))
        (try simp only [Act.put, tA, tB, tC])
        refine rw_done ?_
        (try clear n0 n1 m0 m1)
        go_wp2_with fail
        go_meet
        exact ⟨_, A7, n7, A8, n8, rfl, rfl, rfl, (by first | (have _h := Hs.out; exact _h.put ⟨7, .slice A7 X2.length n7⟩) | exact RegBox.n1 _ ⟨7, .slice A7 X2.length n7⟩ _ rfl), (by first | (have _h := Hs.out; exact owned_sl (own_old2 ho5 (by simp <;> omega) _ _)) | exact (owned_sl ho5).below ((Below.refl _ _).alloc (Nat.le_refl _) _)), (by first | (have _h := Hs.out; exact owned_sl (own_old2 ho6 (by simp <;> omega) _ _)) | exact (owned_sl ho6).below ((Below.refl _ _).alloc (Nat.le_refl _) _)), hS.2.2⟩
    · skip
      refine rw_call (by rfl) (fun K hK => ?_)
      go_simp
      (skip)
      (try go_wp2_with fail)
      refine hK.out _ _ ?_ (fun hS' => ?_)
      · (try dsimp only); first | exact keepW (by assumption) (by assumption) | exact keepB (by assumption) (by assumption) | exact keepA (by assumption) | assumption
      clear hS hK K
      have hS := hS'
      clear hS'
      (try simp only [Act.put, tA, tB, tC])
      refine rw_call (by rfl) (fun K hK => ?_)
      go_simp
      (simp only [Hmk.out])
      (try go_wp2_with fail)
      refine hK.out _ _ ?_ (fun hS' => ?_)
      · (try dsimp only); first | exact keepW (by assumption) (by assumption) | exact keepB (by assumption) (by assumption) | exact keepA (by assumption) | assumption
      clear hS hK K
      have hS := hS'
      clear hS'
      (try simp only [Act.put, tA, tB, tC])
      refine rw_call (by rfl) (fun K hK => ?_)
      go_simp
      (refine (HS2.out _ _ _ _ (IsSl.nil _ _) (by first | with_reducible exact zrowN _ P (by omega) (by simp) | with_reducible exact zrowND _ P (by omega) (by simp) | with_reducible exact zrowNA _ _ P (by omega) (by simp) | with_reducible exact zrowNE _ _ P (by omega) (by simp)) (HI.out.below hS.2.2)).mono ?_; rintro e w5 ⟨⟨vl, vo, rfl, ho5, ho6⟩, hb5⟩; obtain ⟨A7, n7, rfl, -⟩ := owned_sl ho5; obtain ⟨A8, n8, rfl, -⟩ := owned_sl ho6)
      (try go_wp2_with fail)
      refine hK.out _ _ ?_ (fun hS' => ?_)
      · (try dsimp only); first | exact keepW (by assumption) (by assumption) | exact keepB (by assumption) (by assumption) | exact keepA (by assumption) | assumption
      clear hS hK K
      have hS := hS'
      clear hS'
      (try simp only [Act.put, tA, tB, tC])
      refine rw_free (v := ?_) (by rfl) ?_ ?_; rotate_left 1; focus (intro w hSw; (try dsimp only at hSw); go_simp; (try with_reducible rfl))
      (try simp only [Act.put, tA, tB, tC])
      refine rw_free (v := ?_) (by rfl) ?_ ?_; rotate_left 1; focus (intro w hSw; (try dsimp only at hSw); go_simp; (try with_reducible rfl))
      (try simp only [Act.put, tA, tB, tC])
      refine rw_free (v := ?_) (by rfl) ?_ ?_; rotate_left 1; focus (intro w hSw; (try dsimp only at hSw); go_simp; (try with_reducible rfl))
      (try simp only [Act.put, tA, tB, tC])
      refine rw_free (v := ?_) (by rfl) ?_ ?_; rotate_left 1; focus (intro w hSw; (try dsimp only at hSw); go_simp; (try with_reducible rfl))
      (try simp only [Act.put, tA, tB, tC])
      first | (with_reducible have hs := (by first | exact RegBox.nx (zrA _ rfl) hb5 | exact RegBox.nx (zrB _ rfl) hb5 | exact RegBox.nx (zrC _ _ rfl) hb5 | exact RegBox.nx (zrD _ _ rfl) hb5 : RegBox w5 _ r0); (try simp only [World.size_alloc] at hs); have Hs := Lib.hid hs; obtain ⟨n0, n1, m0, m1⟩ := hs) | skip
      refine rw_call (by rfl) (fun K hK => ?_)
      go_simp
      (skip)
      (try go_wp2_with fail)
      refine hK.out _ _ ?_ (fun hS' => ?_)
      · (try dsimp only); first | (have _h := Hs.out; exact keepOf (RegBox.bel hS.2.2 ⟨7, .slice A7 X2.length n7⟩ (by first | exact Nat.le_refl _ | simp) rfl)) | exact keepOf (below_swap hS.2.2 (by have := hb5.size; simp at this; omega))
      clear hS hK K
      have hS := hS'
      clear hS'
      (try simp only [Act.put, tA, tB, tC])
      refine rw_free (v := ?_) (by rfl) ?_ ?_; rotate_left 1; focus (intro w hSw; (try dsimp only at hSw); go_simp; (try with_reducible rfl))
      (try simp only [Act.put, tA, tB, tC])
      refine rw_free (v := ?_) (by rfl) ?_ ?_; rotate_left 1; focus (intro w hSw; (try dsimp only at hSw); go_simp; (try with_reducible rfl))
      (try simp only [Act.put, tA, tB, tC])
      refine rw_done ?_
      (try clear n0 n1 m0 m1)
      go_wp2_with fail
      go_meet
      exact ⟨_, A7, n7, A8, n8, rfl, rfl, rfl, (by first | (have _h := Hs.out; exact _h.put ⟨7, .slice A7 X2.length n7⟩) | exact RegBox.n1 _ ⟨7, .slice A7 X2.length n7⟩ _ rfl), (by first | (have _h := Hs.out; exact owned_sl (own_old2 ho5 (by simp <;> omega) _ _)) | exact (owned_sl ho5).below ((Below.refl _ _).alloc (Nat.le_refl _) _)), (by first | (have _h := Hs.out; exact owned_sl (own_old2 ho6 (by simp <;> omega) _ _)) | exact (owned_sl ho6).below ((Below.refl _ _).alloc (Nat.le_refl _) _)), hS.2.2⟩
  case rest =>
    obtain ⟨be, A7, n7, A8, n8, rfl, rfl, rfl, hbe, hsx, hsy, hb⟩ := hcut
    have BE := Lib.hid hbe
    have HX := Lib.hid hsx
    replace HB := Lib.hid (nextW HB.out hb)
    replace BG := Lib.hid (BG.out.nx hb)
    replace HT := Lib.hid (HT.out.below hb)
    clear hbe hsx hsy hb g0 g1 g2 g3 g4 s0 s1 c0 c1 c2 c3 c4 hgl hsl hcl HS2 HI BS BC
    have hgl := BG.out.has
    have hel := BE.out.has
    obtain ⟨g0, g1, g2, g3, g4, -⟩ := BG.out
    obtain ⟨e0, e1, -⟩ := BE.out
    go_wp2_with fail
    refine (HP3.out _ _ HX.out).mono ?_
    rintro e W9 ⟨Ak, nk, rfl, hik, hb⟩
    have HK := Lib.hid hik
    replace HB := Lib.hid (nextW HB.out hb)
    replace HT := Lib.hid (HT.out.below hb)
    clear hb hik g0 g1 g2 g3 g4 e0 e1 hgl hel HP3 HX BE BG
    have HPy := Lib.hid (fun A B n c d w ha hb hn => plain_yes A B n c d [1] w ha hb hn)
    go_wp2_with fail
    refine (HPy.out _ _ _ _ _ _ (HT.out.below ((Below.refl _ _).alloc (Nat.le_refl _) _)) (ints_new1 _ _ 1 _ (by rfl)) (by simp)).mono ?_
    rintro e W10 ⟨rfl, q, rfl⟩
    have hal : Below W9.heap.size W9 ((W9.alloc (.cells #[.int .i64 1] 3)).drewN q) := below_drewN ((Below.refl _ _).alloc (Nat.le_refl _) _) q
    replace HK := Lib.hid (HK.out.below hal)
    replace HB := Lib.hid (nextW HB.out hal)
    generalize World.drewN _ q = W11 at *
    clear hal HT
    go_wp2_with fail
    refine (HPy.out _ _ _ _ _ _ (HK.out.below ((Below.refl _ _).alloc (Nat.le_refl _) _)) (ints_new1 _ _ 1 _ (by rfl)) (by simp)).mono ?_
    rintro e W12 ⟨rfl, q2, rfl⟩
    have HB2 := Lib.hid (nextW HB.out (below_drewN ((Below.refl _ _).alloc (Nat.le_refl _) (.cells #[.int .i64 1] 3)) q2))
    go_wp2
    go_ret
    exact ⟨rfl, HB2.out⟩

set_option maxRecDepth 100000 in
theorem lifted (os : Os) (started : os.Started) (H : Type) (enc : TypeId × Value → H) :
    ReturnsInHanded {} Tryz.checked os 7 .any (Rows.regionLeavesSpec.pre6 enc Tryz.prog Tryz.f7 Rows.regionLeavesRow.domain false) (Rows.regionLeavesSpec.post enc Tryz.prog Tryz.f7 false true false false) := by
  refine returnsInHanded_of_change (C := Tryz.checked) own started (by kernel_rfl) Tryz.func7
    (ChangeSpec.witness6 (enc := enc) (C := Tryz.checked) false ⟨#[], #[.agg #[.int .i64 0, .int .i64 0, .int .i64 0, .int .i64 0, .int .u64 0], .int .i64 0, .int .i64 0, .int .i64 0], []⟩ 8 (by kernel_rfl) (by kernel_rfl) (by kernel_rfl) (by kernel_rfl)) ?_
  intro W base args ds gs before hval0 hW hcnd _
  have hval : ∀ (j : Nat) t v, Tryz.f7.params[j]? = some t → args[j]? = some v → Value.okWide Tryz.prog W .any base t v := hval0
  have hW' := hW
  obtain ⟨p, q, hA0, hV, rfl, hfz, hnd⟩ := hW
  have hA : DataW.TrodAll enc Tryz.prog W 0 (fun _ => true) true Tryz.f7.params.toList args.toList ds p := hA0
  rw [Tryz.params7] at hA hval
  obtain ⟨v0, vs0, d0, ds0, p0, q0, hargs, rfl, rfl, h0, r0⟩ := trodAll_cons hA
  obtain ⟨v1, vs1, d1, ds1, p1, q1, rfl, rfl, rfl, h1, r1⟩ := trodAll_cons r0
  obtain ⟨v2, vs2, d2, ds2, p2, q2, rfl, rfl, rfl, h2, r2⟩ := trodAll_cons r1
  obtain ⟨v3, vs3, d3, ds3, p3, q3, rfl, rfl, rfl, h3, r3⟩ := trodAll_cons r2
  obtain ⟨rfl, rfl, rfl⟩ := trodAll_nil r3
  obtain rfl : args = #[v0, v1, v2, v3] := by cases args; simp_all
  obtain ⟨rfl, rfl⟩ := trodVars_none hV
  obtain ⟨cs0, rfl, -⟩ := okWide_struct Tryz.underlying24 (hval 0 24 v0 rfl rfl)
  have k0 := h0
  have lt0 : ∀ x ∈ p0, x.block < W.heap.size := by obtain ⟨m, hm⟩ := k0; exact DataW.trod_lt m _ _ _ hm
  obtain ⟨fuel0, hf0⟩ := h0
  obtain ⟨l0⟩ := cs0
  obtain ⟨a0_0, a0_1, a0_2, a0_3, a0_4, rfl, w0_0, w0_1, w0_2, w0_3, w0_4⟩ := open_T24 (cs := l0) hf0
  obtain ⟨a1, rfl, rfl, rfl, w1⟩ := open_int Tryz.underlying3 (hval 1 3 v1 rfl rfl) h1
  obtain ⟨a2, rfl, rfl, rfl, w2⟩ := open_int Tryz.underlying3 (hval 2 3 v2 rfl rfl) h2
  obtain ⟨a3, rfl, rfl, rfl, w3⟩ := open_int Tryz.underlying3 (hval 3 3 v3 rfl rfl) h3
  clear hA0 hval0
  refine (walk a0_0 a0_1 a0_2 a0_3 a0_4 a1 a2 a3 W w0_0 w0_1 w0_2 w0_3 w0_4 w1 w2 w3).mono fun e W' ⟨he, bel⟩ => ?_
  subst he
  exact ⟨_, rfl, _, _, _, [], _, [], hW', trodAll_mk1 (shut_bool Tryz.underlying4 _), (trodAll_cons_mk (Below.trod laidOut (by kernel_rfl) (of_decide_eq_true (by kernel_rfl)) k0 bel lt0) (trodAll_cons_mk (shut_int Tryz.underlying3 w1) (trodAll_cons_mk (shut_int Tryz.underlying3 w2) (trodAll_cons_mk (shut_int Tryz.underlying3 w3) trodAll_mk0)))), rfl, bel.frame _, fun h => by cases h⟩

theorem over : Rows.regionLeavesRow.holds Tryz.pinned (OpenSpec.ofChange Rows.regionLeavesSpec) :=
  OpenClaim.holds_of_wide 7 Tryz.f7 rfl rfl rfl rfl rfl rfl rfl ⟨rfl, rfl, rfl, rfl, rfl⟩ rfl rfl rfl rfl rfl (by kernel_rfl) Tryz.func7 (by kernel_rfl)
    (of_decide_eq_true (by kernel_rfl)) (by unfold Func.isWrapper; first | (rw [if_pos (by decide +kernel)]; kernel_rfl) | (rw [if_neg (by decide +kernel)]; exact ⟨rfl, rfl⟩))
    (fun os started H enc _ => lifted os started H enc)

end Go.Proofs.YtbblpnmcbifocaaGreat.regionLeaves
namespace Go.Proofs.YtbblpnmcbifocaaGreat
theorem regionLeaves_proved : Rows.RegionLeavesSaid := regionLeaves.over
end Go.Proofs.YtbblpnmcbifocaaGreat
