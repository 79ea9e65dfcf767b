/- joustlaw04.InputBack returns true for every input; no conditions. -/
import Derived.Test.YtaoncmgcpegogaaInTab
import Derived.Test.YtaoncmgcpegogaaRows
import Derived.WalkKit
import Derived.ProofKit
import Derived.OpenShut
import Derived.ShutString
import Derived.ChangeOld
import Derived.Below
namespace Go.Proofs.Ytaoncmgcpegogaa.inputBack
open Go.ChangeShapes Go.WideShapes Go.ChangeAt Go.RowKit
open Go.ChangeMaps (open_string shut_string)
set_option linter.unusedVariables false

theorem own : ownKnob Try.prog.godebug = none := by kernel_rfl
theorem laidOut : laidOutB Try.prog = true := by kernel_rfl

theorem open_T23 {H : Type} {enc : TypeId × Value → H} {W : World} {fuel : Nat} {cs : List Value} {x : DataW H × List MemPlace} (h : DataW.trod enc Try.prog W 0 (fun _ => true) true fuel 23 cs = some x) :
    ∃ (a0 : Int) (a1 : Int) (a2 : Bool), cs = [.int .i64 a0, .int .i64 a1, .bool a2] ∧ (Lit.int .i64 a0).wf = true ∧ (Lit.int .i64 a1).wf = true := by
  obtain ⟨xs, n, -, -, hl, hxl, hg⟩ := DataW.trod_struct Try.underlying23 h
  have hl' : cs.length = 3 := hl.trans (by kernel_rfl)
  have c3 : Try.prog.cellsOf 3 = 1 := by kernel_rfl
  have c4 : Try.prog.cellsOf 4 = 1 := by kernel_rfl
  clear hl h
  match cs, hl' with
  | [z0, z1, z2], _ =>
    have g0 : DataW.trod enc Try.prog W 0 (fun _ => true) true n 3 (([z0, z1, z2].drop 0).take (Try.prog.cellsOf 3)) = xs[0]? := hg 0 _ rfl
    rw [c3, List.getElem?_eq_getElem (show 0 < xs.length by rw [hxl]; decide)] at g0
    have g1 : DataW.trod enc Try.prog W 0 (fun _ => true) true n 3 (([z0, z1, z2].drop 1).take (Try.prog.cellsOf 3)) = xs[1]? := hg 1 _ rfl
    rw [c3, List.getElem?_eq_getElem (show 1 < xs.length by rw [hxl]; decide)] at g1
    have g2 : DataW.trod enc Try.prog W 0 (fun _ => true) true n 4 (([z0, z1, z2].drop 2).take (Try.prog.cellsOf 4)) = xs[2]? := hg 2 _ rfl
    rw [c4, List.getElem?_eq_getElem (show 2 < xs.length by rw [hxl]; decide)] at g2
    obtain ⟨a0, e0, -, w0⟩ := DataW.trod_int (cs := [z0]) Try.underlying3 g0
    simp only [List.cons.injEq, and_true] at e0
    subst e0
    clear g0
    obtain ⟨a1, e1, -, w1⟩ := DataW.trod_int (cs := [z1]) Try.underlying3 g1
    simp only [List.cons.injEq, and_true] at e1
    subst e1
    clear g1
    obtain ⟨a2, e2, -⟩ := DataW.trod_bool (cs := [z2]) Try.underlying4 g2
    simp only [List.cons.injEq, and_true] at e2
    subst e2
    clear g2
    exact ⟨a0, a1, a2, rfl, w0, w1⟩

open Fx

theorem from_back' (b : Int) (h0 : 0 ≤ b) (h : b ≤ 49) : irt (fcx b) (fcy b) = true ∧ cod (fcx b) (fcy b) (fcf b) = b := by
  obtain ⟨k, rfl⟩ : ∃ k : Nat, b = k := ⟨b.toNat, by omega⟩
  exact from_back k (by omega)

set_option maxRecDepth 100000 in
set_option maxHeartbeats 1000000 in
theorem walk (a0_0 : Int) (a0_1 : Int) (a0_2 : Bool) (a1 : Int) (w : World) (w0_0 : (Lit.int .i64 a0_0).wf = true) (w0_1 : (Lit.int .i64 a0_1).wf = true) (w1 : (Lit.int .u8 a1).wf = true) :
    Calls Try.prog 4 #[.agg #[.int .i64 a0_0, .int .i64 a0_1, .bool a0_2], .int .u8 a1] w fun e w' => e = .returned (.bool true) ∧ Below w.heap.size w w' := by
  have b1 := bounds_u8 w1
  clear w0_0 w0_1 w1
  have hC := cod_bd a0_0 a0_1 a0_2
  have H1 := Lib.hid (fun w => code_in a0_0 a0_1 a0_2 w)
  have H2 := Lib.hid (fun w => from_in (cod a0_0 a0_1 a0_2) w hC.1 (by omega))
  have H3 := Lib.hid (fun w => from_in a1 w b1.1 b1.2)
  have H4 := Lib.hid awake_in
  have H5 := Lib.hid (fun w => rinput_in a0_0 a0_1 a0_2 w)
  have H6 := Lib.hid (fun w => right_in (fcx a1) (fcy a1) (fcf a1) w)
  have H7 := Lib.hid (fun w => code_in (fcx a1) (fcy a1) (fcf a1) w)
  have HX := Lib.hid (fun h => cod_back (x := a0_0) (y := a0_1) (f := a0_2) h)
  have HY := Lib.hid (from_back' a1 b1.1)
  rw [decide_eq_true hC.2] at H2
  generalize fcx a1 = X at *
  generalize fcy a1 = Y at *
  generalize fcf a1 = F at *
  generalize irt a0_0 a0_1 = R at *
  generalize cod a0_0 a0_1 a0_2 = C at *
  generalize fcx C = X1 at *
  generalize fcy C = Y1 at *
  generalize fcf C = F1 at *
  clear hC
  go_enter Try.func4, Try.ntmps4
  go_wp2_with fail
  refine (H1.out _).mono ?_
  rintro e v0 ⟨rfl, hbv0⟩
  obtain ⟨hcv0, hfv0⟩ := bcell hbv0
  have hzv0 : w.heap.size < v0.heap.size := by have := hbv0.size; (try simp at this); omega
  have Hbv0 := Lib.hid hbv0
  clear hbv0
  go_wp2_with fail
  refine (H2.out _).mono ?_
  rintro e v1 ⟨rfl, hbv1⟩
  obtain ⟨hcv1, hfv1⟩ := bcell hbv1
  have hzv1 : w.heap.size < v1.heap.size := by have := hbv1.size; (try simp at this); omega
  have Hbv1 := Lib.hid hbv1
  clear hbv1
  go_wp2_with fail
  refine (H3.out _).mono ?_
  rintro e v2 ⟨rfl, hbv2⟩
  obtain ⟨hcv2, hfv2⟩ := bcell hbv2
  have hzv2 : w.heap.size < v2.heap.size := by have := hbv2.size; (try simp at this); omega
  have Hbv2 := Lib.hid hbv2
  clear hbv2
  go_wp2_with fail
  refine (H4.out _).mono ?_
  rintro e v3 ⟨rfl, hbv3⟩
  obtain ⟨hcv3, hfv3⟩ := bcell hbv3
  have hzv3 : w.heap.size < v3.heap.size := by have := hbv3.size; (try simp at this); omega
  have Hbv3 := Lib.hid hbv3
  clear hbv3
  go_wp2_with fail
  have hz3 : w.heap.size < v1.heap.size + 1 := by omega
  have hz4 : v1.heap.size < v2.heap.size := by have := Hbv2.out.size; simp at this; omega
  have hz5 : v2.heap.size < v3.heap.size := by have := Hbv3.out.size; simp at this; omega
  have hz6 : w.heap.size < v2.heap.size + 1 := by omega
  have hz7 : v1.heap.size < v2.heap.size + 1 := by omega
  have ci0 : (v3).cell? ⟨w.heap.size, 0, none⟩ = some (.int .i64 a0_0) := by simp [hcv3, hcv2, hcv1, hcv0, hzv0, hzv1, hzv2, hz3, hz6, World.cell?_alloc_lt]
  have ci1 : (v3).cell? ⟨w.heap.size, 1, none⟩ = some (.int .i64 a0_1) := by simp [hcv3, hcv2, hcv1, hcv0, hzv0, hzv1, hzv2, hz3, hz6, World.cell?_alloc_lt]
  have ci2 : (v3).cell? ⟨w.heap.size, 2, none⟩ = some (.bool a0_2) := by simp [hcv3, hcv2, hcv1, hcv0, hzv0, hzv1, hzv2, hz3, hz6, World.cell?_alloc_lt]
  have cx0 : (v3).cell? ⟨v1.heap.size, 0, none⟩ = some (.int .i64 X1) := by simp [hcv3, hcv2, hz4, hz7, World.cell?_alloc_lt]
  have cx1 : (v3).cell? ⟨v1.heap.size, 1, none⟩ = some (.int .i64 Y1) := by simp [hcv3, hcv2, hz4, hz7, World.cell?_alloc_lt]
  have cx2 : (v3).cell? ⟨v1.heap.size, 2, none⟩ = some (.bool F1) := by simp [hcv3, hcv2, hz4, hz7, World.cell?_alloc_lt]
  have cy0 : (v3).cell? ⟨v2.heap.size, 0, none⟩ = some (.int .i64 X) := by simp [hcv3]
  have cy1 : (v3).cell? ⟨v2.heap.size, 1, none⟩ = some (.int .i64 Y) := by simp [hcv3]
  have cy2 : (v3).cell? ⟨v2.heap.size, 2, none⟩ = some (.bool F) := by simp [hcv3]
  have HB := Lib.hid (show Below w.heap.size w v3 from
    (((unbox Hbv0.out).trans (Hbv1.out.mono (by omega))).trans ((unbox Hbv2.out).mono (by omega))).trans ((unbox Hbv3.out).mono (by omega)))
  have hs1 : w.heap.size < v3.heap.size := by omega
  have hs2 : v1.heap.size < v3.heap.size := by omega
  clear hcv0 hfv0 hcv1 hfv1 hcv2 hfv2 hcv3 hfv3 Hbv0 Hbv1 Hbv2 Hbv3 H1 H2 H3 H4
  go_wp2_with fail
  refine (H5.out _).mono ?_
  rintro e v4 ⟨rfl, hbv4⟩
  obtain ⟨hcv4, hfv4⟩ := bcell hbv4
  have hzv4 : w.heap.size < v4.heap.size := by have := hbv4.size; (try simp at this); omega
  have Hbv4 := Lib.hid hbv4
  clear hbv4
  have HB4 := Lib.hid (HB.out.trans (Hbv4.out.mono HB.out.size))
  have hs3 := Hbv4.out.size
  have cx0' : v4.cell? ⟨v1.heap.size, 0, none⟩ = some (.int .i64 X1) := by rw [hcv4 _ _ hs2]; exact cx0
  have cx1' : v4.cell? ⟨v1.heap.size, 1, none⟩ = some (.int .i64 Y1) := by rw [hcv4 _ _ hs2]; exact cx1
  have cx2' : v4.cell? ⟨v1.heap.size, 2, none⟩ = some (.bool F1) := by rw [hcv4 _ _ hs2]; exact cx2
  have ci0' : v4.cell? ⟨w.heap.size, 0, none⟩ = some (.int .i64 a0_0) := by rw [hcv4 _ _ hs1]; exact ci0
  have ci1' : v4.cell? ⟨w.heap.size, 1, none⟩ = some (.int .i64 a0_1) := by rw [hcv4 _ _ hs1]; exact ci1
  have ci2' : v4.cell? ⟨w.heap.size, 2, none⟩ = some (.bool a0_2) := by rw [hcv4 _ _ hs1]; exact ci2
  have cy0' : v4.cell? ⟨v2.heap.size, 0, none⟩ = some (.int .i64 X) := by rw [hcv4 _ _ hz5]; exact cy0
  have cy1' : v4.cell? ⟨v2.heap.size, 1, none⟩ = some (.int .i64 Y) := by rw [hcv4 _ _ hz5]; exact cy1
  have cy2' : v4.cell? ⟨v2.heap.size, 2, none⟩ = some (.bool F) := by rw [hcv4 _ _ hz5]; exact cy2
  clear cx0 cx1 cx2 ci0 ci1 ci2 cy0 cy1 cy2 hcv4 hfv4 Hbv4
  by_cases hb : a1 ≤ 49
  · obtain ⟨y1, y2⟩ := HY.out hb
    rw [y1] at H6
    rw [y2] at H7
    have hbd : decide (a1 ≤ 49) = true := decide_eq_true hb
    clear y1 y2
    cases R
    · go_wp2_with fail
      refine (H6.out _).mono ?_
      rintro e v5 ⟨rfl, hbv5⟩
      obtain ⟨hcv5, hfv5⟩ := bcell hbv5
      have hzv5 : w.heap.size < v5.heap.size := by have := hbv5.size; (try simp at this); omega
      have Hbv5 := Lib.hid hbv5
      clear hbv5
      have cz0 : v5.cell? ⟨v2.heap.size, 0, none⟩ = some (.int .i64 X) := by rw [hcv5 _ _ (by omega)]; exact cy0'
      have cz1 : v5.cell? ⟨v2.heap.size, 1, none⟩ = some (.int .i64 Y) := by rw [hcv5 _ _ (by omega)]; exact cy1'
      have cz2 : v5.cell? ⟨v2.heap.size, 2, none⟩ = some (.bool F) := by rw [hcv5 _ _ (by omega)]; exact cy2'
      go_wp2_with fail
      refine (H7.out _).mono ?_
      rintro e v6 ⟨rfl, hbv6⟩
      obtain ⟨hcv6, hfv6⟩ := bcell hbv6
      have hzv6 : w.heap.size < v6.heap.size := by have := hbv6.size; (try simp at this); omega
      have Hbv6 := Lib.hid hbv6
      clear hbv6
      go_wp2
      go_ret
      exact ⟨rfl, (HB4.out.trans (Hbv5.out.mono HB4.out.size)).trans (Hbv6.out.mono (Nat.le_trans HB4.out.size Hbv5.out.size))⟩
    · obtain ⟨-, -, rfl, rfl, rfl⟩ := HX.out rfl
      go_wp2_with fail
      refine (H6.out _).mono ?_
      rintro e v5 ⟨rfl, hbv5⟩
      obtain ⟨hcv5, hfv5⟩ := bcell hbv5
      have hzv5 : w.heap.size < v5.heap.size := by have := hbv5.size; (try simp at this); omega
      have Hbv5 := Lib.hid hbv5
      clear hbv5
      have cz0 : v5.cell? ⟨v2.heap.size, 0, none⟩ = some (.int .i64 X) := by rw [hcv5 _ _ (by omega)]; exact cy0'
      have cz1 : v5.cell? ⟨v2.heap.size, 1, none⟩ = some (.int .i64 Y) := by rw [hcv5 _ _ (by omega)]; exact cy1'
      have cz2 : v5.cell? ⟨v2.heap.size, 2, none⟩ = some (.bool F) := by rw [hcv5 _ _ (by omega)]; exact cy2'
      go_wp2_with fail
      refine (H7.out _).mono ?_
      rintro e v6 ⟨rfl, hbv6⟩
      obtain ⟨hcv6, hfv6⟩ := bcell hbv6
      have hzv6 : w.heap.size < v6.heap.size := by have := hbv6.size; (try simp at this); omega
      have Hbv6 := Lib.hid hbv6
      clear hbv6
      go_wp2
      go_ret
      exact ⟨rfl, (HB4.out.trans (Hbv5.out.mono HB4.out.size)).trans (Hbv6.out.mono (Nat.le_trans HB4.out.size Hbv5.out.size))⟩
  · have hbd : decide (a1 ≤ 49) = false := decide_eq_false hb
    cases R
    · go_wp2
      go_ret
      exact ⟨rfl, HB4.out⟩
    · obtain ⟨-, -, rfl, rfl, rfl⟩ := HX.out rfl
      go_wp2
      go_ret
      exact ⟨rfl, HB4.out⟩

set_option maxRecDepth 100000 in
theorem lifted (os : Os) (started : os.Started) (H : Type) (enc : TypeId × Value → H) :
    ReturnsInHanded {} Try.checked os 4 .any (Rows.inputBackSpec.pre6 enc Try.prog Try.f4 Rows.inputBackRow.domain false) (Rows.inputBackSpec.post enc Try.prog Try.f4 false true false false) := by
  refine returnsInHanded_of_change (C := Try.checked) own started (by kernel_rfl) Try.func4
    (ChangeSpec.witness6 (enc := enc) (C := Try.checked) false ⟨#[], #[.agg #[.int .i64 0, .int .i64 0, .bool false], .int .u8 0], []⟩ 8 (by kernel_rfl) (by kernel_rfl) (by kernel_rfl) (by kernel_rfl)) ?_
  intro W base args ds gs before hval0 hW hcnd _
  have hval : ∀ (j : Nat) t v, Try.f4.params[j]? = some t → args[j]? = some v → Value.okWide Try.prog W .any base t v := hval0
  have hW' := hW
  obtain ⟨p, q, hA0, hV, rfl, hfz, hnd⟩ := hW
  have hA : DataW.TrodAll enc Try.prog W 0 (fun _ => true) true Try.f4.params.toList args.toList ds p := hA0
  rw [Try.params4] at hA hval
  obtain ⟨v0, vs0, d0, ds0, p0, q0, hargs, rfl, rfl, h0, r0⟩ := trodAll_cons hA
  obtain ⟨v1, vs1, d1, ds1, p1, q1, rfl, rfl, rfl, h1, r1⟩ := trodAll_cons r0
  obtain ⟨rfl, rfl, rfl⟩ := trodAll_nil r1
  obtain rfl : args = #[v0, v1] := by cases args; simp_all
  obtain ⟨rfl, rfl⟩ := trodVars_none hV
  obtain ⟨cs0, rfl, -⟩ := okWide_struct Try.underlying23 (hval 0 23 v0 rfl rfl)
  have k0 := h0
  have lt0 : ∀ x ∈ p0, x.block < W.heap.size := by obtain ⟨m, hm⟩ := k0; exact DataW.trod_lt m _ _ _ hm
  obtain ⟨fuel0, hf0⟩ := h0
  obtain ⟨l0⟩ := cs0
  obtain ⟨a0_0, a0_1, a0_2, rfl, w0_0, w0_1⟩ := open_T23 (cs := l0) hf0
  obtain ⟨a1, rfl, rfl, rfl, w1⟩ := open_int Try.underlying5 (hval 1 5 v1 rfl rfl) h1
  clear hA0 hval0
  refine (walk a0_0 a0_1 a0_2 a1 W w0_0 w0_1 w1).mono fun e W' ⟨he, bel⟩ => ?_
  subst he
  exact ⟨_, rfl, _, _, _, [], _, [], hW', trodAll_mk1 (shut_bool Try.underlying4 _), (trodAll_cons_mk (Below.trod laidOut (by kernel_rfl) (of_decide_eq_true (by kernel_rfl)) k0 bel lt0) (trodAll_cons_mk (shut_int Try.underlying5 w1) trodAll_mk0)), rfl, bel.frame _, fun h => by cases h⟩

theorem over : Rows.inputBackRow.holds Try.pinned (OpenSpec.ofChange Rows.inputBackSpec) :=
  OpenClaim.holds_of_wide 4 Try.f4 rfl rfl rfl rfl rfl rfl rfl ⟨rfl, rfl, rfl, rfl, rfl⟩ rfl rfl rfl rfl rfl (by kernel_rfl) Try.func4 (by kernel_rfl)
    (of_decide_eq_true (by kernel_rfl)) (by unfold Func.isWrapper; first | (rw [if_pos (by decide +kernel)]; kernel_rfl) | (rw [if_neg (by decide +kernel)]; exact ⟨rfl, rfl⟩))
    (fun os started H enc _ => lifted os started H enc)

end Go.Proofs.Ytaoncmgcpegogaa.inputBack
namespace Go.Proofs.Ytaoncmgcpegogaa
theorem inputBack_proved : Rows.InputBackSaid := inputBack.over
end Go.Proofs.Ytaoncmgcpegogaa
