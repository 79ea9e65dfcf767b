/- joustlaw04.InputCodes returns true for every input; no conditions. -/
import Derived.Test.YtaoncmgcpegogaaInTab
import Derived.Test.YtaoncmgcpegogaaRows
import Derived.WalkKit
import Derived.ProofKit
import Derived.OpenShut
import Derived.ShutString
import Derived.ChangeOld
import Derived.Below
namespace Go.Proofs.Ytaoncmgcpegogaa.inputCodes
open Go.ChangeShapes Go.WideShapes Go.ChangeAt Go.RowKit
open Go.ChangeMaps (open_string shut_string)
set_option linter.unusedVariables false

theorem own : ownKnob Try.prog.godebug = none := by kernel_rfl
theorem laidOut : laidOutB Try.prog = true := by kernel_rfl

theorem open_T23 {H : Type} {enc : TypeId × Value → H} {W : World} {fuel : Nat} {cs : List Value} {x : DataW H × List MemPlace} (h : DataW.trod enc Try.prog W 0 (fun _ => true) true fuel 23 cs = some x) :
    ∃ (a0 : Int) (a1 : Int) (a2 : Bool), cs = [.int .i64 a0, .int .i64 a1, .bool a2] ∧ (Lit.int .i64 a0).wf = true ∧ (Lit.int .i64 a1).wf = true := by
  obtain ⟨xs, n, -, -, hl, hxl, hg⟩ := DataW.trod_struct Try.underlying23 h
  have hl' : cs.length = 3 := hl.trans (by kernel_rfl)
  have c3 : Try.prog.cellsOf 3 = 1 := by kernel_rfl
  have c4 : Try.prog.cellsOf 4 = 1 := by kernel_rfl
  clear hl h
  match cs, hl' with
  | [z0, z1, z2], _ =>
    have g0 : DataW.trod enc Try.prog W 0 (fun _ => true) true n 3 (([z0, z1, z2].drop 0).take (Try.prog.cellsOf 3)) = xs[0]? := hg 0 _ rfl
    rw [c3, List.getElem?_eq_getElem (show 0 < xs.length by rw [hxl]; decide)] at g0
    have g1 : DataW.trod enc Try.prog W 0 (fun _ => true) true n 3 (([z0, z1, z2].drop 1).take (Try.prog.cellsOf 3)) = xs[1]? := hg 1 _ rfl
    rw [c3, List.getElem?_eq_getElem (show 1 < xs.length by rw [hxl]; decide)] at g1
    have g2 : DataW.trod enc Try.prog W 0 (fun _ => true) true n 4 (([z0, z1, z2].drop 2).take (Try.prog.cellsOf 4)) = xs[2]? := hg 2 _ rfl
    rw [c4, List.getElem?_eq_getElem (show 2 < xs.length by rw [hxl]; decide)] at g2
    obtain ⟨a0, e0, -, w0⟩ := DataW.trod_int (cs := [z0]) Try.underlying3 g0
    simp only [List.cons.injEq, and_true] at e0
    subst e0
    clear g0
    obtain ⟨a1, e1, -, w1⟩ := DataW.trod_int (cs := [z1]) Try.underlying3 g1
    simp only [List.cons.injEq, and_true] at e1
    subst e1
    clear g1
    obtain ⟨a2, e2, -⟩ := DataW.trod_bool (cs := [z2]) Try.underlying4 g2
    simp only [List.cons.injEq, and_true] at e2
    subst e2
    clear g2
    exact ⟨a0, a1, a2, rfl, w0, w1⟩

open Fx

theorem cod_zero {x y : Int} {f : Bool} (h : irt x y = false) : cod x y f = 0 := by unfold cod; rw [h]; rfl

theorem cod_same {x y u v : Int} {f g : Bool} (h : irt x y = true) (h2 : irt u v = true) : same x y f u v g = decide (cod x y f = cod u v g) := by
  obtain ⟨-, -, e1, e2, e3⟩ := cod_back (f := f) h
  obtain ⟨-, -, g1, g2, g3⟩ := cod_back (f := g) h2
  rw [Bool.eq_iff_iff]
  unfold same
  rw [decide_eq_true_iff, decide_eq_true_iff]
  constructor
  · rintro ⟨rfl, rfl, rfl⟩
    rfl
  · intro h
    rw [h] at e1 e2 e3
    exact ⟨e1.symm.trans g1, e2.symm.trans g2, e3.symm.trans g3⟩

set_option maxRecDepth 100000 in
set_option maxHeartbeats 1000000 in
theorem walk (a0_0 : Int) (a0_1 : Int) (a0_2 : Bool) (a1_0 : Int) (a1_1 : Int) (a1_2 : Bool) (w : World) (w0_0 : (Lit.int .i64 a0_0).wf = true) (w0_1 : (Lit.int .i64 a0_1).wf = true) (w1_0 : (Lit.int .i64 a1_0).wf = true) (w1_1 : (Lit.int .i64 a1_1).wf = true) :
    Calls Try.prog 6 #[.agg #[.int .i64 a0_0, .int .i64 a0_1, .bool a0_2], .agg #[.int .i64 a1_0, .int .i64 a1_1, .bool a1_2]] w fun e w' => e = .returned (.bool true) ∧ Below w.heap.size w w' := by
  clear w0_0 w0_1 w1_0 w1_1
  have hC := cod_bd a0_0 a0_1 a0_2
  have hD := cod_bd a1_0 a1_1 a1_2
  have H1 := Lib.hid (fun w => code_in a0_0 a0_1 a0_2 w)
  have H2 := Lib.hid (fun w => code_in a1_0 a1_1 a1_2 w)
  have H3 := Lib.hid (fun w => right_in a0_0 a0_1 a0_2 w)
  have H4 := Lib.hid (fun w => right_in a1_0 a1_1 a1_2 w)
  have H5 := Lib.hid awake_in
  have HX := Lib.hid (fun h h2 => cod_same (x := a0_0) (y := a0_1) (f := a0_2) (u := a1_0) (v := a1_1) (g := a1_2) h h2)
  have HZ := Lib.hid (fun h => cod_zero (x := a0_0) (y := a0_1) (f := a0_2) h)
  generalize irt a0_0 a0_1 = R at *
  generalize irt a1_0 a1_1 = R2 at *
  generalize cod a0_0 a0_1 a0_2 = C at *
  generalize cod a1_0 a1_1 a1_2 = D at *
  go_enter Try.func6, Try.ntmps6
  go_wp2_with fail
  obtain ⟨W, hW⟩ : ∃ W, W = (w.alloc (.cells #[.int .i64 a0_0, .int .i64 a0_1, .bool a0_2] 23)).alloc (.cells #[.int .i64 a1_0, .int .i64 a1_1, .bool a1_2] 23) := ⟨_, rfl⟩
  rw [← hW]
  have ca0 : (W).cell? ⟨w.heap.size, 0, none⟩ = some (.int .i64 a0_0) := by simp [hW, World.cell?_alloc_lt]
  have ca1 : (W).cell? ⟨w.heap.size, 1, none⟩ = some (.int .i64 a0_1) := by simp [hW, World.cell?_alloc_lt]
  have ca2 : (W).cell? ⟨w.heap.size, 2, none⟩ = some (.bool a0_2) := by simp [hW, World.cell?_alloc_lt]
  have cb0 : (W).cell? ⟨w.heap.size + 1, 0, none⟩ = some (.int .i64 a1_0) := by simp [hW]
  have cb1 : (W).cell? ⟨w.heap.size + 1, 1, none⟩ = some (.int .i64 a1_1) := by simp [hW]
  have cb2 : (W).cell? ⟨w.heap.size + 1, 2, none⟩ = some (.bool a1_2) := by simp [hW]
  have HB := Lib.hid (show Below w.heap.size w W from by
    rw [hW]
    exact ((Below.refl _ _).alloc (Nat.le_refl _) _).alloc (by simp) _)
  have hs1 : w.heap.size < W.heap.size := by rw [hW]; simp; omega
  have hs2 : w.heap.size + 1 < W.heap.size := by rw [hW]; simp
  clear hW
  refine plan_region' (S := (fun w' => (∀ b o, b < (W).heap.size → w'.cell? ⟨b, o, none⟩ = (W).cell? ⟨b, o, none⟩) ∧ (∀ b o, b < (W).heap.size → w'.frozen? ⟨b, o, none⟩ = (W).frozen? ⟨b, o, none⟩) ∧ Below (W).heap.size (W) w')) [(0, true), (2, true), (1, false), (3, false), (4, true), (5, true)] (by kernel_rfl) (by kernel_rfl) (fun _ _ d _ _ h => by cases d <;> exact h) (keepW0 _) (fun hS => ?_)
  simp only [picked, List.getElem?_cons_succ, List.getElem?_cons_zero, List.append_eq, List.cons_append, List.nil_append]
  refine row_free (v := ?_) (by rfl) ?_ ?_
  rotate_left 1
  focus (intro w hSw; (try dsimp only at hSw); go_simp; (try with_reducible rfl))
  (try simp only [Act.put, List.setIfInBounds_toArray, List.set_cons_zero, List.set_cons_succ])
  refine row_free (v := ?_) (by rfl) ?_ ?_
  rotate_left 1
  focus (intro w hSw; (try dsimp only at hSw); go_simp; (try with_reducible rfl))
  (try simp only [Act.put, List.setIfInBounds_toArray, List.set_cons_zero, List.set_cons_succ])
  refine row_call (by rfl) (fun K hK => ?_)
  go_simp
  (refine (H1.out _).mono ?_; rintro e w4 ⟨rfl, hb4⟩)
  (try go_wp2_with fail)
  refine hK.out _ _ ?_ (fun hS' => ?_)
  · (try dsimp only); exact keepW (by assumption) (by assumption)
  clear hS hK K
  have hS := hS'
  clear hS'
  (try simp only [Act.put, List.setIfInBounds_toArray, List.set_cons_zero, List.set_cons_succ])
  refine row_call (by rfl) (fun K hK => ?_)
  go_simp
  (refine (H2.out _).mono ?_; rintro e w4 ⟨rfl, hb4⟩)
  (try go_wp2_with fail)
  refine hK.out _ _ ?_ (fun hS' => ?_)
  · (try dsimp only); exact keepW (by assumption) (by assumption)
  clear hS hK K
  have hS := hS'
  clear hS'
  (try simp only [Act.put, List.setIfInBounds_toArray, List.set_cons_zero, List.set_cons_succ])
  refine row_free (v := ?_) (by rfl) ?_ ?_
  rotate_left 1
  focus (intro w hSw; (try dsimp only at hSw); go_simp; (try with_reducible rfl))
  (try simp only [Act.put, List.setIfInBounds_toArray, List.set_cons_zero, List.set_cons_succ])
  refine row_free (v := ?_) (by rfl) ?_ ?_
  rotate_left 1
  focus (intro w hSw; (try dsimp only at hSw); go_simp; (try with_reducible rfl))
  (try simp only [Act.put, List.setIfInBounds_toArray, List.set_cons_zero, List.set_cons_succ])
  refine row_done ?_
  have HS := Lib.hid hS
  obtain ⟨hSc, hSf, -⟩ := hS
  clear H1 H2
  go_wp2_with fail
  refine (H3.out _).mono ?_
  rintro e v5 ⟨rfl, hbv5⟩
  replace HS := Lib.hid (keepW hbv5 HS.out)
  clear hbv5 hSc hSf
  obtain ⟨hSc, hSf, -⟩ := HS.out
  cases R
  · obtain rfl := HZ.out rfl
    go_wp2_with fail
    refine (H5.out _).mono ?_
    rintro e v6 ⟨rfl, hbv6⟩
    replace HS := Lib.hid (keepW hbv6 HS.out)
    clear hbv6 hSc hSf
    obtain ⟨hSc, hSf, -⟩ := HS.out
    go_wp2_with fail
    refine (H3.out _).mono ?_
    rintro e v7 ⟨rfl, hbv7⟩
    replace HS := Lib.hid (keepW hbv7 HS.out)
    clear hbv7 hSc hSf
    obtain ⟨hSc, hSf, -⟩ := HS.out
    go_wp2
    go_ret
    exact ⟨rfl, HB.out.trans (HS.out.2.2.mono HB.out.size)⟩
  · cases R2
    · go_wp2_with fail
      refine (H4.out _).mono ?_
      rintro e v6 ⟨rfl, hbv6⟩
      replace HS := Lib.hid (keepW hbv6 HS.out)
      clear hbv6 hSc hSf
      obtain ⟨hSc, hSf, -⟩ := HS.out
      go_wp2_with fail
      refine (H5.out _).mono ?_
      rintro e v7 ⟨rfl, hbv7⟩
      replace HS := Lib.hid (keepW hbv7 HS.out)
      clear hbv7 hSc hSf
      obtain ⟨hSc, hSf, -⟩ := HS.out
      go_wp2_with fail
      refine (H3.out _).mono ?_
      rintro e v8 ⟨rfl, hbv8⟩
      replace HS := Lib.hid (keepW hbv8 HS.out)
      clear hbv8 hSc hSf
      obtain ⟨hSc, hSf, -⟩ := HS.out
      go_wp2
      go_ret
      exact ⟨rfl, HB.out.trans (HS.out.2.2.mono HB.out.size)⟩
    · have hq := HX.out rfl rfl
      by_cases hcd : C = D
      · subst hcd
        rw [decide_eq_true rfl] at hq
        go_wp2_with fail
        refine (H4.out _).mono ?_
        rintro e v6 ⟨rfl, hbv6⟩
        replace HS := Lib.hid (keepW hbv6 HS.out)
        clear hbv6 hSc hSf
        obtain ⟨hSc, hSf, -⟩ := HS.out
        go_wp2_with fail
        refine (H5.out _).mono ?_
        rintro e v7 ⟨rfl, hbv7⟩
        replace HS := Lib.hid (keepW hbv7 HS.out)
        clear hbv7 hSc hSf
        obtain ⟨hSc, hSf, -⟩ := HS.out
        go_wp2_with fail
        refine (H3.out _).mono ?_
        rintro e v8 ⟨rfl, hbv8⟩
        replace HS := Lib.hid (keepW hbv8 HS.out)
        clear hbv8 hSc hSf
        obtain ⟨hSc, hSf, -⟩ := HS.out
        go_wp2
        go_ret
        exact ⟨rfl, HB.out.trans (HS.out.2.2.mono HB.out.size)⟩
      · rw [decide_eq_false hcd] at hq
        have hcd' : (C == D) = false := by simpa using hcd
        go_wp2_with fail
        refine (H4.out _).mono ?_
        rintro e v6 ⟨rfl, hbv6⟩
        replace HS := Lib.hid (keepW hbv6 HS.out)
        clear hbv6 hSc hSf
        obtain ⟨hSc, hSf, -⟩ := HS.out
        go_wp2_with fail
        refine (H5.out _).mono ?_
        rintro e v7 ⟨rfl, hbv7⟩
        replace HS := Lib.hid (keepW hbv7 HS.out)
        clear hbv7 hSc hSf
        obtain ⟨hSc, hSf, -⟩ := HS.out
        go_wp2_with fail
        refine (H3.out _).mono ?_
        rintro e v8 ⟨rfl, hbv8⟩
        replace HS := Lib.hid (keepW hbv8 HS.out)
        clear hbv8 hSc hSf
        obtain ⟨hSc, hSf, -⟩ := HS.out
        go_wp2
        go_ret
        exact ⟨rfl, HB.out.trans (HS.out.2.2.mono HB.out.size)⟩

set_option maxRecDepth 100000 in
theorem lifted (os : Os) (started : os.Started) (H : Type) (enc : TypeId × Value → H) :
    ReturnsInHanded {} Try.checked os 6 .any (Rows.inputCodesSpec.pre6 enc Try.prog Try.f6 Rows.inputCodesRow.domain false) (Rows.inputCodesSpec.post enc Try.prog Try.f6 false true false false) := by
  refine returnsInHanded_of_change (C := Try.checked) own started (by kernel_rfl) Try.func6
    (ChangeSpec.witness6 (enc := enc) (C := Try.checked) false ⟨#[], #[.agg #[.int .i64 0, .int .i64 0, .bool false], .agg #[.int .i64 0, .int .i64 0, .bool false]], []⟩ 8 (by kernel_rfl) (by kernel_rfl) (by kernel_rfl) (by kernel_rfl)) ?_
  intro W base args ds gs before hval0 hW hcnd _
  have hval : ∀ (j : Nat) t v, Try.f6.params[j]? = some t → args[j]? = some v → Value.okWide Try.prog W .any base t v := hval0
  have hW' := hW
  obtain ⟨p, q, hA0, hV, rfl, hfz, hnd⟩ := hW
  have hA : DataW.TrodAll enc Try.prog W 0 (fun _ => true) true Try.f6.params.toList args.toList ds p := hA0
  rw [Try.params6] at hA hval
  obtain ⟨v0, vs0, d0, ds0, p0, q0, hargs, rfl, rfl, h0, r0⟩ := trodAll_cons hA
  obtain ⟨v1, vs1, d1, ds1, p1, q1, rfl, rfl, rfl, h1, r1⟩ := trodAll_cons r0
  obtain ⟨rfl, rfl, rfl⟩ := trodAll_nil r1
  obtain rfl : args = #[v0, v1] := by cases args; simp_all
  obtain ⟨rfl, rfl⟩ := trodVars_none hV
  obtain ⟨cs0, rfl, -⟩ := okWide_struct Try.underlying23 (hval 0 23 v0 rfl rfl)
  have k0 := h0
  have lt0 : ∀ x ∈ p0, x.block < W.heap.size := by obtain ⟨m, hm⟩ := k0; exact DataW.trod_lt m _ _ _ hm
  obtain ⟨fuel0, hf0⟩ := h0
  obtain ⟨l0⟩ := cs0
  obtain ⟨a0_0, a0_1, a0_2, rfl, w0_0, w0_1⟩ := open_T23 (cs := l0) hf0
  obtain ⟨cs1, rfl, -⟩ := okWide_struct Try.underlying23 (hval 1 23 v1 rfl rfl)
  have k1 := h1
  have lt1 : ∀ x ∈ p1, x.block < W.heap.size := by obtain ⟨m, hm⟩ := k1; exact DataW.trod_lt m _ _ _ hm
  obtain ⟨fuel1, hf1⟩ := h1
  obtain ⟨l1⟩ := cs1
  obtain ⟨a1_0, a1_1, a1_2, rfl, w1_0, w1_1⟩ := open_T23 (cs := l1) hf1
  clear hA0 hval0
  refine (walk a0_0 a0_1 a0_2 a1_0 a1_1 a1_2 W w0_0 w0_1 w1_0 w1_1).mono fun e W' ⟨he, bel⟩ => ?_
  subst he
  exact ⟨_, rfl, _, _, _, [], _, [], hW', trodAll_mk1 (shut_bool Try.underlying4 _), (trodAll_cons_mk (Below.trod laidOut (by kernel_rfl) (of_decide_eq_true (by kernel_rfl)) k0 bel lt0) (trodAll_cons_mk (Below.trod laidOut (by kernel_rfl) (of_decide_eq_true (by kernel_rfl)) k1 bel lt1) trodAll_mk0)), rfl, bel.frame _, fun h => by cases h⟩

theorem over : Rows.inputCodesRow.holds Try.pinned (OpenSpec.ofChange Rows.inputCodesSpec) :=
  OpenClaim.holds_of_wide 6 Try.f6 rfl rfl rfl rfl rfl rfl rfl ⟨rfl, rfl, rfl, rfl, rfl⟩ rfl rfl rfl rfl rfl (by kernel_rfl) Try.func6 (by kernel_rfl)
    (of_decide_eq_true (by kernel_rfl)) (by unfold Func.isWrapper; first | (rw [if_pos (by decide +kernel)]; kernel_rfl) | (rw [if_neg (by decide +kernel)]; exact ⟨rfl, rfl⟩))
    (fun os started H enc _ => lifted os started H enc)

end Go.Proofs.Ytaoncmgcpegogaa.inputCodes
namespace Go.Proofs.Ytaoncmgcpegogaa
theorem inputCodes_proved : Rows.InputCodesSaid := inputCodes.over
end Go.Proofs.Ytaoncmgcpegogaa
