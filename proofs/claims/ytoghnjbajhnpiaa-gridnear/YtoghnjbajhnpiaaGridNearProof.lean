/- joustlaw03.GridNear returns true for every input; no conditions. -/
import Derived.Test.YtoghnjbajhnpiaaGrLaw
import Derived.Test.YtoghnjbajhnpiaaRows
import Derived.WalkKit
import Derived.ProofKit
import Derived.OpenShut
import Derived.ShutString
import Derived.ChangeOld
import Derived.Below
namespace Go.Proofs.Ytoghnjbajhnpiaa.gridNear
open Go.ChangeShapes Go.WideShapes Go.ChangeAt Go.RowKit
open Go.ChangeMaps (open_string shut_string)
set_option linter.unusedVariables false

theorem own : ownKnob Try.prog.godebug = none := by kernel_rfl
theorem laidOut : laidOutB Try.prog = true := by kernel_rfl

theorem open_T24 {H : Type} {enc : TypeId × Value → H} {W : World} {fuel : Nat} {cs : List Value} {x : DataW H × List MemPlace} (h : DataW.trod enc Try.prog W 0 (fun _ => true) true fuel 24 cs = some x) :
    ∃ (a0 : Int) (a1 : Int) (a2 : Int) (a3 : Int) (a4 : Int), cs = [.int .i64 a0, .int .i64 a1, .int .i64 a2, .int .i64 a3, .int .u64 a4] ∧ (Lit.int .i64 a0).wf = true ∧ (Lit.int .i64 a1).wf = true ∧ (Lit.int .i64 a2).wf = true ∧ (Lit.int .i64 a3).wf = true ∧ (Lit.int .u64 a4).wf = true := by
  obtain ⟨xs, n, -, -, hl, hxl, hg⟩ := DataW.trod_struct Try.underlying24 h
  have hl' : cs.length = 5 := hl.trans (by kernel_rfl)
  have c3 : Try.prog.cellsOf 3 = 1 := by kernel_rfl
  have c22 : Try.prog.cellsOf 22 = 1 := by kernel_rfl
  clear hl h
  match cs, hl' with
  | [z0, z1, z2, z3, z4], _ =>
    have g0 : DataW.trod enc Try.prog W 0 (fun _ => true) true n 3 (([z0, z1, z2, z3, z4].drop 0).take (Try.prog.cellsOf 3)) = xs[0]? := hg 0 _ rfl
    rw [c3, List.getElem?_eq_getElem (show 0 < xs.length by rw [hxl]; decide)] at g0
    have g1 : DataW.trod enc Try.prog W 0 (fun _ => true) true n 3 (([z0, z1, z2, z3, z4].drop 1).take (Try.prog.cellsOf 3)) = xs[1]? := hg 1 _ rfl
    rw [c3, List.getElem?_eq_getElem (show 1 < xs.length by rw [hxl]; decide)] at g1
    have g2 : DataW.trod enc Try.prog W 0 (fun _ => true) true n 3 (([z0, z1, z2, z3, z4].drop 2).take (Try.prog.cellsOf 3)) = xs[2]? := hg 2 _ rfl
    rw [c3, List.getElem?_eq_getElem (show 2 < xs.length by rw [hxl]; decide)] at g2
    have g3 : DataW.trod enc Try.prog W 0 (fun _ => true) true n 3 (([z0, z1, z2, z3, z4].drop 3).take (Try.prog.cellsOf 3)) = xs[3]? := hg 3 _ rfl
    rw [c3, List.getElem?_eq_getElem (show 3 < xs.length by rw [hxl]; decide)] at g3
    have g4 : DataW.trod enc Try.prog W 0 (fun _ => true) true n 22 (([z0, z1, z2, z3, z4].drop 4).take (Try.prog.cellsOf 22)) = xs[4]? := hg 4 _ rfl
    rw [c22, List.getElem?_eq_getElem (show 4 < xs.length by rw [hxl]; decide)] at g4
    obtain ⟨a0, e0, -, w0⟩ := DataW.trod_int (cs := [z0]) Try.underlying3 g0
    simp only [List.cons.injEq, and_true] at e0
    subst e0
    clear g0
    obtain ⟨a1, e1, -, w1⟩ := DataW.trod_int (cs := [z1]) Try.underlying3 g1
    simp only [List.cons.injEq, and_true] at e1
    subst e1
    clear g1
    obtain ⟨a2, e2, -, w2⟩ := DataW.trod_int (cs := [z2]) Try.underlying3 g2
    simp only [List.cons.injEq, and_true] at e2
    subst e2
    clear g2
    obtain ⟨a3, e3, -, w3⟩ := DataW.trod_int (cs := [z3]) Try.underlying3 g3
    simp only [List.cons.injEq, and_true] at e3
    subst e3
    clear g3
    obtain ⟨a4, e4, -, w4⟩ := DataW.trod_int (cs := [z4]) Try.underlying22 g4
    simp only [List.cons.injEq, and_true] at e4
    subst e4
    clear g4
    exact ⟨a0, a1, a2, a3, a4, rfl, w0, w1, w2, w3, w4⟩

open Fx

theorem walk (a0_0 : Int) (a0_1 : Int) (a0_2 : Int) (a0_3 : Int) (a0_4 : Int) (a1 : Int) (a2 : Int) (w : World) (w0_0 : (Lit.int .i64 a0_0).wf = true) (w0_1 : (Lit.int .i64 a0_1).wf = true) (w0_2 : (Lit.int .i64 a0_2).wf = true) (w0_3 : (Lit.int .i64 a0_3).wf = true) (w0_4 : (Lit.int .u64 a0_4).wf = true) (w1 : (Lit.int .i64 a1).wf = true) (w2 : (Lit.int .i64 a2).wf = true) :
    Calls Try.prog 4 #[.agg #[.int .i64 a0_0, .int .i64 a0_1, .int .i64 a0_2, .int .i64 a0_3, .int .u64 a0_4], .int .i64 a1, .int .i64 a2] w fun e w' => e = .returned (.bool true) ∧ Below w.heap.size w w' := by
  have b1 := bounds_i64 w1
  have b2 := bounds_i64 w2
  clear w0_0 w0_1 w0_2 w0_3 w0_4 w1 w2
  go_enter Try.func4, Try.ntmps4
  go_wp2_with fail
  refine (config_any _ _ _ _ _ _).mono ?_
  rintro e w1 ⟨a, b, p, n, rfl, hsm, hb1⟩
  obtain ⟨hrt, ha3, hb3, hp4⟩ := hsm
  obtain ⟨hc1, hf1⟩ := bcell hb1
  have hz1 : w.heap.size < w1.heap.size := by have := hb1.size; simp at this; omega
  have Hb1 := Lib.hid hb1
  have HN := Lib.hid (fun w => new_yes a b p n a0_4 w hrt)
  have Hrt := Lib.hid hrt
  clear hb1 hrt
  go_wp2_with fail
  refine (HN.out _).mono ?_
  rintro e w2 ⟨rfl, hb2⟩
  have Hb2 := Lib.hid (show Below w.heap.size w w2 from ((((((unbox Hb1.out).setCell (Nat.le_refl _) _).setCell (Nat.le_refl _) _).setCell (Nat.le_refl _) _).setCell (Nat.le_refl _) _).setCell (Nat.le_refl _) _).trans (hb2.mono (by simp [World.setCell]; omega)))
  clear hb2 hc1 hf1 hz1 Hb1 HN
  have hz2 : w.heap.size ≤ w2.heap.size := Hb2.out.size
  go_wp2_with fail
  refine (awake_any _).mono ?_
  rintro e w3 ⟨rfl, hbw3⟩
  obtain ⟨hcw3, hfw3⟩ := bcell hbw3
  have Hbw3 := Lib.hid hbw3
  clear hbw3
  have Hb3 := Lib.hid (show Below w.heap.size w w3 from Hb2.out.trans ((unbox Hbw3.out).mono hz2))
  have hzw3 : w2.heap.size < w3.heap.size := by have := Hbw3.out.size; (try simp at this); omega
  obtain ⟨r1, r2, r3, r4, r5, r6, r7, r8⟩ := rt_bd Hrt.out
  have hR : 1 ≤ a * b ∧ a * b ≤ 9 := by
    have : a = 1 ∨ a = 2 ∨ a = 3 := by omega
    rcases this with rfl | rfl | rfl <;> omega
  have HR := Lib.hid (fun w => regions_any a b p n a0_4 w)
  have hre : regs a b p n = a * b := by unfold regs; rw [if_pos Hrt.out]
  rw [hre] at HR
  have Hre := Lib.hid hre
  clear hre
  generalize a * b = R at *
  go_wp2_with fail
  have c0 : w3.cell? ⟨w2.heap.size, 0, none⟩ = some (.int .i64 a) := by rw [hcw3 _ _ (by simp)]; simp
  have c1 : w3.cell? ⟨w2.heap.size, 1, none⟩ = some (.int .i64 b) := by rw [hcw3 _ _ (by simp)]; simp
  have c2 : w3.cell? ⟨w2.heap.size, 2, none⟩ = some (.int .i64 p) := by rw [hcw3 _ _ (by simp)]; simp
  have c3 : w3.cell? ⟨w2.heap.size, 3, none⟩ = some (.int .i64 n) := by rw [hcw3 _ _ (by simp)]; simp
  have c4 : w3.cell? ⟨w2.heap.size, 4, none⟩ = some (.int .u64 a0_4) := by rw [hcw3 _ _ (by simp)]; simp
  clear hcw3 hfw3
  have e1 : IntKind.u64.wrap R = R := by rw [IntKind.wrap_u64]; omega
  have e2 : (R == 0) = false := beq_eq_false_iff_ne.2 (by omega)
  have e3 : ¬ R = 0 := by omega
  go_region_held3 (fun w' => w'.cell? ⟨w2.heap.size, 0, none⟩ = some (.int .i64 a) ∧ w'.cell? ⟨w2.heap.size, 1, none⟩ = some (.int .i64 b) ∧ w'.cell? ⟨w2.heap.size, 2, none⟩ = some (.int .i64 p) ∧ w'.cell? ⟨w2.heap.size, 3, none⟩ = some (.int .i64 n) ∧ w'.cell? ⟨w2.heap.size, 4, none⟩ = some (.int .u64 a0_4) ∧ Below w3.heap.size w3 w' ∧ w3.heap.size ≤ w'.heap.size)
    (first | exact keep5 (by assumption) (by assumption) | exact ⟨c0, c1, c2, c3, c4, (Below.refl _ _).drew, Nat.le_refl _⟩)
    (first | (go_at_call 12; refine (HR.out _).mono ?_; rintro e w4 ⟨rfl, hb4⟩))
  rename_i hS
  obtain ⟨d0, d1, d2, d3, d4, hB4, hz4⟩ := hS
  have Hb4 := Lib.hid (show Below w.heap.size w w4 from Hb3.out.trans (hB4.mono Hb3.out.size))
  obtain ⟨x1, x2, x3⟩ := umodR a1 R hR.1 (by omega)
  obtain ⟨y1, y2, y3⟩ := umodR a2 R hR.1 (by omega)
  generalize IntKind.i64.wrap ((IntKind.u64.wrap a1).tmod R) = x at *
  generalize IntKind.i64.wrap ((IntKind.u64.wrap a2).tmod R) = y at *
  clear hB4 hb4 c0 c1 c2 c3 c4 e1 e2 e3 x1 y1
  have HNr := Lib.hid (fun q w => near_any a b p n a0_4 q w)
  go_wp2_with fail
  go_region_held3 (fun w' => w'.cell? ⟨w2.heap.size, 0, none⟩ = some (.int .i64 a) ∧ w'.cell? ⟨w2.heap.size, 1, none⟩ = some (.int .i64 b) ∧ w'.cell? ⟨w2.heap.size, 2, none⟩ = some (.int .i64 p) ∧ w'.cell? ⟨w2.heap.size, 3, none⟩ = some (.int .i64 n) ∧ w'.cell? ⟨w2.heap.size, 4, none⟩ = some (.int .u64 a0_4) ∧ Below w4.heap.size w4 w' ∧ w4.heap.size ≤ w'.heap.size)
    (first | exact keep5 (by assumption) (by assumption) | exact ⟨d0, d1, d2, d3, d4, (Below.refl _ _).drew, Nat.le_refl _⟩)
    (first | (go_at_call 21; refine (HNr.out _ _).mono ?_; rintro e w5 ⟨A5, c5, rfl, hat5, hb5⟩))
  rename_i w6 A6 c6 hat6 hb6 hS
  obtain ⟨-, -, -, -, -, hB5, -⟩ := hS
  have Hb5 := Lib.hid (show Below w.heap.size w w5 from Hb4.out.trans (hB5.mono Hb4.out.size))
  have Hat6 := Lib.hid (hat6.below hb5)
  have Hat5 := Lib.hid hat5
  have hx : hasB a b p n x = true := by unfold hasB; rw [Hre.out]; exact decide_eq_true ⟨x2, x3⟩
  have hy : hasB a b p n y = true := by unfold hasB; rw [Hre.out]; exact decide_eq_true ⟨y2, y3⟩
  have hab : a * b = R := by have := Hre.out; unfold regs at this; rwa [if_pos Hrt.out] at this
  have l1 : (nr a b p n x).length ≤ 9 := by
    unfold nr; rw [if_pos hx]
    have := nrTo_len a x (a * b).toNat
    rw [hab] at this ⊢
    omega
  have l2 : (nr a b p n y).length ≤ 9 := by
    unfold nr; rw [if_pos hy]
    have := nrTo_len a y (a * b).toNat
    rw [hab] at this ⊢
    omega
  have HI1 := Lib.hid (show inB (nr a b p n x) x = true by unfold inB; exact decide_eq_true ((mem_nr hx).2 ⟨x2, by rw [hab]; exact x3, by unfold nearB; exact decide_eq_true (by omega)⟩))
  have HI2 := Lib.hid (show inB (nr a b p n y) x = inB (nr a b p n x) y by
    unfold inB
    rw [decide_eq_decide, mem_nr hx, mem_nr hy, hab]
    unfold nearB
    simp only [decide_eq_true_iff]
    omega)
  clear hx hy hab hB5 hb5 hat5 hat6 hb6 d0 d1 d2 d3 d4
  generalize nr a b p n x = lx at *
  generalize nr a b p n y = ly at *
  go_wp2_with fail
  refine (in_any A6 _ c6 lx x _ Hat6.out (by omega)).mono ?_
  rintro e w' ⟨rfl, rfl⟩
  rw [HI1.out]
  go_wp2_with fail
  refine (in_any A6 _ c6 lx y _ Hat6.out (by omega)).mono ?_
  rintro e w' ⟨rfl, rfl⟩
  go_wp2_with fail
  refine (in_any A5 _ c5 ly x _ Hat5.out (by omega)).mono ?_
  rintro e w' ⟨rfl, rfl⟩
  rw [HI2.out]
  generalize inB lx y = q at *
  cases q
  · go_wp2
    go_ret
    exact ⟨ret_bool (by simp <;> omega), Hb5.out⟩
  · go_wp2
    go_ret
    exact ⟨ret_bool (by simp <;> omega), Hb5.out⟩

set_option maxRecDepth 100000 in
theorem lifted (os : Os) (started : os.Started) (H : Type) (enc : TypeId × Value → H) :
    ReturnsInHanded {} Try.checked os 4 .any (Rows.gridNearSpec.pre6 enc Try.prog Try.f4 Rows.gridNearRow.domain false) (Rows.gridNearSpec.post enc Try.prog Try.f4 false true false false) := by
  refine returnsInHanded_of_change (C := Try.checked) own started (by kernel_rfl) Try.func4
    (ChangeSpec.witness6 (enc := enc) (C := Try.checked) false ⟨#[], #[.agg #[.int .i64 0, .int .i64 0, .int .i64 0, .int .i64 0, .int .u64 0], .int .i64 0, .int .i64 0], []⟩ 8 (by kernel_rfl) (by kernel_rfl) (by kernel_rfl) (by kernel_rfl)) ?_
  intro W base args ds gs before hval0 hW hcnd _
  have hval : ∀ (j : Nat) t v, Try.f4.params[j]? = some t → args[j]? = some v → Value.okWide Try.prog W .any base t v := hval0
  have hW' := hW
  obtain ⟨p, q, hA0, hV, rfl, hfz, hnd⟩ := hW
  have hA : DataW.TrodAll enc Try.prog W 0 (fun _ => true) true Try.f4.params.toList args.toList ds p := hA0
  rw [Try.params4] at hA hval
  obtain ⟨v0, vs0, d0, ds0, p0, q0, hargs, rfl, rfl, h0, r0⟩ := trodAll_cons hA
  obtain ⟨v1, vs1, d1, ds1, p1, q1, rfl, rfl, rfl, h1, r1⟩ := trodAll_cons r0
  obtain ⟨v2, vs2, d2, ds2, p2, q2, rfl, rfl, rfl, h2, r2⟩ := trodAll_cons r1
  obtain ⟨rfl, rfl, rfl⟩ := trodAll_nil r2
  obtain rfl : args = #[v0, v1, v2] := by cases args; simp_all
  obtain ⟨rfl, rfl⟩ := trodVars_none hV
  obtain ⟨cs0, rfl, -⟩ := okWide_struct Try.underlying24 (hval 0 24 v0 rfl rfl)
  have k0 := h0
  have lt0 : ∀ x ∈ p0, x.block < W.heap.size := by obtain ⟨m, hm⟩ := k0; exact DataW.trod_lt m _ _ _ hm
  obtain ⟨fuel0, hf0⟩ := h0
  obtain ⟨l0⟩ := cs0
  obtain ⟨a0_0, a0_1, a0_2, a0_3, a0_4, rfl, w0_0, w0_1, w0_2, w0_3, w0_4⟩ := open_T24 (cs := l0) hf0
  obtain ⟨a1, rfl, rfl, rfl, w1⟩ := open_int Try.underlying3 (hval 1 3 v1 rfl rfl) h1
  obtain ⟨a2, rfl, rfl, rfl, w2⟩ := open_int Try.underlying3 (hval 2 3 v2 rfl rfl) h2
  clear hA0 hval0
  refine (walk a0_0 a0_1 a0_2 a0_3 a0_4 a1 a2 W w0_0 w0_1 w0_2 w0_3 w0_4 w1 w2).mono fun e W' ⟨he, bel⟩ => ?_
  subst he
  exact ⟨_, rfl, _, _, _, [], _, [], hW', trodAll_mk1 (shut_bool Try.underlying4 _), (trodAll_cons_mk (Below.trod laidOut (by kernel_rfl) (of_decide_eq_true (by kernel_rfl)) k0 bel lt0) (trodAll_cons_mk (shut_int Try.underlying3 w1) (trodAll_cons_mk (shut_int Try.underlying3 w2) trodAll_mk0))), rfl, bel.frame _, fun h => by cases h⟩

theorem over : Rows.gridNearRow.holds Try.pinned (OpenSpec.ofChange Rows.gridNearSpec) :=
  OpenClaim.holds_of_wide 4 Try.f4 rfl rfl rfl rfl rfl rfl rfl ⟨rfl, rfl, rfl, rfl, rfl⟩ rfl rfl rfl rfl rfl (by kernel_rfl) Try.func4 (by kernel_rfl)
    (of_decide_eq_true (by kernel_rfl)) (by unfold Func.isWrapper; first | (rw [if_pos (by decide +kernel)]; kernel_rfl) | (rw [if_neg (by decide +kernel)]; exact ⟨rfl, rfl⟩))
    (fun os started H enc _ => lifted os started H enc)

end Go.Proofs.Ytoghnjbajhnpiaa.gridNear
namespace Go.Proofs.Ytoghnjbajhnpiaa
theorem gridNear_proved : Rows.GridNearSaid := gridNear.over
end Go.Proofs.Ytoghnjbajhnpiaa
