/- joustlaw01.FixedScale returns true for every input; no conditions. -/
import Derived.Test.YtmibaimgapchjaaFxAdd
import Derived.Test.YtmibaimgapchjaaRows
import Derived.WalkKit
import Derived.ProofKit
import Derived.OpenShut
import Derived.ShutString
import Derived.ChangeOld
import Derived.Below
namespace Go.Proofs.Ytmibaimgapchjaa.fixedScale
open Go.ChangeShapes Go.WideShapes Go.ChangeAt Go.RowKit
open Go.ChangeMaps (open_string shut_string)
set_option linter.unusedVariables false

theorem own : ownKnob Try.prog.godebug = none := by kernel_rfl
theorem laidOut : laidOutB Try.prog = true := by kernel_rfl

open Fx
theorem tm (a : Int) : -1000000 < a.tmod 1000000 ∧ a.tmod 1000000 < 1000000 := by
  have h1 := Int.tmod_lt_of_pos a (show (0 : Int) < 1000000 by decide)
  have h2 := Int.tmod_lt_of_pos (-a) (show (0 : Int) < 1000000 by decide)
  rw [Int.neg_tmod] at h2
  omega
theorem u1000 (a : Int) : 0 ≤ wrap64 ((IntKind.u64.wrap a).tmod 1000) ∧ wrap64 ((IntKind.u64.wrap a).tmod 1000) < 1000 := by
  have h0 : 0 ≤ IntKind.u64.wrap a := by rw [IntKind.wrap_u64]; omega
  have h1 := Int.tmod_nonneg 1000 h0
  have h2 := Int.tmod_lt_of_pos (IntKind.u64.wrap a) (show (0 : Int) < 1000 by decide)
  rw [IntWalk.wrap64_in _ (by omega)]
  exact ⟨h1, h2⟩
theorem scale_self (v n : Int) (hv : -1000000 < v ∧ v < 1000000) (hn : 0 ≤ n ∧ n < 1000) : scale v (1 + n) (1 + n) = v := by
  unfold scale
  rw [held_id v (by omega) (by omega), held_id (1 + n) (by omega) (by omega), Int.mul_tdiv_cancel _ (by omega), held_id v (by omega) (by omega)]
theorem scale_neg (v n : Int) (hv : -1000000 < v ∧ v < 1000000) (hn : 0 ≤ n ∧ n < 1000) :
    scale (-v) 3 (1 + n) = -(scale v 3 (1 + n)) ∧ scale v (-3) (1 + n) = -(scale v 3 (1 + n)) ∧ -2147483647 ≤ scale v 3 (1 + n) ∧ scale v 3 (1 + n) ≤ 2147483647 := by
  unfold scale
  rw [held_id v (by omega) (by omega), held_id (-v) (by omega) (by omega), held_id (1 + n) (by omega) (by omega), held_id 3 (by omega) (by omega), held_id (-3) (by omega) (by omega)]
  rw [Int.neg_mul, Int.mul_neg, Int.neg_tdiv]
  refine ⟨?_, ?_, held_bd _⟩ <;> (generalize (v * 3).tdiv (1 + n) = q; unfold held; omega)

theorem walk (a0 : Int) (a1 : Int) (w : World) (w0 : (Lit.int .i64 a0).wf = true) (w1 : (Lit.int .i64 a1).wf = true) :
    Calls Try.prog 7 #[.int .i64 a0, .int .i64 a1] w fun e w' => e = .returned (.bool true) ∧ Below w.heap.size w w' := by
  have hv := tm a0
  have hn := u1000 a1
  go_enter Try.func7, Try.ntmps7
  go_wp2_with fail
  generalize a0.tmod 1000000 = v at *
  generalize wrap64 ((IntKind.u64.wrap a1).tmod 1000) = n at *
  obtain ⟨s1, s2, s3, s4⟩ := scale_neg v n hv hn
  have S1 := Lib.hid s1
  have S2 := Lib.hid s2
  clear s1 s2
  refine (scale_some _ _ _ (by omega) _).mono ?_
  rintro e w' ⟨rfl, rfl⟩
  rw [scale_self v n hv hn]
  go_wp2_with fail
  refine (scale_some _ _ _ (by omega) _).mono ?_
  rintro e w' ⟨rfl, rfl⟩
  rw [S1.out]
  go_wp2_with fail
  refine (scale_some _ _ _ (by omega) _).mono ?_
  rintro e w' ⟨rfl, rfl⟩
  go_wp2_with fail
  refine (scale_some _ _ _ (by omega) _).mono ?_
  rintro e w' ⟨rfl, rfl⟩
  rw [S2.out]
  go_wp2_with fail
  refine (scale_zero _ _ _).mono ?_
  rintro e w' ⟨rfl, rfl⟩
  generalize scale v 3 (1 + n) = q at *
  go_wp2_with fail
  refine (awake_any _).mono ?_
  rintro e w1 ⟨rfl, hbl⟩
  go_wp2
  go_ret
  exact ⟨rfl, hbl⟩

set_option maxRecDepth 100000 in
theorem lifted (os : Os) (started : os.Started) (H : Type) (enc : TypeId × Value → H) :
    ReturnsInHanded {} Try.checked os 7 .any (Rows.fixedScaleSpec.pre6 enc Try.prog Try.f7 Rows.fixedScaleRow.domain false) (Rows.fixedScaleSpec.post enc Try.prog Try.f7 false true false false) := by
  refine returnsInHanded_of_change (C := Try.checked) own started (by kernel_rfl) Try.func7
    (ChangeSpec.witness6 (enc := enc) (C := Try.checked) false ⟨#[], #[.int .i64 0, .int .i64 0], []⟩ 8 (by kernel_rfl) (by kernel_rfl) (by kernel_rfl) (by kernel_rfl)) ?_
  intro W base args ds gs before hval0 hW hcnd _
  have hval : ∀ (j : Nat) t v, Try.f7.params[j]? = some t → args[j]? = some v → Value.okWide Try.prog W .any base t v := hval0
  have hW' := hW
  obtain ⟨p, q, hA0, hV, rfl, hfz, hnd⟩ := hW
  have hA : DataW.TrodAll enc Try.prog W 0 (fun _ => true) true Try.f7.params.toList args.toList ds p := hA0
  rw [Try.params7] at hA hval
  obtain ⟨v0, vs0, d0, ds0, p0, q0, hargs, rfl, rfl, h0, r0⟩ := trodAll_cons hA
  obtain ⟨v1, vs1, d1, ds1, p1, q1, rfl, rfl, rfl, h1, r1⟩ := trodAll_cons r0
  obtain ⟨rfl, rfl, rfl⟩ := trodAll_nil r1
  obtain rfl : args = #[v0, v1] := by cases args; simp_all
  obtain ⟨rfl, rfl⟩ := trodVars_none hV
  obtain ⟨a0, rfl, rfl, rfl, w0⟩ := open_int Try.underlying3 (hval 0 3 v0 rfl rfl) h0
  obtain ⟨a1, rfl, rfl, rfl, w1⟩ := open_int Try.underlying3 (hval 1 3 v1 rfl rfl) h1
  clear hA0 hval0
  refine (walk a0 a1 W w0 w1).mono fun e W' ⟨he, bel⟩ => ?_
  subst he
  exact ⟨_, rfl, _, _, _, [], _, [], hW', trodAll_mk1 (shut_bool Try.underlying4 _), (trodAll_cons_mk (shut_int Try.underlying3 w0) (trodAll_cons_mk (shut_int Try.underlying3 w1) trodAll_mk0)), rfl, bel.frame _, fun h => by cases h⟩

theorem over : Rows.fixedScaleRow.holds Try.pinned (OpenSpec.ofChange Rows.fixedScaleSpec) :=
  OpenClaim.holds_of_wide 7 Try.f7 rfl rfl rfl rfl rfl rfl rfl ⟨rfl, rfl, rfl, rfl, rfl⟩ rfl rfl rfl rfl rfl (by kernel_rfl) Try.func7 (by kernel_rfl)
    (of_decide_eq_true (by kernel_rfl)) (by unfold Func.isWrapper; first | (rw [if_pos (by decide +kernel)]; kernel_rfl) | (rw [if_neg (by decide +kernel)]; exact ⟨rfl, rfl⟩))
    (fun os started H enc _ => lifted os started H enc)

end Go.Proofs.Ytmibaimgapchjaa.fixedScale
namespace Go.Proofs.Ytmibaimgapchjaa
theorem fixedScale_proved : Rows.FixedScaleSaid := fixedScale.over
end Go.Proofs.Ytmibaimgapchjaa
