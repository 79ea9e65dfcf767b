/- joustlaw01.FixedPlain returns true for every input; no conditions. -/
import Derived.Test.YtmibaimgapchjaaFxAdd
import Derived.Test.YtmibaimgapchjaaRows
import Derived.WalkKit
import Derived.ProofKit
import Derived.OpenShut
import Derived.ShutString
import Derived.ChangeOld
import Derived.Below
namespace Go.Proofs.Ytmibaimgapchjaa.fixedPlain
open Go.ChangeShapes Go.WideShapes Go.ChangeAt Go.RowKit
open Go.ChangeMaps (open_string shut_string)
set_option linter.unusedVariables false

theorem own : ownKnob Try.prog.godebug = none := by kernel_rfl
theorem laidOut : laidOutB Try.prog = true := by kernel_rfl

open Fx
theorem tm (a : Int) : -10000 < a.tmod 10000 ∧ a.tmod 10000 < 10000 := by
  have h1 := Int.tmod_lt_of_pos a (show (0 : Int) < 10000 by decide)
  have h2 := Int.tmod_lt_of_pos (-a) (show (0 : Int) < 10000 by decide)
  rw [Int.neg_tmod] at h2
  omega
theorem plain_add (a b d : Int) (ha : -10000 < a ∧ a < 10000) (hb : -10000 < b ∧ b < 10000) (hd : -10000 < d ∧ d < 10000) : addl [a, b, d] = a + b + d := by
  simp only [addl, List.foldl, held]; omega
theorem prod_bd (a b : Int) (ha : -10000 < a ∧ a < 10000) (hb : -10000 < b ∧ b < 10000) : -100000000 ≤ a * b ∧ a * b ≤ 100000000 := by
  have hm : (a * b).natAbs ≤ 10000 * 10000 := by
    rw [Int.natAbs_mul]; exact Nat.mul_le_mul (by omega) (by omega)
  omega
theorem plain_scale (a b d : Int) (ha : -10000 < a ∧ a < 10000) (hb : -10000 < b ∧ b < 10000) (hd : -10000 < d ∧ d < 10000) : scale a b d = (a * b).tdiv d ∧ -100000000 ≤ (a * b).tdiv d ∧ (a * b).tdiv d ≤ 100000000 := by
  have hp := prod_bd a b ha hb
  have hq : ((a * b).tdiv d).natAbs ≤ (a * b).natAbs := by rw [Int.natAbs_tdiv]; exact Nat.div_le_self _ _
  refine ⟨?_, by omega, by omega⟩
  unfold scale
  rw [held_id a (by omega) (by omega), held_id b (by omega) (by omega), held_id d (by omega) (by omega), held_id _ (by omega) (by omega)]

theorem far_lt (a b : Int) (ha : -10000 < a ∧ a < 10000) (hb : -10000 < b ∧ b < 10000) (h : a < b) : far a 0 b 0 = b - a := by
  simp only [far, sub, held]; omega
theorem far_ge (a b : Int) (ha : -10000 < a ∧ a < 10000) (hb : -10000 < b ∧ b < 10000) (h : ¬ a < b) : far a 0 b 0 = a - b := by
  simp only [far, sub, held]; omega
theorem sub_plain (a b : Int) (ha : -10000 < a ∧ a < 10000) (hb : -10000 < b ∧ b < 10000) : sub a b = a - b := by
  simp only [sub, held]; omega

theorem walk (a0 : Int) (a1 : Int) (a2 : Int) (w : World) (w0 : (Lit.int .i64 a0).wf = true) (w1 : (Lit.int .i64 a1).wf = true) (w2 : (Lit.int .i64 a2).wf = true) :
    Calls Try.prog 5 #[.int .i64 a0, .int .i64 a1, .int .i64 a2] w fun e w' => e = .returned (.bool true) ∧ Below w.heap.size w w' := by
  have ha := tm a0
  have hb := tm a1
  have hd := tm a2
  by_cases hz : (a2.tmod 10000 == 0) = true
  · go_enter Try.func5, Try.ntmps5
    go_wp2_with fail
    generalize a0.tmod 10000 = a at *
    generalize a1.tmod 10000 = b at *
    clear hz hd
    refine (scale_some _ _ _ (by decide) _).mono ?_
    rintro e w' ⟨rfl, rfl⟩
    obtain ⟨hs, hq0, hq1⟩ := plain_scale a b 1 ha hb ⟨by decide, by decide⟩
    rw [hs]
    clear hs
    have hp := prod_bd a b ha hb
    have hww : wrap64 ((a * b).tdiv 1) = (a * b).tdiv 1 := IntWalk.wrap64_in _ (by omega)
    go_wp2_with fail
    refine (awake_any _).mono ?_
    rintro e w1 ⟨rfl, hbl⟩
    go_wp2_with fail
    with_reducible refine (add_any _ 3 _ [a, b, 1] _ (ints_new3 _ _ _ _ _ _ (by simp)) (by decide)).mono ?_
    rintro e w2 ⟨rfl, rfl⟩
    rw [plain_add a b 1 ha hb ⟨by decide, by decide⟩]
    go_wp2_with fail
    refine (sub_any _ _ _).mono ?_
    rintro e w2 ⟨rfl, rfl⟩
    rw [sub_plain a b ha hb]
    go_wp2_with fail
    refine (held_any _ _).mono ?_
    rintro e w2 ⟨rfl, rfl⟩
    rw [held_id a (by omega) (by omega)]
    go_wp2_with fail
    refine (far_any _ _ _ _ _).mono ?_
    rintro e w2 ⟨rfl, rfl⟩
    by_cases hlt : a < b
    · rw [far_lt a b ha hb hlt]
      go_wp2
      go_ret
      exact ⟨rfl, hbl.alloc hbl.size _⟩
    · rw [far_ge a b ha hb hlt]
      go_wp2
      go_ret
      exact ⟨rfl, hbl.alloc hbl.size _⟩
  · have hz2 : (a2.tmod 10000 == 0) = false := by simpa using hz
    go_enter Try.func5, Try.ntmps5
    go_wp2_with fail
    generalize a0.tmod 10000 = a at *
    generalize a1.tmod 10000 = b at *
    generalize a2.tmod 10000 = d at *
    have hz3 : d ≠ 0 := by simpa using hz
    clear hz
    refine (scale_some _ _ _ (by exact hz3) _).mono ?_
    rintro e w' ⟨rfl, rfl⟩
    obtain ⟨hs, hq0, hq1⟩ := plain_scale a b d ha hb hd
    rw [hs]
    clear hs
    have hp := prod_bd a b ha hb
    have hww : wrap64 ((a * b).tdiv d) = (a * b).tdiv d := IntWalk.wrap64_in _ (by omega)
    go_wp2_with fail
    refine (awake_any _).mono ?_
    rintro e w1 ⟨rfl, hbl⟩
    go_wp2_with fail
    with_reducible refine (add_any _ 3 _ [a, b, d] _ (ints_new3 _ _ _ _ _ _ (by simp)) (by decide)).mono ?_
    rintro e w2 ⟨rfl, rfl⟩
    rw [plain_add a b d ha hb hd]
    go_wp2_with fail
    refine (sub_any _ _ _).mono ?_
    rintro e w2 ⟨rfl, rfl⟩
    rw [sub_plain a b ha hb]
    go_wp2_with fail
    refine (held_any _ _).mono ?_
    rintro e w2 ⟨rfl, rfl⟩
    rw [held_id a (by omega) (by omega)]
    go_wp2_with fail
    refine (far_any _ _ _ _ _).mono ?_
    rintro e w2 ⟨rfl, rfl⟩
    by_cases hlt : a < b
    · rw [far_lt a b ha hb hlt]
      go_wp2
      go_ret
      exact ⟨rfl, hbl.alloc hbl.size _⟩
    · rw [far_ge a b ha hb hlt]
      go_wp2
      go_ret
      exact ⟨rfl, hbl.alloc hbl.size _⟩

set_option maxRecDepth 100000 in
theorem lifted (os : Os) (started : os.Started) (H : Type) (enc : TypeId × Value → H) :
    ReturnsInHanded {} Try.checked os 5 .any (Rows.fixedPlainSpec.pre6 enc Try.prog Try.f5 Rows.fixedPlainRow.domain false) (Rows.fixedPlainSpec.post enc Try.prog Try.f5 false true false false) := by
  refine returnsInHanded_of_change (C := Try.checked) own started (by kernel_rfl) Try.func5
    (ChangeSpec.witness6 (enc := enc) (C := Try.checked) false ⟨#[], #[.int .i64 0, .int .i64 0, .int .i64 0], []⟩ 8 (by kernel_rfl) (by kernel_rfl) (by kernel_rfl) (by kernel_rfl)) ?_
  intro W base args ds gs before hval0 hW hcnd _
  have hval : ∀ (j : Nat) t v, Try.f5.params[j]? = some t → args[j]? = some v → Value.okWide Try.prog W .any base t v := hval0
  have hW' := hW
  obtain ⟨p, q, hA0, hV, rfl, hfz, hnd⟩ := hW
  have hA : DataW.TrodAll enc Try.prog W 0 (fun _ => true) true Try.f5.params.toList args.toList ds p := hA0
  rw [Try.params5] at hA hval
  obtain ⟨v0, vs0, d0, ds0, p0, q0, hargs, rfl, rfl, h0, r0⟩ := trodAll_cons hA
  obtain ⟨v1, vs1, d1, ds1, p1, q1, rfl, rfl, rfl, h1, r1⟩ := trodAll_cons r0
  obtain ⟨v2, vs2, d2, ds2, p2, q2, rfl, rfl, rfl, h2, r2⟩ := trodAll_cons r1
  obtain ⟨rfl, rfl, rfl⟩ := trodAll_nil r2
  obtain rfl : args = #[v0, v1, v2] := by cases args; simp_all
  obtain ⟨rfl, rfl⟩ := trodVars_none hV
  obtain ⟨a0, rfl, rfl, rfl, w0⟩ := open_int Try.underlying3 (hval 0 3 v0 rfl rfl) h0
  obtain ⟨a1, rfl, rfl, rfl, w1⟩ := open_int Try.underlying3 (hval 1 3 v1 rfl rfl) h1
  obtain ⟨a2, rfl, rfl, rfl, w2⟩ := open_int Try.underlying3 (hval 2 3 v2 rfl rfl) h2
  clear hA0 hval0
  refine (walk a0 a1 a2 W w0 w1 w2).mono fun e W' ⟨he, bel⟩ => ?_
  subst he
  exact ⟨_, rfl, _, _, _, [], _, [], hW', trodAll_mk1 (shut_bool Try.underlying4 _), (trodAll_cons_mk (shut_int Try.underlying3 w0) (trodAll_cons_mk (shut_int Try.underlying3 w1) (trodAll_cons_mk (shut_int Try.underlying3 w2) trodAll_mk0))), rfl, bel.frame _, fun h => by cases h⟩

theorem over : Rows.fixedPlainRow.holds Try.pinned (OpenSpec.ofChange Rows.fixedPlainSpec) :=
  OpenClaim.holds_of_wide 5 Try.f5 rfl rfl rfl rfl rfl rfl rfl ⟨rfl, rfl, rfl, rfl, rfl⟩ rfl rfl rfl rfl rfl (by kernel_rfl) Try.func5 (by kernel_rfl)
    (of_decide_eq_true (by kernel_rfl)) (by unfold Func.isWrapper; first | (rw [if_pos (by decide +kernel)]; kernel_rfl) | (rw [if_neg (by decide +kernel)]; exact ⟨rfl, rfl⟩))
    (fun os started H enc _ => lifted os started H enc)

end Go.Proofs.Ytmibaimgapchjaa.fixedPlain
namespace Go.Proofs.Ytmibaimgapchjaa
theorem fixedPlain_proved : Rows.FixedPlainSaid := fixedPlain.over
end Go.Proofs.Ytmibaimgapchjaa
