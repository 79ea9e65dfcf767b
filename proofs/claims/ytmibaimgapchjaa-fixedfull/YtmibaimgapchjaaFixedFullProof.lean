/- joustlaw01.FixedFull returns true for every input; no conditions. -/
import Derived.Test.YtmibaimgapchjaaFxAdd
import Derived.Test.YtmibaimgapchjaaRows
import Derived.WalkKit
import Derived.ProofKit
import Derived.OpenShut
import Derived.ShutString
import Derived.ChangeOld
import Derived.Below
namespace Go.Proofs.Ytmibaimgapchjaa.fixedFull
open Go.ChangeShapes Go.WideShapes Go.ChangeAt Go.RowKit
open Go.ChangeMaps (open_string shut_string)
set_option linter.unusedVariables false

theorem own : ownKnob Try.prog.godebug = none := by kernel_rfl
theorem laidOut : laidOutB Try.prog = true := by kernel_rfl

open Fx
theorem most2 (n : Int) (h0 : 0 ≤ n) (h1 : n < 1000) : addl [2147483647, n] = 2147483647 := by simp only [addl, List.foldl, held]; omega
theorem most3 (n k : Int) (h0 : 0 ≤ n) (h1 : n < 1000) (h2 : 0 ≤ k) (h3 : k < 1000) : addl [2147483647, n, -k] = 2147483647 - k := by simp only [addl, List.foldl, held]; omega
theorem least3 (n k : Int) (h0 : 0 ≤ n) (h1 : n < 1000) (h2 : 0 ≤ k) (h3 : k < 1000) : addl [-2147483647, -n, k] = -2147483647 + k := by simp only [addl, List.foldl, held]; omega
theorem u1000 (a : Int) : 0 ≤ wrap64 ((IntKind.u64.wrap a).tmod 1000) ∧ wrap64 ((IntKind.u64.wrap a).tmod 1000) < 1000 := by
  have h0 : 0 ≤ IntKind.u64.wrap a := by rw [IntKind.wrap_u64]; omega
  have h1 := Int.tmod_nonneg 1000 h0
  have h2 := Int.tmod_lt_of_pos (IntKind.u64.wrap a) (show (0 : Int) < 1000 by decide)
  rw [IntWalk.wrap64_in _ (by omega)]
  exact ⟨h1, h2⟩

theorem walk (a0 : Int) (a1 : Int) (w : World) (w0 : (Lit.int .i64 a0).wf = true) (w1 : (Lit.int .i64 a1).wf = true) :
    Calls Try.prog 8 #[.int .i64 a0, .int .i64 a1] w fun e w' => e = .returned (.bool true) ∧ Below w.heap.size w w' := by
  have hn := u1000 a0
  have hk := u1000 a1
  go_enter Try.func8, Try.ntmps8
  go_wp2_with fail
  generalize wrap64 ((IntKind.u64.wrap a0).tmod 1000) = n at *
  generalize wrap64 ((IntKind.u64.wrap a1).tmod 1000) = k at *
  obtain ⟨hn0, hn1⟩ := hn
  obtain ⟨hk0, hk1⟩ := hk
  refine (awake_any _).mono ?_
  rintro e w1 ⟨rfl, hb⟩
  go_wp2_with fail
  with_reducible refine (add_any _ 2 _ [2147483647, n] _ (ints_new2 _ _ _ _ _ (by simp)) (by decide)).mono ?_
  rintro e w2 ⟨rfl, rfl⟩
  rw [most2 n hn0 hn1]
  go_wp2_with fail
  with_reducible refine (add_any _ 3 _ [2147483647, n, -k] _ (ints_new3 _ _ _ _ _ _ (by simp)) (by decide)).mono ?_
  rintro e w2 ⟨rfl, rfl⟩
  rw [most3 n k hn0 hn1 hk0 hk1]
  go_wp2_with fail
  with_reducible refine (add_any _ 3 _ [-2147483647, -n, k] _ (ints_new3 _ _ _ _ _ _ (by simp)) (by decide)).mono ?_
  rintro e w2 ⟨rfl, rfl⟩
  rw [least3 n k hn0 hn1 hk0 hk1]
  go_wp2_with fail
  refine (held_any _ _).mono ?_
  rintro e w2 ⟨rfl, rfl⟩
  rw [show held (2147483648 + n) = 2147483647 by unfold held; omega]
  go_wp2_with fail
  refine (sub_any _ _ _).mono ?_
  rintro e w2 ⟨rfl, rfl⟩
  rw [show sub (-2147483647) n = -2147483647 by unfold sub held; omega]
  go_wp2
  go_ret
  exact ⟨rfl, by
    have hs := hb.size
    exact ((hb.alloc hs _).alloc (by simp; omega) _).alloc (by simp; omega) _⟩

set_option maxRecDepth 100000 in
theorem lifted (os : Os) (started : os.Started) (H : Type) (enc : TypeId × Value → H) :
    ReturnsInHanded {} Try.checked os 8 .any (Rows.fixedFullSpec.pre6 enc Try.prog Try.f8 Rows.fixedFullRow.domain false) (Rows.fixedFullSpec.post enc Try.prog Try.f8 false true false false) := by
  refine returnsInHanded_of_change (C := Try.checked) own started (by kernel_rfl) Try.func8
    (ChangeSpec.witness6 (enc := enc) (C := Try.checked) false ⟨#[], #[.int .i64 0, .int .i64 0], []⟩ 8 (by kernel_rfl) (by kernel_rfl) (by kernel_rfl) (by kernel_rfl)) ?_
  intro W base args ds gs before hval0 hW hcnd _
  have hval : ∀ (j : Nat) t v, Try.f8.params[j]? = some t → args[j]? = some v → Value.okWide Try.prog W .any base t v := hval0
  have hW' := hW
  obtain ⟨p, q, hA0, hV, rfl, hfz, hnd⟩ := hW
  have hA : DataW.TrodAll enc Try.prog W 0 (fun _ => true) true Try.f8.params.toList args.toList ds p := hA0
  rw [Try.params8] at hA hval
  obtain ⟨v0, vs0, d0, ds0, p0, q0, hargs, rfl, rfl, h0, r0⟩ := trodAll_cons hA
  obtain ⟨v1, vs1, d1, ds1, p1, q1, rfl, rfl, rfl, h1, r1⟩ := trodAll_cons r0
  obtain ⟨rfl, rfl, rfl⟩ := trodAll_nil r1
  obtain rfl : args = #[v0, v1] := by cases args; simp_all
  obtain ⟨rfl, rfl⟩ := trodVars_none hV
  obtain ⟨a0, rfl, rfl, rfl, w0⟩ := open_int Try.underlying3 (hval 0 3 v0 rfl rfl) h0
  obtain ⟨a1, rfl, rfl, rfl, w1⟩ := open_int Try.underlying3 (hval 1 3 v1 rfl rfl) h1
  clear hA0 hval0
  refine (walk a0 a1 W w0 w1).mono fun e W' ⟨he, bel⟩ => ?_
  subst he
  exact ⟨_, rfl, _, _, _, [], _, [], hW', trodAll_mk1 (shut_bool Try.underlying4 _), (trodAll_cons_mk (shut_int Try.underlying3 w0) (trodAll_cons_mk (shut_int Try.underlying3 w1) trodAll_mk0)), rfl, bel.frame _, fun h => by cases h⟩

theorem over : Rows.fixedFullRow.holds Try.pinned (OpenSpec.ofChange Rows.fixedFullSpec) :=
  OpenClaim.holds_of_wide 8 Try.f8 rfl rfl rfl rfl rfl rfl rfl ⟨rfl, rfl, rfl, rfl, rfl⟩ rfl rfl rfl rfl rfl (by kernel_rfl) Try.func8 (by kernel_rfl)
    (of_decide_eq_true (by kernel_rfl)) (by unfold Func.isWrapper; first | (rw [if_pos (by decide +kernel)]; kernel_rfl) | (rw [if_neg (by decide +kernel)]; exact ⟨rfl, rfl⟩))
    (fun os started H enc _ => lifted os started H enc)

end Go.Proofs.Ytmibaimgapchjaa.fixedFull
namespace Go.Proofs.Ytmibaimgapchjaa
theorem fixedFull_proved : Rows.FixedFullSaid := fixedFull.over
end Go.Proofs.Ytmibaimgapchjaa
