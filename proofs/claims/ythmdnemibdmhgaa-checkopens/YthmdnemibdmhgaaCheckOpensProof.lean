/- joustlaw13.CheckOpens returns true for every input; no conditions. -/
import Derived.Test.YthmdnemibdmhgaaCkAwk
import Derived.Test.YthmdnemibdmhgaaByAwkA
import Derived.Test.YthmdnemibdmhgaaRows
import Derived.WalkKit
import Derived.ProofKit
import Derived.OpenShut
import Derived.ShutString
import Derived.ChangeOld
import Derived.Below
namespace Go.Proofs.Ythmdnemibdmhgaa.checkOpens
open Go.ChangeShapes Go.WideShapes Go.ChangeAt Go.RowKit
open Go.ChangeMaps (open_string shut_string)
set_option linter.unusedVariables false
set_option maxRecDepth 100000

theorem own : ownKnob Try.prog.godebug = none := by kernel_rfl
theorem laidOut : laidOutB Try.prog = true := by kernel_rfl
open Fx (IsRow)

open Fx

theorem open_len {l : List Int} (h : (openL l).2 = 0) : ((openL l).1.length : Int) = (l.length : Int) - 8 := by
  unfold openL at h ⊢
  split at h
  · cases h
  · next h8 =>
    rw [if_neg h8]
    split at h
    · next h2 => rw [if_pos h2]; simp; omega
    · cases h

theorem open_short {l : List Int} (h : l.length < 8) : openL l = ([], 5) := by unfold openL; rw [if_pos h]

set_option maxRecDepth 100000 in
set_option maxHeartbeats 4000000 in
theorem walk (a0 : Option Addr) (len0 cap0 : Nat) (z0 : List Int) (w : World) (w0 : IsRow .u8 w a0 len0 cap0 z0) :
    Calls Try.prog 6 #[.slice a0 len0 cap0] w fun e w' => e = .returned (.bool true) ∧ Below w.heap.size w w' := by
  obtain ⟨hsl, hok, hlen⟩ := w0.sl8
  have HS := Lib.hid hsl
  have HLen := Lib.hid hlen
  clear w0 hsl hok hlen
  generalize z0.take len0 = L at *
  have HA := Lib.hid awake_ck
  by_cases hbig : 500 < len0
  · go_enter Try.func6, Try.ntmps6
    go_wp2_with fail
    refine (HA.out _).mono ?_
    rintro e w1 ⟨rfl, hb⟩
    go_wp2
    go_ret
    exact ⟨rfl, hb⟩
  · have hl := HLen.out
    have HSe := Lib.hid (fun v w1 h => seal_any v L w1 h (by omega))
    have HSe2 := Lib.hid (fun v w1 h => seal_any v (sealL L) w1 h (by rw [sealL_len]; omega))
    have hO2 := fun v w1 h => copen_any v (sealL (sealL L)) w1 h (by rw [sealL_len, sealL_len]; omega)
    have hO1 := fun v w1 h => copen_any v (sealL L) w1 h (by rw [sealL_len]; omega)
    rw [open_seal] at hO2 hO1
    have HO2 := Lib.hid hO2
    have HO1 := Lib.hid hO1
    have HO := Lib.hid (fun v w1 h => copen_any v L w1 h (by omega))
    have HOl := Lib.hid (open_len (l := L))
    have HT := Lib.hid (fun v w1 h => copen_any v (L.take 7) w1 h (by simp; omega))
    have HTs := Lib.hid (open_short (l := L.take 7) (by simp; omega))
    have HTn := Lib.hid (fun h7 : ¬ 7 < len0 => open_short (l := L) (by omega))
    have HU := Lib.hid (fun h7 : 7 < len0 => HS.out.upto 1 7 (by omega))
    rw [HTs.out] at HT
    clear hO1 hO2 hl HTs
    generalize openL L = Q at *
    obtain ⟨Q1, q⟩ := Q
    simp only [] at HOl
    generalize sealL (sealL L) = LL at *
    generalize sealL L = L1 at *
    go_enter Try.func6, Try.ntmps6
    go_wp2_with fail
    refine (HSe.out _ _ HS.out).mono ?_
    rintro e w1 ⟨v1, rfl, ho1, hb1⟩
    obtain ⟨A1, c1, rfl, -⟩ := ho1.sl
    have HR1 := Lib.hid ho1.sl
    have HB1 := Lib.hid hb1
    clear ho1 hb1
    go_wp2_with fail
    refine (HSe2.out _ _ HR1.out).mono ?_
    rintro e w2 ⟨v2, rfl, ho2, hb2⟩
    obtain ⟨A2, c2, rfl, -⟩ := ho2.sl
    have HR2 := Lib.hid ho2.sl
    have HB2 := Lib.hid (nextW HB1.out hb2)
    clear ho2 hb2
    go_wp2_with fail
    refine (HO2.out _ _ HR2.out).mono ?_
    rintro e w3 ⟨v3, rfl, ho3, hb3⟩
    obtain ⟨A3, c3, rfl, -⟩ := ho3.sl
    have HR3 := Lib.hid ho3.sl
    have HB3 := Lib.hid (nextW HB2.out hb3)
    clear ho3 hb3
    go_wp2_with fail
    refine (HO1.out _ _ HR3.out).mono ?_
    rintro e w4 ⟨v4, rfl, ho4, hb4⟩
    obtain ⟨A4, c4, rfl, -⟩ := ho4.sl
    have HR4 := Lib.hid ho4.sl
    have HB4 := Lib.hid (nextW HB3.out hb4)
    clear ho4 hb4
    go_wp2_with fail
    refine (HO.out _ _ (HS.out.below HB4.out)).mono ?_
    rintro e w5 ⟨v5, rfl, ho5, hb5⟩
    obtain ⟨A5, c5, rfl, -⟩ := ho5.sl
    have HR4 := Lib.hid (HR4.out.below hb5)
    have HB5 := Lib.hid (nextW HB4.out hb5)
    clear ho5 hb5
    have HC1 := Lib.hid (fun w6 h => conv_by (w := w6) (HR4.out.below h))
    have HC2 := Lib.hid (fun w6 h => conv_by (w := w6) (HS.out.below h))
    by_cases h7 : 7 < len0
    · obtain ⟨AU, cU, hU, -, hcap, -⟩ := HU.out h7
      have HV := Lib.hid (HU.out h7)
      have h7c : (7 : Int) ≤ (cap0 : Int) := by
        obtain ⟨_, _, e, -, hc, -⟩ := HS.out
        have := HLen.out
        cases e
        omega
      have hU' : slTo 1 (.slice a0 len0 cap0) (Int.toNat 7) = .slice AU (L.take 7).length cU := hU
      rw [hU] at HV
      generalize (L.take 7).length = t7 at *
      go_wp2_with fail
      refine (HT.out _ _ (HV.out.below HB5.out)).mono ?_
      rintro e w6 ⟨v6, rfl, ho6, hb6⟩
      have HB6 := Lib.hid (nextW HB5.out hb6)
      have hb6' := HB5.out
      clear ho6
      go_wp2_with fail
      refine (HA.out _).mono ?_
      rintro e w7 ⟨rfl, hb7⟩
      have HB7 := Lib.hid (nextW HB6.out hb7)
      have e1 := HC1.out w7 (nextW hb6 hb7)
      have e2 := HC2.out w7 HB7.out
      clear hb6 hb7
      generalize byS L = B at *
      by_cases hq : q = 0
      · subst hq
        have hz := HOl.out rfl
        rw [HLen.out] at hz
        go_wp2
        go_ret
        exact ⟨ret_bool (by simp [hz]), HB7.out⟩
      · go_wp2
        go_ret
        exact ⟨ret_bool (by simp [hq]), HB7.out⟩
    · have hQ := HTn.out h7
      have hQ1 : Q1 = [] := congrArg Prod.fst hQ
      have hq : q = 5 := congrArg Prod.snd hQ
      subst hQ1 hq
      clear hQ
      go_wp2_with fail
      refine (HO.out _ _ (HS.out.below HB5.out)).mono ?_
      rintro e w6 ⟨v6, rfl, ho6, hb6⟩
      have HB6 := Lib.hid (nextW HB5.out hb6)
      clear ho6
      go_wp2_with fail
      refine (HA.out _).mono ?_
      rintro e w7 ⟨rfl, hb7⟩
      have HB7 := Lib.hid (nextW HB6.out hb7)
      have e1 := HC1.out w7 (nextW hb6 hb7)
      have e2 := HC2.out w7 HB7.out
      clear hb6 hb7
      generalize byS L = B at *
      go_wp2
      go_ret
      exact ⟨ret_bool (by simp), HB7.out⟩

set_option maxRecDepth 100000 in
theorem lifted (os : Os) (started : os.Started) (H : Type) (enc : TypeId × Value → H) :
    ReturnsInHanded {} Try.checked os 6 .any (Rows.checkOpensSpec.pre6 enc Try.prog Try.f6 Rows.checkOpensRow.domain false) (Rows.checkOpensSpec.post enc Try.prog Try.f6 false true false false) := by
  refine returnsInHanded_of_change (C := Try.checked) own started (by kernel_rfl) Try.func6
    (ChangeSpec.witness6 (enc := enc) (C := Try.checked) false ⟨#[], #[.slice none 0 0], []⟩ 8 (by kernel_rfl) (by kernel_rfl) (by kernel_rfl) (by kernel_rfl)) ?_
  intro W base args ds gs before hval0 hW hcnd _
  have hval : ∀ (j : Nat) t v, Try.f6.params[j]? = some t → args[j]? = some v → Value.okWide Try.prog W .any base t v := hval0
  have hW' := hW
  obtain ⟨p, q, hA0, hV, rfl, hfz, hnd⟩ := hW
  have hA : DataW.TrodAll enc Try.prog W 0 (fun _ => true) true Try.f6.params.toList args.toList ds p := hA0
  rw [Try.params6] at hA hval
  obtain ⟨v0, vs0, d0, ds0, p0, q0, hargs, rfl, rfl, h0, r0⟩ := trodAll_cons hA
  obtain ⟨rfl, rfl, rfl⟩ := trodAll_nil r0
  obtain rfl : args = #[v0] := by cases args; simp_all
  obtain ⟨rfl, rfl⟩ := trodVars_none hV
  obtain ⟨a0, len0, cap0, rfl⟩ := okWide_slice Try.underlying22 (hval 0 22 v0 rfl rfl)
  have k0 := h0
  have lt0 : ∀ x ∈ p0, x.block < W.heap.size := by obtain ⟨m, hm⟩ := k0; exact DataW.trod_lt m _ _ _ hm
  obtain ⟨z0, w0⟩ : ∃ zs, IsRow .u8 W a0 len0 cap0 zs := by
    obtain ⟨fuel, hf⟩ := h0
    rcases open_ints Try.underlying22 Try.underlying5 (by kernel_rfl) hf with ⟨hcs, _⟩ | ⟨x, l, c, zs, hcs, _, hl, hm, hz, _, hcell, hwz⟩
    · simp [Value.cells] at hcs
      obtain ⟨rfl, rfl, rfl⟩ := hcs
      exact ⟨[], .inl ⟨rfl, rfl, rfl, rfl⟩⟩
    · simp [Value.cells] at hcs
      obtain ⟨rfl, rfl, rfl⟩ := hcs
      exact ⟨zs, .inr ⟨_, rfl, hl, hm, by simpa using hz, hcell, hwz⟩⟩
  clear hA0 hval0
  refine (walk a0 len0 cap0 z0 W w0).mono fun e W' ⟨he, bel⟩ => ?_
  subst he
  exact ⟨_, rfl, _, _, _, [], _, [], hW', trodAll_mk1 (shut_bool Try.underlying4 _), (trodAll_cons_mk (Below.trod laidOut (by kernel_rfl) (of_decide_eq_true (by kernel_rfl)) k0 bel lt0) trodAll_mk0), rfl, bel.frame _, fun h => by cases h⟩

theorem over : Rows.checkOpensRow.holds Try.pinned (OpenSpec.ofChange Rows.checkOpensSpec) :=
  OpenClaim.holds_of_wide 6 Try.f6 rfl rfl rfl rfl rfl rfl rfl ⟨rfl, rfl, rfl, rfl, rfl⟩ rfl rfl rfl rfl rfl (by kernel_rfl) Try.func6 (by kernel_rfl)
    (of_decide_eq_true (by kernel_rfl)) (by unfold Func.isWrapper; first | (rw [if_pos (by decide +kernel)]; kernel_rfl) | (rw [if_neg (by decide +kernel)]; exact ⟨rfl, rfl⟩))
    (fun os started H enc _ => lifted os started H enc)

end Go.Proofs.Ythmdnemibdmhgaa.checkOpens
namespace Go.Proofs.Ythmdnemibdmhgaa
theorem checkOpens_proved : Rows.CheckOpensSaid := checkOpens.over
end Go.Proofs.Ythmdnemibdmhgaa
