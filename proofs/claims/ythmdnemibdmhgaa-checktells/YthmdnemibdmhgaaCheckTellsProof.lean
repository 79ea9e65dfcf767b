/- joustlaw13.CheckTells returns true for every input; no conditions. -/
import Derived.Test.YthmdnemibdmhgaaCkAwk
import Derived.Test.YthmdnemibdmhgaaByAwkA
import Derived.Test.YthmdnemibdmhgaaByOwn
import Derived.Test.YthmdnemibdmhgaaRows
import Derived.WalkKit
import Derived.ProofKit
import Derived.OpenShut
import Derived.ShutString
import Derived.ChangeOld
import Derived.Below
namespace Go.Proofs.Ythmdnemibdmhgaa.checkTells
open Go.ChangeShapes Go.WideShapes Go.ChangeAt Go.RowKit
open Go.ChangeMaps (open_string shut_string)
set_option linter.unusedVariables false
set_option maxRecDepth 100000

theorem own : ownKnob Try.prog.godebug = none := by kernel_rfl
theorem laidOut : laidOutB Try.prog = true := by kernel_rfl
open Fx (IsRow)

open Fx

set_option maxRecDepth 100000 in
set_option maxHeartbeats 4000000 in
theorem walk (a0 : Option Addr) (len0 cap0 : Nat) (z0 : List Int) (a1 : Option Addr) (len1 cap1 : Nat) (z1 : List Int) (a2 : Option Addr) (len2 cap2 : Nat) (z2 : List Int) (w : World) (w0 : IsRow .u8 w a0 len0 cap0 z0) (w1 : IsRow .u8 w a1 len1 cap1 z1) (w2 : IsRow .u8 w a2 len2 cap2 z2) :
    Calls Try.prog 3 #[.slice a0 len0 cap0, .slice a1 len1 cap1, .slice a2 len2 cap2] w fun e w' => e = .returned (.bool true) ∧ Below w.heap.size w w' := by
  obtain ⟨hsl0, hok0, hlen0⟩ := w0.sl8
  obtain ⟨hsl1, hok1, hlen1⟩ := w1.sl8
  obtain ⟨hsl, hok, hlen⟩ := w2.sl8
  have hA0 : a2 = none → len2 = 0 ∧ cap2 = 0 := by
    rcases w2 with ⟨rfl, rfl, rfl, rfl⟩ | ⟨x, rfl, _⟩
    · exact fun _ => ⟨rfl, rfl⟩
    · exact fun h => by cases h
  have HA0 := Lib.hid hA0
  have HSa := Lib.hid hsl0
  have HSb := Lib.hid hsl1
  have HS := Lib.hid hsl
  have HLa := Lib.hid hlen0
  have HLb := Lib.hid hlen1
  have HLen := Lib.hid hlen
  have HOk := Lib.hid hok
  clear w0 w1 w2 hsl hok hlen hsl0 hok0 hlen0 hsl1 hok1 hlen1 hA0
  generalize z0.take len0 = LA at *
  generalize z1.take len1 = LB at *
  generalize z2.take len2 = L at *
  have HA := Lib.hid awake_ck
  by_cases hbig : len0 ≤ 2000 ∧ len1 ≤ 2000 ∧ len2 ≤ 2000
  · obtain ⟨hb0, hb1', hb2'⟩ := hbig
    have h0 := HLa.out
    have h1 := HLb.out
    have h2 := HLen.out
    have HOw := Lib.hid own_anyB
    have HKp := Lib.hid kept_yesB
    have HSm := Lib.hid same_by
    have HOp := Lib.hid (fun v w1 h => copen_any v L w1 h (by omega))
    have HRo := Lib.hid (fun v w1 h => ropen_any v L w1 h (by omega) HOk.out)
    have HSe := Lib.hid (fun v w1 h => seal_any v L w1 h (by omega))
    have HRs := Lib.hid (fun v w1 h => rseal_any v L w1 h (by omega))
    have HR := Lib.hid (fun v w1 h => rsum_any v (LA ++ LB) w1 h (by simp; omega))
    have hC2 := fun V v u w1 hV hA => csum_any V [v, u] [LA, LB] w1 hV hA (by simp) (by simp; omega)
    have hC1 := fun V v w1 hV hA => csum_any V [v] [LA ++ LB] w1 hV hA (by simp) (by simp; omega)
    rw [show [LA, LB].flatten = LA ++ LB by simp] at hC2
    rw [show [LA ++ LB].flatten = LA ++ LB by simp] at hC1
    have HC2 := Lib.hid hC2
    have HC1 := Lib.hid hC1
    clear hC1 hC2 h0 h1 h2
    obtain ⟨AB, hAB⟩ : ∃ AB, LA ++ LB = AB := ⟨_, rfl⟩
    rw [hAB] at HC2 HC1 HR
    have HAB := Lib.hid hAB
    clear hAB
    generalize sumL AB = X at *
    generalize sealL L = Z at *
    generalize openL L = Q at *
    obtain ⟨Q1, q⟩ := Q
    go_enter Try.func3, Try.ntmps3
    go_wp2_with fail
    refine (HOw.out a2 len2 cap2 L 71 _ (BysAt.of_sl HS.out HLen.out) HA0.out (by omega)).mono ?_
    rintro e w1 ⟨g, rfl, hb1, hg1, cur, hr1, hs1, hc1, hf1⟩
    have HB1 := Lib.hid hb1
    have HRow := Lib.hid hr1
    have HCur := Lib.hid (And.intro hs1 (And.intro hc1 hf1))
    have HG1 := Lib.hid hg1
    have hin : IsSl byC w1 (.slice (some ⟨g, 0, none⟩) L.length (len2 + 3)) L := ⟨_, _, rfl, fun h => (by cases h), by have := HLen.out; omega, fun _ => ⟨g, 0, rfl, fun i v hv => by
      rw [Nat.zero_add, hr1.cell]
      rw [byC_map] at hv
      obtain ⟨hi, hv⟩ := List.getElem?_eq_some_iff.1 hv
      simp at hi hv
      subst hv
      rw [hc1 i (by rw [← HLen.out]; exact hi)]
      simp [gi, List.getD_eq_getElem?_getD, List.getElem?_eq_getElem hi]⟩⟩
    rw [HLen.out] at hin
    have HIn := Lib.hid hin
    clear hb1 hg1 hr1 hs1 hc1 hf1 hin
    go_wp2_with (at_builtin; go_must (refine appL_by (by rfl) (.const (.slice none 0 0)) (.tmp 29) (by rfl) w1.heap.size _ [] (by rfl) (ownB.nil _ _) _ LA (by rfl) (HSa.out.below HB1.out) (by have := HLa.out; simp; omega) (Nat.le_refl _) ?_))
    intro v2 w2 ho2 hb2 _
    have HO2 := Lib.hid (show ownB w1.heap.size w2 v2 LA from by simpa using ho2)
    have HB2 := Lib.hid (nextW HB1.out hb2)
    have HB12 := Lib.hid hb2
    clear ho2 hb2
    go_wp2_with (at_builtin; go_must (refine appL_by (by rfl) (.tmp 30) (.tmp 31) (by rfl) w1.heap.size _ LA (by rfl) HO2.out _ LB (by rfl) (HSb.out.below HB2.out) (by have := HLa.out; have := HLb.out; omega) HB12.out.size ?_))
    intro v3 w3 ho3 hb3 _
    rw [HAB.out] at ho3
    have HB13 := Lib.hid (HB12.out.trans hb3)
    have HB3 := Lib.hid (nextW HB1.out HB13.out)
    obtain ⟨A3, c3, rfl, -⟩ := ho3.sl
    have HAll := Lib.hid ho3.sl
    clear ho3 hb3 HO2
    go_wp2_with fail
    refine (HOp.out _ _ (HIn.out.below HB13.out)).mono ?_
    rintro e w4 ⟨v4, rfl, ho4, hb4⟩
    obtain ⟨A4, c4, rfl, -⟩ := ho4.sl
    have HY := Lib.hid ho4.sl
    have HB4 := Lib.hid (nextW HB3.out hb4)
    have HB14 := Lib.hid (nextW HB13.out hb4)
    have HAll := Lib.hid (HAll.out.below hb4)
    clear ho4 hb4
    go_wp2_with fail
    refine (HRo.out _ _ (HS.out.below HB4.out)).mono ?_
    rintro e w5 ⟨v5, rfl, ho5, hb5⟩
    obtain ⟨A5, c5, rfl, -⟩ := ho5.sl
    have HZ := Lib.hid ho5.sl
    have HY := Lib.hid (HY.out.below hb5)
    have HAll := Lib.hid (HAll.out.below hb5)
    have HB5 := Lib.hid (nextW HB4.out hb5)
    have HB15 := Lib.hid (nextW HB14.out hb5)
    clear ho5 hb5
    go_wp2_with fail
    refine (HA.out _).mono ?_
    rintro e w6 ⟨rfl, hb6⟩
    have HZ := Lib.hid (HZ.out.below hb6)
    have HY := Lib.hid (HY.out.below hb6)
    have HAll := Lib.hid (HAll.out.below hb6)
    have HB6 := Lib.hid (nextW HB5.out hb6)
    have HB16 := Lib.hid (nextW HB15.out hb6)
    clear hb6
    have hP2 := part2 w6 _ _ LA LB 22 _ rfl (HSa.out.below HB6.out) (HSb.out.below HB6.out)
    have HP2 := Lib.hid hP2
    clear hP2
    go_wp2_with fail
    refine (HC2.out _ _ _ _ HP2.out.1 HP2.out.2).mono ?_
    rintro e w7 ⟨rfl, hw7⟩
    have hb7 : Below w6.heap.size w6 w7 := by rw [← hw7]; exact (Below.refl _ _).alloc (Nat.le_refl _) _
    clear hw7 HP2
    have HZ := Lib.hid (HZ.out.below hb7)
    have HY := Lib.hid (HY.out.below hb7)
    have HAll := Lib.hid (HAll.out.below hb7)
    have HB7 := Lib.hid (nextW HB6.out hb7)
    have HB17 := Lib.hid (nextW HB16.out hb7)
    clear hb7
    go_wp2_with fail
    refine (HR.out _ _ HAll.out).mono ?_
    rintro e w7' ⟨rfl, rfl⟩
    have HP1 := Lib.hid (part1 w7 _ AB 22 _ rfl HAll.out)
    go_wp2_with fail
    refine (HC1.out _ _ _ HP1.out.1 HP1.out.2).mono ?_
    rintro e w8 ⟨rfl, hw8⟩
    have hb8 : Below w7.heap.size w7 w8 := by rw [← hw8]; exact (Below.refl _ _).alloc (Nat.le_refl _) _
    clear hw8 HP1
    have HZ := Lib.hid (HZ.out.below hb8)
    have HY := Lib.hid (HY.out.below hb8)
    have HAll := Lib.hid (HAll.out.below hb8)
    have HB8 := Lib.hid (nextW HB7.out hb8)
    have HB18 := Lib.hid (nextW HB17.out hb8)
    clear hb8
    go_wp2_with fail
    refine (HR.out _ _ HAll.out).mono ?_
    rintro e w8' ⟨rfl, rfl⟩
    go_wp2_with fail
    refine (HSe.out _ _ (HIn.out.below HB18.out)).mono ?_
    rintro e w9 ⟨v9, rfl, ho9, hb9⟩
    obtain ⟨A9, c9, rfl, -⟩ := ho9.sl
    have HS9 := Lib.hid ho9.sl
    have HZ := Lib.hid (HZ.out.below hb9)
    have HY := Lib.hid (HY.out.below hb9)
    have HB9 := Lib.hid (nextW HB8.out hb9)
    have HB19 := Lib.hid (nextW HB18.out hb9)
    clear ho9 hb9
    go_wp2_with fail
    refine (HRs.out _ _ (HS.out.below HB9.out)).mono ?_
    rintro e wa ⟨va, rfl, hoa, hba⟩
    obtain ⟨Aa, ca, rfl, -⟩ := hoa.sl
    have HSa9 := Lib.hid hoa.sl
    have HS9 := Lib.hid (HS9.out.below hba)
    have HZ := Lib.hid (HZ.out.below hba)
    have HY := Lib.hid (HY.out.below hba)
    have HBa := Lib.hid (nextW HB9.out hba)
    have HB1a := Lib.hid (nextW HB19.out hba)
    clear hoa hba
    go_wp2_with fail
    refine (HSm.out _ _ Z _ HS9.out HSa9.out).mono ?_
    rintro e wa' ⟨rfl, rfl⟩
    go_wp2_with fail
    refine (HSm.out _ _ Q1 _ HY.out HZ.out).mono ?_
    rintro e wa' ⟨rfl, rfl⟩
    go_wp2_with fail
    refine (HKp.out a2 len2 cap2 g L 71 _ (BysAt.of_sl (HS.out.below HBa.out) HLen.out) cur (by have := HRow.out; unfold RowB at this ⊢; rw [HB1a.out.block g (Array.getElem?_eq_some_iff.1 this).1]; exact this) HCur.out.1 HCur.out.2.1 HCur.out.2.2 (by omega)).mono ?_
    rintro e wz ⟨rfl, nz, rfl⟩
    go_wp2
    go_ret
    exact ⟨ret_bool (by simp), below_drewN HBa.out _⟩
  · have hcase : (¬ len0 ≤ 2000) ∨ (len0 ≤ 2000 ∧ ¬ len1 ≤ 2000) ∨ (len0 ≤ 2000 ∧ len1 ≤ 2000 ∧ ¬ len2 ≤ 2000) := by omega
    clear hbig
    rcases hcase with h | ⟨h, h'⟩ | ⟨h, h', h''⟩
    all_goals
      go_enter Try.func3, Try.ntmps3
      go_wp2_with fail
      refine (HA.out _).mono ?_
      rintro e w1 ⟨rfl, hb⟩
      go_wp2
      go_ret
      exact ⟨rfl, hb⟩

set_option maxRecDepth 100000 in
theorem lifted (os : Os) (started : os.Started) (H : Type) (enc : TypeId × Value → H) :
    ReturnsInHanded {} Try.checked os 3 .any (Rows.checkTellsSpec.pre6 enc Try.prog Try.f3 Rows.checkTellsRow.domain false) (Rows.checkTellsSpec.post enc Try.prog Try.f3 false true false false) := by
  refine returnsInHanded_of_change (C := Try.checked) own started (by kernel_rfl) Try.func3
    (ChangeSpec.witness6 (enc := enc) (C := Try.checked) false ⟨#[], #[.slice none 0 0, .slice none 0 0, .slice none 0 0], []⟩ 8 (by kernel_rfl) (by kernel_rfl) (by kernel_rfl) (by kernel_rfl)) ?_
  intro W base args ds gs before hval0 hW hcnd _
  have hval : ∀ (j : Nat) t v, Try.f3.params[j]? = some t → args[j]? = some v → Value.okWide Try.prog W .any base t v := hval0
  have hW' := hW
  obtain ⟨p, q, hA0, hV, rfl, hfz, hnd⟩ := hW
  have hA : DataW.TrodAll enc Try.prog W 0 (fun _ => true) true Try.f3.params.toList args.toList ds p := hA0
  rw [Try.params3] at hA hval
  obtain ⟨v0, vs0, d0, ds0, p0, q0, hargs, rfl, rfl, h0, r0⟩ := trodAll_cons hA
  obtain ⟨v1, vs1, d1, ds1, p1, q1, rfl, rfl, rfl, h1, r1⟩ := trodAll_cons r0
  obtain ⟨v2, vs2, d2, ds2, p2, q2, rfl, rfl, rfl, h2, r2⟩ := trodAll_cons r1
  obtain ⟨rfl, rfl, rfl⟩ := trodAll_nil r2
  obtain rfl : args = #[v0, v1, v2] := by cases args; simp_all
  obtain ⟨rfl, rfl⟩ := trodVars_none hV
  obtain ⟨a0, len0, cap0, rfl⟩ := okWide_slice Try.underlying22 (hval 0 22 v0 rfl rfl)
  have k0 := h0
  have lt0 : ∀ x ∈ p0, x.block < W.heap.size := by obtain ⟨m, hm⟩ := k0; exact DataW.trod_lt m _ _ _ hm
  obtain ⟨z0, w0⟩ : ∃ zs, IsRow .u8 W a0 len0 cap0 zs := by
    obtain ⟨fuel, hf⟩ := h0
    rcases open_ints Try.underlying22 Try.underlying5 (by kernel_rfl) hf with ⟨hcs, _⟩ | ⟨x, l, c, zs, hcs, _, hl, hm, hz, _, hcell, hwz⟩
    · simp [Value.cells] at hcs
      obtain ⟨rfl, rfl, rfl⟩ := hcs
      exact ⟨[], .inl ⟨rfl, rfl, rfl, rfl⟩⟩
    · simp [Value.cells] at hcs
      obtain ⟨rfl, rfl, rfl⟩ := hcs
      exact ⟨zs, .inr ⟨_, rfl, hl, hm, by simpa using hz, hcell, hwz⟩⟩
  obtain ⟨a1, len1, cap1, rfl⟩ := okWide_slice Try.underlying22 (hval 1 22 v1 rfl rfl)
  have k1 := h1
  have lt1 : ∀ x ∈ p1, x.block < W.heap.size := by obtain ⟨m, hm⟩ := k1; exact DataW.trod_lt m _ _ _ hm
  obtain ⟨z1, w1⟩ : ∃ zs, IsRow .u8 W a1 len1 cap1 zs := by
    obtain ⟨fuel, hf⟩ := h1
    rcases open_ints Try.underlying22 Try.underlying5 (by kernel_rfl) hf with ⟨hcs, _⟩ | ⟨x, l, c, zs, hcs, _, hl, hm, hz, _, hcell, hwz⟩
    · simp [Value.cells] at hcs
      obtain ⟨rfl, rfl, rfl⟩ := hcs
      exact ⟨[], .inl ⟨rfl, rfl, rfl, rfl⟩⟩
    · simp [Value.cells] at hcs
      obtain ⟨rfl, rfl, rfl⟩ := hcs
      exact ⟨zs, .inr ⟨_, rfl, hl, hm, by simpa using hz, hcell, hwz⟩⟩
  obtain ⟨a2, len2, cap2, rfl⟩ := okWide_slice Try.underlying22 (hval 2 22 v2 rfl rfl)
  have k2 := h2
  have lt2 : ∀ x ∈ p2, x.block < W.heap.size := by obtain ⟨m, hm⟩ := k2; exact DataW.trod_lt m _ _ _ hm
  obtain ⟨z2, w2⟩ : ∃ zs, IsRow .u8 W a2 len2 cap2 zs := by
    obtain ⟨fuel, hf⟩ := h2
    rcases open_ints Try.underlying22 Try.underlying5 (by kernel_rfl) hf with ⟨hcs, _⟩ | ⟨x, l, c, zs, hcs, _, hl, hm, hz, _, hcell, hwz⟩
    · simp [Value.cells] at hcs
      obtain ⟨rfl, rfl, rfl⟩ := hcs
      exact ⟨[], .inl ⟨rfl, rfl, rfl, rfl⟩⟩
    · simp [Value.cells] at hcs
      obtain ⟨rfl, rfl, rfl⟩ := hcs
      exact ⟨zs, .inr ⟨_, rfl, hl, hm, by simpa using hz, hcell, hwz⟩⟩
  clear hA0 hval0
  refine (walk a0 len0 cap0 z0 a1 len1 cap1 z1 a2 len2 cap2 z2 W w0 w1 w2).mono fun e W' ⟨he, bel⟩ => ?_
  subst he
  exact ⟨_, rfl, _, _, _, [], _, [], hW', trodAll_mk1 (shut_bool Try.underlying4 _), (trodAll_cons_mk (Below.trod laidOut (by kernel_rfl) (of_decide_eq_true (by kernel_rfl)) k0 bel lt0) (trodAll_cons_mk (Below.trod laidOut (by kernel_rfl) (of_decide_eq_true (by kernel_rfl)) k1 bel lt1) (trodAll_cons_mk (Below.trod laidOut (by kernel_rfl) (of_decide_eq_true (by kernel_rfl)) k2 bel lt2) trodAll_mk0))), rfl, bel.frame _, fun h => by cases h⟩

theorem over : Rows.checkTellsRow.holds Try.pinned (OpenSpec.ofChange Rows.checkTellsSpec) :=
  OpenClaim.holds_of_wide 3 Try.f3 rfl rfl rfl rfl rfl rfl rfl ⟨rfl, rfl, rfl, rfl, rfl⟩ rfl rfl rfl rfl rfl (by kernel_rfl) Try.func3 (by kernel_rfl)
    (of_decide_eq_true (by kernel_rfl)) (by unfold Func.isWrapper; first | (rw [if_pos (by decide +kernel)]; kernel_rfl) | (rw [if_neg (by decide +kernel)]; exact ⟨rfl, rfl⟩))
    (fun os started H enc _ => lifted os started H enc)

end Go.Proofs.Ythmdnemibdmhgaa.checkTells
namespace Go.Proofs.Ythmdnemibdmhgaa
theorem checkTells_proved : Rows.CheckTellsSaid := checkTells.over
end Go.Proofs.Ythmdnemibdmhgaa
