/- joustlaw13.CheckTurned returns true for every input; no conditions. -/
import Derived.Test.YthmdnemibdmhgaaCkAwk
import Derived.Test.YthmdnemibdmhgaaByAwkA
import Derived.Test.YthmdnemibdmhgaaGNum
import Derived.Test.YthmdnemibdmhgaaCkOwn
import Derived.Test.YthmdnemibdmhgaaRows
import Derived.WalkKit
import Derived.ProofKit
import Derived.OpenShut
import Derived.ShutString
import Derived.ChangeOld
import Derived.Below
namespace Go.Proofs.Ythmdnemibdmhgaa.checkTurned
open Go.ChangeShapes Go.WideShapes Go.ChangeAt Go.RowKit
open Go.ChangeMaps (open_string shut_string)
set_option linter.unusedVariables false
set_option maxRecDepth 100000

theorem own : ownKnob Try.prog.godebug = none := by kernel_rfl
theorem laidOut : laidOutB Try.prog = true := by kernel_rfl
open Fx (IsRow)

open Fx

set_option maxRecDepth 100000 in
set_option maxHeartbeats 4000000 in
theorem walk (a0 : Option Addr) (len0 cap0 : Nat) (z0 : List Int) (a1 : Int) (a2 : Int) (a3 : Int) (a4 : Option Addr) (len4 cap4 : Nat) (z4 : List Int) (w : World) (w0 : IsRow .u8 w a0 len0 cap0 z0) (w1 : (Lit.int .i64 a1).wf = true) (w2 : (Lit.int .u8 a2).wf = true) (w3 : (Lit.int .i64 a3).wf = true) (w4 : IsRow .u8 w a4 len4 cap4 z4) :
    Calls Try.prog 4 #[.slice a0 len0 cap0, .int .i64 a1, .int .u8 a2, .int .i64 a3, .slice a4 len4 cap4] w fun e w' => e = .returned (.bool true) ∧ Below w.heap.size w w' := by
  obtain ⟨hsl0, hok0, hlen0⟩ := w0.sl8
  obtain ⟨hsl1, hok1, hlen1⟩ := w4.sl8
  have HSb := Lib.hid hsl0
  have HSm := Lib.hid hsl1
  have HLb := Lib.hid hlen0
  have HLm := Lib.hid hlen1
  have HOb := Lib.hid hok0
  have HOm := Lib.hid hok1
  have hby : 0 ≤ a2 ∧ a2 < 256 := by
    have h := w2
    simp [Lit.wf] at h
    have e1 : IntKind.u8.min = 0 := by decide
    have e2 : IntKind.u8.max = 255 := by decide
    omega
  clear w0 w1 w2 w3 w4 hsl0 hok0 hlen0 hsl1 hok1 hlen1
  generalize z0.take len0 = L at *
  generalize z4.take len4 = LM at *
  have HA := Lib.hid awake_ck
  by_cases hbig : len0 ≤ 1000 ∧ len4 ≤ 100
  · obtain ⟨hb0, hb4'⟩ := hbig
    have h0 := HLb.out
    have h4 := HLm.out
    have hzl := sealL_len L
    have hzok := sealL_ok HOb.out
    rw [h0] at hzl
    have hos := open_seal L
    have hot := fun (k : Nat) (hk : k < L.length + 8) (c : Int) => open_turn HOb.out hk (c := c)
    rw [h0] at hot
    have HSe := Lib.hid (fun v w1 h => seal_any v L w1 h (by omega))
    have HHd := Lib.hid (fun T v w1 (hT : List.length T ≤ 1000000) h => copen_any v T w1 h hT)
    have HRd := Lib.hid (fun T v w1 (hT : List.length T ≤ 1000000) (hk : ByOk T) h => ropen_any v T w1 h hT hk)
    generalize sealL L = Z at *
    obtain ⟨M, hM⟩ : ∃ M, Z.length = M := ⟨_, rfl⟩
    have hM8 : M = len0 + 8 := by omega
    obtain ⟨j, hjM, hj⟩ := uplace a1 M (by omega) (by omega)
    obtain ⟨k, hkM, hk⟩ := uplace a3 M (by omega) (by omega)
    obtain ⟨zj, hzj⟩ := getE Z j M hM hjM
    have hzb := hzok zj (List.mem_of_getElem? hzj)
    obtain ⟨hy0, hy1, hyi⟩ := xor8 hzb.1 hzb.2 hby.1 hby.2
    obtain ⟨⟨E1, e1⟩, hE⟩ : ∃ E, openL (Z.set j (bits .xor .u8 zj a2)) = E := ⟨_, rfl⟩
    have HE := Lib.hid (show (a2 = 0 ∧ e1 = 0) ∨ (¬ a2 = 0 ∧ e1 = 9) from by
      by_cases hz : a2 = 0
      · rw [hyi.2 hz, set_same hzj, hos] at hE
        exact .inl ⟨hz, by cases hE; rfl⟩
      · rw [hot j (by omega) _ hy0 hy1 (by rw [hzj]; intro h; exact hz (hyi.1 (Option.some.inj h).symm))] at hE
        exact .inr ⟨hz, by cases hE; rfl⟩)
    have HYo := Lib.hid (fun v w1 h => HHd.out (Z.set j (bits .xor .u8 zj a2)) v w1 (by rw [List.length_set]; omega) h)
    have HSo := Lib.hid (fun v w1 h => HHd.out (Z.take k) v w1 (by simp; omega) h)
    have HSr := Lib.hid (fun v w1 h => HRd.out (Z.take k) v w1 (by simp; omega) (take_ok hzok k) h)
    have HLo := Lib.hid (fun v w1 h => HHd.out (Z ++ LM) v w1 (by simp; omega) h)
    have HLr := Lib.hid (fun v w1 h => HRd.out (Z ++ LM) v w1 (by simp; omega) (ok_app hzok HOm.out) h)
    rw [hE] at HYo
    obtain ⟨ZL, hZL⟩ : ∃ ZL, Z ++ LM = ZL := ⟨_, rfl⟩
    rw [hZL] at HLo HLr
    obtain ⟨⟨S1, s1⟩, hS1⟩ : ∃ E, openL (Z.take k) = E := ⟨_, rfl⟩
    obtain ⟨⟨L1, l1⟩, hL1⟩ : ∃ E, openL ZL = E := ⟨_, rfl⟩
    rw [hS1] at HSo HSr
    rw [hL1] at HLo HLr
    have HZL := Lib.hid hZL
    have HkZ := Lib.hid (show k ≤ Z.length from by omega)
    have HM := Lib.hid hM
    have Hzj := Lib.hid hzj
    have Hlm := Lib.hid h4
    clear hE hZL hS1 hL1 HHd HRd hot hos hzl hzok hzb hyi hM hzj h0 h4 HLb HOb HOm
    have hM1 : IntKind.u64.wrap (M : Int) = (M : Int) := by rw [IntKind.wrap_u64]; omega
    have hM2 : ((M : Int) == 0) = false := by rw [beq_eq_false_iff_ne]; omega
    have hM3 : ¬ ((M : Int) = 0) := by omega
    have hcmp : ((M : Int) != (len0 : Int) + 8) = false := by simp; omega
    have hMa : M ≤ 1008 := by omega
    have hMb : 8 ≤ M := by omega
    clear hM8
    go_enter Try.func4, Try.ntmps4
    go_wp2_with fail
    refine (HSe.out _ _ HSb.out).mono ?_
    rintro e w1 ⟨v1, rfl, ho1, hb1⟩
    obtain ⟨g1, c1, rfl, hg1⟩ := own_blk ho1 (by rw [HM.out]; omega)
    rw [HM.out] at ho1 ⊢
    have HX := Lib.hid ho1.sl
    have HB1 := Lib.hid hb1
    clear ho1 hb1 hg1
    go_wp2_with fail
    refine (HA.out _).mono ?_
    rintro e w2 ⟨rfl, hb2⟩
    have HX := Lib.hid (HX.out.below hb2)
    have HB2 := Lib.hid (nextW HB1.out hb2)
    clear hb2
    go_wp2_with (at_builtin; go_must (refine appL_by (by rfl) (.const (.slice none 0 0)) (.tmp 46) (by rfl) w2.heap.size _ [] (by rfl) (ownB.nil _ _) _ Z (by rfl) HX.out (by rw [HM.out]; simp; omega) (Nat.le_refl _) ?_))
    intro v3 w3 ho3 hb3 _
    have ho3' : ownB w2.heap.size w3 v3 Z := by simpa using ho3
    clear ho3
    obtain ⟨g3, c3, rfl, hg3⟩ := own_blk ho3' (by rw [HM.out]; omega)
    rw [HM.out] at ho3' ⊢
    obtain ⟨⟨u3, hc3⟩, hf3⟩ := ho3'.at j hjM
    obtain ⟨b3, o3, hA3, hc3'⟩ := ho3'.sl.by Hzj.out
    cases hA3
    rw [Nat.zero_add] at hc3'
    have HY3 := Lib.hid (ho3'.set j (bits .xor .u8 zj a2))
    have HB3 := Lib.hid (nextW HB2.out hb3)
    have HBs := Lib.hid (show Below w.heap.size w (w3.setCell ⟨g3, j, none⟩ (.int .u8 (bits .xor .u8 zj a2))) from HB3.out.setCell (Nat.le_trans HB2.out.size hg3) _)
    have HBs2 := Lib.hid (show Below w2.heap.size w2 (w3.setCell ⟨g3, j, none⟩ (.int .u8 (bits .xor .u8 zj a2))) from hb3.setCell hg3 _)
    clear ho3' hb3 hc3
    have HXs := Lib.hid (HX.out.below HBs2.out)
    have hkc : (k : Int) ≤ (c1 : Int) := by
      obtain ⟨_, _, e, -, hc, -⟩ := HX.out
      have := HM.out
      cases e
      omega
    obtain ⟨AU, cU, hU, -⟩ := (HX.out.upto 1 k HkZ.out)
    have HU := Lib.hid (HXs.out.upto 1 k HkZ.out)
    have hU' : slTo 1 (.slice (some ⟨g1, 0, none⟩) M c1) ((k : Int).toNat) = .slice AU (Z.take k).length cU := by rw [Int.toNat_natCast]; exact hU
    rw [hU] at HU
    generalize (Z.take k).length = tk at *
    go_wp2_with fail
    refine (HYo.out _ _ HY3.out.sl).mono ?_
    rintro e w4 ⟨v4, rfl, ho4, hb4⟩
    obtain ⟨A4, c4, rfl, -⟩ := ho4.sl
    have HXs := Lib.hid (HXs.out.below hb4)
    have HU := Lib.hid (HU.out.below hb4)
    have HB4 := Lib.hid (nextW HBs.out hb4)
    clear ho4 hb4
    go_wp2_with fail
    refine (HSo.out _ _ HU.out).mono ?_
    rintro e w5 ⟨v5, rfl, ho5, hb5⟩
    obtain ⟨A5, c5, rfl, -⟩ := ho5.sl
    have HXs := Lib.hid (HXs.out.below hb5)
    have HU := Lib.hid (HU.out.below hb5)
    have HB5 := Lib.hid (nextW HB4.out hb5)
    clear ho5 hb5
    go_wp2_with fail
    refine (HSr.out _ _ HU.out).mono ?_
    rintro e w6 ⟨v6, rfl, ho6, hb6⟩
    obtain ⟨A6, c6, rfl, -⟩ := ho6.sl
    have HXs := Lib.hid (HXs.out.below hb6)
    have HB6 := Lib.hid (nextW HB5.out hb6)
    clear ho6 hb6
    go_wp2_with (at_builtin; go_must (refine appL_by (by rfl) (.const (.slice none 0 0)) (.tmp 85) (by rfl) w6.heap.size _ [] (by rfl) (ownB.nil _ _) _ Z (by rfl) HXs.out (by rw [HM.out]; simp; omega) (Nat.le_refl _) ?_))
    intro v7 w7 ho7 hb7 _
    have HO7 := Lib.hid (show ownB w6.heap.size w7 v7 Z from by simpa using ho7)
    have HB7 := Lib.hid (nextW HB6.out hb7)
    have HB67 := Lib.hid hb7
    clear ho7 hb7
    go_wp2_with (at_builtin; go_must (refine appL_by (by rfl) (.tmp 86) (.tmp 87) (by rfl) w6.heap.size _ Z (by rfl) HO7.out _ LM (by rfl) (HSm.out.below HB7.out) (by rw [HM.out, Hlm.out]; omega) HB67.out.size ?_))
    intro v8 w8 ho8 hb8 _
    have HB8 := Lib.hid (nextW HB6.out (HB67.out.trans hb8))
    rw [HZL.out] at ho8
    obtain ⟨A8, c8, rfl, -⟩ := ho8.sl
    have HL8 := Lib.hid ho8.sl
    clear ho8 hb8
    go_wp2_with fail
    refine (HLo.out _ _ HL8.out).mono ?_
    rintro e w9 ⟨v9, rfl, ho9, hb9⟩
    obtain ⟨A9, c9, rfl, -⟩ := ho9.sl
    have HL9 := Lib.hid (HL8.out.below hb9)
    have HB9 := Lib.hid (nextW HB8.out hb9)
    clear ho9 hb9
    go_wp2_with fail
    refine (HLr.out _ _ HL9.out).mono ?_
    rintro e wa ⟨va, rfl, hoa, hba⟩
    obtain ⟨Aa, ca, rfl, -⟩ := hoa.sl
    have HBa := Lib.hid (nextW HB9.out hba)
    clear hoa hba
    rcases HE.out with ⟨rfl, rfl⟩ | ⟨hne, rfl⟩
    · go_wp2
      go_ret
      exact ⟨ret_bool (by simp), HBa.out⟩
    · go_wp2
      go_ret
      exact ⟨ret_bool (by simp [hne]), HBa.out⟩
  · have hcase : (¬ len0 ≤ 1000) ∨ (len0 ≤ 1000 ∧ ¬ len4 ≤ 100) := by omega
    clear hbig
    rcases hcase with h | ⟨h, h'⟩
    all_goals
      go_enter Try.func4, Try.ntmps4
      go_wp2_with fail
      refine (HA.out _).mono ?_
      rintro e w1 ⟨rfl, hb⟩
      go_wp2
      go_ret
      exact ⟨rfl, hb⟩

set_option maxRecDepth 100000 in
theorem lifted (os : Os) (started : os.Started) (H : Type) (enc : TypeId × Value → H) :
    ReturnsInHanded {} Try.checked os 4 .any (Rows.checkTurnedSpec.pre6 enc Try.prog Try.f4 Rows.checkTurnedRow.domain false) (Rows.checkTurnedSpec.post enc Try.prog Try.f4 false true false false) := by
  refine returnsInHanded_of_change (C := Try.checked) own started (by kernel_rfl) Try.func4
    (ChangeSpec.witness6 (enc := enc) (C := Try.checked) false ⟨#[], #[.slice none 0 0, .int .i64 0, .int .u8 0, .int .i64 0, .slice none 0 0], []⟩ 8 (by kernel_rfl) (by kernel_rfl) (by kernel_rfl) (by kernel_rfl)) ?_
  intro W base args ds gs before hval0 hW hcnd _
  have hval : ∀ (j : Nat) t v, Try.f4.params[j]? = some t → args[j]? = some v → Value.okWide Try.prog W .any base t v := hval0
  have hW' := hW
  obtain ⟨p, q, hA0, hV, rfl, hfz, hnd⟩ := hW
  have hA : DataW.TrodAll enc Try.prog W 0 (fun _ => true) true Try.f4.params.toList args.toList ds p := hA0
  rw [Try.params4] at hA hval
  obtain ⟨v0, vs0, d0, ds0, p0, q0, hargs, rfl, rfl, h0, r0⟩ := trodAll_cons hA
  obtain ⟨v1, vs1, d1, ds1, p1, q1, rfl, rfl, rfl, h1, r1⟩ := trodAll_cons r0
  obtain ⟨v2, vs2, d2, ds2, p2, q2, rfl, rfl, rfl, h2, r2⟩ := trodAll_cons r1
  obtain ⟨v3, vs3, d3, ds3, p3, q3, rfl, rfl, rfl, h3, r3⟩ := trodAll_cons r2
  obtain ⟨v4, vs4, d4, ds4, p4, q4, rfl, rfl, rfl, h4, r4⟩ := trodAll_cons r3
  obtain ⟨rfl, rfl, rfl⟩ := trodAll_nil r4
  obtain rfl : args = #[v0, v1, v2, v3, v4] := by cases args; simp_all
  obtain ⟨rfl, rfl⟩ := trodVars_none hV
  obtain ⟨a0, len0, cap0, rfl⟩ := okWide_slice Try.underlying22 (hval 0 22 v0 rfl rfl)
  have k0 := h0
  have lt0 : ∀ x ∈ p0, x.block < W.heap.size := by obtain ⟨m, hm⟩ := k0; exact DataW.trod_lt m _ _ _ hm
  obtain ⟨z0, w0⟩ : ∃ zs, IsRow .u8 W a0 len0 cap0 zs := by
    obtain ⟨fuel, hf⟩ := h0
    rcases open_ints Try.underlying22 Try.underlying5 (by kernel_rfl) hf with ⟨hcs, _⟩ | ⟨x, l, c, zs, hcs, _, hl, hm, hz, _, hcell, hwz⟩
    · simp [Value.cells] at hcs
      obtain ⟨rfl, rfl, rfl⟩ := hcs
      exact ⟨[], .inl ⟨rfl, rfl, rfl, rfl⟩⟩
    · simp [Value.cells] at hcs
      obtain ⟨rfl, rfl, rfl⟩ := hcs
      exact ⟨zs, .inr ⟨_, rfl, hl, hm, by simpa using hz, hcell, hwz⟩⟩
  obtain ⟨a1, rfl, rfl, rfl, w1⟩ := open_int Try.underlying3 (hval 1 3 v1 rfl rfl) h1
  obtain ⟨a2, rfl, rfl, rfl, w2⟩ := open_int Try.underlying5 (hval 2 5 v2 rfl rfl) h2
  obtain ⟨a3, rfl, rfl, rfl, w3⟩ := open_int Try.underlying3 (hval 3 3 v3 rfl rfl) h3
  obtain ⟨a4, len4, cap4, rfl⟩ := okWide_slice Try.underlying22 (hval 4 22 v4 rfl rfl)
  have k4 := h4
  have lt4 : ∀ x ∈ p4, x.block < W.heap.size := by obtain ⟨m, hm⟩ := k4; exact DataW.trod_lt m _ _ _ hm
  obtain ⟨z4, w4⟩ : ∃ zs, IsRow .u8 W a4 len4 cap4 zs := by
    obtain ⟨fuel, hf⟩ := h4
    rcases open_ints Try.underlying22 Try.underlying5 (by kernel_rfl) hf with ⟨hcs, _⟩ | ⟨x, l, c, zs, hcs, _, hl, hm, hz, _, hcell, hwz⟩
    · simp [Value.cells] at hcs
      obtain ⟨rfl, rfl, rfl⟩ := hcs
      exact ⟨[], .inl ⟨rfl, rfl, rfl, rfl⟩⟩
    · simp [Value.cells] at hcs
      obtain ⟨rfl, rfl, rfl⟩ := hcs
      exact ⟨zs, .inr ⟨_, rfl, hl, hm, by simpa using hz, hcell, hwz⟩⟩
  clear hA0 hval0
  refine (walk a0 len0 cap0 z0 a1 a2 a3 a4 len4 cap4 z4 W w0 w1 w2 w3 w4).mono fun e W' ⟨he, bel⟩ => ?_
  subst he
  exact ⟨_, rfl, _, _, _, [], _, [], hW', trodAll_mk1 (shut_bool Try.underlying4 _), (trodAll_cons_mk (Below.trod laidOut (by kernel_rfl) (of_decide_eq_true (by kernel_rfl)) k0 bel lt0) (trodAll_cons_mk (shut_int Try.underlying3 w1) (trodAll_cons_mk (shut_int Try.underlying5 w2) (trodAll_cons_mk (shut_int Try.underlying3 w3) (trodAll_cons_mk (Below.trod laidOut (by kernel_rfl) (of_decide_eq_true (by kernel_rfl)) k4 bel lt4) trodAll_mk0))))), rfl, bel.frame _, fun h => by cases h⟩

theorem over : Rows.checkTurnedRow.holds Try.pinned (OpenSpec.ofChange Rows.checkTurnedSpec) :=
  OpenClaim.holds_of_wide 4 Try.f4 rfl rfl rfl rfl rfl rfl rfl ⟨rfl, rfl, rfl, rfl, rfl⟩ rfl rfl rfl rfl rfl (by kernel_rfl) Try.func4 (by kernel_rfl)
    (of_decide_eq_true (by kernel_rfl)) (by unfold Func.isWrapper; first | (rw [if_pos (by decide +kernel)]; kernel_rfl) | (rw [if_neg (by decide +kernel)]; exact ⟨rfl, rfl⟩))
    (fun os started H enc _ => lifted os started H enc)

end Go.Proofs.Ythmdnemibdmhgaa.checkTurned
namespace Go.Proofs.Ythmdnemibdmhgaa
theorem checkTurned_proved : Rows.CheckTurnedSaid := checkTurned.over
end Go.Proofs.Ythmdnemibdmhgaa
