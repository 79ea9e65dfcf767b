/- joustlaw08.HittingHeals returns true for every input; no conditions. -/
import Derived.Test.YtdhahlghldgggaaHtAwake
import Derived.Test.YtdhahlghldgggaaGNum
import Derived.Test.YtdhahlghldgggaaGOwnTEntity
import Derived.Test.YtdhahlghldgggaaRows
import Derived.WalkKit
import Derived.ProofKit
import Derived.OpenShut
import Derived.ShutString
import Derived.ChangeOld
import Derived.Below
namespace Go.Proofs.Ytdhahlghldgggaa.hittingHeals
open Go.ChangeShapes Go.WideShapes Go.ChangeAt Go.RowKit
open Go.ChangeMaps (open_string shut_string)
set_option linter.unusedVariables false

theorem own : ownKnob Try.prog.godebug = none := by kernel_rfl
theorem laidOut : laidOutB Try.prog = true := by kernel_rfl


open Fx

set_option maxRecDepth 100000 in
set_option maxHeartbeats 2000000 in
theorem walk (a0 : Int) (a1 : Int) (w : World) (w0 : (Lit.int .i64 a0).wf = true) (w1 : (Lit.int .i64 a1).wf = true) :
    Calls Try.prog 6 #[.int .i64 a0, .int .i64 a1] w fun e w' => e = .returned (.bool true) ∧ Below w.heap.size w w' := by
  have m1 := umod1 a0 100 (by decide) (by decide)
  have m2 := umod a1 80 (by decide) (by decide)
  rw [← m2.1] at m2
  obtain ⟨-, m3, m4⟩ := m2
  go_enter Try.func6, Try.ntmps6
  go_upto_region 2 with fail
  generalize wrap64 (1 + wrap64 ((IntKind.u64.wrap a0).tmod 100)) = h at *
  generalize wrap64 ((IntKind.u64.wrap a1).tmod 80) = d at *
  clear w0 w1
  have HG := Lib.hid (fun v w hv => gemsH_any v (gemL h d) w hv (by simp [gemL]))
  rw [gem_heals m1.1 m1.2 m3 m4] at HG
  have HA := Lib.hid awake_ht
  have HP := Lib.hid (fun u v w hu hv => plain_Ent u v (gemL h d) w hu hv (by simp [gemL]))
  have HL := Lib.hid (show IsSl entC (w.alloc (.cells #[.int .i64 1, .int .i64 1, .int .i64 0, .int .i64 0, .int .i64 0, .int .i64 0, .int .i64 h, .int .i64 0, .int .i64 0, .int .i64 1000, .int .i64 3, .int .i64 d, .int .i64 0, .int .i64 0, .int .i64 0, .int .i64 1, .int .i64 0, .int .i64 0] 28)) (.slice (some ⟨w.heap.size, 0, none⟩) 2 2) (gemL h d) from lit_Ent _ _ _ _ _ _ _ rfl rfl (by simp) rfl)
  go_wp2_with fail
  refine (HG.out _ _ HL.out).mono ?_
  rintro e w1 ⟨v, rfl, ho, hb⟩
  have Ho := Lib.hid ho
  have HL1 := Lib.hid (HL.out.below hb)
  have Hb := Lib.hid (unbox hb)
  clear hb ho
  by_cases hd : 32 < d
  · have hd' : decide (32 < d) = true := decide_eq_true hd
    rw [if_pos hd] at Ho
    have Hv := Lib.hid (owned_sl Ho.out)
    go_wp2_with fail
    refine (HA.out _).mono ?_
    rintro e w2 ⟨rfl, hb2⟩
    have Hv2 := Lib.hid (Hv.out.below hb2)
    have HL2 := Lib.hid (HL1.out.below hb2)
    have Hb2 := Lib.hid (nextW Hb.out hb2)
    clear hb2
    go_wp2_with fail
    refine (HP.out _ _ _ Hv2.out HL2.out).mono ?_
    rintro e w3 ⟨rfl, hb3⟩
    have Hb3 := Lib.hid (nextW Hb2.out hb3)
    clear hb3
    go_wp2
    go_ret
    exact ⟨rfl, Hb3.out⟩
  · have hd' : decide (32 < d) = false := decide_eq_false hd
    rw [if_neg hd] at Ho
    go_wp2_with fail
    refine (HA.out _).mono ?_
    rintro e w2 ⟨rfl, hb2⟩
    have Ho2 := Lib.hid (own_below Ho.out hb2)
    have Hb2 := Lib.hid (nextW Hb.out hb2)
    clear hb2
    obtain ⟨g, c, rfl, hg, hgw, -, hcs, -⟩ := own_at_Ent Ho2.out (k := 0) rfl
    simp only [Nat.zero_add, Nat.zero_mul] at hcs
    have h6 := hcs.2.2.2.2.2.2.1
    clear hcs
    go_wp2
    go_ret
    exact ⟨rfl, Hb2.out⟩

set_option maxRecDepth 100000 in
theorem lifted (os : Os) (started : os.Started) (H : Type) (enc : TypeId × Value → H) :
    ReturnsInHanded {} Try.checked os 6 .any (Rows.hittingHealsSpec.pre6 enc Try.prog Try.f6 Rows.hittingHealsRow.domain false) (Rows.hittingHealsSpec.post enc Try.prog Try.f6 false true false false) := by
  refine returnsInHanded_of_change (C := Try.checked) own started (by kernel_rfl) Try.func6
    (ChangeSpec.witness6 (enc := enc) (C := Try.checked) false ⟨#[], #[.int .i64 0, .int .i64 0], []⟩ 8 (by kernel_rfl) (by kernel_rfl) (by kernel_rfl) (by kernel_rfl)) ?_
  intro W base args ds gs before hval0 hW hcnd _
  have hval : ∀ (j : Nat) t v, Try.f6.params[j]? = some t → args[j]? = some v → Value.okWide Try.prog W .any base t v := hval0
  have hW' := hW
  obtain ⟨p, q, hA0, hV, rfl, hfz, hnd⟩ := hW
  have hA : DataW.TrodAll enc Try.prog W 0 (fun _ => true) true Try.f6.params.toList args.toList ds p := hA0
  rw [Try.params6] at hA hval
  obtain ⟨v0, vs0, d0, ds0, p0, q0, hargs, rfl, rfl, h0, r0⟩ := trodAll_cons hA
  obtain ⟨v1, vs1, d1, ds1, p1, q1, rfl, rfl, rfl, h1, r1⟩ := trodAll_cons r0
  obtain ⟨rfl, rfl, rfl⟩ := trodAll_nil r1
  obtain rfl : args = #[v0, v1] := by cases args; simp_all
  obtain ⟨rfl, rfl⟩ := trodVars_none hV
  obtain ⟨a0, rfl, rfl, rfl, w0⟩ := open_int Try.underlying3 (hval 0 3 v0 rfl rfl) h0
  obtain ⟨a1, rfl, rfl, rfl, w1⟩ := open_int Try.underlying3 (hval 1 3 v1 rfl rfl) h1
  clear hA0 hval0
  refine (walk a0 a1 W w0 w1).mono fun e W' ⟨he, bel⟩ => ?_
  subst he
  exact ⟨_, rfl, _, _, _, [], _, [], hW', trodAll_mk1 (shut_bool Try.underlying4 _), (trodAll_cons_mk (shut_int Try.underlying3 w0) (trodAll_cons_mk (shut_int Try.underlying3 w1) trodAll_mk0)), rfl, bel.frame _, fun h => by cases h⟩

theorem over : Rows.hittingHealsRow.holds Try.pinned (OpenSpec.ofChange Rows.hittingHealsSpec) :=
  OpenClaim.holds_of_wide 6 Try.f6 rfl rfl rfl rfl rfl rfl rfl ⟨rfl, rfl, rfl, rfl, rfl⟩ rfl rfl rfl rfl rfl (by kernel_rfl) Try.func6 (by kernel_rfl)
    (of_decide_eq_true (by kernel_rfl)) (by unfold Func.isWrapper; first | (rw [if_pos (by decide +kernel)]; kernel_rfl) | (rw [if_neg (by decide +kernel)]; exact ⟨rfl, rfl⟩))
    (fun os started H enc _ => lifted os started H enc)

end Go.Proofs.Ytdhahlghldgggaa.hittingHeals
namespace Go.Proofs.Ytdhahlghldgggaa
theorem hittingHeals_proved : Rows.HittingHealsSaid := hittingHeals.over
end Go.Proofs.Ytdhahlghldgggaa
