/- joustlaw08.HittingOwn returns true for every input; no conditions. -/
import Derived.Test.YtdhahlghldgggaaHtAwake
import Derived.Test.YtdhahlghldgggaaGNum
import Derived.Test.YtdhahlghldgggaaGOwnTEntity
import Derived.Test.YtdhahlghldgggaaRows
import Derived.WalkKit
import Derived.ProofKit
import Derived.OpenShut
import Derived.ShutString
import Derived.ChangeOld
import Derived.Below
namespace Go.Proofs.Ytdhahlghldgggaa.hittingOwn
open Go.ChangeShapes Go.WideShapes Go.ChangeAt Go.RowKit
open Go.ChangeMaps (open_string shut_string)
set_option linter.unusedVariables false

theorem own : ownKnob Try.prog.godebug = none := by kernel_rfl
theorem laidOut : laidOutB Try.prog = true := by kernel_rfl


open Fx

theorem ownP_succ (k : Nat) : ownP (k + 1) = ownP k ++ [⟨(k : Int) + 1, 1, 0, 0, 0, 0, 50, 0, 0⟩] := by simp [ownP, List.range_succ]

theorem ownP_len (k : Nat) : (ownP k).length = k := by simp [ownP]

theorem ownX_len (k : Nat) (o : Int) : (ownX k o).length = k := by simp [ownX]

theorem ownX_at {n k : Nat} (o : Int) (h : k < n) : (ownX n o)[k]? = some ⟨(k : Int) + 1, 1, 0, 0, 0, 0, if (k : Int) + 1 = (if o = 1 then 2 else 1) then 30 else 50, 0, 0⟩ := by simp [ownX, h]

set_option maxRecDepth 100000 in
set_option maxHeartbeats 2000000 in
theorem walk (a0 : Int) (a1 : Int) (w : World) (w0 : (Lit.int .i64 a0).wf = true) (w1 : (Lit.int .i64 a1).wf = true) :
    Calls Try.prog 5 #[.int .i64 a0, .int .i64 a1] w fun e w' => e = .returned (.bool true) ∧ Below w.heap.size w w' := by
  have m1 := umod1 a1 5 (by decide) (by decide)
  go_enter Try.func5, Try.ntmps5
  go_upto_region 2 with fail
  generalize hn : wrap64 (1 + wrap64 ((IntKind.u64.wrap a1).tmod 5)) = n at *
  clear hn
  have hnu : IntKind.u64.wrap n = n := by rw [IntKind.wrap_u64]; omega
  have hn0 : ¬ n = 0 := by omega
  have hn0' : (n == 0) = false := by simpa using hn0
  have m2 := umod1 a0 n (by omega) (by omega)
  go_upto_region 3 with fail
  generalize wrap64 (1 + wrap64 ((IntKind.u64.wrap a0).tmod n)) = o at *
  clear hnu hn0 hn0' w0 w1
  obtain ⟨N, rfl⟩ : ∃ N : Nat, n = N := ⟨n.toNat, by omega⟩
  have hN1 : 1 ≤ N := by omega
  have hN5 : N ≤ 5 := by omega
  have HA := Lib.hid awake_ht
  have HP := Lib.hid (fun u v w hu hv => plain_Ent u v (ownL 1 1) w hu hv (by simp [ownL, ownP]))
  have HS := Lib.hid (fun v w hv => shotsH_any v (ownL N o) w hv (by simp [ownL, ownP]; omega))
  go_wp2_with fail
  go_loopw [5, 6] (fun v i wr => ∃ k : Nat, k ≤ N ∧ i = .int .i64 (k + 1) ∧ wr.ownsRow w.heap.size 28 9 v k ((ownP k).flatMap entC) ∧ Below w.heap.size w wr) (fun _ i _ => N + 1 - (intOf i).toNat)
  case atStart => exact ⟨0, Nat.zero_le _, rfl, ⟨by simp [ownP], .inl ⟨rfl, rfl⟩⟩, Below.refl _ _⟩
  case round =>
    obtain ⟨k, hk, rfl, hown, hbel⟩ := hrel
    have Hown := Lib.hid hown
    have Hbel := Lib.hid hbel
    clear hown hbel
    by_cases hlt : k < N
    · have hlt' : (k : Int) + 1 ≤ (N : Int) := by omega
      have hld : decide ((k : Int) + 1 ≤ (N : Int)) = true := decide_eq_true hlt'
      go_wp2_with (at_builtin; go_must (refine appL_Ent (by rfl) (.tmp 28) (.tmp 31) (by rfl) w.heap.size _ (ownP k) (by rfl) (by rw [ownP_len]; exact Hown.out.alloc _) _ [⟨(k : Int) + 1, 1, 0, 0, 0, 0, 50, 0, 0⟩] (by rfl) (one_Ent _ _ _ 1 (by first | rfl | simp) (by omega)) (by rw [ownP_len]; simp; omega) (by have := Hbel.out.size; simp; omega) ?_))
      intro v' w5 hown5 hb5 _
      have HO5 := Lib.hid (show w5.ownsRow w.heap.size 28 9 v' (k + 1) ((ownP (k + 1)).flatMap entC) from by rw [ownP_succ]; simpa [ownP_len] using hown5)
      have HB5 := Lib.hid ((Hbel.out.alloc Hbel.out.size _).trans hb5)
      clear hown5 hb5
      go_wp2
      go_roundw
      case rel => exact ⟨k + 1, by omega, by go_num, HO5.out, HB5.out⟩
      case measure => simp [intOf]; omega
    · obtain rfl : k = N := by omega
      have hld : decide ((k : Int) + 1 ≤ (k : Int)) = false := decide_eq_false (by omega)
      go_wp2_with (at_builtin; go_must (refine appL_Ent (by rfl) (.tmp 33) (.tmp 36) (by rfl) w.heap.size _ (ownP k) (by rfl) (by rw [ownP_len]; exact Hown.out.alloc _) _ [⟨2000, 2, 0, 0, 0, 0, 0, 0, o⟩] (by rfl) (one_Ent _ _ _ 1 (by first | rfl | simp) (by omega)) (by rw [ownP_len]; simp; omega) (by have := Hbel.out.size; simp; omega) ?_))
      intro v' w5 hown5 hb5 _
      have HO5 := Lib.hid (show IsSl entC w5 v' (ownL k o) from owned_sl (by simpa [ownL] using hown5))
      have HB5 := Lib.hid ((Hbel.out.alloc Hbel.out.size _).trans hb5)
      clear hown5 hb5 Hown Hbel
      go_wp2_with fail
      refine (HS.out _ _ HO5.out).mono ?_
      rintro e w6 ⟨v, rfl, ho, hb⟩
      have Ho6 := Lib.hid ho
      have HL6 := Lib.hid (HO5.out.below hb)
      have Hb6 := Lib.hid (nextW HB5.out hb)
      clear ho hb HS HB5 HO5
      by_cases h1 : k = 1
      · subst h1
        obtain rfl : o = 1 := by omega
        rw [own_one] at Ho6
        have Hv6 := Lib.hid (owned_sl Ho6.out)
        go_wp2_with fail
        refine (HA.out _).mono ?_
        rintro e w7 ⟨rfl, hb7⟩
        have Hv7 := Lib.hid (Hv6.out.below hb7)
        have HL7 := Lib.hid (HL6.out.below hb7)
        have Hb7 := Lib.hid (nextW Hb6.out hb7)
        clear hb7
        go_wp2_with fail
        refine (HP.out _ _ _ Hv7.out HL7.out).mono ?_
        rintro e w8 ⟨rfl, hb8⟩
        have Hb8 := Lib.hid (nextW Hb7.out hb8)
        clear hb8
        go_wp2
        go_ret
        exact ⟨rfl, Hb8.out⟩
      · rw [own_shots (by omega) hN5 (by omega) (by omega), ownX_len] at Ho6
        have h1' : ((k : Int) == 1) = false := by simp; omega
        have HX := Lib.hid (fun j => ownX_at (n := k) (k := j) o)
        have HO := Lib.hid (show ∃ q : Int, q = (if o = 1 then 2 else 1) from ⟨_, rfl⟩)
        obtain ⟨q, hq⟩ := HO.out
        rw [← hq] at HX
        have Hq := Lib.hid hq
        obtain ⟨A6, c6, rfl, -⟩ := owned_cells Ho6.out
        clear hq HO
        by_cases ho1 : o = 1
        · obtain rfl : q = 2 := by rw [Hq.out, if_pos ho1]
          have ho1' : (o == 1) = true := by simpa using ho1
          go_wp2_with fail
          refine (HA.out _).mono ?_
          rintro e w7 ⟨rfl, hb7⟩
          have Ho7 := Lib.hid (own_below Ho6.out hb7)
          have Hb7 := Lib.hid (nextW Hb6.out hb7)
          clear hb7 Ho6 HL6 Hb6 HA HP
          go_wp2_with fail
          go_loopw [9] (fun i wr => ∃ j : Nat, j ≤ k ∧ i = .int .i64 j ∧ wr.ownsRow w5.heap.size 28 9 (.slice A6 k c6) k ((ownX k o).flatMap entC) ∧ Below w.heap.size w wr) (fun i _ => k - (intOf i).toNat)
          case atStart => exact ⟨0, Nat.zero_le _, rfl, Ho7.out, Hb7.out⟩
          case round =>
            obtain ⟨j, hj, rfl, ho8, hb8⟩ := hrel
            have Ho8 := Lib.hid ho8
            have Hb8 := Lib.hid hb8
            clear ho8 hb8 Ho7 Hb7
            by_cases hjk : j < k
            · obtain ⟨g, c, hA, hg, hgw, -, hcs, -⟩ := own_at_Ent Ho8.out (HX.out j hjk)
              cases hA
              simp only [Nat.zero_add] at hcs
              have h6 := hcs.2.2.2.2.2.2.1
              clear hcs
              by_cases hjq : (j : Int) + 1 = 2
              · have hjq' : ((j : Int) + 1 == 2) = true := by simpa using hjq
                rw [if_pos hjq] at h6
                go_wp2
                go_roundw
                case rel => exact ⟨j + 1, by omega, by go_num, Ho8.out, Hb8.out⟩
                case measure => simp [intOf]; omega
              · have hjq' : ((j : Int) + 1 == 2) = false := by simpa using hjq
                rw [if_neg hjq] at h6
                go_wp2
                go_roundw
                case rel => exact ⟨j + 1, by omega, by go_num, Ho8.out, Hb8.out⟩
                case measure => simp [intOf]; omega
            · obtain rfl : j = k := by omega
              go_wp2
              go_ret
              exact ⟨rfl, Hb8.out⟩
        · obtain rfl : q = 1 := by rw [Hq.out, if_neg ho1]
          have ho1' : (o == 1) = false := by simpa using ho1
          go_wp2_with fail
          refine (HA.out _).mono ?_
          rintro e w7 ⟨rfl, hb7⟩
          have Ho7 := Lib.hid (own_below Ho6.out hb7)
          have Hb7 := Lib.hid (nextW Hb6.out hb7)
          clear hb7 Ho6 HL6 Hb6 HA HP
          go_wp2_with fail
          go_loopw [9] (fun i wr => ∃ j : Nat, j ≤ k ∧ i = .int .i64 j ∧ wr.ownsRow w5.heap.size 28 9 (.slice A6 k c6) k ((ownX k o).flatMap entC) ∧ Below w.heap.size w wr) (fun i _ => k - (intOf i).toNat)
          case atStart => exact ⟨0, Nat.zero_le _, rfl, Ho7.out, Hb7.out⟩
          case round =>
            obtain ⟨j, hj, rfl, ho8, hb8⟩ := hrel
            have Ho8 := Lib.hid ho8
            have Hb8 := Lib.hid hb8
            clear ho8 hb8 Ho7 Hb7
            by_cases hjk : j < k
            · obtain ⟨g, c, hA, hg, hgw, -, hcs, -⟩ := own_at_Ent Ho8.out (HX.out j hjk)
              cases hA
              simp only [Nat.zero_add] at hcs
              have h6 := hcs.2.2.2.2.2.2.1
              clear hcs
              by_cases hjq : (j : Int) + 1 = 1
              · have hjq' : ((j : Int) + 1 == 1) = true := by simpa using hjq
                rw [if_pos hjq] at h6
                go_wp2
                go_roundw
                case rel => exact ⟨j + 1, by omega, by go_num, Ho8.out, Hb8.out⟩
                case measure => simp [intOf]; omega
              · have hjq' : ((j : Int) + 1 == 1) = false := by simpa using hjq
                rw [if_neg hjq] at h6
                go_wp2
                go_roundw
                case rel => exact ⟨j + 1, by omega, by go_num, Ho8.out, Hb8.out⟩
                case measure => simp [intOf]; omega
            · obtain rfl : j = k := by omega
              go_wp2
              go_ret
              exact ⟨rfl, Hb8.out⟩

set_option maxRecDepth 100000 in
theorem lifted (os : Os) (started : os.Started) (H : Type) (enc : TypeId × Value → H) :
    ReturnsInHanded {} Try.checked os 5 .any (Rows.hittingOwnSpec.pre6 enc Try.prog Try.f5 Rows.hittingOwnRow.domain false) (Rows.hittingOwnSpec.post enc Try.prog Try.f5 false true false false) := by
  refine returnsInHanded_of_change (C := Try.checked) own started (by kernel_rfl) Try.func5
    (ChangeSpec.witness6 (enc := enc) (C := Try.checked) false ⟨#[], #[.int .i64 0, .int .i64 0], []⟩ 8 (by kernel_rfl) (by kernel_rfl) (by kernel_rfl) (by kernel_rfl)) ?_
  intro W base args ds gs before hval0 hW hcnd _
  have hval : ∀ (j : Nat) t v, Try.f5.params[j]? = some t → args[j]? = some v → Value.okWide Try.prog W .any base t v := hval0
  have hW' := hW
  obtain ⟨p, q, hA0, hV, rfl, hfz, hnd⟩ := hW
  have hA : DataW.TrodAll enc Try.prog W 0 (fun _ => true) true Try.f5.params.toList args.toList ds p := hA0
  rw [Try.params5] at hA hval
  obtain ⟨v0, vs0, d0, ds0, p0, q0, hargs, rfl, rfl, h0, r0⟩ := trodAll_cons hA
  obtain ⟨v1, vs1, d1, ds1, p1, q1, rfl, rfl, rfl, h1, r1⟩ := trodAll_cons r0
  obtain ⟨rfl, rfl, rfl⟩ := trodAll_nil r1
  obtain rfl : args = #[v0, v1] := by cases args; simp_all
  obtain ⟨rfl, rfl⟩ := trodVars_none hV
  obtain ⟨a0, rfl, rfl, rfl, w0⟩ := open_int Try.underlying3 (hval 0 3 v0 rfl rfl) h0
  obtain ⟨a1, rfl, rfl, rfl, w1⟩ := open_int Try.underlying3 (hval 1 3 v1 rfl rfl) h1
  clear hA0 hval0
  refine (walk a0 a1 W w0 w1).mono fun e W' ⟨he, bel⟩ => ?_
  subst he
  exact ⟨_, rfl, _, _, _, [], _, [], hW', trodAll_mk1 (shut_bool Try.underlying4 _), (trodAll_cons_mk (shut_int Try.underlying3 w0) (trodAll_cons_mk (shut_int Try.underlying3 w1) trodAll_mk0)), rfl, bel.frame _, fun h => by cases h⟩

theorem over : Rows.hittingOwnRow.holds Try.pinned (OpenSpec.ofChange Rows.hittingOwnSpec) :=
  OpenClaim.holds_of_wide 5 Try.f5 rfl rfl rfl rfl rfl rfl rfl ⟨rfl, rfl, rfl, rfl, rfl⟩ rfl rfl rfl rfl rfl (by kernel_rfl) Try.func5 (by kernel_rfl)
    (of_decide_eq_true (by kernel_rfl)) (by unfold Func.isWrapper; first | (rw [if_pos (by decide +kernel)]; kernel_rfl) | (rw [if_neg (by decide +kernel)]; exact ⟨rfl, rfl⟩))
    (fun os started H enc _ => lifted os started H enc)

end Go.Proofs.Ytdhahlghldgggaa.hittingOwn
namespace Go.Proofs.Ytdhahlghldgggaa
theorem hittingOwn_proved : Rows.HittingOwnSaid := hittingOwn.over
end Go.Proofs.Ytdhahlghldgggaa
