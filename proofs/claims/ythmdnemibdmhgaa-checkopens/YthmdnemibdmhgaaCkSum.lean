/- Package check: the program's Sum. -/
import Derived.Test.YthmdnemibdmhgaaCkRot
import Derived.Test.YthmdnemibdmhgaaByTyp
namespace Go.Proofs.Ythmdnemibdmhgaa.Fx
open Go.ChangeShapes Go.WideShapes Go.ChangeAt Go.RowKit
set_option linter.unusedVariables false
set_option maxRecDepth 100000

set_option maxHeartbeats 1000000 in
/-- The program's Sum, of any parts. -/
theorem csum_any (V : Value) (vs : List Value) (ls : List (List Int)) (w : World) (hV : IsSl oneB w V vs) (hA : AllBy w vs ls) (hk : vs.length ≤ 1000000) (hn : ∀ l ∈ ls, l.length ≤ 1000000) :
    Calls Try.prog 11 #[V] w fun e w' => e = .returned (.int .u64 (sumL ls.flatten)) ∧ w = w' := by
  obtain ⟨A, c, rfl, -, -, hat⟩ := hV
  rw [flat_oneB] at hat
  have hlen := hA.1
  obtain ⟨N, hN⟩ : ∃ N, vs.length = N := ⟨_, rfl⟩
  rw [hN] at hk hlen ⊢
  have HN := Lib.hid hN
  have HLen := Lib.hid hlen
  have Hat := Lib.hid hat
  have HA := Lib.hid hA
  have Hn := Lib.hid hn
  have HR := Lib.hid rot5_any
  clear hat hA hN hlen hn
  go_enter Try.func11, Try.ntmps11
  go_wp2
  go_loop [3, 10] (fun s i => ∃ k : Nat, k ≤ N ∧ i = .int .i64 k ∧ s = .int .u64 (sumL (ls.take k).flatten)) (fun _ i => N - (intOf i).toNat)
  case atStart => exact ⟨0, Nat.zero_le _, rfl, rfl⟩
  case round =>
    obtain ⟨k, hk', rfl, rfl⟩ := hrel
    by_cases hlt : k < N
    · obtain ⟨v, hv⟩ := getE vs k N HN.out hlt
      obtain ⟨l, hl⟩ := getE ls k N HLen.out.symm hlt
      have HT := Lib.hid (show sumL (ls.take (k + 1)).flatten = l.foldl stp (sumL (ls.take k).flatten) from by rw [take_at hl, List.flatten_append, sumL_app]; simp)
      have HV := Lib.hid (HA.out.2 k v l hv hl)
      have hm := Hn.out l (List.mem_of_getElem? hl)
      obtain ⟨A', c', rfl, -⟩ := HV.out
      obtain ⟨b, off, rfl, hc⟩ := Hat.out (fun h => by rw [h] at hv; simp at hv)
      have hck := hc k _ hv
      have HB := Lib.hid (sumL_bd (ls.take k).flatten)
      clear hc hv hl
      generalize sumL (ls.take k).flatten = x at *
      obtain ⟨m, hlm⟩ : ∃ m, l.length = m := ⟨_, rfl⟩
      rw [hlm] at HV hm hck
      have HM := Lib.hid hlm
      clear hlm
      go_wp2
      go_loop [3, 16] (fun s i => ∃ j : Nat, j ≤ m ∧ i = .int .i64 j ∧ s = .int .u64 ((l.take j).foldl stp x)) (fun _ i => m - (intOf i).toNat)
      case atStart => exact ⟨0, Nat.zero_le _, rfl, rfl⟩
      case round =>
        obtain ⟨j, hj, rfl, rfl⟩ := hrel
        by_cases hlt2 : j < m
        · obtain ⟨y, hy⟩ := getE l j m HM.out hlt2
          obtain ⟨b2, o2, rfl, hc2⟩ := HV.out.by hy
          have HS := Lib.hid (sum_snoc hy x)
          have hbd := fold_stp_bd (l.take j) x HB.out.1 HB.out.2
          clear hy
          generalize (l.take j).foldl stp x = q at *
          go_wp2_with fail
          refine (HR.out q _ hbd.1 hbd.2).mono ?_
          rintro e w' ⟨rfl, rfl⟩
          have HBd := Lib.hid hbd
          clear hbd
          go_wp2
          go_round
          case rel => exact ⟨j + 1, by omega, by go_num, by rw [HS.out]; rfl⟩
          case measure => simp [intOf]; omega
        · obtain rfl : j = m := by omega
          go_wp2
          go_round
          case rel => exact ⟨k + 1, by omega, by go_num, by rw [HT.out, List.take_of_length_le (by rw [HM.out]; omega)]⟩
          case measure => simp [intOf]; omega
    · go_wp2
      go_ret
      exact ⟨ret_int (by rw [List.take_of_length_le (by have := HLen.out; omega)]), rfl⟩

end Go.Proofs.Ythmdnemibdmhgaa.Fx
