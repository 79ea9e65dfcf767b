/- slices.Index and slices.Contains over integers. -/
import Derived.Test.YtlpkaljepaclpaaGreatM06
namespace Go.Proofs.YtlpkaljepaclpaaGreat.Fx
open Go.ChangeShapes Go.WideShapes Go.ChangeAt Go.RowKit
set_option linter.unusedVariables false
set_option maxRecDepth 100000

theorem idx_any (A : Option Addr) (n c : Nat) (l : List Int) (x : Int) (w : World) (hl : IntsAt w A n l) (hn : n ≤ 1000000) :
    Calls Tryz.prog 239 #[.slice A n c, .int .i64 x] w fun e w' => (∃ r : Int, e = .returned (.int .i64 r) ∧ (0 ≤ r ↔ x ∈ l)) ∧ w = w' := by
  obtain ⟨hlen, hat⟩ := hl
  have Hlen := Lib.hid hlen
  have Hat := Lib.hid hat
  clear hat hlen
  go_enter Tryz.func239, Tryz.ntmps239
  go_wp2
  go_loop [8] (fun i => ∃ k : Nat, k ≤ n ∧ i = .int .i64 k ∧ ∀ j, j < k → gi l j ≠ x) (fun i => n - (intOf i).toNat)
  case atStart => exact ⟨0, Nat.zero_le _, rfl, fun j hj => by omega⟩
  case round =>
    obtain ⟨k, hk, rfl, hno⟩ := hrel
    have Hno := Lib.hid hno
    clear hno
    by_cases hlt : k < n
    · obtain ⟨b, off, hA, hc⟩ := Hat.out (by omega)
      subst hA
      have hck := hc k hlt
      clear hc
      have Hg := Lib.hid (show gi l k = l.getD k 0 from rfl)
      have HG := Lib.hid (show ∃ v, gi l k = v from ⟨_, rfl⟩)
      obtain ⟨v, hv⟩ := HG.out
      rw [hv] at hck
      by_cases hxy : x = v
      · go_wp2
        go_ret
        exact ⟨⟨k, rfl, by
          refine ⟨fun _ => ?_, fun _ => by omega⟩
          (try rw [hxy]); rw [← hv, Hg.out, List.getD_eq_getElem?_getD, List.getElem?_eq_getElem (by have := Hlen.out; omega)]
          exact List.getElem_mem _⟩, rfl⟩
      · have hxy' : (x == v) = false := by simpa using hxy
        go_wp2
        go_round
        case rel => exact ⟨k + 1, by omega, by go_num, fun j hj => by
          by_cases h : j < k
          · exact Hno.out j h
          · obtain rfl : j = k := by omega
            rw [hv]; exact fun h => hxy h.symm⟩
        case measure => simp [intOf]; omega
    · go_wp2
      go_ret
      have hnot : ¬ x ∈ l := by
        intro hm
        obtain ⟨j, hj, rfl⟩ := List.mem_iff_getElem.1 hm
        have := Hno.out j (by have := Hlen.out; omega)
        unfold gi at this
        rw [List.getD_eq_getElem?_getD, List.getElem?_eq_getElem hj] at this
        exact this rfl
      exact ⟨⟨-1, rfl, by simp [hnot]⟩, rfl⟩

theorem contains_any (A : Option Addr) (n c : Nat) (l : List Int) (x : Int) (w : World) (hl : IntsAt w A n l) (hn : n ≤ 1000000) :
    Calls Tryz.prog 191 #[.slice A n c, .int .i64 x] w fun e w' => e = .returned (.bool (inB l x)) ∧ w = w' := by
  have HI := Lib.hid (idx_any A n c l x w hl hn)
  have HB := Lib.hid (show inB l x = decide (x ∈ l) from rfl)
  generalize inB l x = q at *
  clear hl
  go_enter Tryz.func191, Tryz.ntmps191
  go_wp2_with fail
  refine HI.out.mono ?_
  rintro e w' ⟨⟨r, rfl, hr⟩, rfl⟩
  have Hr := Lib.hid hr
  clear hr
  go_wp2
  go_ret
  exact ⟨ret_bool (by rw [HB.out]; simp [Hr.out]), rfl⟩

end Go.Proofs.YtlpkaljepaclpaaGreat.Fx
