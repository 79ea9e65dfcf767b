/- Contracts of fixed.Add, of the document's Add and of awake: what they return, for every list of integers; old memory stays. -/
import Derived.Test.YtdhahlghldgggaaFxLeaf
import Derived.Below
namespace Go.Proofs.Ytdhahlghldgggaa.Fx
open Go.ChangeShapes Go.WideShapes Go.ChangeAt Go.RowKit

def addl (l : List Int) : Int := l.foldl (fun s v => held (s + held v)) 0
theorem addl_snoc (l : List Int) (k : Nat) (h : k < l.length) : addl (l.take (k + 1)) = held (addl (l.take k) + held (gi l k)) := by
  unfold addl
  rw [List.take_succ_eq_append_getElem h, List.foldl_append]
  simp [gi, List.getD_eq_getElem?_getD, List.getElem?_eq_getElem h]
theorem addl_bd (l : List Int) : -2147483647 ≤ addl l ∧ addl l ≤ 2147483647 := by
  rcases List.eq_nil_or_concat l with rfl | ⟨x, y, rfl⟩
  · exact ⟨by decide, by decide⟩
  · unfold addl; rw [List.concat_eq_append, List.foldl_append]; exact held_bd _

theorem add_any (A : Option Addr) (n c : Nat) (l : List Int) (w : World) (hl : IntsAt w A n l) (hn : n ≤ 1000000000000000) :
    Calls Try.prog 18 #[.slice A n c] w fun e w' => e = .returned (.int .i64 (addl l)) ∧ w = w' := by
  obtain ⟨hlen, hat⟩ := hl
  have Hlen := Lib.hid hlen
  have Hat := Lib.hid hat
  clear hat hlen
  go_enter Try.func18, Try.ntmps18
  go_wp2
  go_loop [3, 8] (fun s i => ∃ k : Nat, k ≤ n ∧ i = .int .i64 k ∧ s = .int .i64 (addl (l.take k))) (fun _ i => n - (intOf i).toNat)
  case atStart => exact ⟨0, Nat.zero_le _, rfl, rfl⟩
  case round =>
    obtain ⟨k, hk, rfl, rfl⟩ := hrel
    by_cases hlt : k < n
    · obtain ⟨b, off, hA, hc⟩ := Hat.out (by omega)
      subst hA
      have hck := hc k hlt
      clear hc
      have hb1 := held_bd (gi l k)
      have hb2 := addl_bd (l.take k)
      have HS := Lib.hid (addl_snoc l k (by have := Hlen.out; omega))
      go_wp2_with (go_at_call 26; refine (held_any _ _).mono ?_; rintro e w' ⟨rfl, rfl⟩)
      go_round
      case rel => exact ⟨k + 1, by omega, by go_num, by rw [HS.out]⟩
      case measure => simp [intOf]; omega
    · go_wp2
      go_ret
      exact ⟨ret_int (by rw [List.take_of_length_le (by have := Hlen.out; omega)]), rfl⟩

theorem addl3 : addl [1, 2, 3] = 6 := by decide +kernel
theorem far34 : far 0 0 3 (-4) = 4 := by decide +kernel
theorem scale73 : scale 7 3 2 = 10 := by decide +kernel

end Go.Proofs.Ytdhahlghldgggaa.Fx
