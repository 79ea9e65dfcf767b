/- Is one among some (jousthelp.In of integers)? -/
import Derived.Test.YtbmboidmgdpnoaaGBase
namespace Go.Proofs.Ytbmboidmgdpnoaa.Fx
open Go.ChangeShapes Go.WideShapes Go.ChangeAt Go.RowKit
set_option linter.unusedVariables false

/-- In's plain meaning. -/
def inB (l : List Int) (x : Int) : Bool := decide (x ∈ l)

theorem in_any (A : Option Addr) (n c : Nat) (l : List Int) (x : Int) (w : World) (hl : IntsAt w A n l) (hn : n ≤ 1000000) :
    Calls Try.prog 24 #[.slice A n c, .int .i64 x] w fun e w' => e = .returned (.bool (inB l x)) ∧ w = w' := by
  obtain ⟨hlen, hat⟩ := hl
  have Hlen := Lib.hid hlen
  have Hat := Lib.hid hat
  have HB := Lib.hid (show inB l x = decide (x ∈ l) from rfl)
  clear hat hlen
  generalize inB l x = r at *
  go_enter Try.func24, Try.ntmps24
  go_wp2
  go_loop [5] (fun i => ∃ k : Nat, k ≤ n ∧ i = .int .i64 k ∧ ∀ j, j < k → gi l j ≠ x) (fun i => n - (intOf i).toNat)
  case atStart => exact ⟨0, Nat.zero_le _, rfl, fun j hj => by omega⟩
  case round =>
    obtain ⟨k, hk, rfl, hno⟩ := hrel
    have Hno := Lib.hid hno
    clear hno
    by_cases hlt : k < n
    · obtain ⟨b, off, hA, hc⟩ := Hat.out (by omega)
      subst hA
      have hck := hc k hlt
      clear hc
      have HG := Lib.hid (show gi l k ∈ l by unfold gi; rw [List.getD_eq_getElem?_getD, List.getElem?_eq_getElem (by have := Hlen.out; omega)]; simp)
      generalize hg : gi l k = y at *
      have Hg := Lib.hid hg
      clear hg
      by_cases hxy : y = x
      · subst hxy
        go_wp2
        go_ret
        exact ⟨ret_bool (by rw [HB.out]; simp [HG.out]), rfl⟩
      · have hxy' : (y == x) = false := by simpa using hxy
        go_wp2
        go_round
        case rel => exact ⟨k + 1, by omega, by go_num, fun j hj => by rcases Nat.lt_succ_iff_lt_or_eq.1 hj with h | rfl; exact Hno.out j h; rw [Hg.out]; exact hxy⟩
        case measure => simp [intOf]; omega
    · go_wp2
      go_ret
      have hnot : ¬ x ∈ l := by
        intro hm
        obtain ⟨j, hj, rfl⟩ := List.mem_iff_getElem.1 hm
        have := Hno.out j (by have := Hlen.out; omega)
        unfold gi at this
        rw [List.getD_eq_getElem?_getD, List.getElem?_eq_getElem hj] at this
        exact this rfl
      exact ⟨ret_bool (by rw [HB.out]; simp [hnot]), rfl⟩

end Go.Proofs.Ytbmboidmgdpnoaa.Fx
