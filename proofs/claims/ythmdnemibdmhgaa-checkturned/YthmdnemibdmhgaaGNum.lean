/- int(uint(x)%m): what it is. -/
import Derived.Test.YthmdnemibdmhgaaGBase
namespace Go.Proofs.Ythmdnemibdmhgaa.Fx
open Go.ChangeShapes Go.WideShapes Go.ChangeAt Go.RowKit

theorem umod (x m : Int) (hm : 1 ≤ m) (hm2 : m ≤ 1000000) : wrap64 ((IntKind.u64.wrap x).tmod m) = IntKind.u64.wrap x % m ∧ 0 ≤ IntKind.u64.wrap x % m ∧ IntKind.u64.wrap x % m < m := by
  have h0 : 0 ≤ IntKind.u64.wrap x := by rw [IntKind.wrap_u64]; omega
  have h1 := Int.emod_nonneg (IntKind.u64.wrap x) (show m ≠ 0 by omega)
  have h2 := Int.emod_lt_of_pos (IntKind.u64.wrap x) (show 0 < m by omega)
  rw [Int.tmod_eq_emod_of_nonneg h0, IntWalk.wrap64_in _ (by omega)]
  exact ⟨rfl, h1, h2⟩

theorem umodR (x R : Int) (h1 : 1 ≤ R) (h2 : R ≤ 1000000) : IntKind.i64.wrap ((IntKind.u64.wrap x).tmod R) = IntKind.u64.wrap x % R ∧ 0 ≤ IntKind.i64.wrap ((IntKind.u64.wrap x).tmod R) ∧ IntKind.i64.wrap ((IntKind.u64.wrap x).tmod R) < R := by
  obtain ⟨h, h3, h4⟩ := umod x R h1 h2
  have : IntKind.i64.wrap ((IntKind.u64.wrap x).tmod R) = IntKind.u64.wrap x % R := by rw [← h, IntKind.wrap_i64, wrap64]
  rw [this]
  exact ⟨rfl, h3, h4⟩

theorem umod1 (x m : Int) (hm : 1 ≤ m) (hm2 : m ≤ 1000000) : 1 ≤ wrap64 (1 + wrap64 ((IntKind.u64.wrap x).tmod m)) ∧ wrap64 (1 + wrap64 ((IntKind.u64.wrap x).tmod m)) ≤ m := by
  obtain ⟨h, h1, h2⟩ := umod x m hm hm2
  rw [h, IntWalk.wrap64_in _ (by omega)]
  omega

/-- The place that int(uint(x)%uint(n)) is, of n places. -/
theorem uplace (x : Int) (n : Nat) (h0 : 0 < n) (h1 : n ≤ 1000000) : ∃ j : Nat, j < n ∧ IntKind.i64.wrap ((IntKind.u64.wrap x).tmod n) = j := by
  obtain ⟨h, h2, h3⟩ := umodR x n (by omega) (by omega)
  exact ⟨(IntKind.i64.wrap ((IntKind.u64.wrap x).tmod n)).toNat, by omega, by omega⟩

end Go.Proofs.Ythmdnemibdmhgaa.Fx
