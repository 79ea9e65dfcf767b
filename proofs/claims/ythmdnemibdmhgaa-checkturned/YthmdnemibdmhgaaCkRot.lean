/- Package check: math/bits.RotateLeft64, slices.Equal, the document's Sum, the program's. -/
import Derived.Test.YthmdnemibdmhgaaCkPure
import Derived.Test.YthmdnemibdmhgaaByTyp
namespace Go.Proofs.Ythmdnemibdmhgaa.Fx
open Go.ChangeShapes Go.WideShapes Go.ChangeAt Go.RowKit
set_option linter.unusedVariables false
set_option maxRecDepth 100000

theorem rot5_or {x : Int} (h0 : 0 ≤ x) (h1 : x < 18446744073709551616) : bits .or .u64 (IntKind.u64.wrap (x * 32)) (x / 576460752303423488) = rot5 x := by
  obtain ⟨n, rfl⟩ := Int.eq_ofNat_of_zero_le h0
  rw [IntKind.wrap_u64]
  rw [show ((n : Int) * 32 % 18446744073709551616) = ((32 * (n % 576460752303423488) : Nat) : Int) by omega, show ((n : Int) / 576460752303423488) = ((n / 576460752303423488 : Nat) : Int) by omega, bits_or_u64_nat _ _ (by omega) (by omega)]
  have h := Nat.two_pow_add_eq_or_of_lt (i := 5) (b := n / 576460752303423488) (by omega) (n % 576460752303423488)
  rw [show (2 : Nat) ^ 5 = 32 by rfl] at h
  rw [← h]
  unfold rot5
  omega

theorem rot8_or {x : Int} (h0 : 0 ≤ x) (h1 : x < 18446744073709551616) : bits .or .u64 (IntKind.u64.wrap (x * 256)) (x / 72057594037927936) = rot8 x := by
  obtain ⟨n, rfl⟩ := Int.eq_ofNat_of_zero_le h0
  rw [IntKind.wrap_u64]
  rw [show ((n : Int) * 256 % 18446744073709551616) = ((256 * (n % 72057594037927936) : Nat) : Int) by omega, show ((n : Int) / 72057594037927936) = ((n / 72057594037927936 : Nat) : Int) by omega, bits_or_u64_nat _ _ (by omega) (by omega)]
  have h := Nat.two_pow_add_eq_or_of_lt (i := 8) (b := n / 72057594037927936) (by omega) (n % 72057594037927936)
  rw [show (2 : Nat) ^ 8 = 256 by rfl] at h
  rw [← h]
  unfold rot8
  omega

theorem rot5_any (x : Int) (w : World) (h0 : 0 ≤ x) (h1 : x < 18446744073709551616) :
    Calls Try.prog 20 #[.int .u64 x, .int .i64 5] w fun e w' => e = .returned (.int .u64 (rot5 x)) ∧ w = w' := by
  have ek : bits .and .u64 5 63 = 5 := by decide
  go_enter Try.func20, Try.ntmps20
  go_wp2
  go_ret
  exact ⟨ret_int (rot5_or h0 h1), rfl⟩

theorem rot8_any (x : Int) (w : World) (h0 : 0 ≤ x) (h1 : x < 18446744073709551616) :
    Calls Try.prog 20 #[.int .u64 x, .int .i64 8] w fun e w' => e = .returned (.int .u64 (rot8 x)) ∧ w = w' := by
  have ek : bits .and .u64 8 63 = 8 := by decide
  go_enter Try.func20, Try.ntmps20
  go_wp2
  go_ret
  exact ⟨ret_int (rot8_or h0 h1), rfl⟩

theorem sum_snoc {l : List Int} {k : Nat} {y : Int} (h : l[k]? = some y) (x : Int) : (l.take (k + 1)).foldl stp x = stp ((l.take k).foldl stp x) y := by
  rw [take_at h, List.foldl_append]
  rfl

/-- The document's Sum. -/
theorem rsum_any (v : Value) (l : List Int) (w : World) (hv : IsSl byC w v l) (hl : l.length ≤ 1000000) :
    Calls Try.prog 12 #[v] w fun e w' => e = .returned (.int .u64 (sumL l)) ∧ w = w' := by
  have HV := Lib.hid hv
  obtain ⟨A, c, rfl, -⟩ := hv
  obtain ⟨n, hn⟩ : ∃ n, l.length = n := ⟨_, rfl⟩
  rw [hn] at HV hl ⊢
  have HN := Lib.hid hn
  clear hn
  go_enter Try.func12, Try.ntmps12
  go_wp2
  go_loop [3, 4] (fun x i => ∃ k : Nat, k ≤ n ∧ i = .int .i64 k ∧ x = .int .u64 (sumL (l.take k))) (fun _ i => n - (intOf i).toNat)
  case atStart => exact ⟨0, Nat.zero_le _, rfl, rfl⟩
  case round =>
    obtain ⟨k, hk, rfl, rfl⟩ := hrel
    by_cases hlt : k < n
    · obtain ⟨y, hy⟩ := getE l k n HN.out hlt
      obtain ⟨b, off, rfl, hc⟩ := HV.out.by hy
      have HS := Lib.hid (show sumL (l.take (k + 1)) = stp (sumL (l.take k)) y from sum_snoc hy _)
      have hbd := sumL_bd (l.take k)
      have HB := Lib.hid hbd
      clear hy hbd
      generalize sumL (l.take k) = x at *
      go_wp2
      go_round
      case rel => exact ⟨k + 1, by omega, by go_num, by rw [HS.out]; unfold stp; rw [← rot5_or HB.out.1 HB.out.2]⟩
      case measure => simp [intOf]; omega
    · go_wp2
      go_ret
      exact ⟨ret_int (by rw [List.take_of_length_le (by have := HN.out; omega)]), rfl⟩

end Go.Proofs.Ythmdnemibdmhgaa.Fx
