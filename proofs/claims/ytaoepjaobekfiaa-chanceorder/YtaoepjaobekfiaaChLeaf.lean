/- Contracts of package chance (Mix, At, Below), and of the document's beside it: what each returns, for every input; Mix is one to one. -/
import Derived.Test.YtaoepjaobekfiaaGMem
namespace Go.Proofs.Ytaoepjaobekfiaa.Fx
open Go.ChangeShapes Go.WideShapes Go.ChangeAt Go.RowKit
set_option linter.unusedVariables false

/-- A number exclusive or itself by 2^33. -/
def fold (x : Int) : Int := bits .xor .u64 x (x / 8589934592)
/-- A product, going round. -/
def mul (x m : Int) : Int := IntKind.u64.wrap (x * m)
/-- Mix's plain meaning. -/
def mix (x : Int) : Int := fold (mul (fold (mul (fold x) 18397679294719823053)) 14181476777654086739)

theorem fold_nat (n : Nat) (h : n < 18446744073709551616) : fold (n : Int) = ((n ^^^ n >>> 33 : Nat) : Int) := by
  unfold fold
  rw [show ((n : Int) / 8589934592) = ((n / 8589934592 : Nat) : Int) by omega, bits_xor_u64_nat _ _ h (by omega), Nat.shiftRight_eq_div_pow]
theorem nat_fold_lt (n : Nat) (h : n < 18446744073709551616) : n ^^^ n >>> 33 < 18446744073709551616 := by
  have h2 : n >>> 33 < 2 ^ 64 := by rw [Nat.shiftRight_eq_div_pow]; omega
  exact Nat.xor_lt_two_pow (n := 64) (by simpa using h) h2
theorem nat_fold_fold (n : Nat) (h : n < 18446744073709551616) : (n ^^^ n >>> 33) ^^^ (n ^^^ n >>> 33) >>> 33 = n := by
  have h0 : n >>> 33 >>> 33 = 0 := by rw [← Nat.shiftRight_add, Nat.shiftRight_eq_div_pow]; omega
  rw [Nat.shiftRight_xor_distrib, h0, Nat.xor_zero, Nat.xor_assoc, Nat.xor_self, Nat.xor_zero]

theorem fold_bd (x : Int) (h0 : 0 ≤ x) (h1 : x < 18446744073709551616) : 0 ≤ fold x ∧ fold x < 18446744073709551616 := by
  obtain ⟨n, rfl⟩ := Int.eq_ofNat_of_zero_le h0
  rw [fold_nat n (by omega)]
  have := nat_fold_lt n (by omega)
  omega
theorem fold_fold (x : Int) (h0 : 0 ≤ x) (h1 : x < 18446744073709551616) : fold (fold x) = x := by
  obtain ⟨n, rfl⟩ := Int.eq_ofNat_of_zero_le h0
  rw [fold_nat n (by omega), fold_nat _ (nat_fold_lt n (by omega)), nat_fold_fold n (by omega)]

theorem mul_bd (x m : Int) : 0 ≤ mul x m ∧ mul x m < 18446744073709551616 := by
  unfold mul; rw [IntKind.wrap_u64]; omega
theorem mul_back1 (x : Int) (h0 : 0 ≤ x) (h1 : x < 18446744073709551616) : mul (mul x 18397679294719823053) 5725274745694666757 = x := by
  unfold mul; rw [IntKind.wrap_u64, IntKind.wrap_u64]; omega
theorem mul_back2 (x : Int) (h0 : 0 ≤ x) (h1 : x < 18446744073709551616) : mul (mul x 14181476777654086739) 11291846944257947611 = x := by
  unfold mul; rw [IntKind.wrap_u64, IntKind.wrap_u64]; omega

theorem mix_bd (x : Int) : 0 ≤ mix x ∧ mix x < 18446744073709551616 :=
  fold_bd _ (mul_bd _ _).1 (mul_bd _ _).2
/-- Mix, gone back. -/
def unmix (y : Int) : Int := fold (mul (fold (mul (fold y) 11291846944257947611)) 5725274745694666757)
theorem unmix_mix (x : Int) (h0 : 0 ≤ x) (h1 : x < 18446744073709551616) : unmix (mix x) = x := by
  unfold unmix mix
  have a := fold_bd x h0 h1
  have b := mul_bd (fold x) 18397679294719823053
  have c := fold_bd _ b.1 b.2
  have d := mul_bd (fold (mul (fold x) 18397679294719823053)) 14181476777654086739
  rw [fold_fold _ d.1 d.2, mul_back2 _ c.1 c.2, fold_fold _ b.1 b.2, mul_back1 _ a.1 a.2, fold_fold _ h0 h1]
theorem mix_inj (x y : Int) (h0 : 0 ≤ x) (h1 : x < 18446744073709551616) (k0 : 0 ≤ y) (k1 : y < 18446744073709551616) : mix x = mix y ↔ x = y := by
  refine ⟨fun h => ?_, fun h => by rw [h]⟩
  have := congrArg unmix h
  rwa [unmix_mix x h0 h1, unmix_mix y k0 k1] at this

theorem folded_any (x : Int) (w : World) (h0 : 0 ≤ x) (h1 : x < 18446744073709551616) :
    Calls Try.prog 17 #[.int .u64 x] w fun e w' => e = .returned (.int .u64 (fold x)) ∧ w = w' := by
  go_enter Try.func17, Try.ntmps17
  go_wp2
  go_ret
  exact ⟨rfl, rfl⟩
theorem mix_any (x : Int) (w : World) (h0 : 0 ≤ x) (h1 : x < 18446744073709551616) :
    Calls Try.prog 9 #[.int .u64 x] w fun e w' => e = .returned (.int .u64 (mix x)) ∧ w = w' := by
  have a := fold_bd x h0 h1
  have b := mul_bd (fold x) 18397679294719823053
  have c := fold_bd _ b.1 b.2
  have d := mul_bd (fold (mul (fold x) 18397679294719823053)) 14181476777654086739
  unfold mul at b d c
  go_enter Try.func9, Try.ntmps9
  go_wp2_with fail
  refine (folded_any _ _ h0 h1).mono ?_
  rintro e w' ⟨rfl, rfl⟩
  go_wp2_with fail
  refine (folded_any _ _ b.1 b.2).mono ?_
  rintro e w' ⟨rfl, rfl⟩
  go_wp2_with fail
  refine (folded_any _ _ d.1 d.2).mono ?_
  rintro e w' ⟨rfl, rfl⟩
  go_wp2
  go_ret
  exact ⟨rfl, rfl⟩
theorem rmix_any (x : Int) (w : World) (h0 : 0 ≤ x) (h1 : x < 18446744073709551616) :
    Calls Try.prog 10 #[.int .u64 x] w fun e w' => e = .returned (.int .u64 (mix x)) ∧ w = w' := by
  go_enter Try.func10, Try.ntmps10
  go_wp2
  go_ret
  exact ⟨rfl, rfl⟩

/-- A number more, behind what there is. -/
def nxt (x v : Int) : Int := mix (IntKind.u64.wrap (IntKind.u64.wrap (x + IntKind.u64.wrap v) + 11400714819323198485))
/-- At's plain meaning. -/
def atl (seed : Int) (l : List Int) : Int := l.foldl nxt (mix seed)
theorem atl_snoc (s : Int) (l : List Int) (k : Nat) (h : k < l.length) : atl s (l.take (k + 1)) = nxt (atl s (l.take k)) (gi l k) := by
  unfold atl
  rw [List.take_succ_eq_append_getElem h, List.foldl_append]
  simp [gi, List.getD_eq_getElem?_getD, List.getElem?_eq_getElem h]
theorem wr_bd (v : Int) : 0 ≤ IntKind.u64.wrap v ∧ IntKind.u64.wrap v < 18446744073709551616 := by rw [IntKind.wrap_u64]; omega
theorem nxt_bd (x v : Int) : 0 ≤ nxt x v ∧ nxt x v < 18446744073709551616 := mix_bd _
theorem atl_bd (s : Int) (l : List Int) : 0 ≤ atl s l ∧ atl s l < 18446744073709551616 := by
  rcases List.eq_nil_or_concat l with rfl | ⟨x, y, rfl⟩
  · exact mix_bd s
  · unfold atl; rw [List.concat_eq_append, List.foldl_append]; exact nxt_bd _ _

theorem at_any (s : Int) (A : Option Addr) (n c : Nat) (l : List Int) (w : World) (h0 : 0 ≤ s) (h1 : s < 18446744073709551616) (hl : IntsAt w A n l) (hn : n ≤ 1000000000000000) :
    Calls Try.prog 11 #[.int .u64 s, .slice A n c] w fun e w' => e = .returned (.int .u64 (atl s l)) ∧ w = w' := by
  obtain ⟨hlen, hat⟩ := hl
  have Hlen := Lib.hid hlen
  have Hat := Lib.hid hat
  clear hat hlen
  go_enter Try.func11, Try.ntmps11
  go_wp2_with fail
  refine (mix_any _ _ h0 h1).mono ?_
  rintro e w' ⟨rfl, rfl⟩
  go_wp2
  go_loop [5, 12] (fun x i => ∃ k : Nat, k ≤ n ∧ i = .int .i64 k ∧ x = .int .u64 (atl s (l.take k))) (fun _ i => n - (intOf i).toNat)
  case atStart => exact ⟨0, Nat.zero_le _, rfl, rfl⟩
  case round =>
    obtain ⟨k, hk, rfl, rfl⟩ := hrel
    by_cases hlt : k < n
    · obtain ⟨b, off, hA, hc⟩ := Hat.out (by omega)
      subst hA
      have hck := hc k hlt
      clear hc
      have HS := Lib.hid (atl_snoc s l k (by have := Hlen.out; omega))
      go_wp2_with fail
      refine (mix_any _ _ (wr_bd _).1 (wr_bd _).2).mono ?_
      rintro e w' ⟨rfl, rfl⟩
      go_wp2
      go_round
      case rel => exact ⟨k + 1, by omega, by go_num, by rw [HS.out]; rfl⟩
      case measure => simp [intOf]; omega
    · go_wp2
      go_ret
      exact ⟨ret_int (by rw [List.take_of_length_le (by have := Hlen.out; omega)]), rfl⟩

theorem rat_any (s : Int) (A : Option Addr) (n c : Nat) (l : List Int) (w : World) (h0 : 0 ≤ s) (h1 : s < 18446744073709551616) (hl : IntsAt w A n l) (hn : n ≤ 1000000000000000) :
    Calls Try.prog 12 #[.int .u64 s, .slice A n c] w fun e w' => e = .returned (.int .u64 (atl s l)) ∧ w = w' := by
  obtain ⟨hlen, hat⟩ := hl
  have Hlen := Lib.hid hlen
  have Hat := Lib.hid hat
  clear hat hlen
  go_enter Try.func12, Try.ntmps12
  go_wp2_with fail
  refine (rmix_any _ _ h0 h1).mono ?_
  rintro e w' ⟨rfl, rfl⟩
  go_wp2
  go_loop [5, 6] (fun x i => ∃ k : Nat, k ≤ n ∧ i = .int .i64 k ∧ x = .int .u64 (atl s (l.take k))) (fun _ i => n - (intOf i).toNat)
  case atStart => exact ⟨0, Nat.zero_le _, rfl, rfl⟩
  case round =>
    obtain ⟨k, hk, rfl, rfl⟩ := hrel
    by_cases hlt : k < n
    · obtain ⟨b, off, hA, hc⟩ := Hat.out (by omega)
      subst hA
      have hck := hc k hlt
      clear hc
      have HS := Lib.hid (atl_snoc s l k (by have := Hlen.out; omega))
      go_wp2_with fail
      refine (rmix_any _ _ (wr_bd _).1 (wr_bd _).2).mono ?_
      rintro e w' ⟨rfl, rfl⟩
      go_wp2
      go_round
      case rel => exact ⟨k + 1, by omega, by go_num, by rw [HS.out]; rfl⟩
      case measure => simp [intOf]; omega
    · go_wp2
      go_ret
      exact ⟨ret_int (by rw [List.take_of_length_le (by have := Hlen.out; omega)]), rfl⟩

/-- Below's plain meaning. -/
def bel (n s : Int) (l : List Int) : Int := if n < 1 then 0 else atl s l % n
theorem bel_bd (n s : Int) (l : List Int) (h : 1 ≤ n) : 0 ≤ bel n s l ∧ bel n s l < n := by
  unfold bel
  rw [if_neg (by omega)]
  exact ⟨Int.emod_nonneg _ (by omega), Int.emod_lt_of_pos _ (by omega)⟩

theorem bel_val (m s : Int) (l : List Int) (h : 1 ≤ m) (hm : m ≤ 9223372036854775807) : wrap64 (atl s l % m) = bel m s l := by
  rw [IntWalk.wrap64_in _ (by have := Int.emod_nonneg (atl s l) (show m ≠ 0 by omega); have := Int.emod_lt_of_pos (atl s l) (show 0 < m by omega); omega)]
  unfold bel
  rw [if_neg (by omega)]

theorem below_any (m s : Int) (A : Option Addr) (n c : Nat) (l : List Int) (w : World) (hm : m ≤ 9223372036854775807) (h0 : 0 ≤ s) (h1 : s < 18446744073709551616) (hl : IntsAt w A n l) (hn : n ≤ 1000000000000000) :
    Calls Try.prog 13 #[.int .i64 m, .int .u64 s, .slice A n c] w fun e w' => e = .returned (.int .i64 (bel m s l)) ∧ w = w' := by
  have Hl := Lib.hid hl
  clear hl
  have hb := atl_bd s l
  by_cases h : m < 1
  · go_enter Try.func13, Try.ntmps13
    go_wp2
    go_ret
    exact ⟨ret_int (by unfold bel; rw [if_pos h]), rfl⟩
  · have hz : ¬ IntKind.u64.wrap m = 0 := by rw [IntKind.wrap_u64]; omega
    go_enter Try.func13, Try.ntmps13
    go_wp2_with fail
    refine (at_any _ _ _ _ _ _ h0 h1 Hl.out hn).mono ?_
    rintro e w' ⟨rfl, rfl⟩
    go_wp2
    go_ret
    exact ⟨ret_int (bel_val m s l (by omega) hm), rfl⟩

theorem rbelow_any (m s : Int) (A : Option Addr) (n c : Nat) (l : List Int) (w : World) (hm : m ≤ 9223372036854775807) (h0 : 0 ≤ s) (h1 : s < 18446744073709551616) (hl : IntsAt w A n l) (hn : n ≤ 1000000000000000) :
    Calls Try.prog 14 #[.int .i64 m, .int .u64 s, .slice A n c] w fun e w' => e = .returned (.int .i64 (bel m s l)) ∧ w = w' := by
  have Hl := Lib.hid hl
  clear hl
  have hb := atl_bd s l
  by_cases h : m < 1
  · go_enter Try.func14, Try.ntmps14
    go_wp2
    go_ret
    exact ⟨ret_int (by unfold bel; rw [if_pos h]), rfl⟩
  · have hz : ¬ IntKind.u64.wrap m = 0 := by rw [IntKind.wrap_u64]; omega
    go_enter Try.func14, Try.ntmps14
    go_wp2_with fail
    refine (rat_any _ _ _ _ _ _ h0 h1 Hl.out hn).mono ?_
    rintro e w' ⟨rfl, rfl⟩
    go_wp2
    go_ret
    exact ⟨ret_int (bel_val m s l (by omega) hm), rfl⟩

theorem mix1 : mix 1 = 12994781566227106604 := by decide +kernel

theorem awake_any (w : World) :
    Calls Try.prog 7 #[] w fun e w' => e = .returned (.bool true) ∧ Below w.heap.size w w' := by
  go_enter Try.func7, Try.ntmps7
  go_wp2_with fail
  refine (mix_any 1 _ (by decide) (by decide)).mono ?_
  rintro e w' ⟨rfl, rfl⟩
  rw [mix1]
  go_wp2_with fail
  refine (rmix_any 1 _ (by decide) (by decide)).mono ?_
  rintro e w' ⟨rfl, rfl⟩
  rw [mix1]
  go_wp2_with fail
  refine (mix_any 1 _ (by decide) (by decide)).mono ?_
  rintro e w' ⟨rfl, rfl⟩
  rw [mix1]
  go_wp2_with fail
  refine (at_any 5 _ 2 _ [1, 2] _ (by decide) (by decide) (ints_new2 _ _ 1 2 _ (by simp)) (by decide)).mono ?_
  rintro e w' ⟨rfl, rfl⟩
  go_wp2_with fail
  refine (rat_any 5 _ 2 _ [1, 2] _ (by decide) (by decide) (ints_new2 _ _ 1 2 _ (by simp)) (by decide)).mono ?_
  rintro e w' ⟨rfl, rfl⟩
  go_wp2
  go_ret
  exact ⟨rfl, ((Below.refl _ _).alloc (Nat.le_refl _) _).alloc (by simp) _⟩

/-- What 'turned' has behind k rounds. -/
def tn (odd : Int) : Nat → Int
  | 0 => odd
  | k + 1 => IntKind.u64.wrap (tn odd k * IntKind.u64.wrap (2 - IntKind.u64.wrap (odd * tn odd k)))
theorem tn_bd (odd : Int) (h0 : 0 ≤ odd) (h1 : odd < 18446744073709551616) (k : Nat) : 0 ≤ tn odd k ∧ tn odd k < 18446744073709551616 := by
  cases k with
  | zero => exact ⟨h0, h1⟩
  | succ k => exact wr_bd _

theorem turned_any (odd : Int) (w : World) (h0 : 0 ≤ odd) (h1 : odd < 18446744073709551616) :
    Calls Try.prog 16 #[.int .u64 odd] w fun e w' => e = .returned (.int .u64 (tn odd 6)) ∧ w = w' := by
  go_enter Try.func16, Try.ntmps16
  go_wp2
  go_loop [3, 4] (fun x i => ∃ k : Nat, k ≤ 6 ∧ i = .int .i64 k ∧ x = .int .u64 (tn odd k)) (fun _ i => 6 - (intOf i).toNat)
  case atStart => exact ⟨0, Nat.zero_le _, rfl, rfl⟩
  case round =>
    obtain ⟨k, hk, rfl, rfl⟩ := hrel
    have hb := tn_bd odd h0 h1 k
    by_cases hlt : k < 6
    · go_wp2
      go_round
      case rel => exact ⟨k + 1, by omega, by go_num, rfl⟩
      case measure => simp [intOf]; omega
    · obtain rfl : k = 6 := by omega
      go_wp2
      go_ret
      exact ⟨rfl, rfl⟩

end Go.Proofs.Ytaoepjaobekfiaa.Fx
