/- Contracts of the small functions of package fixed, and of the document's answers beside it: what each returns, for every input; none of them turns the world. Contracts of fixed.Add, of the document's Add and of awake: what they return, for every list of integers; old memory stays. Contracts of package chance (Mix, At, Below), and of the document's beside it: what each returns, for every input; Mix is one to one. Contracts of package input's small functions and of the document's answers beside them: what each returns, for every input; old memory stays. -/
import Derived.Test.YtfpofegfbinalaaGreatM01
import Derived.WalkKit
import Derived.ProofKit
import Derived.OpenShut
import Derived.Lib.Hide
import Derived.Below
import Derived.Laws.StructEq
namespace Go.Proofs.YtfpofegfbinalaaGreat.Fx
open Go.ChangeShapes Go.WideShapes Go.ChangeAt Go.RowKit

/-- Clamp's plain meaning. -/
def clamp (v lo hi : Int) : Int := if v < lo then lo else if hi < v then hi else v
/-- Held's plain meaning. -/
def held (v : Int) : Int := if v < -2147483647 then -2147483647 else if 2147483647 < v then 2147483647 else v
theorem held_bd (v : Int) : -2147483647 ≤ held v ∧ held v ≤ 2147483647 := by unfold held; omega
theorem held_id (v : Int) (h1 : -2147483647 ≤ v) (h2 : v ≤ 2147483647) : held v = v := by unfold held; omega
def sub (a b : Int) : Int := held (held a - held b)
def scale (v n d : Int) : Int := held ((held v * held n).tdiv (held d))
def far (ax ay bx b_y : Int) : Int := max (max (sub ax bx) (-(sub ax bx))) (max (sub ay b_y) (-(sub ay b_y)))

theorem clamp_any (v lo hi : Int) (w : World) :
    Calls Tryz.prog 158 #[.int .i64 v, .int .i64 lo, .int .i64 hi] w fun e w' => e = .returned (.int .i64 (clamp v lo hi)) ∧ w = w' := by
  by_cases h1 : v < lo
  · go_enter Tryz.func158, Tryz.ntmps158
    go_wp2
    go_ret
    exact ⟨ret_int (by unfold clamp; omega), rfl⟩
  · by_cases h2 : hi < v
    · go_enter Tryz.func158, Tryz.ntmps158
      go_wp2
      go_ret
      exact ⟨ret_int (by unfold clamp; omega), rfl⟩
    · go_enter Tryz.func158, Tryz.ntmps158
      go_wp2
      go_ret
      exact ⟨ret_int (by unfold clamp; omega), rfl⟩

theorem held_any (v : Int) (w : World) :
    Calls Tryz.prog 188 #[.int .i64 v] w fun e w' => e = .returned (.int .i64 (held v)) ∧ w = w' := by
  go_enter Tryz.func188, Tryz.ntmps188
  go_wp2_with (go_at_call 158; refine (clamp_any _ _ _ _).mono ?_; rintro e w' ⟨rfl, rfl⟩)
  go_ret
  exact ⟨rfl, rfl⟩

theorem sub_any (a b : Int) (w : World) :
    Calls Tryz.prog 154 #[.int .i64 a, .int .i64 b] w fun e w' => e = .returned (.int .i64 (sub a b)) ∧ w = w' := by
  have ha := held_bd a
  have hb := held_bd b
  go_enter Tryz.func154, Tryz.ntmps154
  go_wp2_with (go_at_call 188; refine (held_any _ _).mono ?_; rintro e w' ⟨rfl, rfl⟩)
  go_ret
  exact ⟨rfl, rfl⟩

theorem apart_any (a b : Int) (w : World) :
    Calls Tryz.prog 116 #[.int .i64 a, .int .i64 b] w fun e w' => e = .returned (.int .i64 (max (sub a b) (-(sub a b)))) ∧ w = w' := by
  have ha : -2147483647 ≤ sub a b ∧ sub a b ≤ 2147483647 := held_bd _
  by_cases h : sub a b < 0
  · go_enter Tryz.func116, Tryz.ntmps116
    go_wp2_with (go_at_call 154; refine (sub_any _ _ _).mono ?_; rintro e w' ⟨rfl, rfl⟩)
    go_ret
    exact ⟨ret_int (by omega), rfl⟩
  · go_enter Tryz.func116, Tryz.ntmps116
    go_wp2_with (go_at_call 154; refine (sub_any _ _ _).mono ?_; rintro e w' ⟨rfl, rfl⟩)
    go_ret
    exact ⟨ret_int (by omega), rfl⟩

theorem far_any (ax ay bx b_y : Int) (w : World) :
    Calls Tryz.prog 69 #[.int .i64 ax, .int .i64 ay, .int .i64 bx, .int .i64 b_y] w fun e w' => e = .returned (.int .i64 (far ax ay bx b_y)) ∧ w = w' := by
  go_enter Tryz.func69, Tryz.ntmps69
  go_wp2_with (go_at_call 116; refine (apart_any _ _ _).mono ?_; rintro e w' ⟨rfl, rfl⟩)
  all_goals go_ret
  all_goals exact ⟨ret_int (by unfold far; omega), rfl⟩

theorem rclamp_any (v lo hi : Int) (w : World) :
    Calls Tryz.prog 122 #[.int .i64 v, .int .i64 lo, .int .i64 hi] w fun e w' => e = .returned (.int .i64 (clamp v lo hi)) ∧ w = w' := by
  by_cases h1 : v < lo
  · go_enter Tryz.func122, Tryz.ntmps122
    go_wp2
    go_ret
    exact ⟨ret_int (by unfold clamp; omega), rfl⟩
  · by_cases h2 : hi < v
    · go_enter Tryz.func122, Tryz.ntmps122
      go_wp2
      go_ret
      exact ⟨ret_int (by unfold clamp; omega), rfl⟩
    · go_enter Tryz.func122, Tryz.ntmps122
      go_wp2
      go_ret
      exact ⟨ret_int (by unfold clamp; omega), rfl⟩

end Go.Proofs.YtfpofegfbinalaaGreat.Fx
namespace Go.Proofs.YtfpofegfbinalaaGreat.Fx
open Go.ChangeShapes Go.WideShapes Go.ChangeAt Go.RowKit

def addl (l : List Int) : Int := l.foldl (fun s v => held (s + held v)) 0
theorem addl_snoc (l : List Int) (k : Nat) (h : k < l.length) : addl (l.take (k + 1)) = held (addl (l.take k) + held (gi l k)) := by
  unfold addl
  rw [List.take_succ_eq_append_getElem h, List.foldl_append]
  simp [gi, List.getD_eq_getElem?_getD, List.getElem?_eq_getElem h]
theorem addl_bd (l : List Int) : -2147483647 ≤ addl l ∧ addl l ≤ 2147483647 := by
  rcases List.eq_nil_or_concat l with rfl | ⟨x, y, rfl⟩
  · exact ⟨by decide, by decide⟩
  · unfold addl; rw [List.concat_eq_append, List.foldl_append]; exact held_bd _

theorem add_any (A : Option Addr) (n c : Nat) (l : List Int) (w : World) (hl : IntsAt w A n l) (hn : n ≤ 1000000000000000) :
    Calls Tryz.prog 150 #[.slice A n c] w fun e w' => e = .returned (.int .i64 (addl l)) ∧ w = w' := by
  obtain ⟨hlen, hat⟩ := hl
  have Hlen := Lib.hid hlen
  have Hat := Lib.hid hat
  clear hat hlen
  go_enter Tryz.func150, Tryz.ntmps150
  go_wp2
  go_loop [3, 8] (fun s i => ∃ k : Nat, k ≤ n ∧ i = .int .i64 k ∧ s = .int .i64 (addl (l.take k))) (fun _ i => n - (intOf i).toNat)
  case atStart => exact ⟨0, Nat.zero_le _, rfl, rfl⟩
  case round =>
    obtain ⟨k, hk, rfl, rfl⟩ := hrel
    by_cases hlt : k < n
    · obtain ⟨b, off, hA, hc⟩ := Hat.out (by omega)
      subst hA
      have hck := hc k hlt
      clear hc
      have hb1 := held_bd (gi l k)
      have hb2 := addl_bd (l.take k)
      have HS := Lib.hid (addl_snoc l k (by have := Hlen.out; omega))
      go_wp2_with (go_at_call 188; refine (held_any _ _).mono ?_; rintro e w' ⟨rfl, rfl⟩)
      go_round
      case rel => exact ⟨k + 1, by omega, by go_num, by rw [HS.out]⟩
      case measure => simp [intOf]; omega
    · go_wp2
      go_ret
      exact ⟨ret_int (by rw [List.take_of_length_le (by have := Hlen.out; omega)]), rfl⟩

end Go.Proofs.YtfpofegfbinalaaGreat.Fx
namespace Go.Proofs.YtfpofegfbinalaaGreat.Fx
open Go.ChangeShapes Go.WideShapes Go.ChangeAt Go.RowKit
set_option linter.unusedVariables false
set_option maxRecDepth 100000

/-- A number exclusive or itself by 2^33. -/
def fold (x : Int) : Int := bits .xor .u64 x (x / 8589934592)
/-- A product, going round. -/
def mul (x m : Int) : Int := IntKind.u64.wrap (x * m)
/-- Mix's plain meaning. -/
def mix (x : Int) : Int := fold (mul (fold (mul (fold x) 18397679294719823053)) 14181476777654086739)

theorem fold_nat (n : Nat) (h : n < 18446744073709551616) : fold (n : Int) = ((n ^^^ n >>> 33 : Nat) : Int) := by
  unfold fold
  rw [show ((n : Int) / 8589934592) = ((n / 8589934592 : Nat) : Int) by omega, bits_xor_u64_nat _ _ h (by omega), Nat.shiftRight_eq_div_pow]
theorem nat_fold_lt (n : Nat) (h : n < 18446744073709551616) : n ^^^ n >>> 33 < 18446744073709551616 := by
  have h2 : n >>> 33 < 2 ^ 64 := by rw [Nat.shiftRight_eq_div_pow]; omega
  exact Nat.xor_lt_two_pow (n := 64) (by simpa using h) h2
theorem fold_bd (x : Int) (h0 : 0 ≤ x) (h1 : x < 18446744073709551616) : 0 ≤ fold x ∧ fold x < 18446744073709551616 := by
  obtain ⟨n, rfl⟩ := Int.eq_ofNat_of_zero_le h0
  rw [fold_nat n (by omega)]
  have := nat_fold_lt n (by omega)
  omega
theorem cmul_bd (x m : Int) : 0 ≤ mul x m ∧ mul x m < 18446744073709551616 := by
  unfold mul; rw [IntKind.wrap_u64]; omega
theorem mix_bd (x : Int) : 0 ≤ mix x ∧ mix x < 18446744073709551616 :=
  fold_bd _ (cmul_bd _ _).1 (cmul_bd _ _).2
/-- Mix, gone back. -/
def unmix (y : Int) : Int := fold (mul (fold (mul (fold y) 11291846944257947611)) 5725274745694666757)
theorem folded_any (x : Int) (w : World) (h0 : 0 ≤ x) (h1 : x < 18446744073709551616) :
    Calls Tryz.prog 204 #[.int .u64 x] w fun e w' => e = .returned (.int .u64 (fold x)) ∧ w = w' := by
  go_enter Tryz.func204, Tryz.ntmps204
  go_wp2
  go_ret
  exact ⟨rfl, rfl⟩
theorem mix_any (x : Int) (w : World) (h0 : 0 ≤ x) (h1 : x < 18446744073709551616) :
    Calls Tryz.prog 201 #[.int .u64 x] w fun e w' => e = .returned (.int .u64 (mix x)) ∧ w = w' := by
  have a := fold_bd x h0 h1
  have b := cmul_bd (fold x) 18397679294719823053
  have c := fold_bd _ b.1 b.2
  have d := cmul_bd (fold (mul (fold x) 18397679294719823053)) 14181476777654086739
  unfold mul at b d c
  go_enter Tryz.func201, Tryz.ntmps201
  go_wp2_with fail
  refine (folded_any _ _ h0 h1).mono ?_
  rintro e w' ⟨rfl, rfl⟩
  go_wp2_with fail
  refine (folded_any _ _ b.1 b.2).mono ?_
  rintro e w' ⟨rfl, rfl⟩
  go_wp2_with fail
  refine (folded_any _ _ d.1 d.2).mono ?_
  rintro e w' ⟨rfl, rfl⟩
  go_wp2
  go_ret
  exact ⟨rfl, rfl⟩

/-- A number more, behind what there is. -/
def nxt (x v : Int) : Int := mix (IntKind.u64.wrap (IntKind.u64.wrap (x + IntKind.u64.wrap v) + 11400714819323198485))
/-- At's plain meaning. -/
def atl (seed : Int) (l : List Int) : Int := l.foldl nxt (mix seed)
theorem atl_snoc (s : Int) (l : List Int) (k : Nat) (h : k < l.length) : atl s (l.take (k + 1)) = nxt (atl s (l.take k)) (gi l k) := by
  unfold atl
  rw [List.take_succ_eq_append_getElem h, List.foldl_append]
  simp [gi, List.getD_eq_getElem?_getD, List.getElem?_eq_getElem h]
theorem wr_bd (v : Int) : 0 ≤ IntKind.u64.wrap v ∧ IntKind.u64.wrap v < 18446744073709551616 := by rw [IntKind.wrap_u64]; omega
theorem nxt_bd (x v : Int) : 0 ≤ nxt x v ∧ nxt x v < 18446744073709551616 := mix_bd _
theorem atl_bd (s : Int) (l : List Int) : 0 ≤ atl s l ∧ atl s l < 18446744073709551616 := by
  rcases List.eq_nil_or_concat l with rfl | ⟨x, y, rfl⟩
  · exact mix_bd s
  · unfold atl; rw [List.concat_eq_append, List.foldl_append]; exact nxt_bd _ _

theorem at_any (s : Int) (A : Option Addr) (n c : Nat) (l : List Int) (w : World) (h0 : 0 ≤ s) (h1 : s < 18446744073709551616) (hl : IntsAt w A n l) (hn : n ≤ 1000000000000000) :
    Calls Tryz.prog 191 #[.int .u64 s, .slice A n c] w fun e w' => e = .returned (.int .u64 (atl s l)) ∧ w = w' := by
  obtain ⟨hlen, hat⟩ := hl
  have Hlen := Lib.hid hlen
  have Hat := Lib.hid hat
  clear hat hlen
  go_enter Tryz.func191, Tryz.ntmps191
  go_wp2_with fail
  refine (mix_any _ _ h0 h1).mono ?_
  rintro e w' ⟨rfl, rfl⟩
  go_wp2
  go_loop [5, 12] (fun x i => ∃ k : Nat, k ≤ n ∧ i = .int .i64 k ∧ x = .int .u64 (atl s (l.take k))) (fun _ i => n - (intOf i).toNat)
  case atStart => exact ⟨0, Nat.zero_le _, rfl, rfl⟩
  case round =>
    obtain ⟨k, hk, rfl, rfl⟩ := hrel
    by_cases hlt : k < n
    · obtain ⟨b, off, hA, hc⟩ := Hat.out (by omega)
      subst hA
      have hck := hc k hlt
      clear hc
      have HS := Lib.hid (atl_snoc s l k (by have := Hlen.out; omega))
      go_wp2_with fail
      refine (mix_any _ _ (wr_bd _).1 (wr_bd _).2).mono ?_
      rintro e w' ⟨rfl, rfl⟩
      go_wp2
      go_round
      case rel => exact ⟨k + 1, by omega, by go_num, by rw [HS.out]; rfl⟩
      case measure => simp [intOf]; omega
    · go_wp2
      go_ret
      exact ⟨ret_int (by rw [List.take_of_length_le (by have := Hlen.out; omega)]), rfl⟩

/-- Below's plain meaning. -/
def bel (n s : Int) (l : List Int) : Int := if n < 1 then 0 else atl s l % n
theorem bel_bd (n s : Int) (l : List Int) (h : 1 ≤ n) : 0 ≤ bel n s l ∧ bel n s l < n := by
  unfold bel
  rw [if_neg (by omega)]
  exact ⟨Int.emod_nonneg _ (by omega), Int.emod_lt_of_pos _ (by omega)⟩

theorem bel_val (m s : Int) (l : List Int) (h : 1 ≤ m) (hm : m ≤ 9223372036854775807) : wrap64 (atl s l % m) = bel m s l := by
  rw [IntWalk.wrap64_in _ (by have := Int.emod_nonneg (atl s l) (show m ≠ 0 by omega); have := Int.emod_lt_of_pos (atl s l) (show 0 < m by omega); omega)]
  unfold bel
  rw [if_neg (by omega)]

theorem below_any (m s : Int) (A : Option Addr) (n c : Nat) (l : List Int) (w : World) (hm : m ≤ 9223372036854775807) (h0 : 0 ≤ s) (h1 : s < 18446744073709551616) (hl : IntsAt w A n l) (hn : n ≤ 1000000000000000) :
    Calls Tryz.prog 157 #[.int .i64 m, .int .u64 s, .slice A n c] w fun e w' => e = .returned (.int .i64 (bel m s l)) ∧ w = w' := by
  have Hl := Lib.hid hl
  clear hl
  have hb := atl_bd s l
  by_cases h : m < 1
  · go_enter Tryz.func157, Tryz.ntmps157
    go_wp2
    go_ret
    exact ⟨ret_int (by unfold bel; rw [if_pos h]), rfl⟩
  · have hz : ¬ IntKind.u64.wrap m = 0 := by rw [IntKind.wrap_u64]; omega
    go_enter Tryz.func157, Tryz.ntmps157
    go_wp2_with fail
    refine (at_any _ _ _ _ _ _ h0 h1 Hl.out hn).mono ?_
    rintro e w' ⟨rfl, rfl⟩
    go_wp2
    go_ret
    exact ⟨ret_int (bel_val m s l (by omega) hm), rfl⟩

/-- What 'turned' has behind k rounds. -/
def tn (odd : Int) : Nat → Int
  | 0 => odd
  | k + 1 => IntKind.u64.wrap (tn odd k * IntKind.u64.wrap (2 - IntKind.u64.wrap (odd * tn odd k)))
end Go.Proofs.YtfpofegfbinalaaGreat.Fx
namespace Go.Proofs.YtfpofegfbinalaaGreat.Fx
open Go.ChangeShapes Go.WideShapes Go.ChangeAt Go.RowKit
set_option linter.unusedVariables false
set_option maxRecDepth 100000

/-- Are two inputs the same? -/
def same (a b : Int) (f : Bool) (c d : Int) (g : Bool) : Bool := decide (a = c ∧ b = d ∧ f = g)

@[go_sem] theorem same_self (a b : Int) (f : Bool) : same a b f a b f = true := by simp [same]

theorem eq_input (a b c d : Int) (f g : Bool) (w : World) : (Op.equalIn 10000 71 (.agg #[.int .i64 a, .int .i64 b, .bool f]) (.agg #[.int .i64 c, .int .i64 d, .bool g])).run Tryz.prog w = .ok (same a b f c d g) w := by
  have hS : Tryz.prog.underlying 71 = some (.struct (Tryz.prog.fieldsOf 71)) := by kernel_rfl
  have hp : Tryz.prog.stoodInHeld 71 = false := by kernel_rfl
  rw [show (10000 : Nat) = 9999 + 1 from rfl, run_equalIn_agg w 9999 71 _ _ hS hp]
  simp only [Program.fieldsOf, Tryz.underlying71]
  go_simp
  by_cases h1 : a = c <;> by_cases h2 : b = d <;> cases f <;> cases g <;> simp [h1, h2, same]

@[go_sem high] theorem eql_input (a b c d : Int) (f g : Bool) (w : World) : (binOp .eql 71 (.agg #[.int .i64 a, .int .i64 b, .bool f]) (.agg #[.int .i64 c, .int .i64 d, .bool g])).run Tryz.prog w = .ok (.bool (same a b f c d g)) w := by
  rw [run_eql_struct, eq_input]; rfl

@[go_sem high] theorem neq_input (a b c d : Int) (f g : Bool) (w : World) : (binOp .neq 71 (.agg #[.int .i64 a, .int .i64 b, .bool f]) (.agg #[.int .i64 c, .int .i64 d, .bool g])).run Tryz.prog w = .ok (.bool (!same a b f c d g)) w := by
  rw [run_neq_struct, eq_input]; rfl

def nr2 (v : Int) : Bool := decide (-2 ≤ v ∧ v ≤ 2)

/-- Is an input right? -/
def irt (x y : Int) : Bool := decide (-2 ≤ x ∧ x ≤ 2 ∧ -2 ≤ y ∧ y ≤ 2)

theorem irt_nr (x y : Int) : irt x y = (nr2 x && nr2 y) := by rw [Bool.eq_iff_iff]; simp [irt, nr2]; omega

theorem near_in (v : Int) (w : World) :
    Calls Tryz.prog 177 #[.int .i64 v] w fun e w' => e = .returned (.bool (nr2 v)) ∧ w = w' := by
  by_cases h1 : -2 ≤ v
  · by_cases h2 : v ≤ 2
    · go_enter Tryz.func177, Tryz.ntmps177
      go_wp2
      go_ret
      exact ⟨by simp [nr2, h1, h2], rfl⟩
    · have h3 : decide (v ≤ 2) = false := by simpa using h2
      go_enter Tryz.func177, Tryz.ntmps177
      go_wp2
      go_ret
      exact ⟨by simp [nr2, h1, h2], rfl⟩
  · have h3 : decide (-2 ≤ v) = false := by simpa using h1
    go_enter Tryz.func177, Tryz.ntmps177
    go_wp2
    go_ret
    exact ⟨by simp [nr2]; omega, rfl⟩

theorem right_in (x y : Int) (f : Bool) (w : World) :
    Calls Tryz.prog 135 #[.agg #[.int .i64 x, .int .i64 y, .bool f]] w fun e w' => e = .returned (.bool (irt x y)) ∧ Below w.heap.size w w' := by
  have HR := Lib.hid (irt_nr x y)
  have H1 := Lib.hid (fun w => near_in x w)
  have H2 := Lib.hid (fun w => near_in y w)
  generalize irt x y = r at HR ⊢
  generalize nr2 x = x1 at HR H1
  generalize nr2 y = x2 at HR H2
  cases x1
  · go_enter Tryz.func135, Tryz.ntmps135
    go_wp2_with fail
    refine (H1.out _).mono ?_
    rintro e w' ⟨rfl, rfl⟩
    go_wp2
    go_ret
    exact ⟨by rw [HR.out]; rfl, (Below.refl _ _).alloc (Nat.le_refl _) _⟩
  · go_enter Tryz.func135, Tryz.ntmps135
    go_wp2_with fail
    refine (H1.out _).mono ?_
    rintro e w' ⟨rfl, rfl⟩
    go_wp2_with fail
    refine (H2.out _).mono ?_
    rintro e w' ⟨rfl, rfl⟩
    go_wp2
    go_ret
    exact ⟨by rw [HR.out]; rfl, (Below.refl _ _).alloc (Nat.le_refl _) _⟩

theorem rinput_in (x y : Int) (f : Bool) (w : World) :
    Calls Tryz.prog 61 #[.agg #[.int .i64 x, .int .i64 y, .bool f]] w fun e w' => e = .returned (.bool (irt x y)) ∧ Below w.heap.size w w' := by
  go_enter Tryz.func61, Tryz.ntmps61
  go_wp2
  all_goals go_ret
  all_goals refine ⟨?_, (Below.refl _ _).alloc (Nat.le_refl _) _⟩
  all_goals (refine ret_bool ?_; simp [irt]; omega)

/-- A step that is guessed. -/
def gs (x y : Int) (k : Bool) (v : Int) : Int := if k && irt x y then v else 0

/-- The code of an input. -/
def cod (x y : Int) (f : Bool) : Int := if irt x y then (x + 2) * 10 + (y + 2) * 2 + (if f then 1 else 0) else 0

theorem irt_bd {x y : Int} (h : irt x y = true) : -2 ≤ x ∧ x ≤ 2 ∧ -2 ≤ y ∧ y ≤ 2 := by simpa [irt] using h

/-- The input of a code. -/
def fcx (b : Int) : Int := if b ≤ 49 then b / 10 - 2 else 0

def fcy (b : Int) : Int := if b ≤ 49 then b % 10 / 2 - 2 else 0

def fcf (b : Int) : Bool := decide (b ≤ 49 ∧ b % 2 = 1)

end Go.Proofs.YtfpofegfbinalaaGreat.Fx
