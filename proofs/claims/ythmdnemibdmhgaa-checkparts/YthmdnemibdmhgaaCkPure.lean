/- Package check, in plain words: the sum of bytes, its eight bytes, what is sealed, what opens. -/
import Derived.Test.YthmdnemibdmhgaaByNum
namespace Go.Proofs.Ythmdnemibdmhgaa.Fx
open Go.ChangeShapes Go.WideShapes Go.ChangeAt Go.RowKit
set_option linter.unusedVariables false
set_option maxRecDepth 100000

/-- Turned left by five of 64 bits. -/
def rot5 (x : Int) : Int := 32 * (x % 576460752303423488) + x / 576460752303423488
/-- Turned left by eight of 64 bits. -/
def rot8 (x : Int) : Int := 256 * (x % 72057594037927936) + x / 72057594037927936

theorem rot5_parts {x : Int} (h0 : 0 ≤ x) (h1 : x < 18446744073709551616) : ∃ a q : Int, x % 576460752303423488 = a ∧ x / 576460752303423488 = q ∧ x = 576460752303423488 * q + a ∧ 0 ≤ a ∧ a < 576460752303423488 ∧ 0 ≤ q ∧ q < 32 :=
  ⟨_, _, rfl, rfl, (Int.mul_ediv_add_emod x 576460752303423488).symm, Int.emod_nonneg _ (by omega), Int.emod_lt_of_pos _ (by omega), Int.ediv_nonneg h0 (by omega), by omega⟩
theorem rot8_parts {x : Int} (h0 : 0 ≤ x) (h1 : x < 18446744073709551616) : ∃ a q : Int, x % 72057594037927936 = a ∧ x / 72057594037927936 = q ∧ x = 72057594037927936 * q + a ∧ 0 ≤ a ∧ a < 72057594037927936 ∧ 0 ≤ q ∧ q < 256 :=
  ⟨_, _, rfl, rfl, (Int.mul_ediv_add_emod x 72057594037927936).symm, Int.emod_nonneg _ (by omega), Int.emod_lt_of_pos _ (by omega), Int.ediv_nonneg h0 (by omega), by omega⟩
theorem rot5_bd {x : Int} (h0 : 0 ≤ x) (h1 : x < 18446744073709551616) : 0 ≤ rot5 x ∧ rot5 x < 18446744073709551616 := by
  obtain ⟨a, q, ha, hq, -, b0, b1, b2, b3⟩ := rot5_parts h0 h1
  unfold rot5; rw [ha, hq]; omega
theorem rot8_bd {x : Int} (h0 : 0 ≤ x) (h1 : x < 18446744073709551616) : 0 ≤ rot8 x ∧ rot8 x < 18446744073709551616 := by
  obtain ⟨a, q, ha, hq, -, b0, b1, b2, b3⟩ := rot8_parts h0 h1
  unfold rot8; rw [ha, hq]; omega
theorem rot5_inj {x y : Int} (h0 : 0 ≤ x) (h1 : x < 18446744073709551616) (k0 : 0 ≤ y) (k1 : y < 18446744073709551616) (h : rot5 x = rot5 y) : x = y := by
  obtain ⟨a, q, ha, hq, hx, b0, b1, b2, b3⟩ := rot5_parts h0 h1
  obtain ⟨c, r, hc, hr, hy, d0, d1, d2, d3⟩ := rot5_parts k0 k1
  unfold rot5 at h; rw [ha, hq, hc, hr] at h
  rw [hx, hy, show a = c by omega, show q = r by omega]

theorem nxor_left {a b c : Nat} (h : a ^^^ b = c ^^^ b) : a = c := by
  have := congrArg (· ^^^ b) h
  simpa only [Nat.xor_assoc, Nat.xor_self, Nat.xor_zero] using this
theorem nxor_right {a b c : Nat} (h : a ^^^ b = a ^^^ c) : b = c := by
  rw [Nat.xor_comm a b, Nat.xor_comm a c] at h
  exact nxor_left h

/-- The sum, one byte further. -/
def stp (x b : Int) : Int := IntKind.u64.wrap (bits .xor .u64 (rot5 x) (IntKind.u64.wrap b) * 11400714819323198485)

theorem wrap_by {b : Int} (h0 : 0 ≤ b) (h1 : b < 256) : IntKind.u64.wrap b = b := by rw [IntKind.wrap_u64]; omega
theorem stp_of {x b : Int} (h0 : 0 ≤ b) (h1 : b < 256) : stp x b = IntKind.u64.wrap (bits .xor .u64 (rot5 x) b * 11400714819323198485) := by unfold stp; rw [wrap_by h0 h1]

/-- The sum of bytes. -/
def sumL (l : List Int) : Int := l.foldl stp 2611923443488327891

theorem stp_bd (x b : Int) : 0 ≤ stp x b ∧ stp x b < 18446744073709551616 := by unfold stp; rw [IntKind.wrap_u64]; omega

theorem fold_stp_bd (l : List Int) : ∀ x : Int, 0 ≤ x → x < 18446744073709551616 → 0 ≤ l.foldl stp x ∧ l.foldl stp x < 18446744073709551616 := by
  induction l with
  | nil => exact fun x h0 h1 => ⟨h0, h1⟩
  | cons b l ih => exact fun x _ _ => ih _ (stp_bd x b).1 (stp_bd x b).2

theorem sumL_bd (l : List Int) : 0 ≤ sumL l ∧ sumL l < 18446744073709551616 := fold_stp_bd l _ (by omega) (by omega)

theorem sumL_app (l m : List Int) : sumL (l ++ m) = m.foldl stp (sumL l) := by unfold sumL; rw [List.foldl_append]

theorem xor_nat {x b : Int} (h0 : 0 ≤ x) (h1 : x < 18446744073709551616) (k0 : 0 ≤ b) (k1 : b < 256) : bits .xor .u64 x b = ((x.toNat ^^^ b.toNat : Nat) : Int) := by
  obtain ⟨n, rfl⟩ := Int.eq_ofNat_of_zero_le h0
  obtain ⟨m, rfl⟩ := Int.eq_ofNat_of_zero_le k0
  rw [bits_xor_u64_nat _ _ (by omega) (by omega)]
  rfl

theorem xor_bd {x b : Int} (h0 : 0 ≤ x) (h1 : x < 18446744073709551616) (k0 : 0 ≤ b) (k1 : b < 256) : 0 ≤ bits .xor .u64 x b ∧ bits .xor .u64 x b < 18446744073709551616 := by
  rw [xor_nat h0 h1 k0 k1]
  have := Nat.xor_lt_two_pow (n := 64) (x := x.toNat) (y := b.toNat) (by omega) (by omega)
  omega

theorem odd_back {x : Int} (h0 : 0 ≤ x) (h1 : x < 18446744073709551616) : IntKind.u64.wrap (IntKind.u64.wrap (x * 11400714819323198485) * 17428512612931826493) = x := by
  rw [IntKind.wrap_u64, IntKind.wrap_u64]; omega

theorem odd_inj {x y : Int} (h0 : 0 ≤ x) (h1 : x < 18446744073709551616) (k0 : 0 ≤ y) (k1 : y < 18446744073709551616) (h : IntKind.u64.wrap (x * 11400714819323198485) = IntKind.u64.wrap (y * 11400714819323198485)) : x = y := by
  have := odd_back h0 h1
  rw [h, odd_back k0 k1] at this
  exact this.symm

theorem stp_inj_left {x y b : Int} (h0 : 0 ≤ x) (h1 : x < 18446744073709551616) (k0 : 0 ≤ y) (k1 : y < 18446744073709551616) (b0 : 0 ≤ b) (b1 : b < 256) (h : stp x b = stp y b) : x = y := by
  have hx := rot5_bd h0 h1
  have hy := rot5_bd k0 k1
  have a := xor_bd hx.1 hx.2 b0 b1
  have c := xor_bd hy.1 hy.2 b0 b1
  rw [stp_of b0 b1, stp_of b0 b1] at h
  have e := odd_inj a.1 a.2 c.1 c.2 h
  rw [xor_nat hx.1 hx.2 b0 b1, xor_nat hy.1 hy.2 b0 b1] at e
  have e2 : (rot5 x).toNat ^^^ b.toNat = (rot5 y).toNat ^^^ b.toNat := by exact_mod_cast e
  have e3 := nxor_left e2
  exact rot5_inj h0 h1 k0 k1 (by omega)

theorem stp_inj_right {x b c : Int} (h0 : 0 ≤ x) (h1 : x < 18446744073709551616) (b0 : 0 ≤ b) (b1 : b < 256) (c0 : 0 ≤ c) (c1 : c < 256) (h : stp x b = stp x c) : b = c := by
  have hx := rot5_bd h0 h1
  have a := xor_bd hx.1 hx.2 b0 b1
  have d := xor_bd hx.1 hx.2 c0 c1
  rw [stp_of b0 b1, stp_of c0 c1] at h
  have e := odd_inj a.1 a.2 d.1 d.2 h
  rw [xor_nat hx.1 hx.2 b0 b1, xor_nat hx.1 hx.2 c0 c1] at e
  have e2 : (rot5 x).toNat ^^^ b.toNat = (rot5 x).toNat ^^^ c.toNat := by exact_mod_cast e
  have e3 := nxor_right e2
  omega

theorem fold_inj (l : List Int) (hl : ByOk l) : ∀ x y : Int, 0 ≤ x → x < 18446744073709551616 → 0 ≤ y → y < 18446744073709551616 → l.foldl stp x = l.foldl stp y → x = y := by
  induction l with
  | nil => exact fun x y _ _ _ _ h => h
  | cons b l ih =>
    intro x y h0 h1 k0 k1 h
    have hb := hl b (by simp)
    exact stp_inj_left h0 h1 k0 k1 hb.1 hb.2 (ih (fun z hz => hl z (by simp [hz])) _ _ (stp_bd x b).1 (stp_bd x b).2 (stp_bd y b).1 (stp_bd y b).2 h)

/-- One byte turned is seen. -/
theorem sum_turn {l : List Int} (hl : ByOk l) {k : Nat} (hk : k < l.length) {c : Int} (c0 : 0 ≤ c) (c1 : c < 256) (h : sumL (l.set k c) = sumL l) : c = l[k] := by
  have e1 : l.set k c = l.take k ++ c :: l.drop (k + 1) := List.set_eq_take_append_cons_drop .. |>.trans (by rw [if_pos hk])
  have e2 : l = l.take k ++ l[k] :: l.drop (k + 1) := by rw [List.getElem_cons_drop hk, List.take_append_drop]
  rw [e1] at h
  conv at h => rhs; rw [e2]
  rw [sumL_app, sumL_app, List.foldl_cons, List.foldl_cons] at h
  have hb := hl l[k] (List.getElem_mem hk)
  have hs := sumL_bd (l.take k)
  exact stp_inj_right hs.1 hs.2 c0 c1 hb.1 hb.2 (fold_inj _ (fun z hz => hl z (List.mem_of_mem_drop hz)) _ _ (stp_bd _ _).1 (stp_bd _ _).2 (stp_bd _ _).1 (stp_bd _ _).2 h)

/-- The eight bytes of a number, the highest first. -/
def headL (x : Int) : List Int := [x / 72057594037927936 % 256, x / 281474976710656 % 256, x / 1099511627776 % 256, x / 4294967296 % 256, x / 16777216 % 256, x / 65536 % 256, x / 256 % 256, x % 256]

theorem headL_len (x : Int) : (headL x).length = 8 := rfl
theorem headL_ok (x : Int) : ByOk (headL x) := by
  intro y hy
  simp [headL] at hy
  omega

theorem headL_inj {x y : Int} (h0 : 0 ≤ x) (h1 : x < 18446744073709551616) (k0 : 0 ≤ y) (k1 : y < 18446744073709551616) (h : headL x = headL y) : x = y := by
  simp only [headL, List.cons.injEq, and_true] at h
  omega

/-- Turned left by eight, so many times. -/
def rk : Nat → Int → Int
  | 0, x => x
  | k + 1, x => rot8 (rk k x)

theorem rk_bd (k : Nat) {x : Int} (h0 : 0 ≤ x) (h1 : x < 18446744073709551616) : 0 ≤ rk k x ∧ rk k x < 18446744073709551616 := by
  induction k with
  | zero => exact ⟨h0, h1⟩
  | succ k ih => exact rot8_bd ih.1 ih.2

theorem rk_one {x : Int} (a : Int) (q : Int) (h : x = 72057594037927936 * q + a) (h0 : 0 ≤ a) (h1 : a < 72057594037927936) : rot8 x = 256 * a + q := by
  unfold rot8
  rw [show x % 72057594037927936 = a by omega, show x / 72057594037927936 = q by omega]

/-- The bytes of a number, turned through. -/
theorem rk_low {x : Int} (h0 : 0 ≤ x) (h1 : x < 18446744073709551616) : [rk 1 x % 256, rk 2 x % 256, rk 3 x % 256, rk 4 x % 256, rk 5 x % 256, rk 6 x % 256, rk 7 x % 256, rk 8 x % 256] = headL x := by
  obtain ⟨x0, y0, e0, hx0⟩ : ∃ r q, x = 256 * q + r ∧ 0 ≤ r ∧ r < 256 := ⟨x % 256, x / 256, by omega, by omega, by omega⟩
  obtain ⟨x1, y1, e1, hx1⟩ : ∃ r q, y0 = 256 * q + r ∧ 0 ≤ r ∧ r < 256 := ⟨y0 % 256, y0 / 256, by omega, by omega, by omega⟩
  obtain ⟨x2, y2, e2, hx2⟩ : ∃ r q, y1 = 256 * q + r ∧ 0 ≤ r ∧ r < 256 := ⟨y1 % 256, y1 / 256, by omega, by omega, by omega⟩
  obtain ⟨x3, y3, e3, hx3⟩ : ∃ r q, y2 = 256 * q + r ∧ 0 ≤ r ∧ r < 256 := ⟨y2 % 256, y2 / 256, by omega, by omega, by omega⟩
  obtain ⟨x4, y4, e4, hx4⟩ : ∃ r q, y3 = 256 * q + r ∧ 0 ≤ r ∧ r < 256 := ⟨y3 % 256, y3 / 256, by omega, by omega, by omega⟩
  obtain ⟨x5, y5, e5, hx5⟩ : ∃ r q, y4 = 256 * q + r ∧ 0 ≤ r ∧ r < 256 := ⟨y4 % 256, y4 / 256, by omega, by omega, by omega⟩
  obtain ⟨x6, x7, e6, hx6⟩ : ∃ r q, y5 = 256 * q + r ∧ 0 ≤ r ∧ r < 256 := ⟨y5 % 256, y5 / 256, by omega, by omega, by omega⟩
  subst e6 e5 e4 e3 e2 e1 e0
  have hx7 : 0 ≤ x7 ∧ x7 < 256 := by omega
  have r1 : rk 1 (256 * (256 * (256 * (256 * (256 * (256 * (256 * x7 + x6) + x5) + x4) + x3) + x2) + x1) + x0) = 256 * (256 * (256 * (256 * (256 * (256 * (256 * x6 + x5) + x4) + x3) + x2) + x1) + x0) + x7 := by
    show rot8 _ = _
    rw [show rk 0 (256 * (256 * (256 * (256 * (256 * (256 * (256 * x7 + x6) + x5) + x4) + x3) + x2) + x1) + x0) = 256 * (256 * (256 * (256 * (256 * (256 * (256 * x7 + x6) + x5) + x4) + x3) + x2) + x1) + x0 from rfl]
    exact rk_one _ x7 (by omega) (by omega) (by omega)
  have r2 : rk 2 (256 * (256 * (256 * (256 * (256 * (256 * (256 * x7 + x6) + x5) + x4) + x3) + x2) + x1) + x0) = 256 * (256 * (256 * (256 * (256 * (256 * (256 * x5 + x4) + x3) + x2) + x1) + x0) + x7) + x6 := by
    show rot8 (rk 1 _) = _
    rw [r1]; exact rk_one _ x6 (by omega) (by omega) (by omega)
  have r3 : rk 3 (256 * (256 * (256 * (256 * (256 * (256 * (256 * x7 + x6) + x5) + x4) + x3) + x2) + x1) + x0) = 256 * (256 * (256 * (256 * (256 * (256 * (256 * x4 + x3) + x2) + x1) + x0) + x7) + x6) + x5 := by
    show rot8 (rk 2 _) = _
    rw [r2]; exact rk_one _ x5 (by omega) (by omega) (by omega)
  have r4 : rk 4 (256 * (256 * (256 * (256 * (256 * (256 * (256 * x7 + x6) + x5) + x4) + x3) + x2) + x1) + x0) = 256 * (256 * (256 * (256 * (256 * (256 * (256 * x3 + x2) + x1) + x0) + x7) + x6) + x5) + x4 := by
    show rot8 (rk 3 _) = _
    rw [r3]; exact rk_one _ x4 (by omega) (by omega) (by omega)
  have r5 : rk 5 (256 * (256 * (256 * (256 * (256 * (256 * (256 * x7 + x6) + x5) + x4) + x3) + x2) + x1) + x0) = 256 * (256 * (256 * (256 * (256 * (256 * (256 * x2 + x1) + x0) + x7) + x6) + x5) + x4) + x3 := by
    show rot8 (rk 4 _) = _
    rw [r4]; exact rk_one _ x3 (by omega) (by omega) (by omega)
  have r6 : rk 6 (256 * (256 * (256 * (256 * (256 * (256 * (256 * x7 + x6) + x5) + x4) + x3) + x2) + x1) + x0) = 256 * (256 * (256 * (256 * (256 * (256 * (256 * x1 + x0) + x7) + x6) + x5) + x4) + x3) + x2 := by
    show rot8 (rk 5 _) = _
    rw [r5]; exact rk_one _ x2 (by omega) (by omega) (by omega)
  have r7 : rk 7 (256 * (256 * (256 * (256 * (256 * (256 * (256 * x7 + x6) + x5) + x4) + x3) + x2) + x1) + x0) = 256 * (256 * (256 * (256 * (256 * (256 * (256 * x0 + x7) + x6) + x5) + x4) + x3) + x2) + x1 := by
    show rot8 (rk 6 _) = _
    rw [r6]; exact rk_one _ x1 (by omega) (by omega) (by omega)
  have r8 : rk 8 (256 * (256 * (256 * (256 * (256 * (256 * (256 * x7 + x6) + x5) + x4) + x3) + x2) + x1) + x0) = 256 * (256 * (256 * (256 * (256 * (256 * (256 * x7 + x6) + x5) + x4) + x3) + x2) + x1) + x0 := by
    show rot8 (rk 7 _) = _
    rw [r7]; exact rk_one _ x0 (by omega) (by omega) (by omega)
  rw [r1, r2, r3, r4, r5, r6, r7, r8]
  clear r1 r2 r3 r4 r5 r6 r7 r8
  have q0 : (256 * (256 * (256 * (256 * (256 * (256 * (256 * x7 + x6) + x5) + x4) + x3) + x2) + x1) + x0) / 72057594037927936 = x7 := by omega
  have q1 : (256 * (256 * (256 * (256 * (256 * (256 * (256 * x7 + x6) + x5) + x4) + x3) + x2) + x1) + x0) / 281474976710656 = 256 * x7 + x6 := by omega
  have q2 : (256 * (256 * (256 * (256 * (256 * (256 * (256 * x7 + x6) + x5) + x4) + x3) + x2) + x1) + x0) / 1099511627776 = 256 * (256 * x7 + x6) + x5 := by omega
  have q3 : (256 * (256 * (256 * (256 * (256 * (256 * (256 * x7 + x6) + x5) + x4) + x3) + x2) + x1) + x0) / 4294967296 = 256 * (256 * (256 * x7 + x6) + x5) + x4 := by omega
  have q4 : (256 * (256 * (256 * (256 * (256 * (256 * (256 * x7 + x6) + x5) + x4) + x3) + x2) + x1) + x0) / 16777216 = 256 * (256 * (256 * (256 * x7 + x6) + x5) + x4) + x3 := by omega
  have q5 : (256 * (256 * (256 * (256 * (256 * (256 * (256 * x7 + x6) + x5) + x4) + x3) + x2) + x1) + x0) / 65536 = 256 * (256 * (256 * (256 * (256 * x7 + x6) + x5) + x4) + x3) + x2 := by omega
  have q6 : (256 * (256 * (256 * (256 * (256 * (256 * (256 * x7 + x6) + x5) + x4) + x3) + x2) + x1) + x0) / 256 = 256 * (256 * (256 * (256 * (256 * (256 * x7 + x6) + x5) + x4) + x3) + x2) + x1 := by omega
  simp only [headL, List.cons.injEq, and_true]
  rw [q0, q1, q2, q3, q4, q5, q6]
  clear q0 q1 q2 q3 q4 q5 q6 h0 h1
  refine ⟨?_, ?_, ?_, ?_, ?_, ?_, ?_⟩ <;> omega

/-- What is sealed. -/
def sealL (l : List Int) : List Int := headL (sumL l) ++ l
theorem sealL_len (l : List Int) : (sealL l).length = l.length + 8 := by simp [sealL, headL_len]; omega
theorem sealL_ok {l : List Int} (h : ByOk l) : ByOk (sealL l) := fun x hx => by
  rcases List.mem_append.1 hx with h1 | h1
  · exact headL_ok _ x h1
  · exact h x h1

/-- What opens, or why not. -/
def openL (l : List Int) : List Int × Int := if l.length < 8 then ([], 5) else if l.take 8 = headL (sumL (l.drop 8)) then (l.drop 8, 0) else ([], 9)

theorem seal_take (l : List Int) : (sealL l).take 8 = headL (sumL l) := List.take_left' (headL_len _)
theorem seal_drop (l : List Int) : (sealL l).drop 8 = l := List.drop_left' (headL_len _)

theorem open_seal (l : List Int) : openL (sealL l) = (l, 0) := by
  unfold openL
  rw [if_neg (by rw [sealL_len]; omega), seal_take, seal_drop, if_pos rfl]

/-- It is the Seal of what is behind the first eight, or not. -/
theorem open_is (l : List Int) (h : 8 ≤ l.length) : l.take 8 = headL (sumL (l.drop 8)) ↔ sealL (l.drop 8) = l := by
  constructor
  · intro e
    unfold sealL
    rw [← e, List.take_append_drop]
  · intro e
    have := seal_take (l.drop 8)
    rw [e] at this
    exact this

/-- What is sealed, and one byte of it turned, does not open. -/
theorem open_turn {l : List Int} (hl : ByOk l) {k : Nat} (hk : k < l.length + 8) {c : Int} (c0 : 0 ≤ c) (c1 : c < 256) (hc : (sealL l)[k]? ≠ some c) : openL ((sealL l).set k c) = ([], 9) := by
  have hlen := sealL_len l
  unfold openL
  rw [if_neg (by rw [List.length_set]; omega), if_neg]
  intro h
  by_cases hk8 : k < 8
  · rw [List.drop_set_of_lt hk8, seal_drop, List.take_set, seal_take] at h
    have hk' : k < (headL (sumL l)).length := by rw [headL_len]; exact hk8
    have := congrArg (fun m => m[k]?) h
    simp only [List.getElem?_set_self hk'] at this
    refine hc ?_
    unfold sealL
    rw [List.getElem?_append_left hk']
    exact this.symm
  · obtain ⟨j, rfl⟩ : ∃ j, k = 8 + j := ⟨k - 8, by omega⟩
    rw [List.take_set_of_le (by omega), List.drop_set, if_neg (by omega), seal_take, seal_drop, show 8 + j - 8 = j by omega] at h
    have h1 := sumL_bd l
    have h2 := sumL_bd (l.set j c)
    have e := headL_inj h1.1 h1.2 h2.1 h2.2 h
    have hj : j < l.length := by omega
    have := sum_turn hl hj c0 c1 e.symm
    refine hc ?_
    unfold sealL
    rw [List.getElem?_append_right (by rw [headL_len]; omega), headL_len, show 8 + j - 8 = j by omega, List.getElem?_eq_getElem hj, this]

end Go.Proofs.Ythmdnemibdmhgaa.Fx
