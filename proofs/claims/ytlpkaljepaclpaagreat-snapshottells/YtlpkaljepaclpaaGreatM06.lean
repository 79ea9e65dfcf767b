/- Contracts of package grid over regions (Corner, Near, New), and of the document's beside it. Is one among some (jousthelp.In of integers)? -/
import Derived.Deep.Onto
import Derived.Test.YtlpkaljepaclpaaGreatM05
import Derived.Maps.AppendAt
import Derived.Deep.DeepMust
import Derived.Test.YtlpkaljepaclpaaGreatM01
namespace Go.Proofs.YtlpkaljepaclpaaGreat.Fx
open Go.ChangeShapes Go.WideShapes Go.ChangeAt Go.RowKit
set_option linter.unusedVariables false
set_option maxRecDepth 100000

/-- Is there a region r? -/
def hasB (a b p n r : Int) : Bool := decide (0 ≤ r ∧ r < regs a b p n)

theorem has_any (a b p n s r : Int) (w : World) :
    Calls Tryz.prog 97 #[.agg #[.int .i64 a, .int .i64 b, .int .i64 p, .int .i64 n, .int .u64 s], .int .i64 r] w fun e w' => e = .returned (.bool (hasB a b p n r)) ∧ Below w.heap.size w w' := by
  have HW := Lib.hid (fun w => regions_any a b p n s w)
  have hd : hasB a b p n r = decide (0 ≤ r ∧ r < regs a b p n) := rfl
  have b1 := regs_bd a b p n
  rw [hd]
  clear hd
  generalize regs a b p n = R at *
  by_cases h1 : 0 ≤ r
  · go_enter Tryz.func97, Tryz.ntmps97
    go_wp2_with fail
    refine (HW.out _).mono ?_
    rintro e w1 ⟨rfl, hbw1⟩
    obtain ⟨hcw1, hfw1⟩ := bcell hbw1
    have hzw1 : w.heap.size < w1.heap.size := by have := hbw1.size; (try simp at this); omega
    have Hbw1 := Lib.hid hbw1
    clear hbw1
    go_wp2
    go_ret
    exact ⟨ret_bool (by simp <;> omega), unbox Hbw1.out⟩
  · have h4 : decide (0 ≤ r) = false := by simpa using h1
    go_enter Tryz.func97, Tryz.ntmps97
    go_wp2
    go_ret
    exact ⟨ret_bool (by simp <;> omega), (Below.refl _ _).alloc (Nat.le_refl _) _⟩

theorem is_any (a b p n s r : Int) (w : World) :
    Calls Tryz.prog 93 #[.agg #[.int .i64 a, .int .i64 b, .int .i64 p, .int .i64 n, .int .u64 s], .int .i64 r] w fun e w' => e = .returned (.bool (hasB a b p n r)) ∧ Below w.heap.size w w' := by
  have HW := Lib.hid (fun w => rregions_any a b p n s w)
  have hd : hasB a b p n r = decide (0 ≤ r ∧ r < regs a b p n) := rfl
  have b1 := regs_bd a b p n
  rw [hd]
  clear hd
  generalize regs a b p n = R at *
  by_cases h1 : 0 ≤ r
  · go_enter Tryz.func93, Tryz.ntmps93
    go_wp2_with fail
    refine (HW.out _).mono ?_
    rintro e w1 ⟨rfl, hbw1⟩
    obtain ⟨hcw1, hfw1⟩ := bcell hbw1
    have hzw1 : w.heap.size < w1.heap.size := by have := hbw1.size; (try simp at this); omega
    have Hbw1 := Lib.hid hbw1
    clear hbw1
    go_wp2
    go_ret
    exact ⟨ret_bool (by simp <;> omega), unbox Hbw1.out⟩
  · have h4 : decide (0 ≤ r) = false := by simpa using h1
    go_enter Tryz.func93, Tryz.ntmps93
    go_wp2
    go_ret
    exact ⟨ret_bool (by simp <;> omega), (Below.refl _ _).alloc (Nat.le_refl _) _⟩

theorem place_any (a b p n s r : Int) (w : World) (h0 : 0 ≤ r) (h1 : r ≤ 1000) (ha : 1 ≤ a) (ha4 : a ≤ 4) :
    Calls Tryz.prog 98 #[.agg #[.int .i64 a, .int .i64 b, .int .i64 p, .int .i64 n, .int .u64 s], .int .i64 r] w fun e w' => e = .returned (.tuple #[.int .i64 (r % a), .int .i64 (r / a)]) ∧ Below w.heap.size w w' := by
  have hz : (a == 0) = false := beq_eq_false_iff_ne.2 (by omega)
  have hz2 : ¬ a = 0 := by omega
  go_enter Tryz.func98, Tryz.ntmps98
  go_wp2_with fail
  go_quiet (fail)
  go_wp2
  go_ret2
  exact ⟨rfl, below_drewN ((Below.refl _ _).alloc (Nat.le_refl _) _) _⟩

theorem hasB_rt {a b p n r : Int} (h : hasB a b p n r = true) : rt a b p n = true ∧ 0 ≤ r ∧ r < a * b ∧ 1 ≤ a ∧ a ≤ 4 ∧ 1 ≤ b ∧ b ≤ 4 ∧ 0 ≤ r % a ∧ r % a ≤ 3 ∧ 0 ≤ r / a ∧ r / a ≤ 3 ∧ r ≤ 15 := by
  have h' : 0 ≤ r ∧ r < regs a b p n := by simpa [hasB] using h
  unfold regs at h'
  by_cases hr : rt a b p n = true
  · rw [if_pos hr] at h'
    have hb := rt_bd hr
    have hm := mul_le4 hb.1 hb.2.1 hb.2.2.1 hb.2.2.2.1
    refine ⟨hr, h'.1, h'.2, hb.1, hb.2.1, hb.2.2.1, hb.2.2.2.1, ?_⟩
    have : a = 1 ∨ a = 2 ∨ a = 3 ∨ a = 4 := by omega
    rcases this with rfl | rfl | rfl | rfl <;> omega
  · rw [if_neg hr] at h'
    omega

/-- Corner's plain meaning. -/
def crx (a b p n r : Int) : Int := if hasB a b p n r then r % a * 1024 else 0

def cry (a b p n r : Int) : Int := if hasB a b p n r then r / a * 1024 else 0

/-- Are two regions near? -/
def nearB (a r o : Int) : Bool := decide (-1 ≤ o % a - r % a ∧ o % a - r % a ≤ 1 ∧ -1 ≤ o / a - r / a ∧ o / a - r / a ≤ 1)

/-- The near ones among the first k. -/
def nrTo (a r : Int) : Nat → List Int
  | 0 => []
  | k + 1 => nrTo a r k ++ if nearB a r k then [(k : Int)] else []

theorem nrTo_len (a r : Int) (k : Nat) : (nrTo a r k).length ≤ k := by
  induction k with
  | zero => exact Nat.le_refl _
  | succ k ih => unfold nrTo; split <;> simp <;> omega

/-- Near's plain meaning. -/
def nr (a b p n r : Int) : List Int := if hasB a b p n r then nrTo a r (a * b).toNat else []

/-- A slice of integers comes back. -/
def RetInts (l : List Int) (w : World) (e : Ending) (w' : World) : Prop := ∃ A c, e = .returned (.slice A l.length c) ∧ IntsAt w' A l.length l ∧ Below w.heap.size w w'

theorem far_near (x y u v : Int) (hx : 0 ≤ x ∧ x ≤ 3) (hy : 0 ≤ y ∧ y ≤ 3) (hu : 0 ≤ u ∧ u ≤ 3) (hv : 0 ≤ v ∧ v ≤ 3) : far x y u v ≤ 1 ↔ (-1 ≤ u - x ∧ u - x ≤ 1 ∧ -1 ≤ v - y ∧ v - y ≤ 1) := by
  simp only [far, sub, held]; omega

theorem far_bd (x y u v : Int) : 0 ≤ far x y u v ∧ far x y u v ≤ 2147483647 := by
  have h1 : -2147483647 ≤ sub x u ∧ sub x u ≤ 2147483647 := held_bd _
  have h2 : -2147483647 ≤ sub y v ∧ sub y v ≤ 2147483647 := held_bd _
  unfold far; omega

set_option maxHeartbeats 1000000 in
theorem near_own (a b p n s r : Int) (w : World) :
    Calls Tryz.prog 61 #[.agg #[.int .i64 a, .int .i64 b, .int .i64 p, .int .i64 n, .int .u64 s], .int .i64 r] w fun e w' => ∃ v, e = .returned v ∧ w'.ownsRow w.heap.size 3 1 v (nr a b p n r).length ((nr a b p n r).map (Value.int .i64)) ∧ Below w.heap.size w w' := by
  have HT := Lib.hid (fun w => has_any a b p n s r w)
  by_cases h : hasB a b p n r = true
  · have hx : nr a b p n r = nrTo a r (a * b).toNat := by unfold nr; rw [if_pos h]
    rw [hx]
    obtain ⟨hrt, h0, h1, ha, ha4, hb, hb4, m0, m3, d0, d3, h15⟩ := hasB_rt h
    rw [h] at HT
    have HR := Lib.hid (fun w => regions_any a b p n s w)
    have hre : regs a b p n = a * b := by unfold regs; rw [if_pos hrt]
    rw [hre] at HR
    clear h hx hre hrt
    have hm := mul_le4 ha ha4 hb hb4
    obtain ⟨N, hN⟩ : ∃ N : Nat, a * b = N := ⟨(a * b).toNat, by omega⟩
    have hNt : (a * b).toNat = N := by omega
    rw [hN] at HR h1 hm
    rw [hNt]
    have HN := Lib.hid hN
    clear hN hNt
    have HP := Lib.hid (fun (q : Int) (h0 : 0 ≤ q) (h1 : q ≤ 1000) w => place_any a b p n s q w h0 h1 ha ha4)
    have HX := Lib.hid (show ∃ x, r % a = x from ⟨_, rfl⟩)
    go_enter Tryz.func61, Tryz.ntmps61
    go_wp2_with fail
    refine (HT.out _).mono ?_
    rintro e w1 ⟨rfl, hbw1⟩
    obtain ⟨hcw1, hfw1⟩ := bcell hbw1
    have hzw1 : w.heap.size < w1.heap.size := by have := hbw1.size; (try simp at this); omega
    have Hbw1 := Lib.hid hbw1
    clear hbw1
    go_wp2_with fail
    refine (HP.out r h0 (by omega) _).mono ?_
    rintro e w2 ⟨rfl, hbw2⟩
    obtain ⟨hcw2, hfw2⟩ := bcell hbw2
    have hzw2 : w.heap.size < w2.heap.size := by have := hbw2.size; (try simp at this); omega
    have Hbw2 := Lib.hid hbw2
    clear hbw2
    go_wp2_with fail
    refine (HR.out _).mono ?_
    rintro e w3 ⟨rfl, hbw3⟩
    obtain ⟨hcw3, hfw3⟩ := bcell hbw3
    have hzw3 : w.heap.size < w3.heap.size := by have := hbw3.size; (try simp at this); omega
    have Hbw3 := Lib.hid hbw3
    clear hbw3
    have hb3 : Below (w.heap.size + 1) (w.alloc (.cells #[.int .i64 a, .int .i64 b, .int .i64 p, .int .i64 n, .int .u64 s] 39)) w3 := by
      have := (Hbw1.out.trans (Hbw2.out.mono Hbw1.out.size)).trans (Hbw3.out.mono (Nat.le_trans Hbw1.out.size Hbw2.out.size))
      simpa using this
    have Hb3 := Lib.hid hb3
    clear hb3 hcw1 hfw1 hcw2 hfw2 hcw3 hfw3 hzw1 hzw2 Hbw1 Hbw2 Hbw3
    obtain ⟨i0, hi, hz0, hz1, hz2⟩ := info_parts info_int
    have Hi := Lib.hid hi
    have Hz0 := Lib.hid hz0
    have Hz1 := Lib.hid hz1
    have Hz2 := Lib.hid hz2
    clear hi hz0 hz1 hz2
    go_wp2_with fail
    go_loopw [5, 23] (fun v i wr => ∃ k : Nat, k ≤ N ∧ i = .int .i64 k ∧ wr.ownsRow (w.heap.size + 1) 3 1 v (nrTo a r k).length ((nrTo a r k).map (Value.int .i64)) ∧ Below (w.heap.size + 1) (w.alloc (.cells #[.int .i64 a, .int .i64 b, .int .i64 p, .int .i64 n, .int .u64 s] 39)) wr) (fun _ i _ => N - (intOf i).toNat)
    case atStart => exact ⟨0, Nat.zero_le _, rfl, ⟨by simp [nrTo], .inl ⟨rfl, rfl⟩⟩, Hb3.out⟩
    case round =>
      obtain ⟨k, hk, rfl, hown, hbel⟩ := hrel
      have Hown := Lib.hid hown
      have Hbel := Lib.hid hbel
      have hc0 : ∀ o, wr.cell? ⟨w.heap.size, o, none⟩ = (w.alloc (.cells #[.int .i64 a, .int .i64 b, .int .i64 p, .int .i64 n, .int .u64 s] 39)).cell? ⟨w.heap.size, o, none⟩ := fun o => hbel.cell (p := ⟨w.heap.size, o, none⟩) (Nat.lt_succ_self _)
      have hz0 : w.heap.size < wr.heap.size := by have := hbel.size; simp at this; omega
      clear hown hbel
      have hlen := nrTo_len a r k
      by_cases hlt : k < N
      · go_wp2_with fail
        refine (HP.out k (by omega) (by omega) _).mono ?_
        rintro e w4 ⟨rfl, hbw4⟩
        obtain ⟨hcw4, hfw4⟩ := bcell hbw4
        have hzw4 : w.heap.size < w4.heap.size := by have := hbw4.size; (try simp at this); omega
        have Hbw4 := Lib.hid hbw4
        clear hbw4
        have hkh : hasB a b p n k = true ∨ True := .inr trivial
        have hka : 0 ≤ (k : Int) % a ∧ (k : Int) % a ≤ 3 ∧ 0 ≤ (k : Int) / a ∧ (k : Int) / a ≤ 3 := by
          have hN := HN.out
          have : a = 1 ∨ a = 2 ∨ a = 3 ∨ a = 4 := by omega
          rcases this with rfl | rfl | rfl | rfl <;> omega
        have HF := Lib.hid (far_near (r % a) (r / a) ((k : Int) % a) ((k : Int) / a) ⟨m0, m3⟩ ⟨d0, d3⟩ ⟨hka.1, hka.2.1⟩ hka.2.2)
        have HB := Lib.hid (show nearB a r k = decide (-1 ≤ (k : Int) % a - r % a ∧ (k : Int) % a - r % a ≤ 1 ∧ -1 ≤ (k : Int) / a - r / a ∧ (k : Int) / a - r / a ≤ 1) from rfl)
        have HS := Lib.hid (show nrTo a r (k + 1) = nrTo a r k ++ if nearB a r k then [(k : Int)] else [] from rfl)
        have hfb := far_bd (r % a) (r / a) ((k : Int) % a) ((k : Int) / a)
        have HFar := Lib.hid (fun w => far_any (r % a) (r / a) ((k : Int) % a) ((k : Int) / a) w)
        go_wp2_with fail
        refine (HFar.out _).mono ?_
        rintro e w' ⟨rfl, rfl⟩
        clear HFar
        generalize far (r % a) (r / a) ((k : Int) % a) ((k : Int) / a) = f at *
        have hb4 : Below wr.heap.size wr w4 := by simpa using Hbw4.out
        have Hb4 := Lib.hid hb4
        clear hb4
        have hl4 : wr.heap.size ≤ w4.heap.size := Hb4.out.size
        have hbel4 : Below (w.heap.size + 1) (w.alloc (.cells #[.int .i64 a, .int .i64 b, .int .i64 p, .int .i64 n, .int .u64 s] 39)) w4 := Hbel.out.trans (Hb4.out.mono (by omega))
        have Hbel4 := Lib.hid hbel4
        clear hbel4
        by_cases hf : f ≤ 1
        · have hn : nearB a r k = true := by rw [HB.out]; exact decide_eq_true (HF.out.1 hf)
          have HS2 := Lib.hid (show nrTo a r (k + 1) = nrTo a r k ++ [(k : Int)] by rw [HS.out, if_pos hn])
          clear hn HS HB HF
          go_wp2_with (at_builtin; go_must (refine append_int (by rfl) (.tmp 38) (.tmp 40) 106 (by rfl) (w.heap.size + 1) 3 .i64 i0 8 Tryz.underlying106 Hi.out Hz0.out Hz1.out Hz2.out (by omega) _ (nrTo a r k) (own_below Hown.out Hb4.out) k (by rfl) w4.heap.size 1 (by rfl) (by rfl) (by omega) (by omega) ?_); intro v' w5 hown5 hb5)
          rw [← HS2.out] at hown5
          have HO5 := Lib.hid hown5
          have HB5 := Lib.hid (Hbel4.out.trans hb5)
          clear hown5 hb5
          go_wp2
          go_roundw
          case rel => exact ⟨k + 1, by omega, by go_num, HO5.out, HB5.out⟩
          case measure => simp [intOf]; omega
        · have hn : nearB a r k = false := by rw [HB.out]; exact decide_eq_false (fun h => hf (HF.out.2 h))
          have HS2 := Lib.hid (show nrTo a r (k + 1) = nrTo a r k by rw [HS.out, hn]; simp)
          clear hn HS HB HF
          go_wp2
          go_roundw
          case rel => exact ⟨k + 1, by omega, by go_num, by rw [HS2.out]; exact own_below Hown.out Hb4.out, Hbel4.out⟩
          case measure => simp [intOf]; omega
      · obtain rfl : k = N := by omega
        go_wp2
        go_ret
        exact ⟨_, rfl, Hown.out.mono (by simp), unbox (by simpa using Hbel.out)⟩
  · have hx : nr a b p n r = [] := by unfold nr; rw [if_neg h]
    rw [hx]
    rw [Bool.not_eq_true] at h
    rw [h] at HT
    clear h hx
    go_enter Tryz.func61, Tryz.ntmps61
    go_wp2_with fail
    refine (HT.out _).mono ?_
    rintro e w1 ⟨rfl, hbw1⟩
    obtain ⟨hcw1, hfw1⟩ := bcell hbw1
    have hzw1 : w.heap.size < w1.heap.size := by have := hbw1.size; (try simp at this); omega
    have Hbw1 := Lib.hid hbw1
    clear hbw1
    go_wp2
    go_ret
    exact ⟨_, rfl, World.ownsRow_nil _ _ _ _, unbox Hbw1.out⟩

theorem near_any (a b p n s r : Int) (w : World) :
    Calls Tryz.prog 61 #[.agg #[.int .i64 a, .int .i64 b, .int .i64 p, .int .i64 n, .int .u64 s], .int .i64 r] w (RetInts (nr a b p n r) w) :=
  (near_own a b p n s r w).mono fun e w' ⟨v, h1, h2, h3⟩ => by
    obtain ⟨A, c, rfl, hat⟩ := owned_ints h2
    exact ⟨A, c, h1, hat, h3⟩

set_option maxHeartbeats 1000000 in
theorem rnear_any (a b p n s r : Int) (w : World) :
    Calls Tryz.prog 63 #[.agg #[.int .i64 a, .int .i64 b, .int .i64 p, .int .i64 n, .int .u64 s], .int .i64 r] w (RetInts (nr a b p n r) w) := by
  have HT := Lib.hid (fun w => is_any a b p n s r w)
  have HR := Lib.hid (fun w => rregions_any a b p n s w)
  by_cases h : hasB a b p n r = true
  · have hx : nr a b p n r = nrTo a r (a * b).toNat := by unfold nr; rw [if_pos h]
    rw [hx]
    obtain ⟨hrt, h0, h1, ha, ha4, hb, hb4, m0, m3, d0, d3, h15⟩ := hasB_rt h
    rw [h] at HT
    have hre : regs a b p n = a * b := by unfold regs; rw [if_pos hrt]
    rw [hre] at HR
    clear h hx hre hrt
    have hm := mul_le4 ha ha4 hb hb4
    obtain ⟨N, hN⟩ : ∃ N : Nat, a * b = N := ⟨(a * b).toNat, by omega⟩
    have hNt : (a * b).toNat = N := by omega
    rw [hN] at HR h1 hm
    rw [hNt]
    have HN := Lib.hid hN
    clear hN hNt
    have hz : (a == 0) = false := beq_eq_false_iff_ne.2 (by omega)
    have hz2 : ¬ a = 0 := by omega
    obtain ⟨i0, hi, hz0, hz1, hz2⟩ := info_parts info_int
    have Hi := Lib.hid hi
    have Hz0 := Lib.hid hz0
    have Hz1 := Lib.hid hz1
    have Hz2 := Lib.hid hz2
    clear hi hz0 hz1 hz2
    go_enter Tryz.func63, Tryz.ntmps63
    go_wp2_with fail
    go_loopw [5, 6] (fun v i wr => ∃ k : Nat, k ≤ N ∧ i = .int .i64 k ∧ wr.ownsRow (w.heap.size + 1) 3 1 v (nrTo a r k).length ((nrTo a r k).map (Value.int .i64)) ∧ Below (w.heap.size + 1) (w.alloc (.cells #[.int .i64 a, .int .i64 b, .int .i64 p, .int .i64 n, .int .u64 s] 24)) wr) (fun _ i _ => N - (intOf i).toNat)
    case atStart => exact ⟨0, Nat.zero_le _, rfl, ⟨by simp [nrTo], .inl ⟨rfl, rfl⟩⟩, Below.refl _ _⟩
    case round =>
      obtain ⟨k, hk, rfl, hown, hbel⟩ := hrel
      have Hown := Lib.hid hown
      have Hbel := Lib.hid hbel
      have hc0 : ∀ o, wr.cell? ⟨w.heap.size, o, none⟩ = (w.alloc (.cells #[.int .i64 a, .int .i64 b, .int .i64 p, .int .i64 n, .int .u64 s] 24)).cell? ⟨w.heap.size, o, none⟩ := fun o => hbel.cell (p := ⟨w.heap.size, o, none⟩) (Nat.lt_succ_self _)
      have hz0 : w.heap.size < wr.heap.size := by have := hbel.size; simp at this; omega
      clear hown hbel
      have hlen := nrTo_len a r k
      by_cases hlt : k < N
      · go_wp2_with fail
        refine (HR.out _).mono ?_
        rintro e w4 ⟨rfl, hbw4⟩
        obtain ⟨hcw4, hfw4⟩ := bcell hbw4
        have hzw4 : w.heap.size < w4.heap.size := by have := hbw4.size; (try simp at this); omega
        have Hbw4 := Lib.hid hbw4
        clear hbw4
        go_wp2_with fail
        refine (HT.out _).mono ?_
        rintro e w5 ⟨rfl, hbw5⟩
        obtain ⟨hcw5, hfw5⟩ := bcell hbw5
        have hzw5 : w.heap.size < w5.heap.size := by have := hbw5.size; (try simp at this); omega
        have Hbw5 := Lib.hid hbw5
        clear hbw5
        have hka : 0 ≤ (k : Int) % a ∧ (k : Int) % a ≤ 3 ∧ 0 ≤ (k : Int) / a ∧ (k : Int) / a ≤ 3 := by
          have hN := HN.out
          have : a = 1 ∨ a = 2 ∨ a = 3 ∨ a = 4 := by omega
          rcases this with rfl | rfl | rfl | rfl <;> omega
        have HB := Lib.hid (show nearB a r k = decide (-1 ≤ (k : Int) % a - r % a ∧ (k : Int) % a - r % a ≤ 1 ∧ -1 ≤ (k : Int) / a - r / a ∧ (k : Int) / a - r / a ≤ 1) from rfl)
        have HS := Lib.hid (show nrTo a r (k + 1) = nrTo a r k ++ if nearB a r k then [(k : Int)] else [] from rfl)
        have Hb5 := Lib.hid (show Below wr.heap.size wr w5 from Hbw4.out.trans (Hbw5.out.mono Hbw4.out.size))
        have hl5 : wr.heap.size ≤ w5.heap.size := Hb5.out.size
        have Hbel5 := Lib.hid (show Below (w.heap.size + 1) (w.alloc (.cells #[.int .i64 a, .int .i64 b, .int .i64 p, .int .i64 n, .int .u64 s] 24)) w5 from Hbel.out.trans (Hb5.out.mono (by omega)))
        have e1 : IntKind.i64.wrap ((k : Int) % a - r % a) = (k : Int) % a - r % a := IntWalk.i64_in _ (by omega)
        have e2 : IntKind.i64.wrap ((k : Int) / a - r / a) = (k : Int) / a - r / a := IntWalk.i64_in _ (by omega)
        go_wp2_with fail
        go_quiet (fail)
        clear e1 e2
        generalize (k : Int) % a - r % a = dx at *
        generalize (k : Int) / a - r / a = dy at *
        by_cases hf : -1 ≤ dx ∧ dx ≤ 1 ∧ -1 ≤ dy ∧ dy ≤ 1
        · have hn : nearB a r k = true := by rw [HB.out]; exact decide_eq_true hf
          have HS2 := Lib.hid (show nrTo a r (k + 1) = nrTo a r k ++ [(k : Int)] by rw [HS.out, if_pos hn])
          obtain ⟨f1, f2, f3, f4⟩ := hf
          clear hn HS HB
          go_wp2_with (at_builtin; go_must (refine append_int (by rfl) (.tmp 52) (.tmp 54) 106 (by rfl) (w.heap.size + 1) 3 .i64 i0 8 Tryz.underlying106 Hi.out Hz0.out Hz1.out Hz2.out (by omega) _ (nrTo a r k) (own_below Hown.out (below_drewN Hb5.out _)) k (by rfl) w5.heap.size 1 (by rfl) (by rfl) (by omega) (by show _ ≤ w5.heap.size; omega) ?_); intro v' w6 hown6 hb6)
          rw [← HS2.out] at hown6
          have HO6 := Lib.hid hown6
          have HB6 := Lib.hid ((below_drewN Hbel5.out _).trans hb6)
          clear hown6 hb6
          go_wp2
          go_roundw
          case rel => exact ⟨k + 1, by omega, by go_num, HO6.out, HB6.out⟩
          case measure => simp [intOf]; omega
        · have hn : nearB a r k = false := by rw [HB.out]; exact decide_eq_false hf
          have HS2 := Lib.hid (show nrTo a r (k + 1) = nrTo a r k by rw [HS.out, hn]; simp)
          have Hf := Lib.hid hf
          clear hn HS HB hf
          go_wp2
          all_goals first | (exfalso; have := Hf.out; omega) | skip
          all_goals
            go_roundw
            case rel => exact ⟨k + 1, by omega, by go_num, by rw [HS2.out]; exact own_below Hown.out (below_drewN Hb5.out _), below_drewN Hbel5.out _⟩
            case measure => simp [intOf]; omega
      · obtain rfl : k = N := by omega
        obtain ⟨A, c, rfl, hat⟩ := owned_ints Hown.out
        have Hat := Lib.hid hat
        clear hat
        go_wp2_with fail
        refine (HR.out _).mono ?_
        rintro e w4 ⟨rfl, hbw4⟩
        obtain ⟨hcw4, hfw4⟩ := bcell hbw4
        have hzw4 : w.heap.size < w4.heap.size := by have := hbw4.size; (try simp at this); omega
        have Hbw4 := Lib.hid hbw4
        clear hbw4
        go_wp2
        go_ret
        exact ⟨A, c, rfl, Hat.out.below Hbw4.out, unbox (by have := Hbel.out.trans (Hbw4.out.mono (by omega)); simpa using this)⟩
  · have hx : nr a b p n r = [] := by unfold nr; rw [if_neg h]
    rw [hx]
    rw [Bool.not_eq_true] at h
    rw [h] at HT
    clear h hx
    have hrb := regs_bd a b p n
    generalize regs a b p n = R at *
    go_enter Tryz.func63, Tryz.ntmps63
    go_wp2_with fail
    go_loopw [5, 6] (fun v i wr => i = .int .i64 0 ∧ v = .slice none 0 0 ∧ wr = (w.alloc (.cells #[.int .i64 a, .int .i64 b, .int .i64 p, .int .i64 n, .int .u64 s] 24))) (fun _ i _ => 0)
    case atStart => exact ⟨rfl, rfl, rfl⟩
    case round =>
      obtain ⟨rfl, rfl, rfl⟩ := hrel
      by_cases hR : 0 < R
      · go_wp2_with fail
        refine (HR.out _).mono ?_
        rintro e w4 ⟨rfl, hbw4⟩
        obtain ⟨hcw4, hfw4⟩ := bcell hbw4
        have hzw4 : w.heap.size < w4.heap.size := by have := hbw4.size; (try simp at this); omega
        have Hbw4 := Lib.hid hbw4
        clear hbw4
        go_wp2_with fail
        refine (HT.out _).mono ?_
        rintro e w5 ⟨rfl, hbw5⟩
        obtain ⟨hcw5, hfw5⟩ := bcell hbw5
        have hzw5 : w.heap.size < w5.heap.size := by have := hbw5.size; (try simp at this); omega
        have Hbw5 := Lib.hid hbw5
        clear hbw5
        go_wp2
        go_ret
        exact ⟨none, 0, rfl, ⟨rfl, fun h => by simp at h⟩, unbox (Hbw4.out.trans (Hbw5.out.mono Hbw4.out.size))⟩
      · have hR2 : decide (0 < R) = false := by simpa using hR
        go_wp2_with fail
        refine (HR.out _).mono ?_
        rintro e w4 ⟨rfl, hbw4⟩
        obtain ⟨hcw4, hfw4⟩ := bcell hbw4
        have hzw4 : w.heap.size < w4.heap.size := by have := hbw4.size; (try simp at this); omega
        have Hbw4 := Lib.hid hbw4
        clear hbw4
        go_wp2
        go_ret
        exact ⟨none, 0, rfl, ⟨rfl, fun h => by simp at h⟩, unbox Hbw4.out⟩

end Go.Proofs.YtlpkaljepaclpaaGreat.Fx
namespace Go.Proofs.YtlpkaljepaclpaaGreat.Fx
open Go.ChangeShapes Go.WideShapes Go.ChangeAt Go.RowKit
set_option linter.unusedVariables false
set_option maxRecDepth 100000

/-- In's plain meaning. -/
def inB (l : List Int) (x : Int) : Bool := decide (x ∈ l)

theorem in_any (A : Option Addr) (n c : Nat) (l : List Int) (x : Int) (w : World) (hl : IntsAt w A n l) (hn : n ≤ 1000000) :
    Calls Tryz.prog 132 #[.slice A n c, .int .i64 x] w fun e w' => e = .returned (.bool (inB l x)) ∧ w = w' := by
  obtain ⟨hlen, hat⟩ := hl
  have Hlen := Lib.hid hlen
  have Hat := Lib.hid hat
  have HB := Lib.hid (show inB l x = decide (x ∈ l) from rfl)
  clear hat hlen
  generalize inB l x = r at *
  go_enter Tryz.func132, Tryz.ntmps132
  go_wp2
  go_loop [5] (fun i => ∃ k : Nat, k ≤ n ∧ i = .int .i64 k ∧ ∀ j, j < k → gi l j ≠ x) (fun i => n - (intOf i).toNat)
  case atStart => exact ⟨0, Nat.zero_le _, rfl, fun j hj => by omega⟩
  case round =>
    obtain ⟨k, hk, rfl, hno⟩ := hrel
    have Hno := Lib.hid hno
    clear hno
    by_cases hlt : k < n
    · obtain ⟨b, off, hA, hc⟩ := Hat.out (by omega)
      subst hA
      have hck := hc k hlt
      clear hc
      have HG := Lib.hid (show gi l k ∈ l by unfold gi; rw [List.getD_eq_getElem?_getD, List.getElem?_eq_getElem (by have := Hlen.out; omega)]; simp)
      generalize hg : gi l k = y at *
      have Hg := Lib.hid hg
      clear hg
      by_cases hxy : y = x
      · subst hxy
        go_wp2
        go_ret
        exact ⟨ret_bool (by rw [HB.out]; simp [HG.out]), rfl⟩
      · have hxy' : (y == x) = false := by simpa using hxy
        go_wp2
        go_round
        case rel => exact ⟨k + 1, by omega, by go_num, fun j hj => by rcases Nat.lt_succ_iff_lt_or_eq.1 hj with h | rfl; exact Hno.out j h; rw [Hg.out]; exact hxy⟩
        case measure => simp [intOf]; omega
    · go_wp2
      go_ret
      have hnot : ¬ x ∈ l := by
        intro hm
        obtain ⟨j, hj, rfl⟩ := List.mem_iff_getElem.1 hm
        have := Hno.out j (by have := Hlen.out; omega)
        unfold gi at this
        rw [List.getD_eq_getElem?_getD, List.getElem?_eq_getElem hj] at this
        exact this rfl
      exact ⟨ret_bool (by rw [HB.out]; simp [hnot]), rfl⟩

end Go.Proofs.YtlpkaljepaclpaaGreat.Fx
