/- joustlaw08.HittingSums returns true for every input; no conditions. -/
import Derived.Test.YtdhahlghldgggaaHtAwake
import Derived.Test.YtdhahlghldgggaaHtSum
import Derived.Test.YtdhahlghldgggaaGNum
import Derived.Test.YtdhahlghldgggaaRows
import Derived.WalkKit
import Derived.ProofKit
import Derived.OpenShut
import Derived.ShutString
import Derived.ChangeOld
import Derived.Below
namespace Go.Proofs.Ytdhahlghldgggaa.hittingSums
open Go.ChangeShapes Go.WideShapes Go.ChangeAt Go.RowKit
open Go.ChangeMaps (open_string shut_string)
set_option linter.unusedVariables false

theorem own : ownKnob Try.prog.godebug = none := by kernel_rfl
theorem laidOut : laidOutB Try.prog = true := by kernel_rfl
open Fx (IsRow)

open Fx

/-- A health. -/
def hl (x : Int) : Int := wrap64 (1 + wrap64 ((IntKind.u64.wrap x).tmod 100))

theorem hl_bd (x : Int) : 1 ≤ hl x ∧ hl x ≤ 100 := umod1 x 100 (by decide) (by decide)

def plE (x : Int) (i : Nat) : Ent := ⟨(i : Int) + 1, 1, 100 * (i : Int), 0, 0, 0, hl x, 0, 0⟩

/-- The first k players. -/
def plyL (H : List Int) (k : Nat) : List Ent := (List.range k).map fun i => plE (gi H i) i

theorem plyL_succ (H : List Int) (k : Nat) : plyL H (k + 1) = plyL H k ++ [plE (gi H k) k] := by simp [plyL, List.range_succ]

theorem plyL_len (H : List Int) (k : Nat) : (plyL H k).length = k := by simp [plyL]

def shE (x : Int) (i : Nat) : Ent := ⟨1000 + (i : Int), 2, wrap64 ((IntKind.u64.wrap x).tmod 700), 0, 0, 0, 0, 0, 1 + (i : Int) % 6⟩

/-- The first k shots. -/
def shL (T : List Int) (k : Nat) : List Ent := (List.range k).map fun i => shE (gi T i) i

theorem shL_succ (T : List Int) (k : Nat) : shL T (k + 1) = shL T k ++ [shE (gi T k) k] := by simp [shL, List.range_succ]

theorem shL_len (T : List Int) (k : Nat) : (shL T k).length = k := by simp [shL]

theorem hsum_append (a b : List Ent) : hsum (a ++ b) = hsum a + hsum b := by
  induction a with
  | nil => simp [hsum]
  | cons e r ih => rw [List.cons_append, hsum, hsum, ih]; omega

theorem psum_append (a b : List Ent) : psum (a ++ b) = psum a + psum b := by
  induction a with
  | nil => simp [psum]
  | cons e r ih => rw [List.cons_append, psum, psum, ih]; omega

theorem nonp_append (a b : List Ent) : nonp (a ++ b) = nonp a + nonp b := by
  induction a with
  | nil => simp [nonp]
  | cons e r ih => rw [List.cons_append, nonp, nonp, ih]; omega

theorem hurts_append (c : Crs) (a b : List Ent) : hurts c (a ++ b) = hurts c a + hurts c b := by
  induction a with
  | nil => simp [hurts]
  | cons e r ih => rw [List.cons_append, hurts, hurts, ih]; omega

theorem hsum_at {l : List Ent} {k : Nat} {e : Ent} (h : l[k]? = some e) : hsum (l.take (k + 1)) = hsum (l.take k) + e.health := by
  rw [take_at h, hsum_append]; simp [hsum]

theorem psum_at {l : List Ent} {k : Nat} {e : Ent} (h : l[k]? = some e) : psum (l.take (k + 1)) = psum (l.take k) + if e.kind = 1 then e.health else 0 := by
  rw [take_at h, psum_append]; simp [psum]

theorem nonp_at {l : List Ent} {k : Nat} {e : Ent} (h : l[k]? = some e) : nonp (l.take (k + 1)) = nonp (l.take k) + if e.kind = 1 then 0 else 1 := by
  rw [take_at h, nonp_append]; simp [nonp]

theorem within_take {M : Int} {l : List Ent} (h : Within M l) (k : Nat) : Within M (l.take k) := fun p hp => h p (List.mem_of_mem_take hp)

theorem hsum_bd {l : List Ent} (h : Within 1000 l) : -(1000 * (l.length : Int)) ≤ hsum l ∧ hsum l ≤ 1000 * (l.length : Int) := by
  induction l with
  | nil => simp [hsum]
  | cons e r ih =>
    have h1 := h e (by simp)
    have h2 := ih fun p hp => h p (by simp [hp])
    rw [hsum]
    simp only [List.length_cons]
    omega

theorem psum_bd {l : List Ent} (h : Within 1000 l) : -(1000 * (l.length : Int)) ≤ psum l ∧ psum l ≤ 1000 * (l.length : Int) := by
  induction l with
  | nil => simp [psum]
  | cons e r ih =>
    have h1 := h e (by simp)
    have h2 := ih fun p hp => h p (by simp [hp])
    rw [psum]
    simp only [List.length_cons]
    split <;> omega

theorem nonp_bd (l : List Ent) : 0 ≤ nonp l ∧ nonp l ≤ (l.length : Int) := by
  induction l with
  | nil => simp [nonp]
  | cons e r ih =>
    rw [nonp]
    simp only [List.length_cons]
    split <;> omega

theorem hurts_bd (c : Crs) (l : List Ent) : 0 ≤ hurts c l ∧ hurts c l ≤ 10 * (l.length : Int) := by
  induction l with
  | nil => simp [hurts]
  | cons e r ih =>
    rw [hurts]
    simp only [List.length_cons]
    split <;> omega

theorem within_ply (H : List Int) (k : Nat) : Within 100 (plyL H k) := by
  intro p hp
  obtain ⟨i, -, rfl⟩ := List.mem_map.1 hp
  have := hl_bd (gi H i)
  exact ⟨by show -100 ≤ hl _; omega, by show hl _ ≤ 100; omega⟩

theorem within_sh (T : List Int) (k : Nat) : Within 100 (shL T k) := by
  intro p hp
  obtain ⟨i, -, rfl⟩ := List.mem_map.1 hp
  exact ⟨by show (-100 : Int) ≤ 0; omega, by show (0 : Int) ≤ 100; omega⟩

theorem within_app {M : Int} {a b : List Ent} (h : Within M a) (h' : Within M b) : Within M (a ++ b) := fun p hp => by
  rcases List.mem_append.1 hp with hp | hp
  · exact h p hp
  · exact h' p hp

theorem within_mono {M N : Int} {l : List Ent} (h : Within M l) (hm : M ≤ N) : Within N l := fun p hp => by have := h p hp; omega

theorem touch_within (r : Int) : ∀ (es l : List Ent) (M : Int), 0 ≤ M → Within M l → M + 20 * es.length ≤ 1000000 → Within (M + 20 * es.length) (touch 2 r (fun h => sub h 20) es l)
  | [], l, M, h0, h, _ => by simpa [touch] using h
  | e :: t, l, M, h0, h, hM => by
    simp only [List.length_cons] at hM
    have h1 : Within (M + 20) (touch1 2 r (fun h => sub h 20) e l) := by
      unfold touch1
      split
      · split
        · exact within_modify h _ (fun v h1 h2 => by rw [sub20 v (by omega) (by omega)]; omega) h0
        · exact within_mono h (by omega)
      · exact within_mono h (by omega)
    have h2 := touch_within r t _ (M + 20) (by omega) h1 (by omega)
    exact within_mono h2 (by simp only [List.length_cons]; omega)

theorem shots_within {l : List Ent} (h : Within 100 l) (hl : l.length ≤ 20) : Within 1000 (shotsL l) := fun p hp => by
  have := touch_within 24 l l 100 (by omega) h (by omega) p (List.mem_filter.1 hp).1
  omega

theorem shots_len (l : List Ent) : (shotsL l).length ≤ l.length := by
  unfold shotsL touchL
  refine Nat.le_trans (List.length_filter_le _ _) ?_
  rw [(touch_pw _ _ _ l l).len]
  exact Nat.le_refl _

theorem psum_ply (H : List Int) (k : Nat) : psum (plyL H k) = hsum (plyL H k) ∧ nonp (plyL H k) = 0 := by
  induction k with
  | zero => simp [plyL, psum, hsum, nonp]
  | succ k ih => rw [plyL_succ, psum_append, hsum_append, nonp_append, ih.1, ih.2]; simp [psum, hsum, nonp, plE]

theorem psum_sh (T : List Int) (k : Nat) : psum (shL T k) = 0 ∧ nonp (shL T k) = k := by
  induction k with
  | zero => simp [shL, psum, nonp]
  | succ k ih => rw [shL_succ, psum_append, nonp_append, ih.1, ih.2]; simp [psum, nonp, shE]

theorem far_x (a f : Int) (ha : 0 ≤ a) (ha2 : a ≤ 1000) (hf : 0 ≤ f) (hf2 : f ≤ 1000) : far a 0 f 0 ≤ 128 ↔ -128 ≤ a - f ∧ a - f ≤ 128 := by
  simp only [far, sub, held]; omega

/-- The blast. -/
def blC (f : Int) : Crs := ⟨2, 0, 0, 0, ⟨0, 0, 0, 0, 0, 0, 0, 0, 0⟩, f, 0⟩

theorem ply_at (H : List Int) {n k : Nat} (h : k < n) : (plyL H n)[k]? = some (plE (gi H k) k) := by simp [plyL, h]

theorem hurts_at (H : List Int) (f : Int) (hf : 0 ≤ f) (hf2 : f ≤ 1000) {n k : Nat} (h : k < n) (hn : n ≤ 6) : hurts (blC f) ((plyL H n).take (k + 1)) = hurts (blC f) ((plyL H n).take k) + if -128 ≤ 100 * (k : Int) - f ∧ 100 * (k : Int) - f ≤ 128 then 10 else 0 := by
  rw [take_at (ply_at H h), hurts_append]
  have := far_x (100 * (k : Int)) f (by omega) (by omega) hf hf2
  simp only [hurts, blC, plE, true_and, this, Int.add_zero]

set_option maxRecDepth 100000 in
set_option maxHeartbeats 4000000 in
theorem walk (a0 : Option Addr) (len0 cap0 : Nat) (z0 : List Int) (a1 : Option Addr) (len1 cap1 : Nat) (z1 : List Int) (a2 : Int) (w : World) (w0 : IsRow .i64 w a0 len0 cap0 z0) (w1 : IsRow .i64 w a1 len1 cap1 z1) (w2 : (Lit.int .i64 a2).wf = true) :
    Calls Try.prog 4 #[.slice a0 len0 cap0, .slice a1 len1 cap1, .int .i64 a2] w fun e w' => e = .returned (.bool true) ∧ Below w.heap.size w w' := by
  have HI := Lib.hid w0.ints
  have HJ := Lib.hid w1.ints
  clear w0 w1
  generalize z0.take len0 = H at *
  generalize z1.take len1 = T at *
  have HA := Lib.hid awake_ht
  have m2 := umod a2 600 (by decide) (by decide)
  rw [← m2.1] at m2
  obtain ⟨-, m3, m4⟩ := m2
  go_enter Try.func4, Try.ntmps4
  go_wp2_with fail
  go_loopw [7, 8] (fun v i wr => ∃ k : Nat, k ≤ 6 ∧ k ≤ len0 ∧ i = .int .i64 k ∧ wr.ownsRow w.heap.size 28 9 v k ((plyL H k).flatMap entC) ∧ Below w.heap.size w wr) (fun _ i _ => 6 - (intOf i).toNat)
  case atStart => exact ⟨0, Nat.zero_le _, Nat.zero_le _, rfl, ⟨by simp [plyL], .inl ⟨rfl, rfl⟩⟩, Below.refl _ _⟩
  case round =>
    obtain ⟨k, hk6, hkl, rfl, hown, hbel⟩ := hrel
    have Hown := Lib.hid hown
    have Hbel := Lib.hid hbel
    clear hown hbel
    have HP := Lib.hid (plyL_len H k)
    by_cases hlt : k < len0 ∧ k < 6
    · obtain ⟨hl1, hl2⟩ := hlt
      have hd1 : decide ((k : Int) < (len0 : Int)) = true := decide_eq_true (by omega)
      have hd2 : decide ((k : Int) < 6) = true := decide_eq_true (by omega)
      obtain ⟨b, off, rfl, hc⟩ := (HI.out.below Hbel.out).2 (by omega)
      have hck := hc k hl1
      clear hc
      have HG := Lib.hid (plyL_succ H k)
      unfold plE hl at HG
      generalize gi H k = x at *
      go_wp2_with (at_builtin; go_must (refine appL_Ent (by rfl) (.tmp 34) (.tmp 48) (by rfl) w.heap.size _ (plyL H k) (by rfl) (by rw [HP.out]; exact Hown.out.alloc _) _ [⟨(k : Int) + 1, 1, 100 * (k : Int), 0, 0, 0, wrap64 (1 + wrap64 ((IntKind.u64.wrap x).tmod 100)), 0, 0⟩] (by rfl) (one_Ent _ _ _ 1 (by first | rfl | simp) (by omega)) (by rw [HP.out]; simp; omega) (by have := Hbel.out.size; simp; omega) ?_))
      intro v' w5 hown5 hb5 _
      have HO5 := Lib.hid (show w5.ownsRow w.heap.size 28 9 v' (k + 1) ((plyL H (k + 1)).flatMap entC) from by rw [HG.out]; simpa [HP.out] using hown5)
      have HB5 := Lib.hid ((Hbel.out.alloc Hbel.out.size _).trans hb5)
      clear hown5 hb5
      go_wp2
      go_roundw
      case rel => exact ⟨k + 1, by omega, by omega, by go_num, HO5.out, HB5.out⟩
      case measure => simp [intOf]; omega
    · have hPk : k = 6 ∨ k = len0 := by omega
      go_upto_region 3 with fail
      go_cut [31] from 24 to 32 (fun s31 wx => s31 = .bool false ∧ wr = wx)
      case first =>
        by_cases h6 : k < len0
        · have hd1 : decide ((k : Int) < (len0 : Int)) = true := decide_eq_true (by omega)
          have hd2 : decide ((k : Int) < 6) = false := decide_eq_false (by omega)
          go_wp2_with fail
          go_meet
          exact ⟨rfl, rfl⟩
        · have hd1 : decide ((k : Int) < (len0 : Int)) = false := decide_eq_false (by omega)
          go_wp2_with fail
          go_meet
          exact ⟨rfl, rfl⟩
      case rest =>
        obtain ⟨rfl, rfl⟩ := hcut
        go_wp2_with fail
        obtain ⟨A7, c7, rfl, -⟩ := owned_cells Hown.out
        have HWP := Lib.hid (within_mono (within_ply H k) (show (100 : Int) ≤ 1000 by omega))
        have HLP := Lib.hid (plyL_len H k)
        obtain ⟨wo, hwo⟩ : ∃ wo : World, wo = wr := ⟨_, rfl⟩
        subst hwo
        go_loopw [9, 10] (fun s i wx => ∃ (j : Nat) (q : Int), j ≤ k ∧ i = .int .i64 j ∧ s = .int .i64 q ∧ q = hsum ((plyL H k).take j) ∧ -(1000 * (j : Int)) ≤ q ∧ q ≤ 1000 * (j : Int) ∧ wx = wo) (fun _ i _ => k - (intOf i).toNat)
        case atStart => exact ⟨0, 0, Nat.zero_le _, rfl, rfl, rfl, by omega, by omega, rfl⟩
        case round =>
          obtain ⟨j, q, hj, rfl, rfl, hq, hq1, hq2, rfl⟩ := hrel
          have Hq := Lib.hid hq
          clear hq
          by_cases hjk : j < k
          · have hdj : decide ((j : Int) < (k : Int)) = true := decide_eq_true (by omega)
            have hp := ply_at H hjk
            have HS := Lib.hid (hsum_at hp)
            have HBd := Lib.hid (HWP.out _ (List.mem_iff_getElem?.2 ⟨j, hp⟩))
            obtain ⟨g, c, hA, -, hgw, -, hcs, -⟩ := own_at_Ent Hown.out hp
            cases hA
            simp only [Nat.zero_add] at hcs
            have h6 := hcs.2.2.2.2.2.2.1
            clear hcs hp
            generalize (plE (gi H j) j).health = z at *
            obtain ⟨hz1, hz2⟩ := HBd.out
            go_wp2
            go_roundw
            case rel => exact ⟨j + 1, q + z, by omega, by go_num, by go_num, by rw [HS.out, Hq.out], by omega, by omega, by first | trivial | rfl⟩
            case measure => simp [intOf]; omega
          · obtain rfl : j = k := by omega
            have hdj : decide ((j : Int) < (j : Int)) = false := decide_eq_false (by omega)
            rw [List.take_of_length_le (Nat.le_of_eq HLP.out)] at Hq
            go_wp2_with fail
            go_loopw [7, 12] (fun v i wr => ∃ t : Nat, t ≤ 12 ∧ t ≤ len1 ∧ i = .int .i64 t ∧ wr.ownsRow w.heap.size 28 9 v (j + t) ((plyL H j ++ shL T t).flatMap entC) ∧ Below w.heap.size w wr) (fun _ i _ => 12 - (intOf i).toNat)
            case atStart => exact ⟨0, Nat.zero_le _, Nat.zero_le _, rfl, by simpa [shL] using Hown.out, Hbel.out⟩
            case round =>
              obtain ⟨t, ht12, htl, rfl, hown2, hbel2⟩ := hrel
              have Hown2 := Lib.hid hown2
              have Hbel2 := Lib.hid hbel2
              clear hown2 hbel2 Hown Hbel
              have HPt := Lib.hid (show (plyL H j ++ shL T t).length = j + t from by rw [List.length_append, plyL_len, shL_len])
              by_cases hlt2 : t < len1 ∧ t < 12
              · obtain ⟨hl1, hl2⟩ := hlt2
                have hd1 : decide ((t : Int) < (len1 : Int)) = true := decide_eq_true (by omega)
                have hd2 : decide ((t : Int) < 12) = true := decide_eq_true (by omega)
                obtain ⟨b, off, rfl, hc⟩ := (HJ.out.below Hbel2.out).2 (by omega)
                have hck := hc t hl1
                clear hc
                have HG := Lib.hid (shL_succ T t)
                unfold shE at HG
                generalize gi T t = x at *
                have hmod : (t : Int).tmod 6 = (t : Int) % 6 := Int.tmod_eq_emod_of_nonneg (by omega)
                go_wp2_with (at_builtin; go_must (refine appL_Ent (by rfl) (.tmp 75) (.tmp 89) (by rfl) w.heap.size _ (plyL H j ++ shL T t) (by rfl) (by rw [HPt.out]; exact Hown2.out.alloc _) _ [⟨1000 + (t : Int), 2, wrap64 ((IntKind.u64.wrap x).tmod 700), 0, 0, 0, 0, 0, _⟩] (by rfl) (one_Ent _ _ _ 1 (by first | rfl | simp) (by omega)) (by rw [HPt.out]; simp; omega) (by have := Hbel2.out.size; simp; omega) ?_))
                intro v' w5 hown5 hb5 _
                have HO5 := Lib.hid (show w5.ownsRow w.heap.size 28 9 v' (j + (t + 1)) ((plyL H j ++ shL T (t + 1)).flatMap entC) from by rw [HG.out, ← List.append_assoc, ← Nat.add_assoc, ← HPt.out]; simpa [Nat.add_assoc] using hown5)
                have HB5 := Lib.hid ((Hbel2.out.alloc Hbel2.out.size _).trans hb5)
                clear hown5 hb5
                go_wp2
                go_roundw
                case rel => exact ⟨t + 1, by omega, by omega, by go_num, HO5.out, HB5.out⟩
                case measure => simp [intOf]; omega
              · go_upto_region 13 with fail
                go_cut [72] from 65 to 73 (fun s72 wx => s72 = .bool false ∧ wr = wx)
                case first =>
                  by_cases h6 : t < len1
                  · have hd1 : decide ((t : Int) < (len1 : Int)) = true := decide_eq_true (by omega)
                    have hd2 : decide ((t : Int) < 12) = false := decide_eq_false (by omega)
                    go_wp2_with fail
                    go_meet
                    exact ⟨rfl, rfl⟩
                  · have hd1 : decide ((t : Int) < (len1 : Int)) = false := decide_eq_false (by omega)
                    go_wp2_with fail
                    go_meet
                    exact ⟨rfl, rfl⟩
                case rest =>
                  obtain ⟨rfl, rfl⟩ := hcut
                  have HWL := Lib.hid (within_app (within_ply H j) (within_sh T t))
                  have HSS := Lib.hid (shots_sums (M := 100) (by omega) HWL.out (by rw [HPt.out]; omega))
                  have HPS := Lib.hid (show psum (plyL H j ++ shL T t) = hsum (plyL H j) ∧ nonp (plyL H j ++ shL T t) = t from by rw [psum_append, nonp_append, (psum_ply H j).1, (psum_ply H j).2, (psum_sh T t).1, (psum_sh T t).2]; omega)
                  have HLN := Lib.hid (leave_nonneg (stays 2 24 (plyL H j ++ shL T t)) (plyL H j ++ shL T t))
                  have HWX := Lib.hid (shots_within HWL.out (by rw [HPt.out]; omega))
                  have HXL := Lib.hid (show (shotsL (plyL H j ++ shL T t)).length ≤ j + t from by have := shots_len (plyL H j ++ shL T t); rw [HPt.out] at this; exact this)
                  rw [HPS.out.1, HPS.out.2] at HSS
                  have HSh := Lib.hid (fun v w hv => shotsH_any v (plyL H j ++ shL T t) w hv (by rw [HPt.out]; omega))
                  have Hsl := Lib.hid (owned_sl (by rw [HPt.out]; exact Hown2.out : wr.ownsRow w.heap.size 28 9 _ (plyL H j ++ shL T t).length ((plyL H j ++ shL T t).flatMap entC)))
                  generalize leave (stays 2 24 (plyL H j ++ shL T t)) (plyL H j ++ shL T t) = g at *
                  obtain ⟨A8, c8, h8, -, hcap8, -⟩ := Hsl.out
                  rw [HPt.out] at h8 hcap8
                  subst h8
                  go_wp2_with fail
                  refine (HSh.out _ _ Hsl.out).mono ?_
                  rintro e w6 ⟨v6, rfl, ho6, hb6⟩
                  have Hb6 := Lib.hid (nextW Hbel2.out hb6)
                  have HL6 := Lib.hid (Hsl.out.below hb6)
                  generalize shotsL (plyL H j ++ shL T t) = X at *
                  obtain ⟨N, hN⟩ : ∃ N, X.length = N := ⟨_, rfl⟩
                  have HN := Lib.hid hN
                  have hN2 : N ≤ j + t := hN ▸ HXL.out
                  rw [hN] at ho6
                  obtain ⟨A9, c9, rfl, -⟩ := owned_cells ho6
                  have Ho6 := Lib.hid ho6
                  clear ho6 hb6 hN HXL HSh Hsl HWL Hown2 Hbel2
                  go_wp2_with fail
                  go_loopw [14, 15, 16] (fun s l i wx => ∃ (f : Nat) (p r : Int), f ≤ N ∧ i = .int .i64 f ∧ s = .int .i64 p ∧ l = .int .i64 r ∧ p = psum (X.take f) ∧ r = nonp (X.take f) ∧ -(1000 * (f : Int)) ≤ p ∧ p ≤ 1000 * (f : Int) ∧ 0 ≤ r ∧ r ≤ f ∧ wx = w6) (fun _ _ i _ => N - (intOf i).toNat)
                  case atStart => exact ⟨0, 0, 0, Nat.zero_le _, rfl, rfl, rfl, rfl, rfl, by omega, by omega, by omega, by omega, rfl⟩
                  case round =>
                    obtain ⟨f, p, r, hf, rfl, rfl, rfl, hp, hr, hp1, hp2, hr1, hr2, rfl⟩ := hrel
                    have Hp := Lib.hid hp
                    have Hr := Lib.hid hr
                    clear hp hr
                    by_cases hfN : f < N
                    · have hdf : decide ((f : Int) < (N : Int)) = true := decide_eq_true (by omega)
                      obtain ⟨y, hy⟩ := getE X f N HN.out hfN
                      have HP1 := Lib.hid (psum_at hy)
                      have HR1 := Lib.hid (nonp_at hy)
                      have HBd := Lib.hid (HWX.out _ (List.mem_iff_getElem?.2 ⟨f, hy⟩))
                      obtain ⟨g9, c', hA, -, hgw, -, hcs, -⟩ := own_at_Ent Ho6.out hy
                      cases hA
                      simp only [Nat.zero_add] at hcs
                      have h1 := hcs.2.1
                      have h6 := hcs.2.2.2.2.2.2.1
                      clear hcs hy
                      obtain ⟨hz1, hz2⟩ := HBd.out
                      by_cases hyk : y.kind = 1
                      · rw [if_pos hyk] at HP1 HR1
                        have hyk' : (y.kind == 1) = true := by simpa using hyk
                        clear hyk
                        go_wp2
                        go_roundw
                        case rel => exact ⟨f + 1, p + y.health, r, by omega, by go_num, by go_num, rfl, by rw [HP1.out, Hp.out], by rw [HR1.out, Hr.out]; omega, by omega, by omega, by omega, by omega, by first | trivial | rfl⟩
                        case measure => simp [intOf]; omega
                      · rw [if_neg hyk] at HP1 HR1
                        have hyk' : (y.kind == 1) = false := by simpa using hyk
                        go_wp2
                        go_roundw
                        case rel => exact ⟨f + 1, p, r + 1, by omega, by go_num, rfl, by go_num, by rw [HP1.out, Hp.out]; omega, by rw [HR1.out, Hr.out], by omega, by omega, by omega, by omega, by first | trivial | rfl⟩
                        case measure => simp [intOf]; omega
                    · obtain rfl : f = N := by omega
                      have hdf : decide ((f : Int) < (f : Int)) = false := decide_eq_false (by omega)
                      rw [List.take_of_length_le (Nat.le_of_eq HN.out)] at Hp Hr
                      have Hp' := Lib.hid (Hp.out.trans HSS.out.1)
                      have Hr' := Lib.hid (Hr.out.trans HSS.out.2)
                      go_upto_region 26 with fail
                      generalize wrap64 ((IntKind.u64.wrap a2).tmod 600) = fr at *
                      have HBl := Lib.hid (fun v u w hv hu => blastsH_any v u (plyL H j) [blC fr] w hv (by rw [HLP.out]; omega) hu (by simp))
                      have HSu := Lib.hid (show hsum (blastsL (plyL H j) [blC fr]) = hsum (plyL H j) - hurts (blC fr) (plyL H j) from blast_sum (blC fr) (plyL H j) (within_mono (within_ply H j) (by omega)))
                      have HLy := Lib.hid (show (blastsL (plyL H j) [blC fr]).length = j from by rw [blasts_len]; exact HLP.out)
                      have HWy := Lib.hid (show Within 1000 (blastsL (plyL H j) [blC fr]) from fun z hz => by
                        obtain ⟨q, hq, rfl⟩ := List.mem_map.1 (show z ∈ (plyL H j).map (blast1 (blC fr)) from hz)
                        have h3 := within_ply H j q hq
                        unfold blast1
                        split
                        · simp only [healthy, sub10 q.health (by omega) (by omega)]; omega
                        · omega)
                      have HLs := Lib.hid (show IsSl entC _ _ _ from (HL6.out.upto 9 j (by rw [HPt.out]; omega)))
                      rw [show (plyL H j ++ shL T t).take j = plyL H j from by rw [List.take_append_of_le_length (by rw [HLP.out]; exact Nat.le_refl _), List.take_of_length_le (Nat.le_of_eq HLP.out)]] at HLs
                      have hj8 : (j : Int) ≤ (c8 : Int) := by omega
                      go_wp2_with fail
                      refine (HBl.out _ _ _ (HLs.out.below ((Below.refl _ _).alloc (Nat.le_refl _) _)) (one_Crs _ (blC fr) _ 1 rfl (by omega))).mono ?_
                      rintro e w7 ⟨v7, rfl, ho7, hb7⟩
                      have Hb7 := Lib.hid (nextW (Hb6.out.alloc Hb6.out.size _) hb7)
                      generalize blastsL (plyL H j) [blC fr] = Y at *
                      rw [HLy.out] at ho7
                      obtain ⟨A10, c10, rfl, -⟩ := owned_cells ho7
                      have Ho7 := Lib.hid ho7
                      clear ho7 hb7 HBl HLs HL6 Hb6 Ho6
                      go_wp2_with fail
                      go_loopw [19, 20] (fun s i wx => ∃ (d : Nat) (u : Int), d ≤ j ∧ i = .int .i64 d ∧ s = .int .i64 u ∧ u = hurts (blC fr) ((plyL H j).take d) ∧ 0 ≤ u ∧ u ≤ 10 * (d : Int) ∧ wx = w7) (fun _ i _ => j - (intOf i).toNat)
                      case atStart => exact ⟨0, 0, Nat.zero_le _, rfl, rfl, rfl, by omega, by omega, rfl⟩
                      case round =>
                        obtain ⟨d, u, hd, rfl, rfl, hu, hu1, hu2, rfl⟩ := hrel
                        have Hu := Lib.hid hu
                        clear hu
                        by_cases hdj2 : d < j
                        · have hdd : decide ((d : Int) < (j : Int)) = true := decide_eq_true (by omega)
                          have HU := Lib.hid (hurts_at H fr m3 (by omega) hdj2 hk6)
                          by_cases e1 : -128 ≤ 100 * (d : Int) - fr
                          · have e1' : decide (-128 ≤ 100 * (d : Int) - fr) = true := decide_eq_true e1
                            by_cases e2 : 100 * (d : Int) - fr ≤ 128
                            · have e2' : decide (100 * (d : Int) - fr ≤ 128) = true := decide_eq_true e2
                              rw [if_pos ⟨e1, e2⟩] at HU
                              go_wp2
                              go_roundw
                              case rel => exact ⟨d + 1, u + 10, by omega, by go_num, by go_num, by rw [HU.out, Hu.out], by omega, by omega, by first | trivial | rfl⟩
                              case measure => simp [intOf]; omega
                            · have e2' : decide (100 * (d : Int) - fr ≤ 128) = false := decide_eq_false e2
                              rw [if_neg (fun h => e2 h.2)] at HU
                              go_wp2
                              go_roundw
                              case rel => exact ⟨d + 1, u, by omega, by go_num, rfl, by rw [HU.out, Hu.out]; omega, by omega, by omega, by first | trivial | rfl⟩
                              case measure => simp [intOf]; omega
                          · have e1' : decide (-128 ≤ 100 * (d : Int) - fr) = false := decide_eq_false e1
                            rw [if_neg (fun h => e1 h.1)] at HU
                            go_wp2
                            go_roundw
                            case rel => exact ⟨d + 1, u, by omega, by go_num, rfl, by rw [HU.out, Hu.out]; omega, by omega, by omega, by first | trivial | rfl⟩
                            case measure => simp [intOf]; omega
                        · obtain rfl : d = j := by omega
                          have hdd : decide ((d : Int) < (d : Int)) = false := decide_eq_false (by omega)
                          rw [List.take_of_length_le (Nat.le_of_eq HLP.out)] at Hu
                          obtain ⟨w8, hw8⟩ : ∃ w8 : World, w8 = wr := ⟨_, rfl⟩
                          subst hw8
                          go_wp2_with fail
                          go_loopw [22, 23] (fun s i wx => ∃ (b : Nat) (a : Int), b ≤ d ∧ i = .int .i64 b ∧ s = .int .i64 a ∧ a = hsum (Y.take b) ∧ -(1000 * (b : Int)) ≤ a ∧ a ≤ 1000 * (b : Int) ∧ wx = w8) (fun _ i _ => d - (intOf i).toNat)
                          case atStart => exact ⟨0, 0, Nat.zero_le _, rfl, rfl, rfl, by omega, by omega, rfl⟩
                          case round =>
                            obtain ⟨b, a, hb, rfl, rfl, ha, ha1, ha2, rfl⟩ := hrel
                            have Ha := Lib.hid ha
                            clear ha
                            by_cases hbd : b < d
                            · have hdb : decide ((b : Int) < (d : Int)) = true := decide_eq_true (by omega)
                              obtain ⟨y, hy⟩ := getE Y b d HLy.out hbd
                              have HY1 := Lib.hid (hsum_at hy)
                              have HBd := Lib.hid (HWy.out _ (List.mem_iff_getElem?.2 ⟨b, hy⟩))
                              obtain ⟨g9, c', hA, -, hgw, -, hcs, -⟩ := own_at_Ent Ho7.out hy
                              cases hA
                              simp only [Nat.zero_add] at hcs
                              have h6 := hcs.2.2.2.2.2.2.1
                              clear hcs hy
                              obtain ⟨hz1, hz2⟩ := HBd.out
                              go_wp2
                              go_roundw
                              case rel => exact ⟨b + 1, a + y.health, by omega, by go_num, by go_num, by rw [HY1.out, Ha.out], by omega, by omega, by first | trivial | rfl⟩
                              case measure => simp [intOf]; omega
                            · obtain rfl : b = d := by omega
                              have hdb : decide ((b : Int) < (b : Int)) = false := decide_eq_false (by omega)
                              rw [List.take_of_length_le (Nat.le_of_eq HLy.out)] at Ha
                              have Ha' := Lib.hid (Ha.out.trans HSu.out)
                              go_wp2_with fail
                              refine (HA.out _).mono ?_
                              rintro e w9 ⟨rfl, hb9⟩
                              have Hb9 := Lib.hid (nextW Hb7.out hb9)
                              clear hb9
                              generalize hgo : (b : Int) + (t : Int) - (b : Int) - r = go at *
                              have hg0 : go = g := by have := Hr'.out; omega
                              have hg1 : 0 ≤ go := by have := HLN.out; omega
                              have hg2 : go ≤ 12 := by omega
                              have f1 : (p == q - go * 20) = true := by rw [beq_iff_eq, hg0, Hp'.out, Hq.out]; omega
                              have f2 : (a == q - u) = true := by rw [beq_iff_eq, Ha'.out, Hq.out, Hu.out]
                              have f3 : decide (0 ≤ go) = true := decide_eq_true hg1
                              clear hgo hg0
                              go_wp2
                              go_ret
                              exact ⟨rfl, Hb9.out⟩

set_option maxRecDepth 100000 in
theorem lifted (os : Os) (started : os.Started) (H : Type) (enc : TypeId × Value → H) :
    ReturnsInHanded {} Try.checked os 4 .any (Rows.hittingSumsSpec.pre6 enc Try.prog Try.f4 Rows.hittingSumsRow.domain false) (Rows.hittingSumsSpec.post enc Try.prog Try.f4 false true false false) := by
  refine returnsInHanded_of_change (C := Try.checked) own started (by kernel_rfl) Try.func4
    (ChangeSpec.witness6 (enc := enc) (C := Try.checked) false ⟨#[], #[.slice none 0 0, .slice none 0 0, .int .i64 0], []⟩ 8 (by kernel_rfl) (by kernel_rfl) (by kernel_rfl) (by kernel_rfl)) ?_
  intro W base args ds gs before hval0 hW hcnd _
  have hval : ∀ (j : Nat) t v, Try.f4.params[j]? = some t → args[j]? = some v → Value.okWide Try.prog W .any base t v := hval0
  have hW' := hW
  obtain ⟨p, q, hA0, hV, rfl, hfz, hnd⟩ := hW
  have hA : DataW.TrodAll enc Try.prog W 0 (fun _ => true) true Try.f4.params.toList args.toList ds p := hA0
  rw [Try.params4] at hA hval
  obtain ⟨v0, vs0, d0, ds0, p0, q0, hargs, rfl, rfl, h0, r0⟩ := trodAll_cons hA
  obtain ⟨v1, vs1, d1, ds1, p1, q1, rfl, rfl, rfl, h1, r1⟩ := trodAll_cons r0
  obtain ⟨v2, vs2, d2, ds2, p2, q2, rfl, rfl, rfl, h2, r2⟩ := trodAll_cons r1
  obtain ⟨rfl, rfl, rfl⟩ := trodAll_nil r2
  obtain rfl : args = #[v0, v1, v2] := by cases args; simp_all
  obtain ⟨rfl, rfl⟩ := trodVars_none hV
  obtain ⟨a0, len0, cap0, rfl⟩ := okWide_slice Try.underlying30 (hval 0 30 v0 rfl rfl)
  have k0 := h0
  have lt0 : ∀ x ∈ p0, x.block < W.heap.size := by obtain ⟨m, hm⟩ := k0; exact DataW.trod_lt m _ _ _ hm
  obtain ⟨z0, w0⟩ : ∃ zs, IsRow .i64 W a0 len0 cap0 zs := by
    obtain ⟨fuel, hf⟩ := h0
    rcases open_ints Try.underlying30 Try.underlying3 (by kernel_rfl) hf with ⟨hcs, _⟩ | ⟨x, l, c, zs, hcs, _, hl, hm, hz, _, hcell, hwz⟩
    · simp [Value.cells] at hcs
      obtain ⟨rfl, rfl, rfl⟩ := hcs
      exact ⟨[], .inl ⟨rfl, rfl, rfl, rfl⟩⟩
    · simp [Value.cells] at hcs
      obtain ⟨rfl, rfl, rfl⟩ := hcs
      exact ⟨zs, .inr ⟨_, rfl, hl, hm, by simpa using hz, hcell, hwz⟩⟩
  obtain ⟨a1, len1, cap1, rfl⟩ := okWide_slice Try.underlying30 (hval 1 30 v1 rfl rfl)
  have k1 := h1
  have lt1 : ∀ x ∈ p1, x.block < W.heap.size := by obtain ⟨m, hm⟩ := k1; exact DataW.trod_lt m _ _ _ hm
  obtain ⟨z1, w1⟩ : ∃ zs, IsRow .i64 W a1 len1 cap1 zs := by
    obtain ⟨fuel, hf⟩ := h1
    rcases open_ints Try.underlying30 Try.underlying3 (by kernel_rfl) hf with ⟨hcs, _⟩ | ⟨x, l, c, zs, hcs, _, hl, hm, hz, _, hcell, hwz⟩
    · simp [Value.cells] at hcs
      obtain ⟨rfl, rfl, rfl⟩ := hcs
      exact ⟨[], .inl ⟨rfl, rfl, rfl, rfl⟩⟩
    · simp [Value.cells] at hcs
      obtain ⟨rfl, rfl, rfl⟩ := hcs
      exact ⟨zs, .inr ⟨_, rfl, hl, hm, by simpa using hz, hcell, hwz⟩⟩
  obtain ⟨a2, rfl, rfl, rfl, w2⟩ := open_int Try.underlying3 (hval 2 3 v2 rfl rfl) h2
  clear hA0 hval0
  refine (walk a0 len0 cap0 z0 a1 len1 cap1 z1 a2 W w0 w1 w2).mono fun e W' ⟨he, bel⟩ => ?_
  subst he
  exact ⟨_, rfl, _, _, _, [], _, [], hW', trodAll_mk1 (shut_bool Try.underlying4 _), (trodAll_cons_mk (Below.trod laidOut (by kernel_rfl) (of_decide_eq_true (by kernel_rfl)) k0 bel lt0) (trodAll_cons_mk (Below.trod laidOut (by kernel_rfl) (of_decide_eq_true (by kernel_rfl)) k1 bel lt1) (trodAll_cons_mk (shut_int Try.underlying3 w2) trodAll_mk0))), rfl, bel.frame _, fun h => by cases h⟩

theorem over : Rows.hittingSumsRow.holds Try.pinned (OpenSpec.ofChange Rows.hittingSumsSpec) :=
  OpenClaim.holds_of_wide 4 Try.f4 rfl rfl rfl rfl rfl rfl rfl ⟨rfl, rfl, rfl, rfl, rfl⟩ rfl rfl rfl rfl rfl (by kernel_rfl) Try.func4 (by kernel_rfl)
    (of_decide_eq_true (by kernel_rfl)) (by unfold Func.isWrapper; first | (rw [if_pos (by decide +kernel)]; kernel_rfl) | (rw [if_neg (by decide +kernel)]; exact ⟨rfl, rfl⟩))
    (fun os started H enc _ => lifted os started H enc)

end Go.Proofs.Ytdhahlghldgggaa.hittingSums
namespace Go.Proofs.Ytdhahlghldgggaa
theorem hittingSums_proved : Rows.HittingSumsSaid := hittingSums.over
end Go.Proofs.Ytdhahlghldgggaa
