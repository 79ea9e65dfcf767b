/- Package check: head, Seal, Open, and the document's. -/
import Derived.Test.YthmdnemibdmhgaaCkSum
import Derived.Test.YthmdnemibdmhgaaCkEq
import Derived.Test.YthmdnemibdmhgaaByStr
import Derived.Test.YthmdnemibdmhgaaByCl
import Derived.Deep.DeepCutAuto
namespace Go.Proofs.Ythmdnemibdmhgaa.Fx
open Go.ChangeShapes Go.WideShapes Go.ChangeAt Go.RowKit
set_option linter.unusedVariables false
set_option maxRecDepth 100000

theorem own8_lower {w : World} {base base' : Nat} {v : Value} {l : List Int} (h : ownB base' w v l) (hb : base ≤ base') : ownB base w v l := by
  refine ⟨h.1, ?_⟩
  rcases h.2 with h2 | ⟨g, cap, cur, h1, h2, h3⟩
  · exact .inl h2
  · exact .inr ⟨g, cap, cur, h1, Nat.le_trans hb h2, h3⟩

/-- One part. -/
theorem part1 (w : World) (v : Value) (l : List Int) (T : TypeId) (g : Nat) (hg : g = w.heap.size) (hv : IsSl byC w v l) :
    IsSl oneB (w.alloc (.cells #[v] T)) (.slice (some ⟨g, 0, none⟩) 1 1) [v] ∧ AllBy (w.alloc (.cells #[v] T)) [v] [l] := by
  subst hg
  refine ⟨⟨_, _, rfl, fun h => (by cases h), Nat.le_refl _, fun _ => ⟨_, _, rfl, fun i u hu => ?_⟩⟩, rfl, fun i u m h1 h2 => ?_⟩
  · rw [Nat.zero_add, World.cell?_alloc_new]
    simpa [oneB] using hu
  · cases i with
    | zero => simp at h1 h2; subst h1 h2; exact hv.below ((Below.refl _ _).alloc (Nat.le_refl _) _)
    | succ i => simp at h1

/-- Two parts. -/
theorem part2 (w : World) (v u : Value) (l m : List Int) (T : TypeId) (g : Nat) (hg : g = w.heap.size) (hv : IsSl byC w v l) (hu : IsSl byC w u m) :
    IsSl oneB (w.alloc (.cells #[v, u] T)) (.slice (some ⟨g, 0, none⟩) 2 2) [v, u] ∧ AllBy (w.alloc (.cells #[v, u] T)) [v, u] [l, m] := by
  subst hg
  refine ⟨⟨_, _, rfl, fun h => (by cases h), Nat.le_refl _, fun _ => ⟨_, _, rfl, fun i u hu => ?_⟩⟩, rfl, fun i u m h1 h2 => ?_⟩
  · rw [Nat.zero_add, World.cell?_alloc_new]
    simpa [oneB] using hu
  · match i with
    | 0 => simp at h1 h2; subst h1 h2; exact hv.below ((Below.refl _ _).alloc (Nat.le_refl _) _)
    | 1 => simp at h1 h2; subst h1 h2; exact hu.below ((Below.refl _ _).alloc (Nat.le_refl _) _)
    | i + 2 => simp at h1

@[go_sem high] theorem make8 (w : World) : (Instr.makeSlice 22 (.int .i64 8) (.int .i64 8)).run Try.prog w = .ok (.slice (some ⟨w.heap.size, 0, none⟩) 8 8) (w.alloc (.cells #[.int .u8 0, .int .u8 0, .int .u8 0, .int .u8 0, .int .u8 0, .int .u8 0, .int .u8 0, .int .u8 0] 5)) := by
  obtain ⟨i0, hi, hz0, hz1, hz2⟩ := info_parts info_u8
  have hr := run_make (P := Try.prog) w 22 5 i0 _ Try.underlying22 hi hz0 .i64 .i64 8 8 (by omega) (Int.le_refl _) (by rw [hz2]; omega) (by omega)
  rw [hz1, show madeCells (Value.cells (.int .u8 0)) (Int.toNat 8 * 1) = #[.int .u8 0, .int .u8 0, .int .u8 0, .int .u8 0, .int .u8 0, .int .u8 0, .int .u8 0, .int .u8 0] from by kernel_rfl] at hr
  exact hr

theorem ownB.set {base : Nat} {w : World} {g n c : Nat} {l : List Int} (h : ownB base w (.slice (some ⟨g, 0, none⟩) n c) l) (k : Nat) (y : Int) : ownB base (w.setCell ⟨g, k, none⟩ (.int .u8 y)) (.slice (some ⟨g, 0, none⟩) n c) (l.set k y) := by
  obtain ⟨A, c', hv, -⟩ := h.sl
  cases hv
  have h2 := (World.ownsRow.stored h k (.int .u8 y)).1
  unfold ownB
  rw [List.length_set, List.map_set]
  exact h2

theorem ownB.at {base : Nat} {w : World} {g n c : Nat} {l : List Int} (h : ownB base w (.slice (some ⟨g, 0, none⟩) n c) l) (k : Nat) (hk : k < n) : (∃ u, w.cell? ⟨g, k, none⟩ = some u) ∧ w.frozen? ⟨g, k, none⟩ = false := by
  obtain ⟨A, c', hv, -⟩ := h.sl
  cases hv
  exact ⟨Option.isSome_iff_exists.1 (own_cell h k (by omega)), World.ownsRow.frozenAt h _⟩

/-- What has been written of the eight. -/
def hk (k : Nat) (x : Int) : List Int := (headL x).take k ++ List.replicate (8 - k) 0

theorem hk_set {x : Int} (h0 : 0 ≤ x) (h1 : x < 18446744073709551616) {k : Nat} (hk8 : k < 8) : (hk k x).set k (IntKind.u8.wrap (rk (k + 1) x)) = hk (k + 1) x := by
  unfold hk
  rw [← rk_low h0 h1, IntKind.wrap_u8]
  have h : k = 0 ∨ k = 1 ∨ k = 2 ∨ k = 3 ∨ k = 4 ∨ k = 5 ∨ k = 6 ∨ k = 7 := by omega
  rcases h with rfl | rfl | rfl | rfl | rfl | rfl | rfl | rfl <;> rfl

set_option maxHeartbeats 1000000 in
theorem head_any (v : Value) (l : List Int) (w : World) (hv : IsSl byC w v l) (hl : l.length ≤ 1000000) :
    Calls Try.prog 18 #[v] w (RetBy (headL (sumL l)) w) := by
  have HV := Lib.hid hv
  obtain ⟨A, c, rfl, -⟩ := hv
  have HS := Lib.hid csum_any
  have HR := Lib.hid rot8_any
  have Hbd := Lib.hid (sumL_bd l)
  obtain ⟨x, hx⟩ : ∃ x, sumL l = x := ⟨_, rfl⟩
  rw [hx] at Hbd ⊢
  have HX := Lib.hid hx
  obtain ⟨n, hn⟩ : ∃ n, l.length = n := ⟨_, rfl⟩
  rw [hn] at HV
  have HN := Lib.hid (show l.length ≤ 1000000 from hl)
  simp only [hn]
  clear hx hn hl
  go_enter Try.func18, Try.ntmps18
  go_wp2_with fail
  refine (HS.out _ [.slice A n c] [l] _ (part1 w (.slice A n c) l 22 _ rfl HV.out).1 (part1 w (.slice A n c) l 22 _ rfl HV.out).2 (by simp) (by simpa using HN.out)).mono ?_
  rintro e w1 ⟨rfl, rfl⟩
  rw [show [l].flatten = l by simp, HX.out]
  go_upto_region 3 with fail
  have ho0 : ownB w.heap.size ((w.alloc (.cells #[.slice A n c] 22)).alloc (.cells #[.int .u8 0, .int .u8 0, .int .u8 0, .int .u8 0, .int .u8 0, .int .u8 0, .int .u8 0, .int .u8 0] 5)) (.slice (some ⟨w.heap.size + 1, 0, none⟩) 8 8) (hk 0 x) := by
    have h := World.ownsRow_lit (base := w.heap.size) (size := 1) (e := 5) (w.alloc (.cells #[.slice A n c] 22)) #[.int .u8 0, .int .u8 0, .int .u8 0, .int .u8 0, .int .u8 0, .int .u8 0, .int .u8 0, .int .u8 0] 8 (by simp) (by unfold maxLen; omega) (by rfl)
    rw [show (w.alloc (.cells #[.slice A n c] 22)).heap.size = w.heap.size + 1 by simp] at h
    exact h
  have hb0 : Below w.heap.size w ((w.alloc (.cells #[.slice A n c] 22)).alloc (.cells #[.int .u8 0, .int .u8 0, .int .u8 0, .int .u8 0, .int .u8 0, .int .u8 0, .int .u8 0, .int .u8 0] 5)) := ((Below.refl _ _).alloc (Nat.le_refl _) _).alloc (by simp) _
  generalize World.alloc _ _ = W at *
  have hg : w.heap.size ≤ w.heap.size + 1 := by omega
  generalize w.heap.size + 1 = g at *
  have HO0 := Lib.hid ho0
  have HB0 := Lib.hid hb0
  clear ho0 hb0
  go_wp2
  go_loopw [3, 12] (fun s i wr => ∃ k : Nat, k ≤ 8 ∧ i = .int .i64 k ∧ s = .int .u64 (rk k x) ∧ ownB w.heap.size wr (.slice (some ⟨g, 0, none⟩) 8 8) (hk k x) ∧ Below w.heap.size w wr) (fun _ i _ => 8 - (intOf i).toNat)
  case atStart => exact ⟨0, Nat.zero_le _, rfl, rfl, HO0.out, HB0.out⟩
  case round =>
    clear HO0 HB0
    obtain ⟨k, hk8, rfl, rfl, ho, hb⟩ := hrel
    have HO := Lib.hid ho
    have HB := Lib.hid hb
    clear ho hb
    by_cases hlt : k < 8
    · obtain ⟨⟨u, hcell⟩, hfz⟩ := HO.out.at k hlt
      have hbd := rk_bd k Hbd.out.1 Hbd.out.2
      go_wp2_with fail
      refine (HR.out _ _ hbd.1 hbd.2).mono ?_
      rintro e w' ⟨rfl, rfl⟩
      have HSet := Lib.hid (HO.out.set k (IntKind.u8.wrap (rot8 (rk k x))))
      have HBs := Lib.hid (show Below w.heap.size w (wr.setCell ⟨g, k, none⟩ (.int .u8 (IntKind.u8.wrap (rot8 (rk k x))))) from HB.out.setCell hg _)
      have HK := Lib.hid (hk_set Hbd.out.1 Hbd.out.2 hlt)
      clear hbd
      go_wp2
      go_roundw
      case rel => exact ⟨k + 1, by omega, by go_num, rfl, by rw [← HK.out]; exact HSet.out, HBs.out⟩
      case measure => simp [intOf]; omega
    · go_wp2
      go_ret
      refine ⟨_, rfl, ?_, HB.out⟩
      obtain rfl : k = 8 := by omega
      have h := HO.out
      unfold hk at h
      rw [List.take_of_length_le (by rw [headL_len]; omega)] at h
      simpa using h

/-- What came in, put behind the sum's bytes. -/
theorem seal_any (v : Value) (l : List Int) (w : World) (hv : IsSl byC w v l) (hl : l.length ≤ 1000000) :
    Calls Try.prog 14 #[v] w (RetBy (sealL l) w) := by
  have HV := Lib.hid hv
  have HH := Lib.hid (head_any v l w hv hl)
  have HL := Lib.hid hl
  obtain ⟨A, c, rfl, -⟩ := hv
  have HQ := Lib.hid (show headL (sumL l) ++ l = sealL l from rfl)
  generalize sealL l = Q at *
  have H8 := Lib.hid (headL_len (sumL l))
  generalize headL (sumL l) = H at *
  obtain ⟨n, hn⟩ : ∃ n, l.length = n := ⟨_, rfl⟩
  simp only [hn] at HH HV ⊢
  have HN := Lib.hid hn
  clear hl hn
  go_enter Try.func14, Try.ntmps14
  go_wp2_with fail
  refine HH.out.mono ?_
  rintro e w1 ⟨v1, rfl, ho1, hb1⟩
  have HO1 := Lib.hid ho1
  have HB1 := Lib.hid hb1
  clear ho1 hb1
  go_wp2_with (at_builtin; go_must (refine appL_by (by rfl) (.tmp 4) (.tmp 5) (by rfl) w.heap.size _ H (by rfl) HO1.out _ l (by rfl) (HV.out.below HB1.out) (by have := HL.out; have := H8.out; omega) HB1.out.size ?_))
  intro v2 w2 ho2 hb2 _
  have HO2 := Lib.hid ho2
  have HB2 := Lib.hid (HB1.out.trans hb2)
  clear ho2 hb2
  go_wp2
  go_ret
  exact ⟨_, rfl, by rw [← HQ.out]; exact HO2.out, HB2.out⟩

/-- What a tuple of bytes and a number comes back as. -/
def RetOp (r : List Int × Int) (w : World) (e : Ending) (w' : World) : Prop := ∃ v, e = .returned (.tuple #[v, .int .i64 r.2]) ∧ ownB w.heap.size w' v r.1 ∧ Below w.heap.size w w'

set_option maxHeartbeats 1000000 in
theorem copen_any (v : Value) (l : List Int) (w : World) (hv : IsSl byC w v l) (hl : l.length ≤ 1000000) :
    Calls Try.prog 9 #[v] w (RetOp (openL l) w) := by
  have HV := Lib.hid hv
  have HL := Lib.hid hl
  obtain ⟨Q, hQ⟩ : ∃ Q, openL l = Q := ⟨_, rfl⟩
  rw [hQ]
  unfold openL at hQ
  by_cases hs : l.length < 8
  · rw [if_pos hs] at hQ
    subst hQ
    obtain ⟨A, c, rfl, -⟩ := hv
    generalize l.length = n at *
    go_enter Try.func9, Try.ntmps9
    go_wp2
    exact bodyPost_ret (v := .tuple #[.slice none 0 0, .int .i64 5]) (by simp [results, Try.results9, go_sem]) rfl ⟨_, rfl, ownB.nil _ _, Below.refl _ _⟩
  · rw [if_neg hs] at hQ
    have HQ := Lib.hid hQ
    have HU := Lib.hid (hv.upto 1 8 (by omega))
    have HI := Lib.hid (hv.since 1 8 byC_len (by omega) (by omega))
    have hdl : (l.drop 8).length ≤ 1000000 := by simp; omega
    have HH := Lib.hid (fun v w1 h => head_any v (l.drop 8) w1 h hdl)
    have HE := Lib.hid (fun a b w1 h1 h2 => equal_by a b (l.take 8) (headL (sumL (l.drop 8))) w1 h1 h2 (by simp; omega) (by rw [headL_len]; omega))
    have HC := Lib.hid (fun v w1 h => clone_by v (l.drop 8) w1 h hdl)
    generalize l.take 8 = T at *
    generalize headL (sumL (l.drop 8)) = H at *
    generalize l.drop 8 = D at *
    obtain ⟨A, c, rfl, -, hcap, -⟩ := hv
    generalize hn : l.length = n at *
    obtain ⟨AU, cU, hU, -⟩ := HU.out
    obtain ⟨AI, cI, hI, -⟩ := HI.out
    clear hQ hl hdl
    have h8 : (8 : Int) ≤ (n : Int) := by omega
    have h8c : (8 : Int) ≤ (c : Int) := by omega
    generalize hTl : T.length = tl at *
    generalize hDl : D.length = dl at *
    have hU' : slTo 1 (.slice A n c) (Int.toNat 8) = .slice AU tl cU := hU
    have hI' : slFrom 1 (.slice A n c) (Int.toNat 8) = .slice AI dl cI := hI
    rw [hU] at HU
    rw [hI] at HI
    by_cases he : T = H
    · have HQ := Lib.hid (show (D, (0 : Int)) = Q from by rw [← HQ.out, if_pos he])
      go_enter Try.func9, Try.ntmps9
      go_upto_region 4 with fail
      refine plan_region' (S := (fun w' => (∀ b o, b < (w).heap.size → w'.cell? ⟨b, o, none⟩ = (w).cell? ⟨b, o, none⟩) ∧ (∀ b o, b < (w).heap.size → w'.frozen? ⟨b, o, none⟩ = (w).frozen? ⟨b, o, none⟩) ∧ Below (w).heap.size (w) w')) [(0, true), (1, true), (2, true), (3, false), (4, false), (5, true)] (by kernel_rfl) (by kernel_rfl) (fun _ _ d _ _ h => by cases d <;> exact h) (keepW0 _) (fun hS => ?_)
      simp only [picked, List.getElem?_cons_succ, List.getElem?_cons_zero]
      refine row_free (v := ?_) (by rfl) ?_ ?_
      rotate_left 1
      focus (intro w hSw; (try dsimp only at hSw); go_simp; (try with_reducible rfl))
      (try simp only [Act.put, List.setIfInBounds_toArray, List.set_cons_zero, List.set_cons_succ])
      refine row_free (v := ?_) (by rfl) ?_ ?_
      rotate_left 1
      focus (intro w hSw; (try dsimp only at hSw); go_simp; (try with_reducible rfl))
      (try simp only [Act.put, List.setIfInBounds_toArray, List.set_cons_zero, List.set_cons_succ])
      refine row_free (v := ?_) (by rfl) ?_ ?_
      rotate_left 1
      focus (intro w hSw; (try dsimp only at hSw); go_simp; (try with_reducible rfl))
      (try simp only [Act.put, List.setIfInBounds_toArray, List.set_cons_zero, List.set_cons_succ])
      refine row_call (by rfl) (fun K hK => ?_)
      go_simp
      (refine (HH.out (.slice AI dl cI) _ (HI.out.below hS.2.2)).mono ?_; rintro e w1 ⟨v1, rfl, ho1, hb1⟩; obtain ⟨A1, c1, rfl, -⟩ := ho1.sl)
      (try go_wp2_with fail)
      refine hK.out _ _ ?_ (fun hS' => ?_)
      · (try dsimp only); first | exact keepW (by assumption) (by assumption) | exact keepB (by assumption) (by assumption) | exact keepA (by assumption) | assumption
      clear hS hK K
      have hS := hS'
      clear hS'
      (try simp only [Act.put, List.setIfInBounds_toArray, List.set_cons_zero, List.set_cons_succ])
      refine row_call (by rfl) (fun K hK => ?_)
      go_simp
      (refine (HE.out (.slice AU tl cU) _ _ (HU.out.below hS.2.2) (ho1.sl.below (by first | exact Below.refl _ _ | exact hS.2.2))).mono ?_; rw [decide_eq_true he]; rintro e w2 ⟨rfl, hb2⟩)
      (try go_wp2_with fail)
      refine hK.out _ _ ?_ (fun hS' => ?_)
      · (try dsimp only); first | exact keepW (by assumption) (by assumption) | exact keepB (by assumption) (by assumption) | exact keepA (by assumption) | assumption
      clear hS hK K
      have hS := hS'
      clear hS'
      (try simp only [Act.put, List.setIfInBounds_toArray, List.set_cons_zero, List.set_cons_succ])
      refine row_free (v := ?_) (by rfl) ?_ ?_
      rotate_left 1
      focus (intro w hSw; (try dsimp only at hSw); go_simp; (try with_reducible rfl))
      (try simp only [Act.put, List.setIfInBounds_toArray, List.set_cons_zero, List.set_cons_succ])
      refine row_done ?_
      have HB2 := Lib.hid hS.2.2
      clear hS ho1 hb1 hb2
      go_wp2_with fail
      refine (HC.out (.slice AI dl cI) _ (HI.out.below HB2.out)).mono ?_
      rintro e w3 ⟨v3, rfl, ho3, hb3⟩
      have HO3 := Lib.hid (own8_lower ho3 HB2.out.size)
      have HB3 := Lib.hid (nextW HB2.out hb3)
      obtain ⟨A3, c3, rfl, -⟩ := ho3.sl
      clear ho3 hb3
      go_wp2
      exact bodyPost_ret (v := .tuple #[.slice A3 D.length c3, .int .i64 0]) (by simp [results, Try.results9, go_sem, hDl]) rfl ⟨_, by rw [← HQ.out]; first | done | rfl, by rw [← HQ.out]; exact HO3.out, HB3.out⟩
    · have HQ := Lib.hid (show (([], 9) : List Int × Int) = Q from by rw [← HQ.out, if_neg he])
      go_enter Try.func9, Try.ntmps9
      go_upto_region 4 with fail
      refine plan_region' (S := (fun w' => (∀ b o, b < (w).heap.size → w'.cell? ⟨b, o, none⟩ = (w).cell? ⟨b, o, none⟩) ∧ (∀ b o, b < (w).heap.size → w'.frozen? ⟨b, o, none⟩ = (w).frozen? ⟨b, o, none⟩) ∧ Below (w).heap.size (w) w')) [(0, true), (1, true), (2, true), (3, false), (4, false), (5, true)] (by kernel_rfl) (by kernel_rfl) (fun _ _ d _ _ h => by cases d <;> exact h) (keepW0 _) (fun hS => ?_)
      simp only [picked, List.getElem?_cons_succ, List.getElem?_cons_zero]
      refine row_free (v := ?_) (by rfl) ?_ ?_
      rotate_left 1
      focus (intro w hSw; (try dsimp only at hSw); go_simp; (try with_reducible rfl))
      (try simp only [Act.put, List.setIfInBounds_toArray, List.set_cons_zero, List.set_cons_succ])
      refine row_free (v := ?_) (by rfl) ?_ ?_
      rotate_left 1
      focus (intro w hSw; (try dsimp only at hSw); go_simp; (try with_reducible rfl))
      (try simp only [Act.put, List.setIfInBounds_toArray, List.set_cons_zero, List.set_cons_succ])
      refine row_free (v := ?_) (by rfl) ?_ ?_
      rotate_left 1
      focus (intro w hSw; (try dsimp only at hSw); go_simp; (try with_reducible rfl))
      (try simp only [Act.put, List.setIfInBounds_toArray, List.set_cons_zero, List.set_cons_succ])
      refine row_call (by rfl) (fun K hK => ?_)
      go_simp
      (refine (HH.out (.slice AI dl cI) _ (HI.out.below hS.2.2)).mono ?_; rintro e w1 ⟨v1, rfl, ho1, hb1⟩; obtain ⟨A1, c1, rfl, -⟩ := ho1.sl)
      (try go_wp2_with fail)
      refine hK.out _ _ ?_ (fun hS' => ?_)
      · (try dsimp only); first | exact keepW (by assumption) (by assumption) | exact keepB (by assumption) (by assumption) | exact keepA (by assumption) | assumption
      clear hS hK K
      have hS := hS'
      clear hS'
      (try simp only [Act.put, List.setIfInBounds_toArray, List.set_cons_zero, List.set_cons_succ])
      refine row_call (by rfl) (fun K hK => ?_)
      go_simp
      (refine (HE.out (.slice AU tl cU) _ _ (HU.out.below hS.2.2) (ho1.sl.below (by first | exact Below.refl _ _ | exact hS.2.2))).mono ?_; rw [decide_eq_false he]; rintro e w2 ⟨rfl, hb2⟩)
      (try go_wp2_with fail)
      refine hK.out _ _ ?_ (fun hS' => ?_)
      · (try dsimp only); first | exact keepW (by assumption) (by assumption) | exact keepB (by assumption) (by assumption) | exact keepA (by assumption) | assumption
      clear hS hK K
      have hS := hS'
      clear hS'
      (try simp only [Act.put, List.setIfInBounds_toArray, List.set_cons_zero, List.set_cons_succ])
      refine row_free (v := ?_) (by rfl) ?_ ?_
      rotate_left 1
      focus (intro w hSw; (try dsimp only at hSw); go_simp; (try with_reducible rfl))
      (try simp only [Act.put, List.setIfInBounds_toArray, List.set_cons_zero, List.set_cons_succ])
      refine row_done ?_
      have HB2 := Lib.hid hS.2.2
      clear hS ho1 hb1 hb2
      go_wp2
      exact bodyPost_ret (v := .tuple #[.slice none 0 0, .int .i64 9]) (by simp [results, Try.results9, go_sem]) rfl ⟨_, by rw [← HQ.out]; first | done | rfl, by rw [← HQ.out]; exact ownB.nil _ _, HB2.out⟩

end Go.Proofs.Ythmdnemibdmhgaa.Fx
