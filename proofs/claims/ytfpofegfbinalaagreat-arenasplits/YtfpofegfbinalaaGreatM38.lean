/- Package region: Step, where it is not refused. -/
import Derived.Test.YtfpofegfbinalaaGreatM37
namespace Go.Proofs.YtfpofegfbinalaaGreat.Fx
open Go.ChangeShapes Go.WideShapes Go.ChangeAt Go.RowKit
set_option linter.unusedVariables false
set_option maxRecDepth 100000

/-- The step behind the players' steps S. -/
def hitL (a b p n : Int) (ib : List Crs) (S : List Ent × Int) : List Ent := blastsL (gemsL (shotsL (goL a b p n S.1))) ib

def growL (a b p n s r f : Int) (ib : List Crs) (S : List Ent × Int) : List Ent := gemsIn a b p n s r f (falls a b p n s r f (hitL a b p n ib S)).1 S.2

theorem own_reg {w : World} {base size n b : Nat} {e : TypeId} {v : Value} {xs : List Value} {cur : Array Value} (h : w.ownsRow base e size v n xs) (hb : Blk w b 59 cur) (he : e ≠ 59) (x y : Value) : ((w.setCell ⟨b, 0, none⟩ x).setCell ⟨b, 1, none⟩ y).ownsRow base e size v n xs :=
  h.kept (grown_trans (grown_set w b 0 x) (grown_set _ b 1 y)) (.inr (Ne.symm (own_ne h hb he)))

theorem stay_eq (a b p n s r f : Int) (inp : Int → Inp) (l : List Ent) (ib : List Crs) : stayL a b p n s r f inp l ib = (growL a b p n s r f ib (steers (regs a b p n) r f inp (arriveL l ib) (pids (arriveL l ib)))).filter (hereB a b p n r) := by
  unfold stayL upTo growL hitL
  simp only

theorem outs_eq (a b p n s r f : Int) (inp : Int → Inp) (l : List Ent) (ib : List Crs) : outsL a b p n s r f inp l ib = (falls a b p n s r f (hitL a b p n ib (steers (regs a b p n) r f inp (arriveL l ib) (pids (arriveL l ib))))).2 ++ ((growL a b p n s r f ib (steers (regs a b p n) r f inp (arriveL l ib) (pids (arriveL l ib)))).filter fun e => !hereB a b p n r e).map (handOf a b p n r f) := by
  unfold outsL upTo growL hitL
  simp only

set_option maxHeartbeats 16000000 in
theorem rgstep_big (a b p n s r f : Int) (hs : 0 ≤ s ∧ s < 18446744073709551616) (v : Value) (l : List Ent) (t : Value) (ins : List Inp) (u : Value) (ib : List Crs) (w : World) (hv : IsSl entC w v l) (hn : l.length ≤ 100) (ht : IsSl inpC w t ins) (hk : ins.length ≤ 1000) (hu : IsSl crsC w u ib) (hm : ib.length ≤ 10000) (hkk : ∀ k, (arriveL l (ib.take k)).length ≤ 200)
    (F : Int) (X : List Ent) (Y : List Crs) (hq : whyNot a b p n r f l ins ib = 0) (hF : F = f + 1) (hX : X = stayL a b p n s r f (inpOf ins) l ib) (hY : Y = st lessB (outsL a b p n s r f (inpOf ins) l ib)) :
    Calls Tryz.prog 26 #[.agg #[.int .i64 a, .int .i64 b, .int .i64 p, .int .i64 n, .int .u64 s], .int .i64 r, .agg #[.int .i64 f, v], t, u] w fun z w' =>
      (∃ vl vo, z = .returned (.tuple #[.agg #[.int .i64 F, vl], vo, .int .i64 0]) ∧
        w'.ownsRow w.heap.size 45 9 vl X.length (X.flatMap entC) ∧
        w'.ownsRow w.heap.size 50 15 vo Y.length (Y.flatMap crsC)) ∧ Below w.heap.size w w' := by
  have HW := Lib.hid (fun w1 (hb : Below w.heap.size w w1) => hq ▸ refusal_any a b p n s r f v l t ins u ib w1 (hv.below hb) (by omega) (ht.below hb) hk (hu.below hb) (by omega))
  have HA := Lib.hid (fun w1 (hb : Below w.heap.size w w1) => arrive_big a b p n s r f v l u ib w1 (hv.below hb) (by omega) (hu.below hb) (by omega) (fun k => Nat.le_trans (hkk k) (by omega)))
  have Hal := Lib.hid (show (arriveL l ib).length ≤ 200 from by have := hkk ib.length; rw [List.take_length] at this; exact this)
  clear hkk
  have HV := Lib.hid hv
  have HT := Lib.hid ht
  have HU := Lib.hid hu
  have HX := Lib.hid hX
  have HY := Lib.hid hY
  have HF := Lib.hid hF
  have HQ := Lib.hid hq
  clear hX hY hF hq
  obtain ⟨A, c, rfl, -⟩ := hv
  obtain ⟨A', c', rfl, -⟩ := ht
  obtain ⟨A'', c'', rfl, -⟩ := hu
  go_enter Tryz.func26, Tryz.ntmps26
  go_upto_region 1 with fail
  generalize hW : World.alloc _ _ = W
  have BG := Lib.hid (show CfgBox W w.heap.size ⟨a, b, p, n, s⟩ from by rw [← hW]; exact CfgBox.n3a _ ⟨a, b, p, n, s⟩ _ _ _ rfl)
  have BS := Lib.hid (show Blk W (w.heap.size + 1) 59 (regC ⟨f, .slice A l.length c⟩).toArray from by rw [← hW]; exact (Blk.new' _ _ _ (by simp)).below ((Below.refl _ _).alloc (Nat.le_refl _) _) (by simp))
  have BR := Lib.hid (show Blk W (w.heap.size + 1 + 1) 59 (regC ⟨0, .slice none 0 0⟩).toArray from by rw [← hW]; exact Blk.new' _ _ _ (by simp))
  have HB := Lib.hid (show Below w.heap.size w W from by rw [← hW]; exact (((Below.refl _ _).alloc (Nat.le_refl _) _).alloc (by simp) _).alloc (by simp; omega) _)
  clear hW
  have hgg := BG.out.has
  have hss := BS.out.lt
  obtain ⟨g0, g1, g2, g3, g4, -⟩ := BG.out
  obtain ⟨s0, s1, -⟩ := BS.out.reg
  go_wp2_with fail
  refine (HW.out _ HB.out).mono ?_
  rintro e w1 ⟨rfl, hb1⟩
  replace HB := Lib.hid (nextW HB.out hb1)
  replace BG := Lib.hid (BG.out.nx hb1)
  replace BS := Lib.hid (BS.out.nx hb1)
  replace BR := Lib.hid (BR.out.nx hb1)
  clear hb1 g0 g1 g2 g3 g4 hgg hss s0 s1 HW
  obtain ⟨⟨a1, a2, a3⟩, hr16, hmd, hsl, hri⟩ := upTo_parts (s := s) (inp := inpOf ins) (asked_of HQ.out)
  have hfr := (asked_of HQ.out).frame
  have hpl : (ins.length : Int) = p := by
    have := (why_zero HQ.out).2.2.1
    unfold inpsB at this
    simp only [Bool.and_eq_true, decide_eq_true_eq] at this
    exact this.1
  have hal := Hal.out
  have hpl2 := pids_le (arriveL l ib)
  have HTs := Lib.hid (fun (w1 : World) (blk : Nat) (vl : Value) (h : Turn w.heap.size w1 blk ⟨a, b, p, n, s, r, f, vl, 0, .slice none 0 0⟩ (arriveL l ib) []) (hin : ∀ w2, Below w.heap.size w1 w2 → IsSl inpC w2 (.slice A' ins.length c') ins) =>
    tsteer_any h a1 a2 a3 rfl (by omega) (by show p ≤ 1000; omega) (by show 0 ≤ f ∧ f ≤ 10000; omega) hr16 (.slice A' ins.length c') ins hin hpl (inpOf ins) (fun k x hx => inpOf_at hx))
  simp only at HTs
  have HS1 := Lib.hid (show (steers (regs a b p n) r f (inpOf ins) (arriveL l ib) (pids (arriveL l ib))).1.length ≤ 224 from by omega)
  have HS2 := Lib.hid hmd
  have HRi := Lib.hid (show Rise (hitL a b p n ib (steers (regs a b p n) r f (inpOf ins) (arriveL l ib) (pids (arriveL l ib)))) from hri)
  rw [stay_eq] at HX
  rw [outs_eq] at HY
  have HH := Lib.hid (show ∀ S : List Ent × Int, S.1.length ≤ 224 → (hitL a b p n ib S).length ≤ 224 from fun S h => Nat.le_trans (blasts_le _ _) (Nat.le_trans (goL_len _ _ _ _ _) h))
  clear a1 a2 a3 hmd hsl hri hpl hpl2 HQ
  generalize arriveL l ib = L1 at *
  generalize steers (regs a b p n) r f (inpOf ins) L1 (pids L1) = S at *
  have hgg := BG.out.has
  have hss := BS.out.lt
  obtain ⟨g0, g1, g2, g3, g4, -⟩ := BG.out
  obtain ⟨s0, s1, -⟩ := BS.out.reg
  go_upto_region 4 with fail
  go_cut [14] (fun s14 wx => ∃ blk vl, s14 = .pointer (some ⟨blk, 0, none⟩) ∧ Turn w.heap.size wx blk ⟨a, b, p, n, s, r, f, vl, 0, .slice none 0 0⟩ L1 [] ∧ Below w1.heap.size w1 wx)
  case first =>
    refine tree_region (S := (fun w' => (∀ b o, b < (w1).heap.size → w'.cell? ⟨b, o, none⟩ = (w1).cell? ⟨b, o, none⟩) ∧ (∀ b o, b < (w1).heap.size → w'.frozen? ⟨b, o, none⟩ = (w1).frozen? ⟨b, o, none⟩) ∧ Below (w1).heap.size (w1) w')) (.free 0 (.free 1 (.free 2 (.free 3 (.free 4 (.free 5 (.free 6 (.free 7 (.two 8 (.free 9 (.one 10 (.one 11 .done))) 10 (.one 8 (.free 9 (.one 11 .done)))))))))))) (by kernel_rfl) (by kernel_rfl) (fun _ _ d _ _ h => by cases d <;> exact h) (keepW0 _) (fun hS => ?_)
    simp only [written, List.getElem?_cons_succ, List.getElem?_cons_zero]
    iterate 8
     refine rw_free (v := ?_) (by rfl) ?_ ?_; rotate_left 1; focus (intro w hSw; (try dsimp only at hSw); go_simp; (try with_reducible rfl))
     (try simp only [Act.put, tA, tB, tC])
    refine rw_two ?_ ?_
    · skip
      refine rw_call (by rfl) (fun K hK => ?_)
      go_simp
      (refine (HA.out _ (by first | exact nextW HB.out hS.2.2 | exact (nextW HB.out hS.2.2).drew)).mono ?_; rintro e w5 ⟨v5, rfl, ho5, hb5⟩; obtain ⟨A5, n5, rfl, -⟩ := owned_sl ho5)
      (try go_wp2_with fail)
      refine hK.out _ _ ?_ (fun hS' => ?_)
      · (try dsimp only); first | exact keepW (by assumption) (by assumption) | exact keepB (by assumption) (by assumption) | exact keepA (by assumption) | assumption
      clear hS hK K
      have hS := hS'
      clear hS'
      (try simp only [Act.put, tA, tB, tC])
      refine rw_free (v := ?_) (by rfl) ?_ ?_; rotate_left 1; focus (intro w hSw; (try dsimp only at hSw); go_simp; (try with_reducible rfl))
      (try simp only [Act.put, tA, tB, tC])
      refine rw_call (by rfl) (fun K hK => ?_)
      go_simp
      (skip)
      (try go_wp2_with fail)
      refine hK.out _ _ ?_ (fun hS' => ?_)
      · (try dsimp only); first | exact keepW (by assumption) (by assumption) | exact keepB (by assumption) (by assumption) | exact keepA (by assumption) | assumption
      clear hS hK K
      have hS := hS'
      clear hS'
      (try simp only [Act.put, tA, tB, tC])
      first | (with_reducible have hs := Blk.nx (zturnD _) hb5; have Hs := Lib.hid hs; obtain ⟨n0, n1, n2, n3, n4, n5', n6, n7, n8, n9, m0, m1, m2, m3, m4, m5, m6, m7, m8, m9⟩ := hs.trn) | skip
      refine rw_call (by rfl) (fun K hK => ?_)
      go_simp
      (skip)
      (try go_wp2_with fail)
      refine hK.out _ _ ?_ (fun hS' => ?_)
      · (try dsimp only); first | (have _h := Hs.out; exact keepOf (TrnBox.bel hS.2.2 ⟨a, b, p, n, s, r, f, .slice A5 L1.length n5, 0, .slice none 0 0⟩ (by first | exact Nat.le_refl _ | simp) rfl)) | exact keepOf ((nextW (Below.refl _ _).drew hb5).alloc (nextW (Below.refl _ _).drew hb5).size _)
      clear hS hK K
      have hS := hS'
      clear hS'
      (try simp only [Act.put, tA, tB, tC])
      refine rw_done ?_
      (try clear n0 n1 n2 n3 n4 n5' n6 n7 n8 n9 m0 m1 m2 m3 m4 m5 m6 m7 m8 m9)
      go_wp2_with fail
      go_meet
      first | (have _h := Hs.out; exact ⟨_, _, rfl, turn_of_put (T := ⟨a, b, p, n, s, r, f, .slice A5 L1.length n5, 0, .slice none 0 0⟩) _h (by have := HB.out.size; simp; omega) (ho5.mono (by have := HB.out.size; simp; omega)) rfl rfl, hS.2.2⟩) | exact ⟨_, _, rfl, turn_of_alloc (T := ⟨a, b, p, n, s, r, f, .slice A5 L1.length n5, 0, .slice none 0 0⟩) (ho5.mono (by have := HB.out.size; simp; omega)) (by have := HB.out.size; have := hb5.size; simp at this ⊢; omega) rfl rfl, hS.2.2⟩
    · skip
      refine rw_call (by rfl) (fun K hK => ?_)
      go_simp
      (skip)
      (try go_wp2_with fail)
      refine hK.out _ _ ?_ (fun hS' => ?_)
      · (try dsimp only); first | exact keepW (by assumption) (by assumption) | exact keepB (by assumption) (by assumption) | exact keepA (by assumption) | assumption
      clear hS hK K
      have hS := hS'
      clear hS'
      (try simp only [Act.put, tA, tB, tC])
      refine rw_call (by rfl) (fun K hK => ?_)
      go_simp
      (refine (HA.out _ (by first | exact nextW HB.out hS.2.2 | exact (nextW HB.out hS.2.2).drew)).mono ?_; rintro e w5 ⟨v5, rfl, ho5, hb5⟩; obtain ⟨A5, n5, rfl, -⟩ := owned_sl ho5)
      (try go_wp2_with fail)
      refine hK.out _ _ ?_ (fun hS' => ?_)
      · (try dsimp only); first | exact keepW (by assumption) (by assumption) | exact keepB (by assumption) (by assumption) | exact keepA (by assumption) | assumption
      clear hS hK K
      have hS := hS'
      clear hS'
      (try simp only [Act.put, tA, tB, tC])
      refine rw_free (v := ?_) (by rfl) ?_ ?_; rotate_left 1; focus (intro w hSw; (try dsimp only at hSw); go_simp; (try with_reducible rfl))
      (try simp only [Act.put, tA, tB, tC])
      first | (with_reducible have hs := Blk.nx (zturnD _) hb5; have Hs := Lib.hid hs; obtain ⟨n0, n1, n2, n3, n4, n5', n6, n7, n8, n9, m0, m1, m2, m3, m4, m5, m6, m7, m8, m9⟩ := hs.trn) | skip
      refine rw_call (by rfl) (fun K hK => ?_)
      go_simp
      (skip)
      (try go_wp2_with fail)
      refine hK.out _ _ ?_ (fun hS' => ?_)
      · (try dsimp only); first | (have _h := Hs.out; exact keepOf (TrnBox.bel hS.2.2 ⟨a, b, p, n, s, r, f, .slice A5 L1.length n5, 0, .slice none 0 0⟩ (by first | exact Nat.le_refl _ | simp) rfl)) | exact keepOf ((nextW (Below.refl _ _).drew hb5).alloc (nextW (Below.refl _ _).drew hb5).size _)
      clear hS hK K
      have hS := hS'
      clear hS'
      (try simp only [Act.put, tA, tB, tC])
      refine rw_done ?_
      (try clear n0 n1 n2 n3 n4 n5' n6 n7 n8 n9 m0 m1 m2 m3 m4 m5 m6 m7 m8 m9)
      go_wp2_with fail
      go_meet
      first | (have _h := Hs.out; exact ⟨_, _, rfl, turn_of_put (T := ⟨a, b, p, n, s, r, f, .slice A5 L1.length n5, 0, .slice none 0 0⟩) _h (by have := HB.out.size; simp; omega) (ho5.mono (by have := HB.out.size; simp; omega)) rfl rfl, hS.2.2⟩) | exact ⟨_, _, rfl, turn_of_alloc (T := ⟨a, b, p, n, s, r, f, .slice A5 L1.length n5, 0, .slice none 0 0⟩) (ho5.mono (by have := HB.out.size; simp; omega)) (by have := HB.out.size; have := hb5.size; simp at this ⊢; omega) rfl rfl, hS.2.2⟩
  case rest =>
    obtain ⟨be, vl, rfl, ht, hb⟩ := hcut
    have HT0 := Lib.hid ht
    replace HB := Lib.hid (nextW HB.out hb)
    replace BS := Lib.hid (BS.out.nx hb)
    replace BR := Lib.hid (BR.out.nx hb)
    have HZ := Lib.hid (Kept.refl w.heap.size wc)
    have HW0 := Lib.hid HB.out.size
    clear ht hb g0 g1 g2 g3 g4 hgg hss s0 s1 HA BG
    go_wp2_with fail
    refine (HTs.out _ _ _ HT0.out (fun w2 h => HT.out.below (HB.out.trans h))).mono ?_
    rintro e w2 ⟨rfl, ⟨vl2, ht2⟩, hz2⟩
    have HT2 := Lib.hid ht2
    replace HZ := Lib.hid (HZ.out.trans hz2)
    clear ht2 hz2 HTs HT0
    go_wp2_with fail
    refine (tmove_any HT2.out (Nat.le_trans HS1.out (by omega))).mono ?_
    rintro e w3 ⟨rfl, ⟨vl3, ht3⟩, hz3⟩
    have HT3 := Lib.hid ht3
    replace HZ := Lib.hid (HZ.out.trans hz3)
    clear ht3 hz3 HT2
    go_wp2_with fail
    refine (thit_any HT3.out (Nat.le_trans (goL_len _ _ _ _ _) (Nat.le_trans HS1.out (by omega))) (.slice A'' ib.length c'') ib (HU.out.below (HB.out.trans (HZ.out.old HW0.out))) (by omega)).mono ?_
    rintro e w4 ⟨rfl, ⟨vl4, ht4⟩, hz4⟩
    have HT4 := Lib.hid (show Turn w.heap.size w4 be ⟨a, b, p, n, s, r, f, vl4, S.2, .slice none 0 0⟩ (hitL a b p n ib S) [] from ht4)
    replace HZ := Lib.hid (HZ.out.trans hz4)
    clear ht4 hz4 HT3
    have HK := Lib.hid (HH.out S HS1.out)
    have HFl := Lib.hid (falls_len (a := a) (b := b) (p := p) (n := n) (s := s) (r := r) (f := f) HRi.out)
    go_wp2_with fail
    refine (traise_any HT4.out HRi.out (Nat.le_trans HK.out (by omega)) (by simp) hs).mono ?_
    rintro e w5 ⟨rfl, ⟨vo5, ht5⟩, hz5⟩
    have HT5 := Lib.hid (show Turn w.heap.size w5 be ⟨a, b, p, n, s, r, f, vl4, S.2, vo5⟩ (falls a b p n s r f (hitL a b p n ib S)).1 (falls a b p n s r f (hitL a b p n ib S)).2 from ht5)
    replace HZ := Lib.hid (HZ.out.trans hz5)
    clear ht5 hz5 HT4
    go_wp2_with fail
    refine (tgrow_any HT5.out (by have h1 := HFl.out.1; have h2 := HK.out; omega) hs (show 0 ≤ f ∧ f ≤ 10000 by omega) hr16 HS2.out).mono ?_
    rintro e w6 ⟨rfl, ⟨vl6, m6, ht6⟩, hz6⟩
    have HT6 := Lib.hid (show Turn w.heap.size w6 be ⟨a, b, p, n, s, r, f, vl6, m6, vo5⟩ (growL a b p n s r f ib S) (falls a b p n s r f (hitL a b p n ib S)).2 from ht6)
    have HGl := Lib.hid (show (growL a b p n s r f ib S).length ≤ 300 from by have h0 := gemsIn_len a b p n s r f (falls a b p n s r f (hitL a b p n ib S)).1 S.2; have h1 := HFl.out.1; have h2 := HK.out; unfold growL; omega)
    replace HZ := Lib.hid (HZ.out.trans hz6)
    clear ht6 hz6 HT5
    go_wp2_with fail
    refine (tleave_any HT6.out (Nat.le_trans HGl.out (by omega)) (by have h1 := HFl.out.2; have h2 := HK.out; omega)).mono ?_
    rintro e w7 ⟨rfl, ⟨vl7, vo7, ht7⟩, hz7⟩
    have HT7 := Lib.hid (show Turn w.heap.size w7 be ⟨a, b, p, n, s, r, f, vl7, m6, vo7⟩ ((growL a b p n s r f ib S).filter (hereB a b p n r)) ((falls a b p n s r f (hitL a b p n ib S)).2 ++ ((growL a b p n s r f ib S).filter fun e => !hereB a b p n r e).map (handOf a b p n r f)) from ht7)
    have HOl := Lib.hid (show ((falls a b p n s r f (hitL a b p n ib S)).2 ++ ((growL a b p n s r f ib S).filter fun e => !hereB a b p n r e).map (handOf a b p n r f)).length ≤ 10000 from by
      have h1 := HFl.out.2; have h2 := HK.out; have h3 := HGl.out
      have h4 := List.length_filter_le (fun e => !hereB a b p n r e) (growL a b p n s r f ib S)
      rw [List.length_append, List.length_map]; omega)
    rw [← HX.out] at HT7
    generalize (falls a b p n s r f (hitL a b p n ib S)).2 ++ ((growL a b p n s r f ib S).filter fun e => !hereB a b p n r e).map (handOf a b p n r f) = O at *
    replace HZ := Lib.hid (HZ.out.trans hz7)
    replace BS := Lib.hid (HZ.out.reg BS.out)
    replace BR := Lib.hid (HZ.out.reg BR.out)
    replace HB := Lib.hid (HB.out.trans (HZ.out.old HW0.out))
    clear ht7 hz7 HT6 HFl HK HH HGl HZ HS1 HS2 HRi HX HV HU HT
    obtain ⟨s0, s1, -⟩ := BS.out.reg
    obtain ⟨r0, r1, q0, q1⟩ := BR.out.reg
    have hss := BS.out.lt
    have hrr := BR.out.lt
    have c7 := HT7.out.box.c7
    have c9 := HT7.out.box.c9
    have hbb := HT7.out.blk.lt
    obtain ⟨A7, n7, hv7, -⟩ := owned_sl HT7.out.list
    obtain ⟨A9, n9, hv9, -⟩ := owned_sl HT7.out.out
    have hw1 : IntKind.i64.wrap (f + 1) = f + 1 := by rw [IntKind.wrap_i64]; omega
    simp only at hv7 hv9 c7 c9
    subst hv7 hv9
    go_upto_region 11 with fail
    refine tail_region (S := (fun w' => (∀ b o, b < (w7).heap.size → w'.cell? ⟨b, o, none⟩ = (w7).cell? ⟨b, o, none⟩) ∧ (∀ b o, b < (w7).heap.size → w'.frozen? ⟨b, o, none⟩ = (w7).frozen? ⟨b, o, none⟩) ∧ Below (w7).heap.size (w7) w')) 10 (.free 0 (.free 1 (.free 2 (.free 3 (.free 4 (.free 5 (.free 6 (.free 7 (.one 8 (.one 9 .tail)))))))))) (by kernel_rfl) (by kernel_rfl) (fun _ _ d _ _ h => by cases d <;> exact h) (keepW0 _) (fun hS => ?_)
    simp only [writtenT, List.drop_succ_cons, List.drop_zero, List.getElem?_cons_succ, List.getElem?_cons_zero]
    iterate 8
     refine rz_free (v := ?_) (by rfl) ?_ ?_; rotate_left 1; focus (intro w hSw; (try dsimp only at hSw); go_simp; (try with_reducible rfl))
     (try simp only [Act.put, tA, tB, tC])
    refine rz_call (by rfl) (fun K hK => ?_)
    go_simp
    (skip)
    (try go_wp2_with fail)
    refine hK.out _ _ ?_ (fun hS' => ?_)
    · (try dsimp only); first | exact keepW (by assumption) (by assumption) | exact keepB (by assumption) (by assumption) | exact keepA (by assumption) | assumption
    clear hS hK K
    have hS := hS'
    clear hS'
    (try simp only [Act.put, tA, tB, tC])
    refine rz_call (by rfl) (fun K hK => ?_)
    go_simp
    (refine (csort_any _ _ [O] _ (vals_one _ (.slice A9 O.length n9) _ _ (by first | rfl | simp)) (AllSl.cons (by first | exact (HT7.out.drew.alloc _).osl | exact (HT7.out.alloc _).osl) (AllSl.nil _)) (by simp) (by simpa using Nat.le_trans HOl.out (by omega))).mono ?_; rintro e w8 ⟨v8, rfl, ho8, hb8⟩)
    (try go_wp2_with fail)
    refine hK.out _ _ ?_ (fun hS' => ?_)
    · (try dsimp only); first | exact keepW (by assumption) (by assumption) | exact keepB (by assumption) (by assumption) | exact keepA (by assumption) | assumption
    clear hS hK K
    have hS := hS'
    clear hS'
    (try simp only [Act.put, tA, tB, tC])
    refine rz_done ?_
    have HO8 := Lib.hid (ho8.mono (show w.heap.size ≤ _ by have := HB.out.size; simp; omega))
    rw [show ([O] : List (List Crs)).flatten = O from by simp, ← HY.out] at HO8
    replace BR := Lib.hid (BR.out.nx hS.2.2)
    have HL8 := Lib.hid (own_below HT7.out.list hS.2.2)
    replace HB := Lib.hid (nextW HB.out hS.2.2)
    clear hS ho8 hb8 s0 s1 r0 r1 q0 q1 hss hrr c7 c9 hbb HT7 BS HY HOl HW0
    obtain ⟨r0, r1, q0, q1⟩ := BR.out.reg
    have hrr := BR.out.lt
    have HB2 := Lib.hid (RegBox.bel HB.out ⟨f + 1, .slice A7 X.length n7⟩ (show w.heap.size ≤ w.heap.size + 1 + 1 by omega) rfl)
    have HR2 := Lib.hid (BR.out.reg.put ⟨f + 1, .slice A7 X.length n7⟩)
    have HL2 := Lib.hid (own_reg HL8.out BR.out (by decide) (.int .i64 (f + 1)) (.slice A7 X.length n7))
    have HO2 := Lib.hid (own_reg HO8.out BR.out (by decide) (.int .i64 (f + 1)) (.slice A7 X.length n7))
    go_wp2
    obtain ⟨z0, z1, -⟩ := HR2.out
    refine bodyPost_ret (v := .tuple #[.agg #[.int .i64 (f + 1), .slice A7 X.length n7], v8, .int .i64 0]) (by simp [results, Tryz.results26, go_sem, z0, z1]) rfl ?_
    rw [HF.out]
    exact ⟨⟨_, _, rfl, HL2.out, HO2.out⟩, HB2.out⟩

end Go.Proofs.YtfpofegfbinalaaGreat.Fx
