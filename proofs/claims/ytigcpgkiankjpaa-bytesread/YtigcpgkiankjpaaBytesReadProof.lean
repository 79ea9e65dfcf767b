/- joustlaw11.BytesRead returns true for every input; no conditions. -/
import Derived.Test.YtigcpgkiankjpaaByRefR
import Derived.Test.YtigcpgkiankjpaaByOwn
import Derived.Test.YtigcpgkiankjpaaRows
import Derived.WalkKit
import Derived.ProofKit
import Derived.OpenShut
import Derived.ShutString
import Derived.ChangeOld
import Derived.Below
namespace Go.Proofs.Ytigcpgkiankjpaa.bytesRead
open Go.ChangeShapes Go.WideShapes Go.ChangeAt Go.RowKit
open Go.ChangeMaps (open_string shut_string)
set_option linter.unusedVariables false
set_option maxRecDepth 100000

theorem own : ownKnob Try.prog.godebug = none := by kernel_rfl
theorem laidOut : laidOutB Try.prog = true := by kernel_rfl
open Fx (IsRow)

open Fx

theorem count_ok {r : Rd} (q : Int) (h : ByOk r.l) : ByOk (r.count q).2.l := by
  unfold Rd.count
  split
  · intro x hx; simp at hx
  · exact Rd.int_ok h

theorem count_len (r : Rd) (q : Int) : (r.count q).2.l.length ≤ r.l.length := by
  unfold Rd.count
  split
  · simp
  · exact Rd.int_len r

theorem raw_ok {r : Rd} (h : ByOk r.l) : ByOk r.raw.2.l := by
  have h1 := Rd.int_ok h
  unfold Rd.raw
  split
  · exact h1
  · split
    · intro x hx; simp at hx
    · split
      · intro x hx; simp at hx
      · exact h1.drop _

theorem raw_len (r : Rd) : r.raw.2.l.length ≤ r.l.length := by
  have h1 := Rd.int_len r
  unfold Rd.raw
  split
  · exact h1
  · split
    · simp
    · split
      · simp
      · simp; omega

set_option maxRecDepth 100000 in
set_option maxHeartbeats 4000000 in
theorem walk (a0 : Option Addr) (len0 cap0 : Nat) (z0 : List Int) (a1 : Option Addr) (len1 cap1 : Nat) (z1 : List Int) (w : World) (w0 : IsRow .u8 w a0 len0 cap0 z0) (w1 : IsRow .i64 w a1 len1 cap1 z1) :
    Calls Try.prog 4 #[.slice a0 len0 cap0, .slice a1 len1 cap1] w fun e w' => e = .returned (.bool true) ∧ Below w.heap.size w w' := by
  obtain ⟨hsl, hok, hlen⟩ := w0.sl8
  have hA0 : a0 = none → len0 = 0 ∧ cap0 = 0 := by
    rcases w0 with ⟨rfl, rfl, rfl, rfl⟩ | ⟨x, rfl, _⟩
    · exact fun _ => ⟨rfl, rfl⟩
    · exact fun h => by cases h
  have hold0 : ∀ a n k, Value.slice a0 len0 cap0 = .slice (some a) n k → 0 < len0 → a.block < w.heap.size := fun a n k hv h0 => by
    obtain ⟨A, c, hv', -, -, hat⟩ := hsl
    rw [hv] at hv'
    cases hv'
    obtain ⟨b, off, hb, hc⟩ := hat (by rw [byC_map]; intro hn; have hz := List.map_eq_nil_iff.1 hn; rw [hz] at hlen; simp at hlen; omega)
    cases hb
    have hlm : 0 < ((z0.take len0).flatMap byC).length := by rw [byC_length, hlen]; omega
    exact World.block_lt_of_cell? _ _ (hc 0 _ (List.getElem?_eq_getElem hlm))
  have hl := w1.ints
  have HS := Lib.hid hsl
  have HOk := Lib.hid hok
  have HLen := Lib.hid hlen
  have HA0 := Lib.hid hA0
  have Hl := Lib.hid hl
  clear w0 w1 hsl hok hlen hl hA0
  generalize z0.take len0 = L at *
  generalize z1.take len1 = asks at *
  have HA := Lib.hid awake_by
  by_cases hbig : 2000 < len0
  · go_enter Try.func4, Try.ntmps4
    go_wp2_with fail
    refine (HA.out _).mono ?_
    rintro e w1 ⟨rfl, hb⟩
    go_wp2
    go_ret
    exact ⟨rfl, hb⟩
  · have HOw := Lib.hid own_anyB
    have HRd := Lib.hid read_any
    go_enter Try.func4, Try.ntmps4
    go_wp2_with fail
    refine (HOw.out a0 len0 cap0 L 71 _ (BysAt.of_sl HS.out HLen.out) HA0.out (by omega)).mono ?_
    rintro e w1 ⟨g, rfl, hb1, hg1, cur, hr1, hs1, hc1, hf1⟩
    have HB1 := Lib.hid hb1
    have HRow := Lib.hid hr1
    have HCur := Lib.hid (And.intro hs1 (And.intro hc1 hf1))
    have HG1 := Lib.hid hg1
    have hin : IsSl byC w1 (.slice (some ⟨g, 0, none⟩) L.length (len0 + 3)) L := ⟨_, _, rfl, fun h => (by cases h), by have := HLen.out; omega, fun _ => ⟨g, 0, rfl, fun i v hv => by
      rw [Nat.zero_add, hr1.cell]
      rw [byC_map] at hv
      obtain ⟨hi, hv⟩ := List.getElem?_eq_some_iff.1 hv
      simp at hi hv
      subst hv
      rw [hc1 i (by rw [← HLen.out]; exact hi)]
      simp [gi, List.getD_eq_getElem?_getD, List.getElem?_eq_getElem hi]⟩⟩
    rw [HLen.out] at hin
    have HIn := Lib.hid hin
    clear hb1 hg1 hr1 hs1 hc1 hf1 hin
    go_wp2_with fail
    refine (HRd.out _ L _ HIn.out (by rw [HLen.out]; omega)).mono ?_
    rintro e w2 ⟨b5, rfl, hb5s, hb5l, hr2, hb2⟩
    have HR2 := Lib.hid (hr2 (fun k => b5 ≤ k) (Nat.le_refl _) (fun k hk => .inr hk))
    have HB2 := Lib.hid hb2
    have HS2 := Lib.hid (And.intro hb5s hb5l)
    clear hb5s hb5l hr2 hb2 HIn HOw HRd
    go_wp2_with fail
    generalize hW : w2.alloc _ = W
    have hbW : Below w2.heap.size w2 W := by rw [← hW]; exact (Below.refl _ _).alloc (Nat.le_refl _) _
    have hrf : RfAt W w2.heap.size (.slice a0 len0 cap0) L 0 ⟨L, 0⟩ := by
      rw [← hW]
      refine ⟨by simp, by rw [World.cell?_alloc_new]; rfl, by rw [World.cell?_alloc_new]; rfl, by rw [World.cell?_alloc_new]; rfl, World.frozen?_alloc_new _ _ _ _, World.frozen?_alloc_new _ _ _ _, ?_, ?_, fun _ => ⟨Nat.zero_le _, rfl⟩, fun h => absurd rfl h⟩
      · exact ((HS.out.below HB1.out).below HB2.out).keep fun p u hp => by rw [World.cell?_alloc_lt _ _ _ (World.block_lt_of_cell? _ _ hp)]; exact hp
      · intro a n k hv h0
        cases hv
        have h1 := hold0 _ _ _ rfl h0
        have h2 := HB1.out.size
        have h3 := HB2.out.size
        omega
    have HRf := Lib.hid hrf
    have HRW := Lib.hid (HR2.out.below hbW)
    have HBW := Lib.hid (HB2.out.trans (hbW.mono HB2.out.size))
    have HCl := Lib.hid (show w2.heap.size < W.heap.size from hrf.lt)
    clear hW hrf hbW HR2 HB2
    refine (HA.out _).mono ?_
    rintro e w3 ⟨rfl, hb3⟩
    have HR3 := Lib.hid (HRW.out.below hb3)
    have HF3 := Lib.hid (HRf.out.below hb3)
    have HB3 := Lib.hid (HBW.out.trans (hb3.mono HBW.out.size))
    clear hb3 HRW HRf HBW
    have HI := Lib.hid rint_any
    have HC := Lib.hid rcount_any
    have HRa := Lib.hid rraw_far
    have HEr := Lib.hid rerr_any
    have HLf := Lib.hid rleft_any
    have HFi := Lib.hid fint_any
    have HFc := Lib.hid fcount_any
    have HFr := Lib.hid fraw_any
    have HFl := Lib.hid fleft_any
    have HSm := Lib.hid same_by
    have HKp := Lib.hid kept_yesB
    have HLL := Lib.hid (show L.length ≤ 1000000 from by rw [HLen.out]; omega)
    have hS2 := HS2.out
    have hbc : b5 < w2.heap.size := hS2.2
    have hwb : w1.heap.size ≤ b5 := hS2.1
    have hww : w.heap.size ≤ w1.heap.size := HB1.out.size
    have HNv := Lib.hid (show ∀ a n k, Value.slice a0 len0 cap0 = .slice (some a) n k → 0 < n → a.block ≠ b5 from fun a n k hv h0 => by
      cases hv
      have := hold0 _ _ _ rfl h0
      omega)
    clear hS2 hold0
    go_wp2
    go_loopw [8] (fun i wr => ∃ (k : Nat) (rd : Rd), k ≤ len1 ∧ i = .int .i64 k ∧ RdAt (fun k => b5 ≤ k) wr b5 rd ∧ (∃ p, RfAt wr w2.heap.size (.slice a0 len0 cap0) L p rd) ∧ ByOk rd.l ∧ rd.l.length ≤ 2000 ∧ Below w1.heap.size w1 wr) (fun i _ => len1 - (intOf i).toNat)
    case atStart => exact ⟨0, ⟨L, 0⟩, Nat.zero_le _, rfl, HR3.out, ⟨0, HF3.out⟩, HOk.out, by show L.length ≤ 2000; rw [HLen.out]; omega, HB3.out⟩
    case round =>
      clear HR3 HF3 HB3
      obtain ⟨k, rd, hk, rfl, hr, ⟨p, hf⟩, hok, hlen, hb⟩ := hrel
      have HRr := Lib.hid hr
      have HFr0 := Lib.hid hf
      have HOr := Lib.hid hok
      have HLr := Lib.hid hlen
      have HBr := Lib.hid hb
      clear hr hf hok hlen hb
      by_cases hlt : k < len1 ∧ k < 40
      · obtain ⟨hlt1, hlt2⟩ := hlt
        obtain ⟨b, off, hA1, hc⟩ := Hl.out.2 (by omega)
        have hcw := hc k hlt1
        have hbw : b < w.heap.size := World.block_lt_of_cell? _ _ hcw
        have hck : wr.cell? ⟨b, off + k, none⟩ = some (.int .i64 (gi asks k)) := (HBr.out.cell (p := ⟨b, off + k, none⟩) (show b < w1.heap.size by omega)).trans ((HB1.out.cell (p := ⟨b, off + k, none⟩) hbw).trans hcw)
        subst hA1
        clear hc
        generalize gi asks k = q at *
        by_cases hq0 : q = 0
        · subst hq0
          obtain ⟨⟨n, r1⟩, hI⟩ : ∃ I, rd.int = I := ⟨_, rfl⟩
          have HOx := Lib.hid (show ByOk r1.l from by have := Rd.int_ok (r := rd) HOr.out; rw [hI] at this; exact this)
          have HLx := Lib.hid (show r1.l.length ≤ 2000 from by have := Rd.int_len rd; rw [hI] at this; exact Nat.le_trans this HLr.out)
          have hIa := HI.out (fun k => b5 ≤ k) b5 rd wr HRr.out HOr.out (Nat.le_trans HLr.out (by omega))
          rw [hI] at hIa
          have HIa := Lib.hid hIa
          have HIE := Lib.hid hI
          clear hIa hI
          go_wp2_with fail
          refine HIa.out.mono ?_
          rintro e1 wa ⟨rfl, hra, hga⟩
          have HFa := Lib.hid (HFr0.out.grown hga (by omega) HNv.out)
          have HRa1 := Lib.hid hra
          have HBa := Lib.hid (HBr.out.grown hga HBr.out.size (by simp; exact hwb))
          clear hra hga
          have hIb := HFi.out w2.heap.size _ L p rd wa HFa.out HOk.out HLL.out
          rw [HIE.out] at hIb
          have HIb := Lib.hid hIb
          clear hIb
          go_wp2_with fail
          refine HIb.out.mono ?_
          rintro e1 wx ⟨rfl, ⟨px, hfx⟩, hgx⟩
          have HRx := Lib.hid (show RdAt (fun k => b5 ≤ k) wx b5 r1 from HRa1.out.grown hgx (by omega) (by show b5 ≤ w2.heap.size; omega))
          have HBx := Lib.hid (HBa.out.grown hgx HBa.out.size (by simp; omega))
          clear hgx HRa1 HBa HFa HIb HIa
          have hcx := hfx.c2
          have HFx := Lib.hid hfx
          have hcl := hfx.lt
          clear hfx
          go_wp2_with fail
          refine plan_region' (S := (fun w' => (∀ b o, w'.cell? ⟨b, o, none⟩ = wx.cell? ⟨b, o, none⟩) ∧ Below wx.heap.size wx w')) [(0, true), (2, true), (3, true), (4, true), (5, true), (1, false), (6, true), (7, true), (8, true), (10, true), (9, false), (11, false), (12, true), (13, true)] (by kernel_rfl) (by kernel_rfl) (fun _ _ d _ _ h => by cases d <;> exact h) (⟨fun _ _ => rfl, (Below.refl _ _).drew⟩) (fun hS => ?_)
          simp only [picked, List.getElem?_cons_succ, List.getElem?_cons_zero]
          refine row_free (v := ?_) (by rfl) ?_ ?_
          rotate_left 1
          focus (intro w hSw; (try dsimp only at hSw); go_simp; (try with_reducible rfl))
          (try simp only [Act.put, List.setIfInBounds_toArray, List.set_cons_zero, List.set_cons_succ])
          refine row_free (v := ?_) (by rfl) ?_ ?_
          rotate_left 1
          focus (intro w hSw; (try dsimp only at hSw); go_simp; (try with_reducible rfl))
          (try simp only [Act.put, List.setIfInBounds_toArray, List.set_cons_zero, List.set_cons_succ])
          refine row_free (v := ?_) (by rfl) ?_ ?_
          rotate_left 1
          focus (intro w hSw; (try dsimp only at hSw); go_simp; (try with_reducible rfl))
          (try simp only [Act.put, List.setIfInBounds_toArray, List.set_cons_zero, List.set_cons_succ])
          refine row_free (v := ?_) (by rfl) ?_ ?_
          rotate_left 1
          focus (intro w hSw; (try dsimp only at hSw); go_simp; (try with_reducible rfl))
          (try simp only [Act.put, List.setIfInBounds_toArray, List.set_cons_zero, List.set_cons_succ])
          refine row_free (v := ?_) (by rfl) ?_ ?_
          rotate_left 1
          focus (intro w hSw; (try dsimp only at hSw); go_simp; (try with_reducible rfl))
          (try simp only [Act.put, List.setIfInBounds_toArray, List.set_cons_zero, List.set_cons_succ])
          refine row_call (by rfl) (fun K hK => ?_)
          go_simp
          (refine (HEr.out _ b5 r1 _ (HRx.out.below hS.2)).mono ?_; rintro e1 wa ⟨rfl, rfl⟩)
          (try go_wp2_with fail)
          refine hK.out _ _ ?_ (fun hS' => ?_)
          · (try dsimp only); first | exact hS | exact ⟨fun _ _ => rfl, below_drewN (Below.refl _ _) _⟩ | exact ⟨fun b o => hS.1 b o, below_drewN hS.2 _⟩
          clear hS hK K
          have hS := hS'
          clear hS'
          (try simp only [Act.put, List.setIfInBounds_toArray, List.set_cons_zero, List.set_cons_succ])
          refine row_free (v := ?_) (by rfl) ?_ ?_
          rotate_left 1
          focus (intro w hSw; (try dsimp only at hSw); go_simp; (try with_reducible rfl))
          (try simp only [Act.put, List.setIfInBounds_toArray, List.set_cons_zero, List.set_cons_succ])
          refine row_free (v := ?_) (by rfl) ?_ ?_
          rotate_left 1
          focus (intro w hSw; (try dsimp only at hSw); go_simp; (try with_reducible rfl))
          (try simp only [Act.put, List.setIfInBounds_toArray, List.set_cons_zero, List.set_cons_succ])
          refine row_free (v := ?_) (by rfl) ?_ ?_
          rotate_left 1
          focus (intro w hSw; (try dsimp only at hSw); go_simp; (try with_reducible rfl))
          (try simp only [Act.put, List.setIfInBounds_toArray, List.set_cons_zero, List.set_cons_succ])
          refine row_free (v := ?_) (by rfl) ?_ ?_
          rotate_left 1
          focus (intro w hSw; (try dsimp only at hSw); go_simp; (try with_reducible rfl))
          (try simp only [Act.put, List.setIfInBounds_toArray, List.set_cons_zero, List.set_cons_succ])
          refine row_call (by rfl) (fun K hK => ?_)
          go_simp
          (refine (HLf.out _ b5 r1 _ (HRx.out.below hS.2)).mono ?_; rintro e1 wa ⟨rfl, rfl⟩)
          (try go_wp2_with fail)
          refine hK.out _ _ ?_ (fun hS' => ?_)
          · (try dsimp only); first | exact hS | exact ⟨fun _ _ => rfl, below_drewN (Below.refl _ _) _⟩ | exact ⟨fun b o => hS.1 b o, below_drewN hS.2 _⟩
          clear hS hK K
          have hS := hS'
          clear hS'
          (try simp only [Act.put, List.setIfInBounds_toArray, List.set_cons_zero, List.set_cons_succ])
          refine row_call (by rfl) (fun K hK => ?_)
          go_simp
          (refine (HFl.out w2.heap.size _ L px r1 _ (HFx.out.below hS.2) HLL.out).mono ?_; rintro e1 wb ⟨rfl, nb, rfl⟩)
          (try go_wp2_with fail)
          refine hK.out _ _ ?_ (fun hS' => ?_)
          · (try dsimp only); first | exact hS | exact ⟨fun _ _ => rfl, below_drewN (Below.refl _ _) _⟩ | exact ⟨fun b o => hS.1 b o, below_drewN hS.2 _⟩
          clear hS hK K
          have hS := hS'
          clear hS'
          (try simp only [Act.put, List.setIfInBounds_toArray, List.set_cons_zero, List.set_cons_succ])
          refine row_free (v := ?_) (by rfl) ?_ ?_
          rotate_left 1
          focus (intro w hSw; (try dsimp only at hSw); go_simp; (try with_reducible rfl))
          (try simp only [Act.put, List.setIfInBounds_toArray, List.set_cons_zero, List.set_cons_succ])
          refine row_free (v := ?_) (by rfl) ?_ ?_
          rotate_left 1
          focus (intro w hSw; (try dsimp only at hSw); go_simp; (try with_reducible rfl))
          (try simp only [Act.put, List.setIfInBounds_toArray, List.set_cons_zero, List.set_cons_succ])
          refine row_done ?_
          have HSz := Lib.hid hS.2
          clear hS hcx
          go_wp2
          go_roundw
          case rel => exact ⟨k + 1, r1, by omega, by go_num, HRx.out.below HSz.out, ⟨px, HFx.out.below HSz.out⟩, HOx.out, HLx.out, HBx.out.trans (HSz.out.mono HBx.out.size)⟩
          case measure => simp [intOf]; omega
        · by_cases hqn : q < 0
          · obtain ⟨⟨bs, r1⟩, hI⟩ : ∃ I, rd.raw = I := ⟨_, rfl⟩
            have HOx := Lib.hid (show ByOk r1.l from by have := raw_ok (r := rd) HOr.out; rw [hI] at this; exact this)
            have HLx := Lib.hid (show r1.l.length ≤ 2000 from by have := raw_len rd; rw [hI] at this; exact Nat.le_trans this HLr.out)
            have hIa := HRa.out (fun k => b5 ≤ k) b5 rd wr HRr.out HOr.out (Nat.le_trans HLr.out (by omega))
            rw [hI] at hIa
            have HIa := Lib.hid hIa
            have HIE := Lib.hid hI
            have HFl0 := Lib.hid HFr0.out.lt
            clear hIa hI
            go_wp2_with fail
            refine HIa.out.mono ?_
            rintro e1 wa ⟨⟨v1, rfl, hv1⟩, hra, hga⟩
            have HFa := Lib.hid (HFr0.out.grown hga (by omega) HNv.out)
            have HRa1 := Lib.hid hra
            have HV1 := Lib.hid (show FarSl wr.heap.size wa v1 bs from hv1)
            have HBa := Lib.hid (HBr.out.grown hga HBr.out.size (by simp; exact hwb))
            clear hra hga hv1
            have hIb := HFr.out w2.heap.size _ L p rd wa HFa.out HOk.out HLL.out
            rw [HIE.out] at hIb
            have HIb := Lib.hid hIb
            clear hIb
            go_wp2_with fail
            refine HIb.out.mono ?_
            rintro e1 wx ⟨⟨v2, rfl, hv2⟩, ⟨px, hfx⟩, hgx⟩
            have HV2 := Lib.hid (show IsSl byC wx v2 bs from hv2)
            have HV1x := Lib.hid (HV1.out.keep fun p u hp hu => grown_cell hgx (by have := HFl0.out; simp; omega) hu)
            have HRx := Lib.hid (show RdAt (fun k => b5 ≤ k) wx b5 r1 from HRa1.out.grown hgx (by omega) (by show b5 ≤ w2.heap.size; omega))
            have HBx := Lib.hid (HBa.out.grown hgx HBa.out.size (by simp; omega))
            clear hgx HRa1 HBa HFa HIb HIa hv2 HV1
            go_wp2_with fail
            refine (HSm.out v1 v2 bs _ HV1x.out.1 HV2.out).mono ?_
            rintro e1 wy ⟨rfl, rfl⟩
            have hcx := hfx.c2
            have HFx := Lib.hid hfx
            have hcl := hfx.lt
            clear hfx
            go_wp2_with fail
            refine plan_region' (S := (fun w' => (∀ b o, w'.cell? ⟨b, o, none⟩ = wx.cell? ⟨b, o, none⟩) ∧ Below wx.heap.size wx w')) [(0, true), (2, true), (3, true), (4, true), (5, true), (1, false), (6, true), (7, true), (8, true), (10, true), (9, false), (11, false), (12, true), (13, true)] (by kernel_rfl) (by kernel_rfl) (fun _ _ d _ _ h => by cases d <;> exact h) (⟨fun _ _ => rfl, (Below.refl _ _).drew⟩) (fun hS => ?_)
            simp only [picked, List.getElem?_cons_succ, List.getElem?_cons_zero]
            refine row_free (v := ?_) (by rfl) ?_ ?_
            rotate_left 1
            focus (intro w hSw; (try dsimp only at hSw); go_simp; (try with_reducible rfl))
            (try simp only [Act.put, List.setIfInBounds_toArray, List.set_cons_zero, List.set_cons_succ])
            refine row_free (v := ?_) (by rfl) ?_ ?_
            rotate_left 1
            focus (intro w hSw; (try dsimp only at hSw); go_simp; (try with_reducible rfl))
            (try simp only [Act.put, List.setIfInBounds_toArray, List.set_cons_zero, List.set_cons_succ])
            refine row_free (v := ?_) (by rfl) ?_ ?_
            rotate_left 1
            focus (intro w hSw; (try dsimp only at hSw); go_simp; (try with_reducible rfl))
            (try simp only [Act.put, List.setIfInBounds_toArray, List.set_cons_zero, List.set_cons_succ])
            refine row_free (v := ?_) (by rfl) ?_ ?_
            rotate_left 1
            focus (intro w hSw; (try dsimp only at hSw); go_simp; (try with_reducible rfl))
            (try simp only [Act.put, List.setIfInBounds_toArray, List.set_cons_zero, List.set_cons_succ])
            refine row_free (v := ?_) (by rfl) ?_ ?_
            rotate_left 1
            focus (intro w hSw; (try dsimp only at hSw); go_simp; (try with_reducible rfl))
            (try simp only [Act.put, List.setIfInBounds_toArray, List.set_cons_zero, List.set_cons_succ])
            refine row_call (by rfl) (fun K hK => ?_)
            go_simp
            (refine (HEr.out _ b5 r1 _ (HRx.out.below hS.2)).mono ?_; rintro e1 wa ⟨rfl, rfl⟩)
            (try go_wp2_with fail)
            refine hK.out _ _ ?_ (fun hS' => ?_)
            · (try dsimp only); first | exact hS | exact ⟨fun _ _ => rfl, below_drewN (Below.refl _ _) _⟩ | exact ⟨fun b o => hS.1 b o, below_drewN hS.2 _⟩
            clear hS hK K
            have hS := hS'
            clear hS'
            (try simp only [Act.put, List.setIfInBounds_toArray, List.set_cons_zero, List.set_cons_succ])
            refine row_free (v := ?_) (by rfl) ?_ ?_
            rotate_left 1
            focus (intro w hSw; (try dsimp only at hSw); go_simp; (try with_reducible rfl))
            (try simp only [Act.put, List.setIfInBounds_toArray, List.set_cons_zero, List.set_cons_succ])
            refine row_free (v := ?_) (by rfl) ?_ ?_
            rotate_left 1
            focus (intro w hSw; (try dsimp only at hSw); go_simp; (try with_reducible rfl))
            (try simp only [Act.put, List.setIfInBounds_toArray, List.set_cons_zero, List.set_cons_succ])
            refine row_free (v := ?_) (by rfl) ?_ ?_
            rotate_left 1
            focus (intro w hSw; (try dsimp only at hSw); go_simp; (try with_reducible rfl))
            (try simp only [Act.put, List.setIfInBounds_toArray, List.set_cons_zero, List.set_cons_succ])
            refine row_free (v := ?_) (by rfl) ?_ ?_
            rotate_left 1
            focus (intro w hSw; (try dsimp only at hSw); go_simp; (try with_reducible rfl))
            (try simp only [Act.put, List.setIfInBounds_toArray, List.set_cons_zero, List.set_cons_succ])
            refine row_call (by rfl) (fun K hK => ?_)
            go_simp
            (refine (HLf.out _ b5 r1 _ (HRx.out.below hS.2)).mono ?_; rintro e1 wa ⟨rfl, rfl⟩)
            (try go_wp2_with fail)
            refine hK.out _ _ ?_ (fun hS' => ?_)
            · (try dsimp only); first | exact hS | exact ⟨fun _ _ => rfl, below_drewN (Below.refl _ _) _⟩ | exact ⟨fun b o => hS.1 b o, below_drewN hS.2 _⟩
            clear hS hK K
            have hS := hS'
            clear hS'
            (try simp only [Act.put, List.setIfInBounds_toArray, List.set_cons_zero, List.set_cons_succ])
            refine row_call (by rfl) (fun K hK => ?_)
            go_simp
            (refine (HFl.out w2.heap.size _ L px r1 _ (HFx.out.below hS.2) HLL.out).mono ?_; rintro e1 wb ⟨rfl, nb, rfl⟩)
            (try go_wp2_with fail)
            refine hK.out _ _ ?_ (fun hS' => ?_)
            · (try dsimp only); first | exact hS | exact ⟨fun _ _ => rfl, below_drewN (Below.refl _ _) _⟩ | exact ⟨fun b o => hS.1 b o, below_drewN hS.2 _⟩
            clear hS hK K
            have hS := hS'
            clear hS'
            (try simp only [Act.put, List.setIfInBounds_toArray, List.set_cons_zero, List.set_cons_succ])
            refine row_free (v := ?_) (by rfl) ?_ ?_
            rotate_left 1
            focus (intro w hSw; (try dsimp only at hSw); go_simp; (try with_reducible rfl))
            (try simp only [Act.put, List.setIfInBounds_toArray, List.set_cons_zero, List.set_cons_succ])
            refine row_free (v := ?_) (by rfl) ?_ ?_
            rotate_left 1
            focus (intro w hSw; (try dsimp only at hSw); go_simp; (try with_reducible rfl))
            (try simp only [Act.put, List.setIfInBounds_toArray, List.set_cons_zero, List.set_cons_succ])
            refine row_done ?_
            have HSz := Lib.hid hS.2
            clear hS hcx
            go_wp2
            go_roundw
            case rel => exact ⟨k + 1, r1, by omega, by go_num, HRx.out.below HSz.out, ⟨px, HFx.out.below HSz.out⟩, HOx.out, HLx.out, HBx.out.trans (HSz.out.mono HBx.out.size)⟩
            case measure => simp [intOf]; omega
          · have hqp : 0 < q := by omega
            obtain ⟨⟨n, r1⟩, hI⟩ : ∃ I, rd.count q = I := ⟨_, rfl⟩
            have HOx := Lib.hid (show ByOk r1.l from by have := count_ok (r := rd) q HOr.out; rw [hI] at this; exact this)
            have HLx := Lib.hid (show r1.l.length ≤ 2000 from by have := count_len rd q; rw [hI] at this; exact Nat.le_trans this HLr.out)
            have HIE := Lib.hid hI
            clear hI
            go_wp2_with fail
            refine plan_region' (S := (fun w' => ∀ b o, b < w.heap.size → w'.cell? ⟨b, o, none⟩ = w.cell? ⟨b, o, none⟩)) [(0, true), (1, true), (2, true), (3, true), (4, true), (6, true), (7, true), (8, true), (9, true), (10, true), (5, false), (11, false), (12, true)] (by kernel_rfl) (by kernel_rfl) (fun _ _ d _ _ h => by cases d <;> exact h) (fun b o h => ((HBr.out.cell (p := ⟨b, o, none⟩) (show b < w1.heap.size by omega)).trans (HB1.out.cell (p := ⟨b, o, none⟩) h))) (fun hS => ?_)
            simp only [picked, List.getElem?_cons_succ, List.getElem?_cons_zero]
            refine row_free (v := ?_) (by rfl) ?_ ?_
            rotate_left 1
            focus (intro w hSw; (try dsimp only at hSw); go_simp; (try with_reducible rfl))
            (try simp only [Act.put, List.setIfInBounds_toArray, List.set_cons_zero, List.set_cons_succ])
            refine row_free (v := ?_) (by rfl) ?_ ?_
            rotate_left 1
            focus (intro w hSw; (try dsimp only at hSw); go_simp; (try with_reducible rfl))
            (try simp only [Act.put, List.setIfInBounds_toArray, List.set_cons_zero, List.set_cons_succ])
            refine row_free (v := ?_) (by rfl) ?_ ?_
            rotate_left 1
            focus (intro w hSw; (try dsimp only at hSw); go_simp; (try with_reducible rfl))
            (try simp only [Act.put, List.setIfInBounds_toArray, List.set_cons_zero, List.set_cons_succ])
            refine row_free (v := ?_) (by rfl) ?_ ?_
            rotate_left 1
            focus (intro w hSw; (try dsimp only at hSw); go_simp; (try with_reducible rfl))
            (try simp only [Act.put, List.setIfInBounds_toArray, List.set_cons_zero, List.set_cons_succ])
            refine row_free (v := ?_) (by rfl) ?_ ?_
            rotate_left 1
            focus (intro w hSw; (try dsimp only at hSw); go_simp; (try with_reducible rfl))
            (try simp only [Act.put, List.setIfInBounds_toArray, List.set_cons_zero, List.set_cons_succ])
            refine row_free (v := ?_) (by rfl) ?_ ?_
            rotate_left 1
            focus (intro w hSw; (try dsimp only at hSw); go_simp; (try with_reducible rfl))
            (try simp only [Act.put, List.setIfInBounds_toArray, List.set_cons_zero, List.set_cons_succ])
            refine row_free (v := ?_) (by rfl) ?_ ?_
            rotate_left 1
            focus (intro w hSw; (try dsimp only at hSw); go_simp; (try with_reducible rfl))
            (try simp only [Act.put, List.setIfInBounds_toArray, List.set_cons_zero, List.set_cons_succ])
            refine row_free (v := ?_) (by rfl) ?_ ?_
            rotate_left 1
            focus (intro w hSw; (try dsimp only at hSw); go_simp; (try with_reducible rfl))
            (try simp only [Act.put, List.setIfInBounds_toArray, List.set_cons_zero, List.set_cons_succ])
            refine row_free (v := ?_) (by rfl) ?_ ?_
            rotate_left 1
            focus (intro w hSw; (try dsimp only at hSw); go_simp; (try with_reducible rfl))
            (try simp only [Act.put, List.setIfInBounds_toArray, List.set_cons_zero, List.set_cons_succ])
            refine row_free (v := ?_) (by rfl) ?_ ?_
            rotate_left 1
            focus (intro w hSw; (try dsimp only at hSw); go_simp; (try with_reducible rfl))
            (try simp only [Act.put, List.setIfInBounds_toArray, List.set_cons_zero, List.set_cons_succ])
            refine row_call (by rfl) (fun K hK => ?_)
            go_simp
            (refine (HC.out (fun k => b5 ≤ k) b5 rd q _ (HRr.out.below (Below.refl _ _).drew) HOr.out (Nat.le_trans HLr.out (by omega))).mono ?_; rintro e1 wa ⟨rfl, hra, hga⟩; rw [HIE.out] at hra ⊢; have HFa := Lib.hid ((HFr0.out.below (Below.refl _ _).drew).grown hga (by omega) HNv.out); have HRa1 := Lib.hid hra; have HBa := Lib.hid (HBr.out.drew.grown hga HBr.out.size (by simp; exact hwb)); clear hra hga)
            (try go_wp2_with fail)
            refine hK.out _ _ ?_ (fun hS' => ?_)
            · (try dsimp only); first | exact fun b o h => ((HBx.out.cell (p := ⟨b, o, none⟩) (show b < w1.heap.size by omega)).trans (HB1.out.cell (p := ⟨b, o, none⟩) h)) | exact fun b o h => ((HBa.out.cell (p := ⟨b, o, none⟩) (show b < w1.heap.size by omega)).trans (HB1.out.cell (p := ⟨b, o, none⟩) h))
            clear hS hK K
            have hS := hS'
            clear hS'
            (try simp only [Act.put, List.setIfInBounds_toArray, List.set_cons_zero, List.set_cons_succ])
            refine row_call (by rfl) (fun K hK => ?_)
            go_simp
            (refine (HFc.out w2.heap.size _ L p rd q _ HFa.out HOk.out HLL.out).mono ?_; rintro e1 wx ⟨rfl, hpx, hgx⟩; rw [HIE.out] at hpx ⊢; have HRx := Lib.hid (show RdAt (fun k => b5 ≤ k) wx b5 r1 from HRa1.out.grown hgx (by omega) (by show b5 ≤ w2.heap.size; omega)); have HBx := Lib.hid (HBa.out.grown hgx HBa.out.size (by simp; omega)); have HPx := Lib.hid hpx; clear hgx hpx)
            (try go_wp2_with fail)
            refine hK.out _ _ ?_ (fun hS' => ?_)
            · (try dsimp only); first | exact fun b o h => ((HBx.out.cell (p := ⟨b, o, none⟩) (show b < w1.heap.size by omega)).trans (HB1.out.cell (p := ⟨b, o, none⟩) h)) | exact fun b o h => ((HBa.out.cell (p := ⟨b, o, none⟩) (show b < w1.heap.size by omega)).trans (HB1.out.cell (p := ⟨b, o, none⟩) h))
            clear hS hK K
            have hS := hS'
            clear hS'
            (try simp only [Act.put, List.setIfInBounds_toArray, List.set_cons_zero, List.set_cons_succ])
            refine row_free (v := ?_) (by rfl) ?_ ?_
            rotate_left 1
            focus (intro w hSw; (try dsimp only at hSw); go_simp; (try with_reducible rfl))
            (try simp only [Act.put, List.setIfInBounds_toArray, List.set_cons_zero, List.set_cons_succ])
            refine row_done ?_
            clear hS
            obtain ⟨px, hfx⟩ := HPx.out
            skip
            have hcx := hfx.c2
            have HFx := Lib.hid hfx
            have hcl := hfx.lt
            clear hfx
            go_wp2_with fail
            refine plan_region' (S := (fun w' => (∀ b o, w'.cell? ⟨b, o, none⟩ = wx.cell? ⟨b, o, none⟩) ∧ Below wx.heap.size wx w')) [(0, true), (2, true), (3, true), (4, true), (5, true), (1, false), (6, true), (7, true), (8, true), (10, true), (9, false), (11, false), (12, true), (13, true)] (by kernel_rfl) (by kernel_rfl) (fun _ _ d _ _ h => by cases d <;> exact h) (⟨fun _ _ => rfl, (Below.refl _ _).drew⟩) (fun hS => ?_)
            simp only [picked, List.getElem?_cons_succ, List.getElem?_cons_zero]
            refine row_free (v := ?_) (by rfl) ?_ ?_
            rotate_left 1
            focus (intro w hSw; (try dsimp only at hSw); go_simp; (try with_reducible rfl))
            (try simp only [Act.put, List.setIfInBounds_toArray, List.set_cons_zero, List.set_cons_succ])
            refine row_free (v := ?_) (by rfl) ?_ ?_
            rotate_left 1
            focus (intro w hSw; (try dsimp only at hSw); go_simp; (try with_reducible rfl))
            (try simp only [Act.put, List.setIfInBounds_toArray, List.set_cons_zero, List.set_cons_succ])
            refine row_free (v := ?_) (by rfl) ?_ ?_
            rotate_left 1
            focus (intro w hSw; (try dsimp only at hSw); go_simp; (try with_reducible rfl))
            (try simp only [Act.put, List.setIfInBounds_toArray, List.set_cons_zero, List.set_cons_succ])
            refine row_free (v := ?_) (by rfl) ?_ ?_
            rotate_left 1
            focus (intro w hSw; (try dsimp only at hSw); go_simp; (try with_reducible rfl))
            (try simp only [Act.put, List.setIfInBounds_toArray, List.set_cons_zero, List.set_cons_succ])
            refine row_free (v := ?_) (by rfl) ?_ ?_
            rotate_left 1
            focus (intro w hSw; (try dsimp only at hSw); go_simp; (try with_reducible rfl))
            (try simp only [Act.put, List.setIfInBounds_toArray, List.set_cons_zero, List.set_cons_succ])
            refine row_call (by rfl) (fun K hK => ?_)
            go_simp
            (refine (HEr.out _ b5 r1 _ (HRx.out.below hS.2)).mono ?_; rintro e1 wa ⟨rfl, rfl⟩)
            (try go_wp2_with fail)
            refine hK.out _ _ ?_ (fun hS' => ?_)
            · (try dsimp only); first | exact hS | exact ⟨fun _ _ => rfl, below_drewN (Below.refl _ _) _⟩ | exact ⟨fun b o => hS.1 b o, below_drewN hS.2 _⟩
            clear hS hK K
            have hS := hS'
            clear hS'
            (try simp only [Act.put, List.setIfInBounds_toArray, List.set_cons_zero, List.set_cons_succ])
            refine row_free (v := ?_) (by rfl) ?_ ?_
            rotate_left 1
            focus (intro w hSw; (try dsimp only at hSw); go_simp; (try with_reducible rfl))
            (try simp only [Act.put, List.setIfInBounds_toArray, List.set_cons_zero, List.set_cons_succ])
            refine row_free (v := ?_) (by rfl) ?_ ?_
            rotate_left 1
            focus (intro w hSw; (try dsimp only at hSw); go_simp; (try with_reducible rfl))
            (try simp only [Act.put, List.setIfInBounds_toArray, List.set_cons_zero, List.set_cons_succ])
            refine row_free (v := ?_) (by rfl) ?_ ?_
            rotate_left 1
            focus (intro w hSw; (try dsimp only at hSw); go_simp; (try with_reducible rfl))
            (try simp only [Act.put, List.setIfInBounds_toArray, List.set_cons_zero, List.set_cons_succ])
            refine row_free (v := ?_) (by rfl) ?_ ?_
            rotate_left 1
            focus (intro w hSw; (try dsimp only at hSw); go_simp; (try with_reducible rfl))
            (try simp only [Act.put, List.setIfInBounds_toArray, List.set_cons_zero, List.set_cons_succ])
            refine row_call (by rfl) (fun K hK => ?_)
            go_simp
            (refine (HLf.out _ b5 r1 _ (HRx.out.below hS.2)).mono ?_; rintro e1 wa ⟨rfl, rfl⟩)
            (try go_wp2_with fail)
            refine hK.out _ _ ?_ (fun hS' => ?_)
            · (try dsimp only); first | exact hS | exact ⟨fun _ _ => rfl, below_drewN (Below.refl _ _) _⟩ | exact ⟨fun b o => hS.1 b o, below_drewN hS.2 _⟩
            clear hS hK K
            have hS := hS'
            clear hS'
            (try simp only [Act.put, List.setIfInBounds_toArray, List.set_cons_zero, List.set_cons_succ])
            refine row_call (by rfl) (fun K hK => ?_)
            go_simp
            (refine (HFl.out w2.heap.size _ L px r1 _ (HFx.out.below hS.2) HLL.out).mono ?_; rintro e1 wb ⟨rfl, nb, rfl⟩)
            (try go_wp2_with fail)
            refine hK.out _ _ ?_ (fun hS' => ?_)
            · (try dsimp only); first | exact hS | exact ⟨fun _ _ => rfl, below_drewN (Below.refl _ _) _⟩ | exact ⟨fun b o => hS.1 b o, below_drewN hS.2 _⟩
            clear hS hK K
            have hS := hS'
            clear hS'
            (try simp only [Act.put, List.setIfInBounds_toArray, List.set_cons_zero, List.set_cons_succ])
            refine row_free (v := ?_) (by rfl) ?_ ?_
            rotate_left 1
            focus (intro w hSw; (try dsimp only at hSw); go_simp; (try with_reducible rfl))
            (try simp only [Act.put, List.setIfInBounds_toArray, List.set_cons_zero, List.set_cons_succ])
            refine row_free (v := ?_) (by rfl) ?_ ?_
            rotate_left 1
            focus (intro w hSw; (try dsimp only at hSw); go_simp; (try with_reducible rfl))
            (try simp only [Act.put, List.setIfInBounds_toArray, List.set_cons_zero, List.set_cons_succ])
            refine row_done ?_
            have HSz := Lib.hid hS.2
            clear hS hcx
            go_wp2
            go_roundw
            case rel => exact ⟨k + 1, r1, by omega, by go_num, HRx.out.below HSz.out, ⟨px, HFx.out.below HSz.out⟩, HOx.out, HLx.out, HBx.out.trans (HSz.out.mono HBx.out.size)⟩
            case measure => simp [intOf]; omega
      · have HFinal := Lib.hid HBr.out
        rcases (show (k < len1 ∧ ¬ k < 40) ∨ ¬ k < len1 by omega) with ⟨hkN, hk40⟩ | hkN
        all_goals
          go_wp2_with fail
          refine (HKp.out a0 len0 cap0 g L 71 _ (BysAt.of_sl ((HS.out.below HB1.out).keep fun p u hp => (HBr.out.cell (World.block_lt_of_cell? _ _ hp)).trans hp) HLen.out) cur (by have := HRow.out; unfold RowB at this ⊢; rw [HBr.out.block g (Array.getElem?_eq_some_iff.1 this).1]; exact this) HCur.out.1 HCur.out.2.1 HCur.out.2.2 (by omega)).mono ?_
          rintro e1 wz ⟨rfl, nz, rfl⟩
          go_wp2
          go_ret
          exact ⟨rfl, below_drewN (HB1.out.trans (HBr.out.mono hww)) _⟩

set_option maxRecDepth 100000 in
theorem lifted (os : Os) (started : os.Started) (H : Type) (enc : TypeId × Value → H) :
    ReturnsInHanded {} Try.checked os 4 .any (Rows.bytesReadSpec.pre6 enc Try.prog Try.f4 Rows.bytesReadRow.domain false) (Rows.bytesReadSpec.post enc Try.prog Try.f4 false true false false) := by
  refine returnsInHanded_of_change (C := Try.checked) own started (by kernel_rfl) Try.func4
    (ChangeSpec.witness6 (enc := enc) (C := Try.checked) false ⟨#[], #[.slice none 0 0, .slice none 0 0], []⟩ 8 (by kernel_rfl) (by kernel_rfl) (by kernel_rfl) (by kernel_rfl)) ?_
  intro W base args ds gs before hval0 hW hcnd _
  have hval : ∀ (j : Nat) t v, Try.f4.params[j]? = some t → args[j]? = some v → Value.okWide Try.prog W .any base t v := hval0
  have hW' := hW
  obtain ⟨p, q, hA0, hV, rfl, hfz, hnd⟩ := hW
  have hA : DataW.TrodAll enc Try.prog W 0 (fun _ => true) true Try.f4.params.toList args.toList ds p := hA0
  rw [Try.params4] at hA hval
  obtain ⟨v0, vs0, d0, ds0, p0, q0, hargs, rfl, rfl, h0, r0⟩ := trodAll_cons hA
  obtain ⟨v1, vs1, d1, ds1, p1, q1, rfl, rfl, rfl, h1, r1⟩ := trodAll_cons r0
  obtain ⟨rfl, rfl, rfl⟩ := trodAll_nil r1
  obtain rfl : args = #[v0, v1] := by cases args; simp_all
  obtain ⟨rfl, rfl⟩ := trodVars_none hV
  obtain ⟨a0, len0, cap0, rfl⟩ := okWide_slice Try.underlying26 (hval 0 26 v0 rfl rfl)
  have k0 := h0
  have lt0 : ∀ x ∈ p0, x.block < W.heap.size := by obtain ⟨m, hm⟩ := k0; exact DataW.trod_lt m _ _ _ hm
  obtain ⟨z0, w0⟩ : ∃ zs, IsRow .u8 W a0 len0 cap0 zs := by
    obtain ⟨fuel, hf⟩ := h0
    rcases open_ints Try.underlying26 Try.underlying5 (by kernel_rfl) hf with ⟨hcs, _⟩ | ⟨x, l, c, zs, hcs, _, hl, hm, hz, _, hcell, hwz⟩
    · simp [Value.cells] at hcs
      obtain ⟨rfl, rfl, rfl⟩ := hcs
      exact ⟨[], .inl ⟨rfl, rfl, rfl, rfl⟩⟩
    · simp [Value.cells] at hcs
      obtain ⟨rfl, rfl, rfl⟩ := hcs
      exact ⟨zs, .inr ⟨_, rfl, hl, hm, by simpa using hz, hcell, hwz⟩⟩
  obtain ⟨a1, len1, cap1, rfl⟩ := okWide_slice Try.underlying42 (hval 1 42 v1 rfl rfl)
  have k1 := h1
  have lt1 : ∀ x ∈ p1, x.block < W.heap.size := by obtain ⟨m, hm⟩ := k1; exact DataW.trod_lt m _ _ _ hm
  obtain ⟨z1, w1⟩ : ∃ zs, IsRow .i64 W a1 len1 cap1 zs := by
    obtain ⟨fuel, hf⟩ := h1
    rcases open_ints Try.underlying42 Try.underlying3 (by kernel_rfl) hf with ⟨hcs, _⟩ | ⟨x, l, c, zs, hcs, _, hl, hm, hz, _, hcell, hwz⟩
    · simp [Value.cells] at hcs
      obtain ⟨rfl, rfl, rfl⟩ := hcs
      exact ⟨[], .inl ⟨rfl, rfl, rfl, rfl⟩⟩
    · simp [Value.cells] at hcs
      obtain ⟨rfl, rfl, rfl⟩ := hcs
      exact ⟨zs, .inr ⟨_, rfl, hl, hm, by simpa using hz, hcell, hwz⟩⟩
  clear hA0 hval0
  refine (walk a0 len0 cap0 z0 a1 len1 cap1 z1 W w0 w1).mono fun e W' ⟨he, bel⟩ => ?_
  subst he
  exact ⟨_, rfl, _, _, _, [], _, [], hW', trodAll_mk1 (shut_bool Try.underlying4 _), (trodAll_cons_mk (Below.trod laidOut (by kernel_rfl) (of_decide_eq_true (by kernel_rfl)) k0 bel lt0) (trodAll_cons_mk (Below.trod laidOut (by kernel_rfl) (of_decide_eq_true (by kernel_rfl)) k1 bel lt1) trodAll_mk0)), rfl, bel.frame _, fun h => by cases h⟩

theorem over : Rows.bytesReadRow.holds Try.pinned (OpenSpec.ofChange Rows.bytesReadSpec) :=
  OpenClaim.holds_of_wide 4 Try.f4 rfl rfl rfl rfl rfl rfl rfl ⟨rfl, rfl, rfl, rfl, rfl⟩ rfl rfl rfl rfl rfl (by kernel_rfl) Try.func4 (by kernel_rfl)
    (of_decide_eq_true (by kernel_rfl)) (by unfold Func.isWrapper; first | (rw [if_pos (by decide +kernel)]; kernel_rfl) | (rw [if_neg (by decide +kernel)]; exact ⟨rfl, rfl⟩))
    (fun os started H enc _ => lifted os started H enc)

end Go.Proofs.Ytigcpgkiankjpaa.bytesRead
namespace Go.Proofs.Ytigcpgkiankjpaa
theorem bytesRead_proved : Rows.BytesReadSaid := bytesRead.over
end Go.Proofs.Ytigcpgkiankjpaa
