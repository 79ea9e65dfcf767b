/- The document's Reader: what Count and Raw answer. -/
import Derived.Test.YtigcpgkiankjpaaByRef
import Derived.Deep.DeepCutAuto
namespace Go.Proofs.Ytigcpgkiankjpaa.Fx
open Go.ChangeShapes Go.WideShapes Go.ChangeAt Go.RowKit
set_option linter.unusedVariables false
set_option maxRecDepth 100000

/-- v[lo:hi]. -/
def slMid (sz : Nat) (v : Value) (lo hi : Nat) : Value := match v with
  | .slice A n c => sliced A lo hi c sz
  | _ => v

theorem IsSl.mid {α : Type} {enc : α → List Value} {w : World} {v : Value} {es : List α} (h : IsSl enc w v es) (sz lo hi : Nat) (hsz : ∀ a, (enc a).length = sz) (h0 : 0 < sz) (h1 : lo ≤ hi) (h2 : hi ≤ es.length) : IsSl enc w (slMid sz v lo hi) ((es.take hi).drop lo) := by
  have hm := (h.upto sz hi h2).since sz lo hsz h0 (by rw [List.length_take]; omega)
  obtain ⟨A, c, rfl, hA, hc, hat⟩ := h
  have e : slTo sz (.slice A es.length c) hi = .slice A hi c := by
    show Value.slice (if c = 0 then A else A.map (·.add (0 * sz))) (hi - 0) (c - 0) = _
    rw [Nat.sub_zero, Nat.sub_zero]
    congr 1
    split
    · rfl
    · cases A with
      | none => rfl
      | some a => simp [Addr.add]
  rw [e] at hm
  exact hm

@[go_sem high] theorem slMid_by (A : Option Addr) (n c : Nat) (l h : Int) (h0 : 0 ≤ l) (h1 : l ≤ h) (h2 : h ≤ c) (w : World) : (Instr.slice 26 (.slice A n c) (some (.int .i64 l)) (some (.int .i64 h)) none).run Try.prog w = .ok (slMid 1 (.slice A n c) l.toNat h.toNat) w := by
  rw [run_slice_lh _ _ _ _ _ (by kernel_rfl) _ _ _ _ h0 h1 h2]
  rw [show Try.prog.elem 26 = 5 by kernel_rfl, Try.sizeOf5]
  rfl

theorem grown_drewN {w w' : World} {n : Nat} {row : Option Nat} (h : (w.drewN n).grownBy w' row) : w.grownBy w' row := ⟨h.os, h.tape, h.output, h.size, h.block⟩

theorem Rd.int_zero {r : Rd} (h : r.int.2.e ≠ 0) : r.int.1 = 0 := by
  rw [Rd.int_eq] at h ⊢
  split
  · rfl
  · rename_i h1
    rw [if_neg h1] at h
    split
    · rfl
    · rename_i h2
      rw [if_neg h2] at h
      split
      · rfl
      · rename_i h3
        rw [if_neg h3] at h
        exact absurd rfl h

theorem fcount_any (c : Nat) (v : Value) (L : List Int) (p : Nat) (r : Rd) (q : Int) (w : World) (h : RfAt w c v L p r) (hok : ByOk L) (hL : L.length ≤ 1000000) :
    Calls Try.prog 24 #[.pointer (some ⟨c, 0, none⟩), .int .i64 q] w (RfEnd w c v L (r.count q)) := by
  have HI := Lib.hid (fint_any c v L p r w h hok hL)
  have HC := Lib.hid (show r.count q = if r.int.2.e = 0 ∧ (r.int.1 < 0 ∨ q < r.int.1) then (0, ⟨[], 4⟩) else r.int from rfl)
  have HF := Lib.hid (ffail_any c v L)
  have HZ := Lib.hid (fun h => Rd.int_zero (r := r) h)
  obtain ⟨Q, hQ⟩ : ∃ Q, r.count q = Q := ⟨_, rfl⟩
  rw [hQ] at HC ⊢
  obtain ⟨⟨n, r1⟩, hI⟩ : ∃ I, r.int = I := ⟨_, rfl⟩
  rw [hI] at HC HI HZ
  simp only [] at HC HZ
  clear hQ hI h hok hL
  go_enter Try.func24, Try.ntmps24
  go_wp2_with fail
  refine HI.out.mono ?_
  rintro e w1 ⟨rfl, ⟨p1, h1⟩, hg1⟩
  have H1 := Lib.hid h1
  have HG1 := Lib.hid hg1
  have hc2 := h1.c2
  clear h1 hg1
  obtain ⟨er, her⟩ : ∃ er, r1.e = er := ⟨_, rfl⟩
  rw [her] at HC HZ
  rw [show (n, r1).2.e = er from her] at hc2
  by_cases he : er = 0
  · subst he
    by_cases hbad : n < 0 ∨ q < n
    · have HQ := Lib.hid (show Q = (0, ⟨[], 4⟩) from by rw [HC.out, if_pos ⟨rfl, hbad⟩])
      clear HC HZ
      by_cases hn : n < 0
      · go_wp2_with fail
        refine (HF.out p1 r1 4 _ H1.out her (by omega)).mono ?_
        rintro e w3 ⟨rfl, h3, hg3⟩
        have H3 := Lib.hid (And.intro h3 (grown_trans HG1.out hg3))
        have hc3 := h3.c2
        clear h3 hg3
        go_wp2
        go_ret
        exact ⟨by rw [HQ.out]; rfl, ⟨_, by rw [HQ.out]; exact H3.out.1⟩, H3.out.2⟩
      · have hq := hbad.resolve_left hn
        clear hbad
        go_wp2_with fail
        refine (HF.out p1 r1 4 _ H1.out her (by omega)).mono ?_
        rintro e w3 ⟨rfl, h3, hg3⟩
        have H3 := Lib.hid (And.intro h3 (grown_trans HG1.out hg3))
        have hc3 := h3.c2
        clear h3 hg3
        go_wp2
        go_ret
        exact ⟨by rw [HQ.out]; rfl, ⟨_, by rw [HQ.out]; exact H3.out.1⟩, H3.out.2⟩
    · have HQ := Lib.hid (show Q = (n, r1) from by rw [HC.out, if_neg (fun h => hbad h.2)])
      have hn : ¬ n < 0 := fun h => hbad (.inl h)
      have hq : ¬ q < n := fun h => hbad (.inr h)
      clear HC HZ hbad
      go_wp2
      go_ret
      exact ⟨by rw [HQ.out]; rfl, ⟨_, by rw [HQ.out]; exact H1.out⟩, HG1.out⟩
  · have HQ := Lib.hid (show Q = (0, r1) from by rw [HC.out, if_neg (fun h => he h.1), HZ.out he])
    clear HC HZ
    go_wp2
    go_ret
    exact ⟨by rw [HQ.out]; rfl, ⟨_, by rw [HQ.out]; exact H1.out⟩, HG1.out⟩

/-- What the document's Raw leaves. -/
def RfRaw (w : World) (c : Nat) (v : Value) (L : List Int) (q : List Int × Rd) (e : Ending) (w' : World) : Prop := (∃ u, e = .returned u ∧ IsSl byC w' u q.1) ∧ (∃ p, RfAt w' c v L p q.2) ∧ w.grownBy w' (some c)

set_option maxHeartbeats 1000000 in
theorem fraw_any (c : Nat) (v : Value) (L : List Int) (p : Nat) (r : Rd) (w : World) (h : RfAt w c v L p r) (hok : ByOk L) (hL : L.length ≤ 1000000) :
    Calls Try.prog 22 #[.pointer (some ⟨c, 0, none⟩)] w (RfRaw w c v L r.raw) := by
  have HI := Lib.hid (fint_any c v L p r w h hok hL)
  have HC := Lib.hid (show r.raw = if r.int.2.e ≠ 0 then ([], r.int.2)
    else if r.int.1 < 0 then ([], ⟨[], 4⟩)
    else if (r.int.2.l.length : Int) < r.int.1 then ([], ⟨[], 5⟩)
    else (r.int.2.l.take r.int.1.toNat, ⟨r.int.2.l.drop r.int.1.toNat, 0⟩) from rfl)
  have HF := Lib.hid (ffail_any c v L)
  obtain ⟨Q, hQ⟩ : ∃ Q, r.raw = Q := ⟨_, rfl⟩
  rw [hQ] at HC ⊢
  obtain ⟨⟨n, r1⟩, hI⟩ : ∃ I, r.int = I := ⟨_, rfl⟩
  rw [hI] at HC HI
  simp only [] at HC
  have HL := Lib.hid hL
  clear hQ hI h hok
  go_enter Try.func22, Try.ntmps22
  go_wp2_with fail
  refine HI.out.mono ?_
  rintro e w1 ⟨rfl, ⟨p1, h1⟩, hg1⟩
  have H1 := Lib.hid h1
  have HG1 := Lib.hid hg1
  have hc0 := h1.c0
  have hc1 := h1.c1
  have hc2 := h1.c2
  have hf1 := h1.f1
  have hyes := h1.yes
  have HSl := Lib.hid h1.sl
  obtain ⟨A, kc, rfl, hA, hkc, -⟩ := h1.sl
  clear h1 hg1
  obtain ⟨er, her⟩ : ∃ er, r1.e = er := ⟨_, rfl⟩
  rw [her] at HC
  rw [show (n, r1).2.e = er from her] at hc2 hyes
  by_cases he : er = 0
  · subst he
    obtain ⟨hp1, hl1⟩ := hyes rfl
    have hl1 : r1.l = L.drop p1 := hl1
    have HLn := Lib.hid (show (r1.l.length : Int) = (L.length : Int) - p1 from by rw [hl1, List.length_drop]; omega)
    obtain ⟨M, hM⟩ : ∃ M, L.length = M := ⟨_, rfl⟩
    rw [hM] at hc0 hp1 HLn hkc hL
    have HM := Lib.hid hM
    clear hyes hM hA
    by_cases hn : n < 0
    · have HQ := Lib.hid (show Q = ([], ⟨[], 4⟩) from by rw [HC.out, if_neg (by simp), if_pos hn])
      clear HC
      go_wp2_with fail
      refine (HF.out p1 r1 4 _ H1.out her (by omega)).mono ?_
      rintro e w3 ⟨rfl, h3, hg3⟩
      have H3 := Lib.hid (And.intro h3 (grown_trans HG1.out hg3))
      have hc3 := h3.c2
      clear h3 hg3
      go_wp2
      go_ret
      exact ⟨⟨_, rfl, by rw [HQ.out]; exact IsSl.nil _ _⟩, ⟨_, by rw [HQ.out]; exact H3.out.1⟩, H3.out.2⟩
    · by_cases hq : (r1.l.length : Int) < n
      · have HQ := Lib.hid (show Q = ([], ⟨[], 5⟩) from by rw [HC.out, if_neg (by simp), if_neg hn, if_pos hq])
        have hqq : (M : Int) - (p1 : Int) < n := by have := HLn.out; omega
        clear HC hq
        go_wp2_with fail
        go_quiet (fail)
        go_wp2_with fail
        refine (HF.out p1 r1 5 _ (H1.out.below (below_drewN (Below.refl _ _) _)) her (by omega)).mono ?_
        rintro e w3 ⟨rfl, h3, hg3⟩
        have H3 := Lib.hid (And.intro h3 (grown_trans HG1.out (grown_drewN hg3)))
        have hc3 := h3.c2
        clear h3 hg3
        go_wp2
        go_ret
        exact ⟨⟨_, rfl, by rw [HQ.out]; exact IsSl.nil _ _⟩, ⟨_, by rw [HQ.out]; exact H3.out.1⟩, H3.out.2⟩
      · have HQ := Lib.hid (show Q = (r1.l.take n.toNat, ⟨r1.l.drop n.toNat, 0⟩) from by rw [HC.out, if_neg (by simp), if_neg hn, if_neg hq])
        clear HC
        obtain ⟨m, rfl⟩ := Int.eq_ofNat_of_zero_le (Int.not_lt.1 hn)
        rw [Int.toNat_natCast] at HQ
        have hm : (m : Int) ≤ (M : Int) - (p1 : Int) := by have := HLn.out; omega
        have hqq : ¬ ((M : Int) - (p1 : Int) < (m : Int)) := by omega
        have Hl1 := Lib.hid hl1
        clear hq hl1 hn
        go_wp2_with fail
        go_quiet (fail)
        go_upto_region 10 with fail
        have hmv := (H1.out.below (below_drewN (Below.refl _ _) nq)).move her m (by rw [HM.out]; omega) ((p1 : Int) + (m : Int)) (by omega)
        have hw0 : ((w1.drewN nq).setCell ⟨c, 1, none⟩ (.int .i64 ((p1 : Int) + (m : Int)))).cell? ⟨c, 0, none⟩ = some (.slice A M kc) := by have := hmv.1.c0; rw [HM.out] at this; exact this
        have hw1 : ((w1.drewN nq).setCell ⟨c, 1, none⟩ (.int .i64 ((p1 : Int) + (m : Int)))).cell? ⟨c, 1, none⟩ = some (.int .i64 ((p1 : Int) + (m : Int))) := by have := hmv.1.c1; rw [show ((p1 + m : Nat) : Int) = (p1 : Int) + m by omega] at this; exact this
        generalize (w1.drewN nq).setCell ⟨c, 1, none⟩ (.int .i64 ((p1 : Int) + (m : Int))) = W at *
        have HMv := Lib.hid hmv
        have hcl : c < W.heap.size := hmv.1.lt
        have HX := Lib.hid (show (L.take (p1 + m)).drop p1 = r1.l.take m from by rw [Hl1.out, List.drop_take, Nat.add_sub_cancel_left])
        have HSW := Lib.hid hmv.1.sl
        have hk1 : (p1 : Int) + (m : Int) ≤ (kc : Int) := by omega
        have hk2 : (p1 : Int) ≤ (p1 : Int) + (m : Int) := by omega
        have hk3 : ((p1 : Int) + (m : Int)).toNat = p1 + m := by omega
        have hwp : IntKind.i64.wrap (p1 : Int) = p1 := by rw [IntKind.wrap_i64]; omega
        have hwq : (0 : Int) ≤ (p1 : Int) + (m : Int) := by omega
        have hwr : (0 : Int) ≤ (p1 : Int) := by omega
        have hmid := HSW.out.mid 1 p1 (p1 + m) byC_len (by omega) (by omega) (by rw [HM.out]; omega)
        rw [HM.out] at hmid
        have HU := Lib.hid (show IsSl byC W (slMid 1 (.slice A M kc) p1 (p1 + m)) (r1.l.take m) from by rw [← HX.out]; exact hmid)
        clear hmv hc0 hc1 hc2 hf1 hmid
        refine plan_region' (S := (fun w' => (∀ b o, b < (W).heap.size → w'.cell? ⟨b, o, none⟩ = (W).cell? ⟨b, o, none⟩) ∧ (∀ b o, b < (W).heap.size → w'.frozen? ⟨b, o, none⟩ = (W).frozen? ⟨b, o, none⟩) ∧ Below (W).heap.size (W) w')) [(0, true), (1, true), (2, true), (3, true), (4, true), (5, true), (6, true), (7, true), (8, true), (9, true), (10, true), (11, true), (12, true), (13, true), (14, true), (15, false), (16, true)] (by kernel_rfl) (by kernel_rfl) (fun _ _ d _ _ h => by cases d <;> exact h) (keepW0 _) (fun hS => ?_)
        simp only [picked, List.getElem?_cons_succ, List.getElem?_cons_zero]
        refine row_free (v := ?_) (by rfl) ?_ ?_
        rotate_left 1
        focus (intro w hSw; (try dsimp only at hSw); go_simp; (try with_reducible rfl))
        (try simp only [Act.put, List.setIfInBounds_toArray, List.set_cons_zero, List.set_cons_succ])
        refine row_free (v := ?_) (by rfl) ?_ ?_
        rotate_left 1
        focus (intro w hSw; (try dsimp only at hSw); go_simp; (try with_reducible rfl))
        (try simp only [Act.put, List.setIfInBounds_toArray, List.set_cons_zero, List.set_cons_succ])
        refine row_free (v := ?_) (by rfl) ?_ ?_
        rotate_left 1
        focus (intro w hSw; (try dsimp only at hSw); go_simp; (try with_reducible rfl))
        (try simp only [Act.put, List.setIfInBounds_toArray, List.set_cons_zero, List.set_cons_succ])
        refine row_free (v := ?_) (by rfl) ?_ ?_
        rotate_left 1
        focus (intro w hSw; (try dsimp only at hSw); go_simp; (try with_reducible rfl))
        (try simp only [Act.put, List.setIfInBounds_toArray, List.set_cons_zero, List.set_cons_succ])
        refine row_free (v := ?_) (by rfl) ?_ ?_
        rotate_left 1
        focus (intro w hSw; (try dsimp only at hSw); go_simp; (try with_reducible rfl))
        (try simp only [Act.put, List.setIfInBounds_toArray, List.set_cons_zero, List.set_cons_succ])
        refine row_free (v := ?_) (by rfl) ?_ ?_
        rotate_left 1
        focus (intro w hSw; (try dsimp only at hSw); go_simp; (try with_reducible rfl))
        (try simp only [Act.put, List.setIfInBounds_toArray, List.set_cons_zero, List.set_cons_succ])
        refine row_free (v := ?_) (by rfl) ?_ ?_
        rotate_left 1
        focus (intro w hSw; (try dsimp only at hSw); go_simp; (try with_reducible rfl))
        (try simp only [Act.put, List.setIfInBounds_toArray, List.set_cons_zero, List.set_cons_succ])
        refine row_free (v := ?_) (by rfl) ?_ ?_
        rotate_left 1
        focus (intro w hSw; (try dsimp only at hSw); go_simp; (try with_reducible rfl))
        (try simp only [Act.put, List.setIfInBounds_toArray, List.set_cons_zero, List.set_cons_succ])
        refine row_free (v := ?_) (by rfl) ?_ ?_
        rotate_left 1
        focus (intro w hSw; (try dsimp only at hSw); go_simp; (try with_reducible rfl))
        (try simp only [Act.put, List.setIfInBounds_toArray, List.set_cons_zero, List.set_cons_succ])
        refine row_free (v := ?_) (by rfl) ?_ ?_
        rotate_left 1
        focus (intro w hSw; (try dsimp only at hSw); go_simp; (try with_reducible rfl))
        (try simp only [Act.put, List.setIfInBounds_toArray, List.set_cons_zero, List.set_cons_succ])
        refine row_free (v := ?_) (by rfl) ?_ ?_
        rotate_left 1
        focus (intro w hSw; (try dsimp only at hSw); go_simp; (try with_reducible rfl))
        (try simp only [Act.put, List.setIfInBounds_toArray, List.set_cons_zero, List.set_cons_succ])
        refine row_free (v := ?_) (by rfl) ?_ ?_
        rotate_left 1
        focus (intro w hSw; (try dsimp only at hSw); go_simp; (try with_reducible rfl))
        (try simp only [Act.put, List.setIfInBounds_toArray, List.set_cons_zero, List.set_cons_succ])
        refine row_free (v := ?_) (by rfl) ?_ ?_
        rotate_left 1
        focus (intro w hSw; (try dsimp only at hSw); go_simp; (try with_reducible rfl))
        (try simp only [Act.put, List.setIfInBounds_toArray, List.set_cons_zero, List.set_cons_succ])
        refine row_free (v := ?_) (by rfl) ?_ ?_
        rotate_left 1
        focus (intro w hSw; (try dsimp only at hSw); go_simp; (try with_reducible rfl))
        (try simp only [Act.put, List.setIfInBounds_toArray, List.set_cons_zero, List.set_cons_succ])
        refine row_free (v := ?_) (by rfl) ?_ ?_
        rotate_left 1
        focus (intro w hSw; (try dsimp only at hSw); go_simp; (try with_reducible rfl))
        (try simp only [Act.put, List.setIfInBounds_toArray, List.set_cons_zero, List.set_cons_succ])
        refine row_call (by rfl) (fun K hK => ?_)
        (refine app_by (.const (.slice none 0 0)) (.tmp 60) (by rfl) W.heap.size _ [] (by rfl) (ownB.nil _ _) (slMid 1 (.slice A M kc) p1 (p1 + m)) (r1.l.take m) (by first | rfl | simp [Act.eval]) (HU.out.below hS.2.2) (by have := HL.out; have := HLn.out; rw [List.length_take]; simp; omega) hS.2.2.size ?_; intro v1 w6 ho6 hb6 hg6)
        simp only [Act.put, List.setIfInBounds_toArray, List.set_cons_zero, List.set_cons_succ]
        refine hK.out _ _ ?_ (fun hS' => ?_)
        · (try dsimp only); first | exact keepW (by assumption) (by assumption) | exact keepB (by assumption) (by assumption) | exact keepA (by assumption) | assumption
        clear hS hK K
        have hS := hS'
        clear hS'
        (try simp only [Act.put, List.setIfInBounds_toArray, List.set_cons_zero, List.set_cons_succ])
        refine row_free (v := ?_) (by rfl) ?_ ?_
        rotate_left 1
        focus (intro w hSw; (try dsimp only at hSw); go_simp; (try with_reducible rfl))
        (try simp only [Act.put, List.setIfInBounds_toArray, List.set_cons_zero, List.set_cons_succ])
        refine row_done ?_
        have HO6 := Lib.hid ho6
        have HB6 := Lib.hid (hS.2.2)
        clear hS hb6 hg6 ho6
        go_wp2
        go_ret
        exact ⟨⟨_, rfl, by rw [HQ.out]; simpa using HO6.out.sl⟩, ⟨_, by rw [HQ.out]; exact HMv.out.1.below HB6.out⟩, grown_trans HG1.out (grown_trans (grown_drewN HMv.out.2) (grown_below HB6.out))⟩
  · have HQ := Lib.hid (show Q = ([], r1) from by rw [HC.out, if_pos he])
    clear HC hyes
    go_wp2
    go_ret
    exact ⟨⟨_, rfl, by rw [HQ.out]; exact IsSl.nil _ _⟩, ⟨_, by rw [HQ.out]; exact H1.out⟩, HG1.out⟩

end Go.Proofs.Ytigcpgkiankjpaa.Fx
