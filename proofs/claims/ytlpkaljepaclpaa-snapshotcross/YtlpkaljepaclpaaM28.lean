/- Package bytes' Reader: the contracts of Read, Int, Count and Raw (of a nil one, too). -/
import Derived.Test.YtlpkaljepaclpaaM27
namespace Go.Proofs.Ytlpkaljepaclpaa.Fx
open Go.ChangeShapes Go.WideShapes Go.ChangeAt Go.RowKit
set_option linter.unusedVariables false
set_option maxRecDepth 100000

theorem clone_by (v : Value) (l : List Int) (w : World) (hv : IsSl byC w v l) (hn : l.length ≤ 1000000) :
    Calls Try.prog 70 #[v] w (RetBy l w) := by
  have HV := Lib.hid hv
  obtain ⟨A, c, rfl, hA, hcap, hat⟩ := hv
  have HA := Lib.hid hA
  cases A with
  | none =>
    obtain ⟨h0, rfl⟩ := hA rfl
    obtain rfl : l = [] := List.eq_nil_of_length_eq_zero h0
    clear hat HV HA hA hcap h0
    simp only [List.length_nil]
    go_enter Try.func70, Try.ntmps70
    go_wp2
    go_ret
    exact ⟨_, rfl, ownB.nil _ _, Below.refl _ _⟩
  | some a =>
    have Hcap := Lib.hid hcap
    clear hat hA hcap
    go_enter Try.func70, Try.ntmps70
    go_wp2_with (at_builtin; go_must (refine appL_by (by rfl) (.tmp 5) (.tmp 6) (by rfl) w.heap.size _ [] (by rfl) (by first | exact World.ownsRow_made w #[] 0 (Nat.le_refl _) (by unfold maxLen; omega) (by simp)) _ l (by rfl) (HV.out.keep fun p u hp => by rw [World.cell?_alloc_lt _ _ _ (World.block_lt_of_cell? _ _ hp)]; exact hp) (by simp; omega) (by simp) ?_))
    intro v' w1 ho hb hg
    have HO := Lib.hid (show ownB w.heap.size w1 v' l from by simpa using ho)
    have HB := Lib.hid ((Below.refl _ w).alloc (Nat.le_refl _) _ |>.trans hb)
    clear ho hb hg
    go_wp2
    go_ret
    exact ⟨_, rfl, HO.out, HB.out⟩

/-- Read: a Reader of its own. -/
theorem read_any (v : Value) (l : List Int) (w : World) (hv : IsSl byC w v l) (hn : l.length ≤ 1000000) :
    Calls Try.prog 45 #[v] w fun e w' => ∃ b, e = .returned (.pointer (some ⟨b, 0, none⟩)) ∧ w.heap.size ≤ b ∧ b < w'.heap.size ∧ (∀ S : Nat → Prop, S b → (∀ k, S k → k < w.heap.size ∨ b ≤ k) → RdAt S w' b ⟨l, 0⟩) ∧ Below w.heap.size w w' := by
  have HC := Lib.hid (clone_by v l w hv hn)
  obtain ⟨A, c, rfl, -⟩ := hv
  go_enter Try.func45, Try.ntmps45
  go_wp2_with fail
  refine HC.out.mono ?_
  rintro e w1 ⟨v1, rfl, ho, hb⟩
  have HO := Lib.hid ho
  have HB := Lib.hid hb
  obtain ⟨A1, c1, rfl, -⟩ := ho.sl
  clear ho hb
  go_wp2
  go_ret
  have hs := HO.out.sl
  refine ⟨_, rfl, HB.out.size, by simp, fun S hS hK => ⟨hS, by simp, by rw [World.cell?_alloc_new]; rfl, World.frozen?_alloc_new _ _ _ _, World.frozen?_alloc_new _ _ _ _, _, by rw [World.cell?_alloc_new]; rfl, hs.keep fun p u hp => by rw [World.cell?_alloc_lt _ _ _ (World.block_lt_of_cell? _ _ hp)]; exact hp, fun a n c hv hs => ?_⟩, HB.out.alloc HB.out.size _⟩
  have h1 := HO.out.lt a.block (by rw [hv]; simp [Value.ownBlock])
  have h2 := hK _ hs
  omega

theorem Rd.int_eq (r : Rd) : r.int = if r.e ≠ 0 then (0, r)
  else if nlen r.l = 0 then (0, ⟨[], 5⟩)
  else if 9 < nlen r.l ∨ (1 < nlen r.l ∧ gi r.l (nlen r.l - 1) = 0) then (0, ⟨[], 4⟩)
  else (zag (numV (r.l.take (nlen r.l))), ⟨r.l.drop (nlen r.l), 0⟩) := rfl

/-- What a call of a Reader's leaves. -/
def RdEnd (S : Nat → Prop) (w : World) (b : Nat) (q : Int × Rd) (e : Ending) (w' : World) : Prop := e = .returned (.int .i64 q.1) ∧ RdAt S w' b q.2 ∧ w.grownBy w' (some b)

theorem ByOk.take {l : List Int} (h : ByOk l) (n : Nat) : ByOk (l.take n) := fun x hx => h x (List.mem_of_mem_take hx)
theorem ByOk.drop {l : List Int} (h : ByOk l) (n : Nat) : ByOk (l.drop n) := fun x hx => h x (List.mem_of_mem_drop hx)

set_option maxHeartbeats 1000000 in
theorem rint_any (S : Nat → Prop) (b : Nat) (r : Rd) (w : World) (h : RdAt S w b r) (hok : ByOk r.l) (hl : r.l.length ≤ 10000000) :
    Calls Try.prog 48 #[.pointer (some ⟨b, 0, none⟩)] w (RdEnd S w b r.int) := by
  have HR := Lib.hid h
  have HE := Lib.hid (rerr_any S b r w h)
  obtain ⟨s, hs, hsl⟩ := h.sl
  have HN := Lib.hid (nlen_by s r.l w hsl.1 (by omega))
  have HF := Lib.hid (fun q => rfail_any S b r q w h)
  have HT := Lib.hid (fun n hn => rtake_any S b n r w h hn (by omega))
  have hle := nlen_le r.l
  have HS := Lib.hid hsl.1
  have Hok := Lib.hid hok
  obtain ⟨⟨A, c, rfl, -⟩, -⟩ := hsl
  have HD := Lib.hid (Rd.int_eq r)
  obtain ⟨Q, hQ⟩ : ∃ Q, r.int = Q := ⟨_, rfl⟩
  rw [hQ] at HD ⊢
  obtain ⟨L, hL⟩ : ∃ L, r.l.length = L := ⟨_, rfl⟩
  rw [hL] at hs hl hle HN
  obtain ⟨n, hn⟩ : ∃ n, nlen r.l = n := ⟨_, rfl⟩
  rw [hn] at HD HN hle
  have HL := Lib.hid hL
  obtain ⟨er, her⟩ : ∃ er, r.e = er := ⟨_, rfl⟩
  rw [her] at HD HE
  have Her := Lib.hid her
  clear h hok hQ hL hn her
  by_cases he : er = 0
  · subst he
    by_cases h0 : n = 0
    · subst h0
      have HQ := Lib.hid (show Q = (0, ⟨[], 5⟩) from by rw [HD.out, if_neg (by simp), if_pos rfl])
      clear HD
      go_enter Try.func48, Try.ntmps48
      go_wp2_with fail
      refine HE.out.mono ?_
      rintro e w1 ⟨rfl, rfl⟩
      go_wp2_with fail
      refine HN.out.mono ?_
      rintro e w1 ⟨rfl, rfl⟩
      go_wp2_with fail
      refine (HF.out 5).mono ?_
      rintro e w1 ⟨rfl, h1, h2⟩
      have H1 := Lib.hid (And.intro h1 h2)
      clear h1 h2
      go_wp2
      go_ret
      refine ⟨by rw [HQ.out]; rfl, by rw [HQ.out]; exact H1.out.1, H1.out.2⟩
    · by_cases hbad : 9 < n ∨ (1 < n ∧ gi r.l (n - 1) = 0)
      · have HQ := Lib.hid (show Q = (0, ⟨[], 4⟩) from by rw [HD.out, if_neg (by simp), if_neg h0, if_pos hbad])
        clear HD
        have hn0 : ¬ (n : Int) = 0 := by omega
        by_cases h9 : 9 < n
        · have h9' : (9 : Int) < (n : Int) := by omega
          clear hbad
          go_enter Try.func48, Try.ntmps48
          go_wp2_with fail
          refine HE.out.mono ?_
          rintro e w1 ⟨rfl, rfl⟩
          go_wp2_with fail
          refine HN.out.mono ?_
          rintro e w1 ⟨rfl, rfl⟩
          go_wp2_with fail
          refine (HF.out 4).mono ?_
          rintro e w1 ⟨rfl, h1, h2⟩
          have H1 := Lib.hid (And.intro h1 h2)
          clear h1 h2
          go_wp2
          go_ret
          refine ⟨by rw [HQ.out]; rfl, by rw [HQ.out]; exact H1.out.1, H1.out.2⟩
        · obtain ⟨h1n, hg0⟩ : 1 < n ∧ gi r.l (n - 1) = 0 := hbad.resolve_left h9
          have h9' : ¬ (9 : Int) < (n : Int) := by omega
          have h1n' : (1 : Int) < (n : Int) := by omega
          obtain ⟨x, hx⟩ := getE r.l (n - 1) L HL.out (by omega)
          have hx0 : x = 0 := by rw [← hg0]; simp [gi, List.getD_eq_getElem?_getD, hx]
          subst hx0
          obtain ⟨b', off, rfl, hc⟩ := (show IsSl byC w (.slice A r.l.length c) r.l from HS.out).by hx
          clear hx hbad hg0
          obtain ⟨m, rfl⟩ : ∃ m, n = m + 1 := ⟨n - 1, by omega⟩
          rw [Nat.add_sub_cancel] at hc
          go_enter Try.func48, Try.ntmps48
          go_wp2_with fail
          refine HE.out.mono ?_
          rintro e w1 ⟨rfl, rfl⟩
          go_wp2_with fail
          refine HN.out.mono ?_
          rintro e w1 ⟨rfl, rfl⟩
          go_wp2_with fail
          refine (HF.out 4).mono ?_
          rintro e w1 ⟨rfl, h1, h2⟩
          have H1 := Lib.hid (And.intro h1 h2)
          clear h1 h2
          go_wp2
          go_ret
          refine ⟨by rw [HQ.out]; rfl, by rw [HQ.out]; exact H1.out.1, H1.out.2⟩
      · have HQ := Lib.hid (show Q = (zag (numV (r.l.take n)), ⟨r.l.drop n, 0⟩) from by rw [HD.out, if_neg (by simp), if_neg h0, if_neg hbad])
        clear HD
        have hn0 : ¬ (n : Int) = 0 := by omega
        have h9 : ¬ 9 < n := fun h => hbad (.inl h)
        have h9' : ¬ (9 : Int) < (n : Int) := by omega
        obtain ⟨m, rfl⟩ : ∃ m, n = m + 1 := ⟨n - 1, by omega⟩
        obtain ⟨x, hx⟩ := getE r.l m L HL.out (by omega)
        obtain ⟨b', off, rfl, hc⟩ := (show IsSl byC w (.slice A r.l.length c) r.l from HS.out).by hx
        have hT := HT.out (m + 1) (by rw [HL.out]; exact hle)
        have HT2 := Lib.hid hT
        clear hT HT
        by_cases h1n : 1 < m + 1
        · have h1n' : (1 : Int) < ((m + 1 : Nat) : Int) := by omega
          have hx0 : ¬ x = 0 := fun h => hbad (.inr ⟨h1n, by rw [← h]; simp [gi, List.getD_eq_getElem?_getD, hx]⟩)
          have d9 : decide ((9 : Int) < (m : Int) + 1) = false := decide_eq_false (by omega)
          have dx : (x == 0) = false := by simpa using hx0
          clear hx hbad
          go_enter Try.func48, Try.ntmps48
          go_wp2_with fail
          refine HE.out.mono ?_
          rintro e w1 ⟨rfl, rfl⟩
          go_wp2_with fail
          refine HN.out.mono ?_
          rintro e w1 ⟨rfl, rfl⟩
          go_wp2_with fail
          refine HT2.out.mono ?_
          rintro e w1 ⟨⟨v1, rfl, hv1⟩, h1, h2⟩
          have H1 := Lib.hid (And.intro h1 h2)
          have HV1 := Lib.hid hv1
          clear h1 h2 hv1
          go_wp2_with fail
          refine (number_by v1 (r.l.take (m + 1)) _ HV1.out.1 (by rw [List.length_take]; omega) (Hok.out.take _)).mono ?_
          rintro e w2 ⟨rfl, rfl⟩
          go_wp2
          go_ret
          refine ⟨by rw [HQ.out]; rfl, by rw [HQ.out]; have := H1.out.1; rw [Her.out] at this; exact this, H1.out.2⟩
        · have h1n' : ¬ (1 : Int) < ((m + 1 : Nat) : Int) := by omega
          have d9 : decide ((9 : Int) < (m : Int) + 1) = false := decide_eq_false (by omega)
          have d1 : decide ((1 : Int) < (m : Int) + 1) = false := decide_eq_false (by omega)
          obtain rfl : m = 0 := by omega
          clear hx hbad
          go_enter Try.func48, Try.ntmps48
          go_wp2_with fail
          refine HE.out.mono ?_
          rintro e w1 ⟨rfl, rfl⟩
          go_wp2_with fail
          refine HN.out.mono ?_
          rintro e w1 ⟨rfl, rfl⟩
          go_wp2_with fail
          refine HT2.out.mono ?_
          rintro e w1 ⟨⟨v1, rfl, hv1⟩, h1, h2⟩
          have H1 := Lib.hid (And.intro h1 h2)
          have HV1 := Lib.hid hv1
          clear h1 h2 hv1
          go_wp2_with fail
          refine (number_by v1 (r.l.take (0 + 1)) _ HV1.out.1 (by rw [List.length_take]; omega) (Hok.out.take _)).mono ?_
          rintro e w2 ⟨rfl, rfl⟩
          go_wp2
          go_ret
          refine ⟨by rw [HQ.out]; rfl, by rw [HQ.out]; have := H1.out.1; rw [Her.out] at this; exact this, H1.out.2⟩
  · have HQ := Lib.hid (show Q = (0, r) from by rw [HD.out, if_pos he])
    clear HD
    go_enter Try.func48, Try.ntmps48
    go_wp2_with fail
    refine HE.out.mono ?_
    rintro e w1 ⟨rfl, rfl⟩
    go_wp2
    go_ret
    refine ⟨by rw [HQ.out]; rfl, by rw [HQ.out]; exact HR.out, World.grownBy.refl _ _⟩

end Go.Proofs.Ytlpkaljepaclpaa.Fx
