/- Package bytes' Reader: the contracts of Count and Raw (of a nil one, too). -/
import Derived.Test.YtigcpgkiankjpaaByRdC
namespace Go.Proofs.Ytigcpgkiankjpaa.Fx
open Go.ChangeShapes Go.WideShapes Go.ChangeAt Go.RowKit
set_option linter.unusedVariables false
set_option maxRecDepth 100000

theorem Rd.int_ok {r : Rd} (h : ByOk r.l) : ByOk r.int.2.l := by
  rw [Rd.int_eq]
  split
  · exact h
  · split
    · intro x hx; simp at hx
    · split
      · intro x hx; simp at hx
      · exact h.drop _

theorem Rd.int_len (r : Rd) : r.int.2.l.length ≤ r.l.length := by
  rw [Rd.int_eq]
  split
  · exact Nat.le_refl _
  · split
    · simp
    · split
      · simp
      · simp

theorem rcount_nil (q : Int) (w : World) : Calls Try.prog 23 #[.pointer none, .int .i64 q] w fun e w' => e = .returned (.int .i64 0) ∧ w = w' := by
  have HE := Lib.hid rerr_nil
  have HI := Lib.hid rint_nil
  go_enter Try.func23, Try.ntmps23
  go_wp2_with fail
  refine (HI.out _).mono ?_
  rintro e w1 ⟨rfl, rfl⟩
  go_wp2_with fail
  refine (HE.out _).mono ?_
  rintro e w1 ⟨rfl, rfl⟩
  go_wp2
  go_ret
  exact ⟨rfl, rfl⟩

theorem rcount_any (S : Nat → Prop) (b : Nat) (r : Rd) (q : Int) (w : World) (h : RdAt S w b r) (hok : ByOk r.l) (hl : r.l.length ≤ 10000000) :
    Calls Try.prog 23 #[.pointer (some ⟨b, 0, none⟩), .int .i64 q] w (RdEnd S w b (r.count q)) := by
  have HI := Lib.hid (rint_any S b r w h hok hl)
  have HC := Lib.hid (show r.count q = if r.int.2.e = 0 ∧ (r.int.1 < 0 ∨ q < r.int.1) then (0, ⟨[], 4⟩) else r.int from rfl)
  have HE := Lib.hid rerr_any
  have HF := Lib.hid rfail_any
  obtain ⟨Q, hQ⟩ : ∃ Q, r.count q = Q := ⟨_, rfl⟩
  rw [hQ] at HC ⊢
  obtain ⟨⟨n, r1⟩, hI⟩ : ∃ I, r.int = I := ⟨_, rfl⟩
  rw [hI] at HC HI
  simp only [] at HC
  clear hQ hI h hok hl
  go_enter Try.func23, Try.ntmps23
  go_wp2_with fail
  refine HI.out.mono ?_
  rintro e w1 ⟨rfl, h1, hg1⟩
  have H1 := Lib.hid h1
  have HG1 := Lib.hid hg1
  clear h1 hg1
  go_wp2_with fail
  refine (HE.out S b r1 _ H1.out).mono ?_
  rintro e w2 ⟨rfl, rfl⟩
  obtain ⟨er, her⟩ : ∃ er, r1.e = er := ⟨_, rfl⟩
  rw [her] at HC ⊢
  by_cases he : er = 0
  · subst he
    by_cases hn : n < 0
    · have HQ := Lib.hid (show Q = (0, ⟨[], 4⟩) from by rw [HC.out, if_pos ⟨rfl, .inl hn⟩])
      clear HC
      go_wp2_with fail
      refine (HF.out S b r1 4 _ H1.out).mono ?_
      rintro e w3 ⟨rfl, h3, hg3⟩
      have H3 := Lib.hid (And.intro h3 (grown_trans HG1.out hg3))
      clear h3 hg3
      go_wp2
      go_ret
      exact ⟨by rw [HQ.out]; rfl, by rw [HQ.out]; exact H3.out.1, H3.out.2⟩
    · by_cases hq : q < n
      · have HQ := Lib.hid (show Q = (0, ⟨[], 4⟩) from by rw [HC.out, if_pos ⟨rfl, .inr hq⟩])
        clear HC
        go_wp2_with fail
        refine (HF.out S b r1 4 _ H1.out).mono ?_
        rintro e w3 ⟨rfl, h3, hg3⟩
        have H3 := Lib.hid (And.intro h3 (grown_trans HG1.out hg3))
        clear h3 hg3
        go_wp2
        go_ret
        exact ⟨by rw [HQ.out]; rfl, by rw [HQ.out]; exact H3.out.1, H3.out.2⟩
      · have HQ := Lib.hid (show Q = (n, r1) from by rw [HC.out, if_neg (by omega)])
        clear HC
        go_wp2
        go_ret
        exact ⟨by rw [HQ.out]; rfl, by rw [HQ.out]; exact H1.out, HG1.out⟩
  · have HQ := Lib.hid (show Q = (n, r1) from by rw [HC.out, if_neg (fun h => he h.1)])
    clear HC
    go_wp2
    go_ret
    exact ⟨by rw [HQ.out]; rfl, by rw [HQ.out]; exact H1.out, HG1.out⟩

theorem rraw_nil (w : World) : Calls Try.prog 16 #[.pointer none] w fun e w' => e = .returned (.slice none 0 0) ∧ w = w' := by
  have HE := Lib.hid rerr_nil
  have HI := Lib.hid rint_nil
  go_enter Try.func16, Try.ntmps16
  go_wp2_with fail
  refine (HI.out _).mono ?_
  rintro e w1 ⟨rfl, rfl⟩
  go_wp2_with fail
  refine (HE.out _).mono ?_
  rintro e w1 ⟨rfl, rfl⟩
  go_wp2
  go_ret
  exact ⟨rfl, rfl⟩

/-- What Raw leaves: the bytes lie in new memory. -/
def RawFar (S : Nat → Prop) (w : World) (b : Nat) (q : List Int × Rd) (e : Ending) (w' : World) : Prop := (∃ v, e = .returned v ∧ FarSl w.heap.size w' v q.1) ∧ RdAt S w' b q.2 ∧ w.grownBy w' (some b)

/-- What Raw leaves. -/
def RawEnd (S : Nat → Prop) (w : World) (b : Nat) (q : List Int × Rd) (e : Ending) (w' : World) : Prop := (∃ v, e = .returned v ∧ IsSl byC w' v q.1) ∧ RdAt S w' b q.2 ∧ w.grownBy w' (some b)

theorem FarSl.nil (B : Nat) (w : World) : FarSl B w (.slice none 0 0) [] := ⟨IsSl.nil _ _, fun a n c h => by cases h⟩

theorem rraw_far (S : Nat → Prop) (b : Nat) (r : Rd) (w : World) (h : RdAt S w b r) (hok : ByOk r.l) (hl : r.l.length ≤ 1000000) :
    Calls Try.prog 16 #[.pointer (some ⟨b, 0, none⟩)] w (RawFar S w b r.raw) := by
  have HI := Lib.hid (rint_any S b r w h hok (by omega))
  have HC := Lib.hid (show r.raw = if r.int.2.e ≠ 0 then ([], r.int.2)
    else if r.int.1 < 0 then ([], ⟨[], 4⟩)
    else if (r.int.2.l.length : Int) < r.int.1 then ([], ⟨[], 5⟩)
    else (r.int.2.l.take r.int.1.toNat, ⟨r.int.2.l.drop r.int.1.toNat, 0⟩) from rfl)
  have HE := Lib.hid rerr_any
  have HF := Lib.hid rfail_any
  have HL := Nat.le_trans (Rd.int_len r) hl
  obtain ⟨Q, hQ⟩ : ∃ Q, r.raw = Q := ⟨_, rfl⟩
  rw [hQ] at HC ⊢
  obtain ⟨⟨n, r1⟩, hI⟩ : ∃ I, r.int = I := ⟨_, rfl⟩
  rw [hI] at HC HI HL
  simp only [] at HC HL
  clear hQ hI h hok hl
  go_enter Try.func16, Try.ntmps16
  go_wp2_with fail
  refine HI.out.mono ?_
  rintro e w1 ⟨rfl, h1, hg1⟩
  have H1 := Lib.hid h1
  have HG1 := Lib.hid hg1
  obtain ⟨s, hs, ⟨A, c, rfl, -⟩, -⟩ := h1.sl
  clear h1 hg1
  go_wp2_with fail
  refine (HE.out S b r1 _ H1.out).mono ?_
  rintro e w2 ⟨rfl, rfl⟩
  obtain ⟨er, her⟩ : ∃ er, r1.e = er := ⟨_, rfl⟩
  rw [her] at HC ⊢
  by_cases he : er = 0
  · subst he
    by_cases hn : n < 0
    · have HQ := Lib.hid (show Q = ([], ⟨[], 4⟩) from by rw [HC.out, if_neg (by simp), if_pos hn])
      clear HC
      go_wp2_with fail
      refine (HF.out S b r1 4 _ H1.out).mono ?_
      rintro e w3 ⟨rfl, h3, hg3⟩
      have H3 := Lib.hid (And.intro h3 (grown_trans HG1.out hg3))
      clear h3 hg3 hs
      go_wp2
      go_ret
      exact ⟨⟨_, rfl, by rw [HQ.out]; exact FarSl.nil _ _⟩, by rw [HQ.out]; exact H3.out.1, H3.out.2⟩
    · by_cases hq : (r1.l.length : Int) < n
      · have HQ := Lib.hid (show Q = ([], ⟨[], 5⟩) from by rw [HC.out, if_neg (by simp), if_neg hn, if_pos hq])
        clear HC
        go_wp2_with fail
        refine (HF.out S b r1 5 _ H1.out).mono ?_
        rintro e w3 ⟨rfl, h3, hg3⟩
        have H3 := Lib.hid (And.intro h3 (grown_trans HG1.out hg3))
        clear h3 hg3 hs
        go_wp2
        go_ret
        exact ⟨⟨_, rfl, by rw [HQ.out]; exact FarSl.nil _ _⟩, by rw [HQ.out]; exact H3.out.1, H3.out.2⟩
      · have HQ := Lib.hid (show Q = (r1.l.take n.toNat, ⟨r1.l.drop n.toNat, 0⟩) from by rw [HC.out, if_neg (by simp), if_neg hn, if_neg hq])
        clear HC
        obtain ⟨m, rfl⟩ := Int.eq_ofNat_of_zero_le (Int.not_lt.1 hn)
        have Her := Lib.hid her
        have hm : m ≤ r1.l.length := by omega
        have HT := Lib.hid (rtake_any S b m r1 w1 H1.out hm (by omega))
        have HTl := Lib.hid (show (r1.l.take m).length ≤ 1000000 from by rw [List.length_take]; omega)
        clear her
        go_wp2_with fail
        refine HT.out.mono ?_
        rintro e w3 ⟨⟨v3, rfl, hv3⟩, h3, hg3⟩
        have H3 := Lib.hid (And.intro h3 (grown_trans HG1.out hg3))
        have HV3 := Lib.hid hv3
        have hsz3 := Lib.hid hg3.size
        clear h3 hg3 hs hv3
        go_wp2_with fail
        refine (clone_by v3 (r1.l.take m) _ HV3.out.1 HTl.out).mono ?_
        rintro e w4 ⟨v4, rfl, ho4, hb4⟩
        have HO4 := Lib.hid ho4
        have HB4 := Lib.hid hb4
        clear ho4 hb4
        go_wp2
        go_ret
        exact ⟨⟨_, rfl, by rw [HQ.out]; exact HO4.out.far (Nat.le_trans HG1.out.size (Nat.le_trans hsz3.out (Nat.le_refl _)))⟩, by rw [HQ.out]; have := H3.out.1.below HB4.out; rw [Her.out] at this; exact this, grown_trans H3.out.2 (grown_below HB4.out)⟩
  · have HQ := Lib.hid (show Q = ([], r1) from by rw [HC.out, if_pos he])
    clear HC
    go_wp2
    go_ret
    exact ⟨⟨_, rfl, by rw [HQ.out]; exact FarSl.nil _ _⟩, by rw [HQ.out]; exact H1.out, HG1.out⟩

theorem rraw_any (S : Nat → Prop) (b : Nat) (r : Rd) (w : World) (h : RdAt S w b r) (hok : ByOk r.l) (hl : r.l.length ≤ 1000000) :
    Calls Try.prog 16 #[.pointer (some ⟨b, 0, none⟩)] w (RawEnd S w b r.raw) :=
  (rraw_far S b r w h hok hl).mono fun e w' ⟨⟨v, h1, h2⟩, h3⟩ => ⟨⟨v, h1, h2.1⟩, h3⟩

end Go.Proofs.Ytigcpgkiankjpaa.Fx
