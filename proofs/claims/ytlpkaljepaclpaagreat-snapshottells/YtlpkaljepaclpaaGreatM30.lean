/- Package snapshot's reader: what message answers. Package bytes' Reader: the contracts of Count and Raw (of a nil one, too). Package snapshot's reader: the lists, and a base. -/
import Derived.Test.YtlpkaljepaclpaaGreatM27
import Derived.Test.YtlpkaljepaclpaaGreatM28
import Derived.Test.YtlpkaljepaclpaaGreatM29
import Derived.Test.YtlpkaljepaclpaaGreatM24
import Derived.Test.YtlpkaljepaclpaaGreatM26
namespace Go.Proofs.YtlpkaljepaclpaaGreat.Fx
open Go.ChangeShapes Go.WideShapes Go.ChangeAt Go.RowKit
set_option linter.unusedVariables false
set_option maxRecDepth 100000

theorem smessage_any (b g : Nat) (r : Rd) (w : World) (h : SrAt w b g r false) (hf : r.fine) :
    Calls Tryz.prog 74 #[.pointer (some ⟨b, 0, none⟩)] w fun z w' => z = .returned (.agg #[.int .i64 r.crs.1.kind, .int .i64 r.crs.1.src, .int .i64 r.crs.1.dst, .int .i64 r.crs.1.frame, .int .i64 r.crs.1.e.id, .int .i64 r.crs.1.e.kind, .int .i64 r.crs.1.e.x, .int .i64 r.crs.1.e.y, .int .i64 r.crs.1.e.vx, .int .i64 r.crs.1.e.vy, .int .i64 r.crs.1.e.health, .int .i64 r.crs.1.e.age, .int .i64 r.crs.1.e.owner, .int .i64 r.crs.1.x, .int .i64 r.crs.1.y]) ∧ Sr w' b g r.crs.2 ∧ Kp b g w w' := by
  by_cases h1 : r.num 0 = 1
  · exact smessage_1 b g r w h hf h1
  · by_cases h2 : r.num 0 = 2
    · exact smessage_2 b g r w h hf h1 h2
    · exact smessage_3 b g r w h hf h1 h2

end Go.Proofs.YtlpkaljepaclpaaGreat.Fx
namespace Go.Proofs.YtlpkaljepaclpaaGreat.Fx
open Go.ChangeShapes Go.WideShapes Go.ChangeAt Go.RowKit
set_option linter.unusedVariables false
set_option maxRecDepth 100000

theorem rcount_any (S : Nat → Prop) (b : Nat) (r : Rd) (q : Int) (w : World) (h : RdAt S w b r) (hok : ByOk r.l) (hl : r.l.length ≤ 10000000) :
    Calls Tryz.prog 138 #[.pointer (some ⟨b, 0, none⟩), .int .i64 q] w (RdEnd S w b (r.count q)) := by
  have HI := Lib.hid (rint_any S b r w h hok hl)
  have HC := Lib.hid (show r.count q = if r.int.2.e = 0 ∧ (r.int.1 < 0 ∨ q < r.int.1) then (0, ⟨[], 4⟩) else r.int from rfl)
  have HE := Lib.hid rerr_any
  have HF := Lib.hid rfail_any
  obtain ⟨Q, hQ⟩ : ∃ Q, r.count q = Q := ⟨_, rfl⟩
  rw [hQ] at HC ⊢
  obtain ⟨⟨n, r1⟩, hI⟩ : ∃ I, r.int = I := ⟨_, rfl⟩
  rw [hI] at HC HI
  simp only [] at HC
  clear hQ hI h hok hl
  go_enter Tryz.func138, Tryz.ntmps138
  go_wp2_with fail
  refine HI.out.mono ?_
  rintro e w1 ⟨rfl, h1, hg1⟩
  have H1 := Lib.hid h1
  have HG1 := Lib.hid hg1
  clear h1 hg1
  go_wp2_with fail
  refine (HE.out S b r1 _ H1.out).mono ?_
  rintro e w2 ⟨rfl, rfl⟩
  obtain ⟨er, her⟩ : ∃ er, r1.e = er := ⟨_, rfl⟩
  rw [her] at HC ⊢
  by_cases he : er = 0
  · subst he
    by_cases hn : n < 0
    · have HQ := Lib.hid (show Q = (0, ⟨[], 4⟩) from by rw [HC.out, if_pos ⟨rfl, .inl hn⟩])
      clear HC
      go_wp2_with fail
      refine (HF.out S b r1 4 _ H1.out).mono ?_
      rintro e w3 ⟨rfl, h3, hg3⟩
      have H3 := Lib.hid (And.intro h3 (grown_trans HG1.out hg3))
      clear h3 hg3
      go_wp2
      go_ret
      exact ⟨by rw [HQ.out]; rfl, by rw [HQ.out]; exact H3.out.1, H3.out.2⟩
    · by_cases hq : q < n
      · have HQ := Lib.hid (show Q = (0, ⟨[], 4⟩) from by rw [HC.out, if_pos ⟨rfl, .inr hq⟩])
        clear HC
        go_wp2_with fail
        refine (HF.out S b r1 4 _ H1.out).mono ?_
        rintro e w3 ⟨rfl, h3, hg3⟩
        have H3 := Lib.hid (And.intro h3 (grown_trans HG1.out hg3))
        clear h3 hg3
        go_wp2
        go_ret
        exact ⟨by rw [HQ.out]; rfl, by rw [HQ.out]; exact H3.out.1, H3.out.2⟩
      · have HQ := Lib.hid (show Q = (n, r1) from by rw [HC.out, if_neg (by omega)])
        clear HC
        go_wp2
        go_ret
        exact ⟨by rw [HQ.out]; rfl, by rw [HQ.out]; exact H1.out, HG1.out⟩
  · have HQ := Lib.hid (show Q = (n, r1) from by rw [HC.out, if_neg (fun h => he h.1)])
    clear HC
    go_wp2
    go_ret
    exact ⟨by rw [HQ.out]; rfl, by rw [HQ.out]; exact H1.out, HG1.out⟩

/-- What Raw leaves: the bytes lie in new memory. -/
def RawFar (S : Nat → Prop) (w : World) (b : Nat) (q : List Int × Rd) (e : Ending) (w' : World) : Prop := (∃ v, e = .returned v ∧ FarSl w.heap.size w' v q.1) ∧ RdAt S w' b q.2 ∧ w.grownBy w' (some b)

/-- What Raw leaves. -/
def RawEnd (S : Nat → Prop) (w : World) (b : Nat) (q : List Int × Rd) (e : Ending) (w' : World) : Prop := (∃ v, e = .returned v ∧ IsSl byC w' v q.1) ∧ RdAt S w' b q.2 ∧ w.grownBy w' (some b)

theorem FarSl.nil (B : Nat) (w : World) : FarSl B w (.slice none 0 0) [] := ⟨IsSl.nil _ _, fun a n c h => by cases h⟩

end Go.Proofs.YtlpkaljepaclpaaGreat.Fx
namespace Go.Proofs.YtlpkaljepaclpaaGreat.Fx
open Go.ChangeShapes Go.WideShapes Go.ChangeAt Go.RowKit
set_option linter.unusedVariables false
set_option maxRecDepth 100000

theorem count_fine {r : Rd} (q : Int) (h : r.fine) : (r.count q).2.fine := by
  unfold Rd.count
  split
  · exact ⟨fun x hx => by simp at hx, by simp⟩
  · exact h.int

theorem many_go {α : Type} (one : Rd → α × Rd) (m : Nat) {r : Rd} (h : r.e = 0) : Rd.many one (m + 1) r = ((one r).1 :: (Rd.many one m (one r).2).1, (Rd.many one m (one r).2).2) := by
  show (if r.e ≠ 0 then _ else _) = _
  rw [if_neg (by simp [h])]

theorem many_fine {α : Type} {one : Rd → α × Rd} (ho : ∀ r : Rd, r.fine → (one r).2.fine) (m : Nat) : ∀ r : Rd, r.fine → (Rd.many one m r).2.fine := by
  induction m with
  | zero => intro r h; exact h
  | succ m ih =>
    intro r h
    by_cases he : r.e = 0
    · rw [many_go one m he]; exact ih _ (ho r h)
    · rw [many_stuck _ he]; exact h

theorem list_fine {α : Type} {one : Rd → α × Rd} (ho : ∀ r : Rd, r.fine → (one r).2.fine) {r : Rd} (h : r.fine) : (Rd.list one r).2.fine := many_fine ho _ _ (count_fine 1000 h)

theorem many_len {α : Type} (one : Rd → α × Rd) (m : Nat) : ∀ r : Rd, (Rd.many one m r).1.length ≤ m := by
  induction m with
  | zero => intro r; exact Nat.le_refl _
  | succ m ih =>
    intro r
    by_cases he : r.e = 0
    · rw [many_go one m he]; simpa using ih _
    · rw [many_stuck _ he]; simp

theorem Rd.int_zero' {r : Rd} (h : r.int.2.e ≠ 0) : r.int.1 = 0 := by
  unfold Rd.int at h ⊢
  split
  · rfl
  · rename_i h1
    rw [if_neg h1] at h
    split
    · rfl
    · rename_i h2
      rw [if_neg h2] at h
      split
      · rfl
      · rename_i h3
        rw [if_neg h3] at h
        exact absurd rfl h

theorem count_bd (r : Rd) (q : Int) (hq : 0 ≤ q) : 0 ≤ (r.count q).1 ∧ (r.count q).1 ≤ q := by
  unfold Rd.count
  split
  · simp [hq]
  · rename_i h
    by_cases he : r.int.2.e = 0
    · have : ¬ (r.int.1 < 0 ∨ q < r.int.1) := fun h2 => h ⟨he, h2⟩
      omega
    · rw [Rd.int_zero' he]; omega

theorem slLen_own {w : World} {base e size n : Nat} {v : Value} {xs : List Value} (h : w.ownsRow base e size v n xs) : ∃ A c, v = .slice A n c := by
  obtain ⟨A, c, h, -⟩ := owned_cells h
  exact ⟨A, c, h⟩

theorem grown_none {w w' : World} (h : w.grownBy w' none) : Below w.heap.size w w' := ⟨h.os, h.tape, h.output, h.size, fun k hk => h.block k hk (by simp)⟩

/-- A row behind g was written. -/
theorem SrAt.row {w w' : World} {b g : Nat} {r : Rd} {q : Bool} (h : SrAt w b g r q) {row : Option Nat} (hg : w.grownBy w' row) (hr : ∀ p, row = some p → g < p ∧ p ≠ b) : SrAt w' b g r q := by
  cases row with
  | none => exact h.bel (grown_none hg)
  | some c =>
    obtain ⟨h1, h2⟩ := hr c rfl
    exact ⟨h.ne, Nat.lt_of_lt_of_le h.lt hg.size, grown_cell hg (by simpa using Ne.symm h2) h.p, grown_cell hg (by simpa using Ne.symm h2) h.q, (grown_frozen hg h.lt (by simpa using Ne.symm h2)).trans h.f, h.rd.grown hg (by omega) (Nat.le_of_lt h1)⟩

theorem Sr.row {w w' : World} {b g : Nat} {r : Rd} (h : Sr w b g r) {row : Option Nat} (hg : w.grownBy w' row) (hr : ∀ p, row = some p → g < p ∧ p ≠ b) : Sr w' b g r := by
  rcases h with h | ⟨r', h, e⟩
  · exact .inl (h.row hg hr)
  · exact .inr ⟨r', h.row hg hr, e⟩

theorem Kp.row {b g : Nat} {w w1 w2 : World} (h : Kp b g w w1) {row : Option Nat} (hg : w1.grownBy w2 row) (hr : ∀ p, row = some p → w.heap.size ≤ p) : Kp b g w w2 :=
  ⟨hg.os.trans h.os, hg.tape.trans h.tape, hg.output.trans h.output, Nat.le_trans h.size hg.size, fun k hk h1 h2 => (hg.block k (Nat.lt_of_lt_of_le hk h.size) (fun e => by have := hr k e.symm; omega)).trans (h.block k hk h1 h2)⟩

/-- A row that is newer than both stays. -/
theorem Kp.own' {b g : Nat} {w w' : World} (h : Kp b g w w') {base e size n : Nat} {v : Value} {xs : List Value} (ho : w.ownsRow base e size v n xs) (hb : b < base) (hg : g < base) (_ : base ≤ w.heap.size) : w'.ownsRow base e size v n xs := h.own ho hb hg

set_option maxHeartbeats 2000000 in
theorem slistE_any (b g : Nat) (r : Rd) (w : World) (h : SrAt w b g r false) (hf : r.fine) :
    Calls Tryz.prog 147 #[.pointer (some ⟨b, 0, none⟩), .func (.func 141) #[.pointer (some ⟨b, 0, none⟩)] #[]] w fun z w' => ∃ v, z = .returned v ∧ w'.ownsRow w.heap.size 45 9 v (Rd.list Rd.ent r).1.length ((Rd.list Rd.ent r).1.flatMap entC) ∧ SrAt w' b g (Rd.list Rd.ent r).2 false ∧ Kp b g w w' := by
  have HC := Lib.hid (rcount_any (Fro g) g r 1000 w h.rd hf.1 (by have := hf.2; omega))
  have HS := Lib.hid h
  have hp := h.p
  have hl := h.lt
  have hgl := h.rd.lt
  have hcb := count_bd r 1000 (by omega)
  have HL := Lib.hid (show Rd.list Rd.ent r = Rd.many Rd.ent (r.count 1000).1.toNat (r.count 1000).2 from rfl)
  have hcf := count_fine 1000 hf
  have HCf := Lib.hid hcf
  generalize Rd.list Rd.ent r = RL at *
  obtain ⟨⟨cn, rc⟩, hrc⟩ : ∃ c, r.count 1000 = c := ⟨_, rfl⟩
  rw [hrc] at HC HL hcb HCf
  simp only [] at HL hcb HCf
  obtain ⟨n, hn⟩ := Int.eq_ofNat_of_zero_le hcb.1
  subst hn
  rw [Int.toNat_natCast] at HL
  have hn := hcb.2
  clear h hcb hcf hrc hf
  have HOne := Lib.hid (sentity_any b g)
  have HErr := Lib.hid (serr_any b g)
  go_enter Tryz.func147, Tryz.ntmps147
  go_wp2_with fail
  refine HC.out.mono ?_
  rintro e w1 ⟨rfl, hr1, hg1⟩
  have HS1 := Lib.hid (HS.out.rdd hg1 hr1)
  have HK1 := Lib.hid (Kp.of_g (b := b) hg1)
  clear hr1 hg1 HC hp
  go_wp2
  go_loopw [5] (fun v wr => ∃ (acc : List Ent) (m : Nat) (rr : Rd), acc.length + m = n ∧ (RL.1 = acc ++ (Rd.many Rd.ent m rr).1 ∧ RL.2 = (Rd.many Rd.ent m rr).2) ∧ rr.fine ∧ wr.ownsRow w.heap.size 45 9 v acc.length (acc.flatMap entC) ∧ SrAt wr b g rr false ∧ Kp b g w wr) (fun v _ => n - slLen v)
  case atStart => exact ⟨[], n, rc, by simp, by rw [HL.out]; exact ⟨rfl, rfl⟩, HCf.out, World.ownsRow_nil _ _ _ _, HS1.out, HK1.out⟩
  case round =>
    clear HS1 HK1
    obtain ⟨acc, m, rr, hm, hR, hfr, ho, hs, hk⟩ := hrel
    have HR := Lib.hid hR
    have Hf := Lib.hid hfr
    have HO := Lib.hid ho
    have HS := Lib.hid hs
    have HK := Lib.hid hk
    have hks := hk.size
    clear hR hfr hs hk
    obtain ⟨k, hkk⟩ : ∃ k, acc.length = k := ⟨_, rfl⟩
    have Hkk := Lib.hid hkk
    obtain ⟨A, c, hv⟩ := slLen_own ho
    rw [hkk] at hv hm
    subst hv
    clear ho hkk
    by_cases hm0 : m = 0
    · subst hm0
      obtain rfl : k = n := by omega
      go_wp2
      go_ret
      have hR := HR.out
      refine ⟨_, rfl, ?_, ?_, HK.out⟩
      · rw [hR.1]; simpa [Rd.many, Hkk.out] using HO.out
      · rw [hR.2]; exact HS.out
    · obtain ⟨m, rfl⟩ : ∃ m', m = m' + 1 := ⟨m - 1, by omega⟩
      have hkn : (k : Int) < (n : Int) := by omega
      by_cases he : rr.e = 0
      · have HM := Lib.hid (many_go Rd.ent m he)
        have HSp := Lib.hid HS.out
        have HE0 := Lib.hid (HErr.out rr wr HS.out.sr)
        rw [he] at HE0
        have Hf1 := Lib.hid (Rd.fine.ent Hf.out)
        have HO1 := Lib.hid (HOne.out rr wr HSp.out Hf.out)
        obtain ⟨⟨x, r2⟩, hx⟩ : ∃ q, Rd.ent rr = q := ⟨_, rfl⟩
        have hx2 : Rd.ent rr = (x, r2) := hx
        rw [hx] at HM
        rw [hx2] at Hf1 HO1
        simp only [] at HM Hf1 HO1
        clear hx hx2 he
        go_wp2_with fail
        refine HE0.out.mono ?_
        rintro e w2 ⟨rfl, rfl⟩
        go_wp2_with fail
        refine HO1.out.mono ?_
        rintro e w3 ⟨rfl, hs3, hk3⟩
        have HS3 := Lib.hid hs3
        have HK3 := Lib.hid (HK.out.trans hk3)
        have HOw := Lib.hid (hk3.own' HO.out hl hgl hks)
        rw [Hkk.out] at HOw
        clear hs3 hk3 HE0 HO1 HO
        go_wp2_with (at_builtin; go_must (refine appL_Ent (by rfl) (.tmp 21) (.tmp 24) (by rfl) w.heap.size _ acc (by rfl) (by rw [Hkk.out]; exact own_below HOw.out ((Below.refl _ _).alloc (Nat.le_refl _) _)) _ [x] (by rfl) (one_Ent _ x _ 1 (by rfl) (by omega)) (by have := Hkk.out; simp; omega) (by have := HK3.out.size; simp; omega) ?_))
        intro v5 w5 ho5 hb5 hg5
        have HO5 := Lib.hid ho5
        have hown : ∀ p, (Value.slice A k c).ownBlock = some p → w.heap.size ≤ p := fun p hp => by have := HOw.out.lt p hp; omega
        have hrow : ∀ p, (Value.slice A k c).ownBlock = some p → g < p ∧ p ≠ b := fun p hp => by have := hown p hp; omega
        have HS5 := Lib.hid (((HS3.out.bel ((Below.refl _ _).alloc (Nat.le_refl _) _)).row hg5 hrow))
        have HK5 := Lib.hid ((HK3.out.trans (Kp.of_below ((Below.refl _ _).alloc (Nat.le_refl _) _))).row hg5 hown)
        clear ho5 hb5 hg5 hown hrow HS3 HK3 HOw HS HK HSp
        obtain ⟨A5, c5, hv5⟩ := slLen_own HO5.out
        subst hv5
        go_wp2
        go_roundw
        case rel =>
          have hR := HR.out
          have hM := HM.out
          refine ⟨acc ++ [x], m, r2, by simp [Hkk.out]; omega, ?_, Hf1.out, by simpa using HO5.out, HS5.out, HK5.out⟩
          rw [hM] at hR
          exact ⟨by rw [hR.1]; simp, hR.2⟩
        case measure => simp [slLen, Hkk.out]; omega
      · have HM := Lib.hid (many_stuck (one := Rd.ent) (m + 1) he)
        have HE0 := Lib.hid (HErr.out rr wr HS.out.sr)
        obtain ⟨z, hz⟩ : ∃ z, rr.e = z := ⟨_, rfl⟩
        rw [hz] at HE0 he
        have hz' : (z == 0) = false := by simpa using he
        clear he hz
        go_wp2_with fail
        refine HE0.out.mono ?_
        rintro e w2 ⟨rfl, rfl⟩
        go_wp2
        go_ret
        have hR := HR.out
        rw [HM.out] at hR
        refine ⟨_, rfl, ?_, ?_, HK.out⟩
        · rw [hR.1]; simpa [Hkk.out] using HO.out
        · rw [hR.2]; exact HS.out

set_option maxHeartbeats 2000000 in
theorem slistC_any (b g : Nat) (r : Rd) (w : World) (h : SrAt w b g r false) (hf : r.fine) :
    Calls Tryz.prog 73 #[.pointer (some ⟨b, 0, none⟩), .func (.func 74) #[.pointer (some ⟨b, 0, none⟩)] #[]] w fun z w' => ∃ v, z = .returned v ∧ w'.ownsRow w.heap.size 50 15 v (Rd.list Rd.crs r).1.length ((Rd.list Rd.crs r).1.flatMap crsC) ∧ Sr w' b g (Rd.list Rd.crs r).2 ∧ Kp b g w w' := by
  have HC := Lib.hid (rcount_any (Fro g) g r 1000 w h.rd hf.1 (by have := hf.2; omega))
  have HS := Lib.hid h
  have hp := h.p
  have hl := h.lt
  have hgl := h.rd.lt
  have hcb := count_bd r 1000 (by omega)
  have HL := Lib.hid (show Rd.list Rd.crs r = Rd.many Rd.crs (r.count 1000).1.toNat (r.count 1000).2 from rfl)
  have hcf := count_fine 1000 hf
  have HCf := Lib.hid hcf
  generalize Rd.list Rd.crs r = RL at *
  obtain ⟨⟨cn, rc⟩, hrc⟩ : ∃ c, r.count 1000 = c := ⟨_, rfl⟩
  rw [hrc] at HC HL hcb HCf
  simp only [] at HL hcb HCf
  obtain ⟨n, hn⟩ := Int.eq_ofNat_of_zero_le hcb.1
  subst hn
  rw [Int.toNat_natCast] at HL
  have hn := hcb.2
  clear h hcb hcf hrc hf
  have HOne := Lib.hid (smessage_any b g)
  have HErr := Lib.hid (serr_any b g)
  go_enter Tryz.func73, Tryz.ntmps73
  go_wp2_with fail
  refine HC.out.mono ?_
  rintro e w1 ⟨rfl, hr1, hg1⟩
  have HS1 := Lib.hid (HS.out.rdd hg1 hr1)
  have HK1 := Lib.hid (Kp.of_g (b := b) hg1)
  clear hr1 hg1 HC hp
  go_wp2
  go_loopw [5] (fun v wr => ∃ (acc : List Crs) (m : Nat) (rr : Rd), acc.length + m = n ∧ (RL.1 = acc ++ (Rd.many Rd.crs m rr).1 ∧ RL.2 = (Rd.many Rd.crs m rr).2) ∧ rr.fine ∧ wr.ownsRow w.heap.size 50 15 v acc.length (acc.flatMap crsC) ∧ Sr wr b g rr ∧ Kp b g w wr) (fun v _ => n - slLen v)
  case atStart => exact ⟨[], n, rc, by simp, by rw [HL.out]; exact ⟨rfl, rfl⟩, HCf.out, World.ownsRow_nil _ _ _ _, HS1.out.sr, HK1.out⟩
  case round =>
    clear HS1 HK1
    obtain ⟨acc, m, rr, hm, hR, hfr, ho, hs, hk⟩ := hrel
    have HR := Lib.hid hR
    have Hf := Lib.hid hfr
    have HO := Lib.hid ho
    have HS := Lib.hid hs
    have HK := Lib.hid hk
    have hks := hk.size
    clear hR hfr hs hk
    obtain ⟨k, hkk⟩ : ∃ k, acc.length = k := ⟨_, rfl⟩
    have Hkk := Lib.hid hkk
    obtain ⟨A, c, hv⟩ := slLen_own ho
    rw [hkk] at hv hm
    subst hv
    clear ho hkk
    by_cases hm0 : m = 0
    · subst hm0
      obtain rfl : k = n := by omega
      go_wp2
      go_ret
      have hR := HR.out
      refine ⟨_, rfl, ?_, ?_, HK.out⟩
      · rw [hR.1]; simpa [Rd.many, Hkk.out] using HO.out
      · rw [hR.2]; exact HS.out
    · obtain ⟨m, rfl⟩ : ∃ m', m = m' + 1 := ⟨m - 1, by omega⟩
      have hkn : (k : Int) < (n : Int) := by omega
      by_cases he : rr.e = 0
      · have HM := Lib.hid (many_go Rd.crs m he)
        have HSp := Lib.hid (HS.out.plain he)
        have HE0 := Lib.hid (HErr.out rr wr HS.out)
        rw [he] at HE0
        have Hf1 := Lib.hid (Rd.fine.crs Hf.out)
        have HO1 := Lib.hid (HOne.out rr wr HSp.out Hf.out)
        obtain ⟨⟨x, r2⟩, hx⟩ : ∃ q, Rd.crs rr = q := ⟨_, rfl⟩
        have hx2 : Rd.crs rr = (x, r2) := hx
        rw [hx] at HM
        rw [hx2] at Hf1 HO1
        simp only [] at HM Hf1 HO1
        clear hx hx2 he
        go_wp2_with fail
        refine HE0.out.mono ?_
        rintro e w2 ⟨rfl, rfl⟩
        go_wp2_with fail
        refine HO1.out.mono ?_
        rintro e w3 ⟨rfl, hs3, hk3⟩
        have HS3 := Lib.hid hs3
        have HK3 := Lib.hid (HK.out.trans hk3)
        have HOw := Lib.hid (hk3.own' HO.out hl hgl hks)
        rw [Hkk.out] at HOw
        clear hs3 hk3 HE0 HO1 HO
        go_wp2_with (at_builtin; go_must (refine appL_Crs (by rfl) (.tmp 21) (.tmp 24) (by rfl) w.heap.size _ acc (by rfl) (by rw [Hkk.out]; exact own_below HOw.out ((Below.refl _ _).alloc (Nat.le_refl _) _)) _ [x] (by rfl) (one_Crs _ x _ 1 (by rfl) (by omega)) (by have := Hkk.out; simp; omega) (by have := HK3.out.size; simp; omega) ?_))
        intro v5 w5 ho5 hb5 hg5
        have HO5 := Lib.hid ho5
        have hown : ∀ p, (Value.slice A k c).ownBlock = some p → w.heap.size ≤ p := fun p hp => by have := HOw.out.lt p hp; omega
        have hrow : ∀ p, (Value.slice A k c).ownBlock = some p → g < p ∧ p ≠ b := fun p hp => by have := hown p hp; omega
        have HS5 := Lib.hid (((HS3.out.bel ((Below.refl _ _).alloc (Nat.le_refl _) _)).row hg5 hrow))
        have HK5 := Lib.hid ((HK3.out.trans (Kp.of_below ((Below.refl _ _).alloc (Nat.le_refl _) _))).row hg5 hown)
        clear ho5 hb5 hg5 hown hrow HS3 HK3 HOw HS HK HSp
        obtain ⟨A5, c5, hv5⟩ := slLen_own HO5.out
        subst hv5
        go_wp2
        go_roundw
        case rel =>
          have hR := HR.out
          have hM := HM.out
          refine ⟨acc ++ [x], m, r2, by simp [Hkk.out]; omega, ?_, Hf1.out, by simpa using HO5.out, HS5.out, HK5.out⟩
          rw [hM] at hR
          exact ⟨by rw [hR.1]; simp, hR.2⟩
        case measure => simp [slLen, Hkk.out]; omega
      · have HM := Lib.hid (many_stuck (one := Rd.crs) (m + 1) he)
        have HE0 := Lib.hid (HErr.out rr wr HS.out)
        obtain ⟨z, hz⟩ : ∃ z, rr.e = z := ⟨_, rfl⟩
        rw [hz] at HE0 he
        have hz' : (z == 0) = false := by simpa using he
        clear he hz
        go_wp2_with fail
        refine HE0.out.mono ?_
        rintro e w2 ⟨rfl, rfl⟩
        go_wp2
        go_ret
        have hR := HR.out
        rw [HM.out] at hR
        refine ⟨_, rfl, ?_, ?_, HK.out⟩
        · rw [hR.1]; simpa [Hkk.out] using HO.out
        · rw [hR.2]; exact HS.out

/-- A row behind a block that is written. -/
theorem own_gt {w : World} {base size n g : Nat} {e : TypeId} {v : Value} {xs : List Value} (h : w.ownsRow base e size v n xs) (hg : g < base) (o : Nat) (x : Value) : (w.setCell ⟨g, o, none⟩ x).ownsRow base e size v n xs :=
  h.kept (grown_setF w g o x) (.inr fun hh => by have := h.lt g hh; omega)

theorem Blk.kp {b g c : Nat} {w w' : World} {t : TypeId} {cur : Array Value} (h : Blk w c t cur) (hk : Kp b g w w') (h1 : c ≠ b) (h2 : c ≠ g) : Blk w' c t cur := (hk.block c h.lt h1 h2).trans h

set_option maxHeartbeats 2000000 in
theorem sbase_any (b g : Nat) (r : Rd) (w : World) (h : SrAt w b g r false) (hf : r.fine) :
    Calls Tryz.prog 81 #[.pointer (some ⟨b, 0, none⟩)] w fun z w' => ∃ vE vL, z = .returned (.agg #[.int .i64 r.base.1.f, vE, vL]) ∧ w'.ownsRow w.heap.size 45 9 vE r.base.1.es.length (r.base.1.es.flatMap entC) ∧ w'.ownsRow w.heap.size 50 15 vL r.base.1.l.length (r.base.1.l.flatMap crsC) ∧ Sr w' b g r.base.2 ∧ Kp b g w w' := by
  have HS := Lib.hid h
  have hl := h.lt
  have hgl := h.rd.lt
  have HI := Lib.hid (fun w h => rint_at b g r w h hf)
  have HE := Lib.hid (fun w h => slistE_any b g r.int.2 w h hf.int)
  have HC := Lib.hid (fun w h => slistC_any b g (Rd.list Rd.ent r.int.2).2 w h (list_fine (fun r h => h.ent) hf.int))
  have HB := Lib.hid (show r.base = (⟨r.int.1, (Rd.list Rd.ent r.int.2).1, (Rd.list Rd.crs (Rd.list Rd.ent r.int.2).2).1⟩, (Rd.list Rd.crs (Rd.list Rd.ent r.int.2).2).2) from rfl)
  generalize r.base = RB at *
  generalize r.int = I at *
  generalize Rd.list Rd.ent I.2 = LE at *
  generalize Rd.list Rd.crs LE.2 = LC at *
  clear h hf
  go_enter Tryz.func81, Tryz.ntmps81
  go_upto_region 1 with fail
  generalize hW : World.alloc _ _ = W
  have BR := Lib.hid (show Blk W w.heap.size 63 #[.int .i64 0, .slice none 0 0, .slice none 0 0] from by rw [← hW]; exact heap_alloc_new w _)
  have HBW := Lib.hid (show Below w.heap.size w W from by rw [← hW]; exact (Below.refl _ _).alloc (Nat.le_refl _) _)
  clear hW
  have HSW := Lib.hid (HS.out.bel HBW.out)
  have hp := HSW.out.p
  have hlW := HSW.out.lt
  go_wp2_with fail
  refine (HI.out _ HSW.out.rd).mono ?_
  rintro e w1 ⟨rfl, hr1, hg1⟩
  have HS1 := Lib.hid (HSW.out.rdd hg1 hr1)
  have HK1 := Lib.hid (show Kp b g w w1 from (Kp.of_below HBW.out).trans (Kp.of_g hg1))
  have hne1 : w.heap.size ≠ b := by omega
  have hne2 : w.heap.size ≠ g := by omega
  have BR1 := Lib.hid (BR.out.kp (Kp.of_g (b := b) hg1) hne1 hne2)
  clear hr1 hg1 hp hlW HSW BR HBW
  go_wp2_with fail
  refine (HE.out _ HS1.out).mono ?_
  rintro e w2 ⟨vE, rfl, ho2, hs2, hk2⟩
  have HS2 := Lib.hid hs2
  have HK2 := Lib.hid (HK1.out.trans hk2)
  have hz1 : w.heap.size + 1 ≤ w1.heap.size := BR1.out.lt
  have HO2 := Lib.hid (own_lower ho2 hz1)
  have BR2 := Lib.hid (BR1.out.kp hk2 hne1 hne2)
  clear hs2 hk2 ho2 HS1 HK1 BR1
  obtain ⟨AE, cE, hvE⟩ := slLen_own HO2.out
  subst hvE
  obtain ⟨nE, hnE⟩ : ∃ n, LE.1.length = n := ⟨_, rfl⟩
  rw [hnE] at HO2
  have HnE := Lib.hid hnE
  simp only [hnE]
  clear hnE
  go_wp2_with fail
  refine (HC.out _ HS2.out).mono ?_
  rintro e w3 ⟨vL, rfl, ho3, hs3, hk3⟩
  have HS3 := Lib.hid hs3
  have HK3 := Lib.hid (HK2.out.trans hk3)
  have hz2 : w.heap.size + 1 ≤ w2.heap.size := BR2.out.lt
  have HO3 := Lib.hid (own_lower ho3 hz2)
  have HO2' := Lib.hid (hk3.own' HO2.out (by omega) (by omega) hz2)
  have BR3 := Lib.hid (BR2.out.kp hk3 hne1 hne2)
  clear hs3 hk3 ho3 HS2 HK2 BR2 HO2
  obtain ⟨AL, cL, hvL⟩ := slLen_own HO3.out
  subst hvL
  obtain ⟨nL, hnL⟩ : ∃ n, LC.1.length = n := ⟨_, rfl⟩
  rw [hnL] at HO3
  have HnL := Lib.hid hnL
  simp only [hnL]
  clear hnL
  have c0 : w3.cell? ⟨w.heap.size, 0, none⟩ = some (.int .i64 0) := BR3.out.cell 0
  have c1 : w3.cell? ⟨w.heap.size, 1, none⟩ = some (.slice none 0 0) := BR3.out.cell 1
  have c2 : w3.cell? ⟨w.heap.size, 2, none⟩ = some (.slice none 0 0) := BR3.out.cell 2
  have f0 := BR3.out.frozen 0
  have f1 := BR3.out.frozen 1
  have f2 := BR3.out.frozen 2
  have hlx := BR3.out.lt
  go_wp2
  refine bodyPost_ret (v := .agg #[.int .i64 I.1, .slice AE nE cE, .slice AL nL cL]) (by simp [results, Tryz.results81, go_sem, c0, c1, c2]) rfl ⟨.slice AE nE cE, .slice AL nL cL, by rw [HB.out], ?_, ?_, ?_, ?_⟩
  · rw [HB.out]
    have h := own_gt (own_gt (own_gt HO2'.out (Nat.lt_succ_self _) 0 (.int .i64 I.1)) (Nat.lt_succ_self _) 1 (.slice AE nE cE)) (Nat.lt_succ_self _) 2 (.slice AL nL cL)
    rw [← HnE.out] at h ⊢
    exact own_lower h (Nat.le_succ _)
  · rw [HB.out]
    have h := own_gt (own_gt (own_gt HO3.out (Nat.lt_succ_self _) 0 (.int .i64 I.1)) (Nat.lt_succ_self _) 1 (.slice AE nE cE)) (Nat.lt_succ_self _) 2 (.slice AL nL cL)
    rw [← HnL.out] at h ⊢
    exact own_lower h (Nat.le_succ _)
  · rw [HB.out]
    exact ((HS3.out.row (grown_setF _ _ _ _) (by intro p hp; cases hp; omega)).row (grown_setF _ _ _ _) (by intro p hp; cases hp; omega)).row (grown_setF _ _ _ _) (by intro p hp; cases hp; omega)
  · exact ((HK3.out.set (Nat.le_refl _)).set (Nat.le_refl _)).set (Nat.le_refl _)

end Go.Proofs.YtlpkaljepaclpaaGreat.Fx
