/- The document's own reading of messages. What is near (the same as in GrLaw, without what GrLaw leans on; do not import both). -/
import Derived.Test.YtlpkaljepaclpaaGreatM38
import Derived.Test.YtlpkaljepaclpaaGreatM36
import Derived.Test.YtlpkaljepaclpaaGreatM06
namespace Go.Proofs.YtlpkaljepaclpaaGreat.Fx
open Go.ChangeShapes Go.WideShapes Go.ChangeAt Go.RowKit
set_option linter.unusedVariables false
set_option maxRecDepth 100000

theorem slLenX {w : World} {base e size n : Nat} {v : Value} {xs : List Value} (h : w.ownsRow base e size v n xs) : ∃ A c, v = .slice A n c := by
  obtain ⟨A, c, h, -⟩ := owned_cells h
  exact ⟨A, c, h⟩

theorem own_c {w w' : World} {base e size n c : Nat} {v : Value} {xs : List Value} (h : w.ownsRow base e size v n xs) (hg : w.grownBy w' (some c)) (hc : c < base) : w'.ownsRow base e size v n xs :=
  h.kept hg (.inr fun hh => by have := h.lt c hh; omega)

theorem own_neX {w : World} {base e size n g : Nat} {v : Value} {xs : List Value} (h : w.ownsRow base e size v n xs) (hg : ∀ p, v.ownBlock = some p → g ≠ p) (o : Nat) (x : Value) : (w.setCell ⟨g, o, none⟩ x).ownsRow base e size v n xs :=
  h.kept (grown_setX w g o x) (.inr fun hh => hg g hh rfl)

theorem grown_row {w w1 w2 : World} {c : Nat} {row : Option Nat} (h : w.grownBy w1 (some c)) (hg : w1.grownBy w2 row) (hr : ∀ p, row = some p → w.heap.size ≤ p) : w.grownBy w2 (some c) :=
  ⟨hg.os.trans h.os, hg.tape.trans h.tape, hg.output.trans h.output, Nat.le_trans h.size hg.size, fun k hk hne => (hg.block k (Nat.lt_of_lt_of_le hk h.size) (fun e => by have := hr k e.symm; omega)).trans (h.block k hk hne)⟩

theorem CrsBox.oth3 {w w' : World} {g b : Nat} {y : Crs} (h : CrsBox w g y) (hg : w.grownBy w' (some b)) (hne : g ≠ b) : CrsBox w' g y :=
  CrsBox.of (fun q => World.cell?_of_block (a := ⟨g, q, none⟩) (hg.block g h.has (by simpa using hne))) (fun q => World.frozen?_of_block (a := ⟨g, q, none⟩) (hg.block g h.has (by simpa using hne))) h

theorem fbad_any (c : Nat) (v : Value) (L : List Int) (r : Rd) (w : World) (h : Rx w c v L r) :
    Calls Tryz.prog 143 #[.pointer (some ⟨c, 0, none⟩), .int .i64 4] w fun e w' => e = .returned (.tuple #[]) ∧ Rx w' c v L r.bad ∧ w.grownBy w' (some c) := by
  obtain ⟨⟨p, h1⟩, hv⟩ := h
  by_cases he : r.e = 0
  · have hb : r.bad = ⟨[], 4⟩ := by unfold Rd.bad; rw [if_pos he]
    rw [hb]
    exact (ffail_any c v L p r 4 w h1 he (by omega)).mono fun e w' ⟨a1, a2, a3⟩ => ⟨a1, ⟨⟨p, a2⟩, hv⟩, a3⟩
  · have hb : r.bad = r := by unfold Rd.bad; rw [if_neg he]
    rw [hb]
    have h2 := h1.c2
    have hl := h1.lt
    have HR := Lib.hid (show Rx w c v L r from ⟨⟨p, h1⟩, hv⟩)
    generalize r.e = z at *
    have hz : (z == 0) = false := by simpa using he
    clear h1 hv hb he
    go_enter Tryz.func143, Tryz.ntmps143
    go_wp2
    go_end0
    exact ⟨rfl, HR.out, World.grownBy.refl _ _⟩

theorem many_goX {α : Type} (one : Rd → α × Rd) (m : Nat) {r : Rd} (h : r.e = 0) : Rd.many one (m + 1) r = ((one r).1 :: (Rd.many one m (one r).2).1, (Rd.many one m (one r).2).2) := by
  show (if r.e ≠ 0 then _ else _) = _
  rw [if_neg (by simp [h])]

theorem count_bdX (r : Rd) (q : Int) (hq : 0 ≤ q) : 0 ≤ (r.count q).1 ∧ (r.count q).1 ≤ q := by
  unfold Rd.count
  split
  · simp [hq]
  · rename_i h
    by_cases he : r.int.2.e = 0
    · have : ¬ (r.int.1 < 0 ∨ q < r.int.1) := fun h2 => h ⟨he, h2⟩
      omega
    · rw [Rd.int_zero he]; omega

theorem Rx.e2 {w : World} {c : Nat} {v : Value} {L : List Int} {r : Rd} (h : Rx w c v L r) : w.cell? ⟨c, 2, none⟩ = some (.int .i64 r.e) := by
  obtain ⟨⟨p, h⟩, -⟩ := h
  exact h.c2

set_option maxHeartbeats 8000000 in
theorem fcrossesT_any (c : Nat) (v : Value) (L : List Int) (hok : ByOk L) (hL : L.length ≤ 1000000) (r : Rd) (w : World) (h : Rx w c v L r) :
    Calls Tryz.prog 76 #[.pointer (some ⟨c, 0, none⟩)] w fun z w' => ∃ u, z = .returned u ∧ w'.ownsRow w.heap.size 50 15 u (Rd.list Rd.crs r).1.length ((Rd.list Rd.crs r).1.flatMap crsC) ∧ Rx w' c v L (Rd.list Rd.crs r).2 ∧ w.grownBy w' (some c) := by
  have HC := Lib.hid (show Calls Tryz.prog 83 #[.pointer (some ⟨c, 0, none⟩), .int .i64 1000] w fun e w' => e = .returned (.int .i64 (r.count 1000).1) ∧ Rx w' c v L (r.count 1000).2 ∧ w.grownBy w' (some c) from by
    obtain ⟨⟨p, h1⟩, hv⟩ := h
    exact (fcount_any c v L p r 1000 w h1 hok hL).mono fun e w' ⟨a1, a2, a3⟩ => ⟨a1, ⟨a2, hv⟩, a3⟩)
  have hcw := h.lt
  have hcb := count_bdX r 1000 (by omega)
  have HL := Lib.hid (show Rd.list Rd.crs r = Rd.many Rd.crs (r.count 1000).1.toNat (r.count 1000).2 from rfl)
  generalize Rd.list Rd.crs r = RL at *
  obtain ⟨⟨cn, rc⟩, hrc⟩ : ∃ c, r.count 1000 = c := ⟨_, rfl⟩
  rw [hrc] at HC HL hcb
  simp only [] at HC HL hcb
  obtain ⟨n, hn⟩ := Int.eq_ofNat_of_zero_le hcb.1
  subst hn
  rw [Int.toNat_natCast] at HL
  have hn := hcb.2
  clear h hcb hrc
  have HJ := Lib.hid (fun rr => fint_nx c v L rr hok hL)
  have HEn := Lib.hid (fentityT_any c v L hok hL)
  have HBd := Lib.hid (fbad_any c v L)
  clear hok hL
  go_enter Tryz.func76, Tryz.ntmps76
  go_wp2_with fail
  refine HC.out.mono ?_
  rintro e w1 ⟨rfl, hr1, hg1⟩
  have HR1 := Lib.hid hr1
  have HG1 := Lib.hid hg1
  clear hr1 hg1 HC
  go_wp2
  go_loopw [3, 5] (fun u i wr => ∃ (acc : List Crs) (m : Nat) (rr : Rd), acc.length + m = n ∧ i = .int .i64 acc.length ∧ (RL.1 = acc ++ (Rd.many Rd.crs m rr).1 ∧ RL.2 = (Rd.many Rd.crs m rr).2) ∧ wr.ownsRow w.heap.size 50 15 u acc.length (acc.flatMap crsC) ∧ Rx wr c v L rr ∧ w.grownBy wr (some c)) (fun _ i _ => n - (intOf i).toNat)
  case atStart => exact ⟨[], n, rc, by simp, rfl, by rw [HL.out]; exact ⟨rfl, rfl⟩, World.ownsRow_nil _ _ _ _, HR1.out, HG1.out⟩
  case round =>
    clear HR1 HG1
    obtain ⟨acc, m, rr, hm, rfl, hR, ho, hr, hg⟩ := hrel
    have HR := Lib.hid hR
    have HO := Lib.hid ho
    have HX := Lib.hid hr
    have HG := Lib.hid hg
    have hks := hg.size
    have hce := hr.e2
    have hcl := hr.lt
    clear hR hr hg
    obtain ⟨k, hkk⟩ : ∃ k, acc.length = k := ⟨_, rfl⟩
    have Hkk := Lib.hid hkk
    obtain ⟨A, cc, hv⟩ := slLenX ho
    rw [hkk] at hv hm HO ⊢
    subst hv
    clear ho hkk
    by_cases hm0 : m = 0
    · subst hm0
      obtain rfl : k = n := by omega
      go_wp2
      go_ret
      have hR := HR.out
      refine ⟨_, rfl, ?_, ?_, HG.out⟩
      · rw [hR.1]; simpa [Rd.many, Hkk.out] using HO.out
      · rw [hR.2]; exact HX.out
    · obtain ⟨m, rfl⟩ : ∃ m', m = m' + 1 := ⟨m - 1, by omega⟩
      have hkn : (k : Int) < (n : Int) := by omega
      by_cases he : rr.e = 0
      · have HM := Lib.hid (many_goX Rd.crs m he)
        have HE := Lib.hid (show rr.crs = if rr.num 0 = 1 then (⟨rr.num 0, rr.num 1, rr.num 2, rr.num 3, (rr.nx 4).ent.1, 0, 0⟩, (rr.nx 4).ent.2)
          else if rr.num 0 = 2 then (⟨rr.num 0, rr.num 1, rr.num 2, rr.num 3, e0, (rr.nx 4).num 0, (rr.nx 4).num 1⟩, (rr.nx 4).nx 2)
          else (⟨rr.num 0, rr.num 1, rr.num 2, rr.num 3, e0, 0, 0⟩, (rr.nx 4).bad) from rfl)
        rw [he] at hce
        generalize rr.crs = RC at *
        have HA0 := Lib.hid (show Rx wr c v L (rr.nx 0) from HX.out)
        have HB0 := Lib.hid HG.out
        have HC0 := Lib.hid HO.out
        clear he HX HG HO
        go_wp2_with fail
        refine (HJ.out rr 0 1 rfl _ HA0.out).mono ?_
        rintro e x1 ⟨rfl, hr1, hg1⟩
        have HA1 := Lib.hid hr1
        have HB1 := Lib.hid (grown_trans HB0.out hg1)
        have HC1 := Lib.hid (own_c HC0.out hg1 hcw)
        clear hr1 hg1 HA0 HB0 HC0
        go_wp2_with fail
        refine (HJ.out rr 1 2 rfl _ HA1.out).mono ?_
        rintro e x2 ⟨rfl, hr2, hg2⟩
        have HA2 := Lib.hid hr2
        have HB2 := Lib.hid (grown_trans HB1.out hg2)
        have HC2 := Lib.hid (own_c HC1.out hg2 hcw)
        clear hr2 hg2 HA1 HB1 HC1
        go_wp2_with fail
        refine (HJ.out rr 2 3 rfl _ HA2.out).mono ?_
        rintro e x3 ⟨rfl, hr3, hg3⟩
        have HA3 := Lib.hid hr3
        have HB3 := Lib.hid (grown_trans HB2.out hg3)
        have HC3 := Lib.hid (own_c HC2.out hg3 hcw)
        clear hr3 hg3 HA2 HB2 HC2
        go_wp2_with fail
        refine (HJ.out rr 3 4 rfl _ HA3.out).mono ?_
        rintro e x4 ⟨rfl, hr4, hg4⟩
        have HA4 := Lib.hid hr4
        have HB4 := Lib.hid (grown_trans HB3.out hg4)
        have HC4 := Lib.hid (own_c HC3.out hg4 hcw)
        clear hr4 hg4 HA3 HB3 HC3

        clear hcl hce hks
        generalize rr.num 0 = n0 at *
        generalize rr.num 1 = n1 at *
        generalize rr.num 2 = n2 at *
        generalize rr.num 3 = n3 at *
        generalize hr4 : rr.nx 4 = r4 at *
        go_upto_region 7 with fail
        generalize hW : World.alloc _ _ = W at *
        have BX := Lib.hid (show CrsBox W x4.heap.size ⟨n0, n1, n2, n3, e0, 0, 0⟩ from by rw [← hW]; exact CrsBox.n1 _ ⟨n0, n1, n2, n3, e0, 0, 0⟩ _ rfl)
        have hal : Below x4.heap.size x4 W := by rw [← hW]; exact (Below.refl _ _).alloc (Nat.le_refl _) _
        have HR4 := Lib.hid (show Rx W c v L (r4.nx 0) from HA4.out.bel hal)
        have HG4 := Lib.hid (grown_trans HB4.out (grown_below hal))
        have HO4 := Lib.hid (own_below HC4.out hal)
        have hwg : w.heap.size ≤ x4.heap.size := HB4.out.size
        have hcg : c < x4.heap.size := HA4.out.lt
        have HNG := Lib.hid (show ∀ p, (Value.slice A k cc).ownBlock = some p → x4.heap.size ≠ p from fun p hp => by have := HC4.out.lt p hp; omega)
        clear hW hal HA4 HB4 HC4
        generalize x4.heap.size = gx at *
        have hgl := BX.out.has
        obtain ⟨c0, c1, c2, c3, c4, c5, c6, c7, c8, c9, c10, c11, c12, c13, c14, f0, f1, f2, f3, f4, f5, f6, f7, f8, f9, f10, f11, f12, f13, f14⟩ := BX.out
        by_cases h1 : n0 = 1
        · subst h1
          rw [if_pos rfl] at HE
          rw [HE.out] at HM
          go_wp2_with fail
          refine (HEn.out r4 _ HR4.out).mono ?_
          rintro e w6 ⟨rfl, hr6, hg6⟩
          have HR6 := Lib.hid hr6
          have HG6 := Lib.hid (grown_trans HG4.out hg6)
          have HO6 := Lib.hid (own_c HO4.out hg6 hcw)
          have BX6 := Lib.hid (BX.out.oth3 hg6 (by omega))
          clear hr6 hg6 c0 c1 c2 c3 c4 c5 c6 c7 c8 c9 c10 c11 c12 c13 c14 f0 f1 f2 f3 f4 f5 f6 f7 f8 f9 f10 f11 f12 f13 f14 hgl HR4 HG4 HO4 BX
          generalize hE4 : r4.ent = E4 at *
          have hgl := BX6.out.has
          have hng : ∀ p, (Value.slice A k cc).ownBlock = some p → gx ≠ p := HNG.out
          obtain ⟨c0, c1, c2, c3, c4, c5, c6, c7, c8, c9, c10, c11, c12, c13, c14, f0, f1, f2, f3, f4, f5, f6, f7, f8, f9, f10, f11, f12, f13, f14⟩ := BX6.out
          go_upto_region 13 with fail
          generalize hV : World.setCell _ _ _ = V at *
          have BXf := Lib.hid (show CrsBox V gx ⟨1, n1, n2, n3, E4.1, 0, 0⟩ from by rw [← hV]; exact ((((((((((((((((((BX6.out).set4 (E4.1.id))).set5 (E4.1.kind))).set6 (E4.1.x))).set7 (E4.1.y))).set8 (E4.1.vx))).set9 (E4.1.vy))).set10 (E4.1.health))).set11 (E4.1.age))).set12 (E4.1.owner)))
          have HRf := Lib.hid (show Rx V c v L E4.2 from by rw [← hV]; exact (((((((((HR6.out).far hcg _ _).far hcg _ _).far hcg _ _).far hcg _ _).far hcg _ _).far hcg _ _).far hcg _ _).far hcg _ _).far hcg _ _)
          have HGf := Lib.hid (show w.grownBy V (some c) from by rw [← hV]; exact grown_new (grown_new (grown_new (grown_new (grown_new (grown_new (grown_new (grown_new (grown_new (HG6.out) (grown_setX _ _ _ _) hwg) (grown_setX _ _ _ _) hwg) (grown_setX _ _ _ _) hwg) (grown_setX _ _ _ _) hwg) (grown_setX _ _ _ _) hwg) (grown_setX _ _ _ _) hwg) (grown_setX _ _ _ _) hwg) (grown_setX _ _ _ _) hwg) (grown_setX _ _ _ _) hwg)
          have HOf := Lib.hid (show V.ownsRow w.heap.size 50 15 (.slice A k cc) k (acc.flatMap crsC) from by rw [← hV]; exact own_neX (own_neX (own_neX (own_neX (own_neX (own_neX (own_neX (own_neX (own_neX (HO6.out) hng _ _) hng _ _) hng _ _) hng _ _) hng _ _) hng _ _) hng _ _) hng _ _) hng _ _)
          clear hV HR6 HG6 HO6 BX6 hgl c0 c1 c2 c3 c4 c5 c6 c7 c8 c9 c10 c11 c12 c13 c14 f0 f1 f2 f3 f4 f5 f6 f7 f8 f9 f10 f11 f12 f13 f14
          have hgl := BXf.out.has
          obtain ⟨c0, c1, c2, c3, c4, c5, c6, c7, c8, c9, c10, c11, c12, c13, c14, -⟩ := BXf.out
          go_wp2_with (at_builtin; go_must (refine appL_Crs (by rfl) (.tmp 47) (.tmp 49) (by rfl) w.heap.size _ acc (by rfl) (by rw [Hkk.out]; exact own_below HOf.out ((Below.refl _ _).alloc (Nat.le_refl _) _)) _ [⟨1, n1, n2, n3, E4.1, 0, 0⟩] (by rfl) (one_Crs _ ⟨1, n1, n2, n3, E4.1, 0, 0⟩ _ 1 (by rfl) (by omega)) (by have := Hkk.out; simp; omega) (by have := HGf.out.size; simp; omega) ?_))
          intro v5 w5 ho5 hb5 hg5
          have HO5 := Lib.hid ho5
          have hown : ∀ p, (Value.slice A k cc).ownBlock = some p → w.heap.size ≤ p := fun p hp => by have := HOf.out.lt p hp; omega
          have hrow : ∀ p, (Value.slice A k cc).ownBlock = some p → c < p := fun p hp => by have := hown p hp; omega
          have HR5 := Lib.hid (((HRf.out.bel ((Below.refl _ _).alloc (Nat.le_refl _) _)).row hg5 hrow))
          have HG5 := Lib.hid (grown_row (grown_trans HGf.out (grown_below ((Below.refl _ _).alloc (Nat.le_refl _) _))) hg5 hown)
          clear ho5 hb5 hg5 hown hrow HRf HGf HOf BXf c0 c1 c2 c3 c4 c5 c6 c7 c8 c9 c10 c11 c12 c13 c14 hgl
          obtain ⟨A5, c5, hv5⟩ := slLenX HO5.out
          subst hv5
          go_wp2
          go_roundw
          case rel =>
            have hR := HR.out
            have hM := HM.out
            refine ⟨acc ++ [⟨1, n1, n2, n3, E4.1, 0, 0⟩], m, E4.2, by have := Hkk.out; simp; omega, by have := Hkk.out; simp; go_num, ?_, by simpa using HO5.out, HR5.out, HG5.out⟩
            rw [hM] at hR
            exact ⟨by rw [hR.1]; simp, hR.2⟩
          case measure => simp [intOf]; omega

        · rw [if_neg h1] at HE
          have d1 : (n0 == 1) = false := by simpa using h1
          by_cases h2 : n0 = 2
          · subst h2
            rw [if_pos rfl] at HE
            rw [HE.out] at HM
            clear h1
            go_wp2_with fail
            refine (HJ.out r4 0 1 rfl _ HR4.out).mono ?_
            rintro e w6 ⟨rfl, hr6, hg6⟩
            have HR6 := Lib.hid hr6
            have HG6 := Lib.hid (grown_trans HG4.out hg6)
            have HO6 := Lib.hid (own_c HO4.out hg6 hcw)
            have BX6 := Lib.hid (BX.out.oth3 hg6 (by omega))
            clear hr6 hg6 HR4 HG4 HO4 BX c0 c1 c2 c3 c4 c5 c6 c7 c8 c9 c10 c11 c12 c13 c14 f0 f1 f2 f3 f4 f5 f6 f7 f8 f9 f10 f11 f12 f13 f14 hgl
            have hgl := BX6.out.has
            obtain ⟨c0, c1, c2, c3, c4, c5, c6, c7, c8, c9, c10, c11, c12, c13, c14, f0, f1, f2, f3, f4, f5, f6, f7, f8, f9, f10, f11, f12, f13, f14⟩ := BX6.out
            go_wp2_with fail
            refine (HJ.out r4 1 2 rfl _ HR6.out).mono ?_
            rintro e w7 ⟨rfl, hr7, hg7⟩
            have HR7 := Lib.hid hr7
            have HG7 := Lib.hid (grown_trans HG6.out hg7)
            have HO7 := Lib.hid (own_c HO6.out hg7 hcw)
            have BX7 := Lib.hid (BX6.out.oth3 hg7 (by omega))
            clear hr7 hg7 HR6 HG6 HO6 BX6 c0 c1 c2 c3 c4 c5 c6 c7 c8 c9 c10 c11 c12 c13 c14 f0 f1 f2 f3 f4 f5 f6 f7 f8 f9 f10 f11 f12 f13 f14 hgl
            have hgl := BX7.out.has
            have hng : ∀ p, (Value.slice A k cc).ownBlock = some p → gx ≠ p := HNG.out
            obtain ⟨c0, c1, c2, c3, c4, c5, c6, c7, c8, c9, c10, c11, c12, c13, c14, f0, f1, f2, f3, f4, f5, f6, f7, f8, f9, f10, f11, f12, f13, f14⟩ := BX7.out
            generalize r4.num 0 = m0 at *
            generalize r4.num 1 = m1 at *
            go_upto_region 13 with fail
            generalize hV : World.setCell _ _ _ = V at *
            have BXf := Lib.hid (show CrsBox V gx ⟨2, n1, n2, n3, e0, m0, m1⟩ from by rw [← hV]; exact ((BX7.out.set13 m0).set14 m1))
            have HRf := Lib.hid (show Rx V c v L (r4.nx 2) from by rw [← hV]; exact ((HR7.out).far hcg _ _).far hcg _ _)
            have HGf := Lib.hid (show w.grownBy V (some c) from by rw [← hV]; exact grown_new (grown_new (HG7.out) (grown_setX _ _ _ _) hwg) (grown_setX _ _ _ _) hwg)
            have HOf := Lib.hid (show V.ownsRow w.heap.size 50 15 (.slice A k cc) k (acc.flatMap crsC) from by rw [← hV]; exact own_neX (own_neX (HO7.out) hng _ _) hng _ _)
            clear hV HR7 HG7 HO7 BX7 hgl c0 c1 c2 c3 c4 c5 c6 c7 c8 c9 c10 c11 c12 c13 c14 f0 f1 f2 f3 f4 f5 f6 f7 f8 f9 f10 f11 f12 f13 f14
            have hgl := BXf.out.has
            obtain ⟨c0, c1, c2, c3, c4, c5, c6, c7, c8, c9, c10, c11, c12, c13, c14, -⟩ := BXf.out
            go_wp2_with (at_builtin; go_must (refine appL_Crs (by rfl) (.tmp 47) (.tmp 49) (by rfl) w.heap.size _ acc (by rfl) (by rw [Hkk.out]; exact own_below HOf.out ((Below.refl _ _).alloc (Nat.le_refl _) _)) _ [⟨2, n1, n2, n3, e0, m0, m1⟩] (by rfl) (one_Crs _ ⟨2, n1, n2, n3, e0, m0, m1⟩ _ 1 (by rfl) (by omega)) (by have := Hkk.out; simp; omega) (by have := HGf.out.size; simp; omega) ?_))
            intro v5 w5 ho5 hb5 hg5
            have HO5 := Lib.hid ho5
            have hown : ∀ p, (Value.slice A k cc).ownBlock = some p → w.heap.size ≤ p := fun p hp => by have := HOf.out.lt p hp; omega
            have hrow : ∀ p, (Value.slice A k cc).ownBlock = some p → c < p := fun p hp => by have := hown p hp; omega
            have HR5 := Lib.hid (((HRf.out.bel ((Below.refl _ _).alloc (Nat.le_refl _) _)).row hg5 hrow))
            have HG5 := Lib.hid (grown_row (grown_trans HGf.out (grown_below ((Below.refl _ _).alloc (Nat.le_refl _) _))) hg5 hown)
            clear ho5 hb5 hg5 hown hrow HRf HGf HOf BXf c0 c1 c2 c3 c4 c5 c6 c7 c8 c9 c10 c11 c12 c13 c14 hgl
            obtain ⟨A5, c5, hv5⟩ := slLenX HO5.out
            subst hv5
            go_wp2
            go_roundw
            case rel =>
              have hR := HR.out
              have hM := HM.out
              refine ⟨acc ++ [⟨2, n1, n2, n3, e0, m0, m1⟩], m, (r4.nx 2), by have := Hkk.out; simp; omega, by have := Hkk.out; simp; go_num, ?_, by simpa using HO5.out, HR5.out, HG5.out⟩
              rw [hM] at hR
              exact ⟨by rw [hR.1]; simp, hR.2⟩
            case measure => simp [intOf]; omega

          · rw [if_neg h2] at HE
            have d2 : (n0 == 2) = false := by simpa using h2
            rw [HE.out] at HM
            clear h1 h2
            go_wp2_with fail
            refine (HBd.out r4 _ HR4.out).mono ?_
            rintro e w6 ⟨rfl, hr6, hg6⟩
            have HRf := Lib.hid hr6
            have HGf := Lib.hid (grown_trans HG4.out hg6)
            have HOf := Lib.hid (own_c HO4.out hg6 hcw)
            have BXf := Lib.hid (BX.out.oth3 hg6 (by omega))
            clear hr6 hg6 HR4 HG4 HO4 BX c0 c1 c2 c3 c4 c5 c6 c7 c8 c9 c10 c11 c12 c13 c14 f0 f1 f2 f3 f4 f5 f6 f7 f8 f9 f10 f11 f12 f13 f14 hgl
            have hgl := BXf.out.has
            obtain ⟨c0, c1, c2, c3, c4, c5, c6, c7, c8, c9, c10, c11, c12, c13, c14, -⟩ := BXf.out
            go_wp2_with (at_builtin; go_must (refine appL_Crs (by rfl) (.tmp 47) (.tmp 49) (by rfl) w.heap.size _ acc (by rfl) (by rw [Hkk.out]; exact own_below HOf.out ((Below.refl _ _).alloc (Nat.le_refl _) _)) _ [⟨n0, n1, n2, n3, e0, 0, 0⟩] (by rfl) (one_Crs _ ⟨n0, n1, n2, n3, e0, 0, 0⟩ _ 1 (by rfl) (by omega)) (by have := Hkk.out; simp; omega) (by have := HGf.out.size; simp; omega) ?_))
            intro v5 w5 ho5 hb5 hg5
            have HO5 := Lib.hid ho5
            have hown : ∀ p, (Value.slice A k cc).ownBlock = some p → w.heap.size ≤ p := fun p hp => by have := HOf.out.lt p hp; omega
            have hrow : ∀ p, (Value.slice A k cc).ownBlock = some p → c < p := fun p hp => by have := hown p hp; omega
            have HR5 := Lib.hid (((HRf.out.bel ((Below.refl _ _).alloc (Nat.le_refl _) _)).row hg5 hrow))
            have HG5 := Lib.hid (grown_row (grown_trans HGf.out (grown_below ((Below.refl _ _).alloc (Nat.le_refl _) _))) hg5 hown)
            clear ho5 hb5 hg5 hown hrow HRf HGf HOf BXf c0 c1 c2 c3 c4 c5 c6 c7 c8 c9 c10 c11 c12 c13 c14 hgl
            obtain ⟨A5, c5, hv5⟩ := slLenX HO5.out
            subst hv5
            go_wp2
            go_roundw
            case rel =>
              have hR := HR.out
              have hM := HM.out
              refine ⟨acc ++ [⟨n0, n1, n2, n3, e0, 0, 0⟩], m, r4.bad, by have := Hkk.out; simp; omega, by have := Hkk.out; simp; go_num, ?_, by simpa using HO5.out, HR5.out, HG5.out⟩
              rw [hM] at hR
              exact ⟨by rw [hR.1]; simp, hR.2⟩
            case measure => simp [intOf]; omega

      · have HM := Lib.hid (many_stuck (one := Rd.crs) (m + 1) he)
        obtain ⟨z, hz⟩ : ∃ z, rr.e = z := ⟨_, rfl⟩
        rw [hz] at hce he
        have hz' : (z == 0) = false := by simpa using he
        clear he hz
        go_wp2
        go_ret
        have hR := HR.out
        rw [HM.out] at hR
        refine ⟨_, rfl, ?_, ?_, HG.out⟩
        · rw [hR.1]; simpa [Hkk.out] using HO.out
        · rw [hR.2]; exact HX.out

end Go.Proofs.YtlpkaljepaclpaaGreat.Fx
namespace Go.Proofs.YtlpkaljepaclpaaGreat.Fx
open Go.ChangeShapes Go.WideShapes Go.ChangeAt Go.RowKit
set_option linter.unusedVariables false
set_option maxRecDepth 100000

theorem mem_nrTo (a r y : Int) (k : Nat) : y ∈ nrTo a r k ↔ 0 ≤ y ∧ y < k ∧ nearB a r y = true := by
  induction k with
  | zero => simp [nrTo]; omega
  | succ k ih =>
    unfold nrTo
    by_cases h : nearB a r k = true
    · rw [if_pos h, List.mem_append, ih, List.mem_singleton]
      constructor
      · rintro (⟨h0, h1, h2⟩ | rfl)
        · exact ⟨h0, by omega, h2⟩
        · exact ⟨by omega, by omega, h⟩
      · rintro ⟨h0, h1, h2⟩
        by_cases e : y = k
        · exact .inr e
        · exact .inl ⟨h0, by omega, h2⟩
    · rw [if_neg h, List.append_nil, ih]
      constructor
      · rintro ⟨h0, h1, h2⟩
        exact ⟨h0, by omega, h2⟩
      · rintro ⟨h0, h1, h2⟩
        refine ⟨h0, ?_, h2⟩
        by_cases e : y = k
        · subst e; exact absurd h2 h
        · omega

theorem mem_nr {a b p n r y : Int} (h : hasB a b p n r = true) : y ∈ nr a b p n r ↔ 0 ≤ y ∧ y < a * b ∧ nearB a r y = true := by
  unfold nr
  rw [if_pos h, mem_nrTo]
  obtain ⟨-, h0, h1, ha, ha4, hb, hb4, -⟩ := hasB_rt h
  have := mul_le4 ha ha4 hb hb4
  constructor <;> (rintro ⟨x, y, z⟩; exact ⟨x, by omega, z⟩)

end Go.Proofs.YtlpkaljepaclpaaGreat.Fx
