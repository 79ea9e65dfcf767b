/- Package arena: handed and All: everybody in a world, by rising numbers. -/
import Derived.Test.YtfpofegfbinalaaSeLeaf
import Derived.Test.YtfpofegfbinalaaCrSort
import Derived.Test.YtfpofegfbinalaaGBoxNRegion
import Derived.Test.YtfpofegfbinalaaGBoxNCross
import Derived.Deep.Onto
namespace Go.Proofs.Ytfpofegfbinalaa.Fx
open Go.ChangeShapes Go.WideShapes Go.ChangeAt Go.RowKit
set_option linter.unusedVariables false
set_option maxRecDepth 100000

/-- The entities that are handed over. -/
def handedL (l : List Crs) : List Ent := (l.filter fun c => decide (c.kind = 1)).map Crs.e

theorem handed_take {l : List Crs} {k : Nat} {c : Crs} (h : l[k]? = some c) : handedL (l.take (k + 1)) = handedL (l.take k) ++ if c.kind = 1 then [c.e] else [] := by
  unfold handedL
  rw [take_at h, List.filter_append, List.map_append]
  congr 1
  by_cases h1 : c.kind = 1 <;> simp [h1]

theorem handed_le (l : List Crs) : (handedL l).length ≤ l.length := by
  unfold handedL
  rw [List.length_map]
  exact List.length_filter_le _ _

set_option maxHeartbeats 4000000 in
theorem handed_any (v : Value) (l : List Crs) (w : World) (hv : IsSl crsC w v l) (hn : l.length ≤ 1000000) :
    Calls Try.prog 13 #[v] w fun z w' => (∃ v', z = .returned v' ∧ w'.ownsRow w.heap.size 37 9 v' (handedL l).length ((handedL l).flatMap entC)) ∧ Below w.heap.size w w' := by
  have HV := Lib.hid hv
  obtain ⟨A, c, rfl, -⟩ := hv
  obtain ⟨N, hN⟩ : ∃ N, l.length = N := ⟨_, rfl⟩
  rw [hN] at hn HV ⊢
  have Hn := Lib.hid hN
  have HL := Lib.hid (fun k => handed_le (l.take k))
  clear hN
  go_enter Try.func13, Try.ntmps13
  go_wp2
  go_loopw [3, 8] (fun v i wr => ∃ k : Nat, k ≤ N ∧ i = .int .i64 k ∧ wr.ownsRow w.heap.size 37 9 v (handedL (l.take k)).length ((handedL (l.take k)).flatMap entC) ∧ Below w.heap.size w wr) (fun _ i _ => N - (intOf i).toNat)
  case atStart => exact ⟨0, Nat.zero_le _, rfl, ⟨by simp [handedL], .inl ⟨rfl, rfl⟩⟩, Below.refl _ _⟩
  case round =>
    obtain ⟨k, hk, rfl, hown, hbel⟩ := hrel
    have Hown := Lib.hid hown
    have Hbel := Lib.hid hbel
    clear hown hbel
    by_cases hlt : k < N
    · have hd1 : decide ((k : Int) < (N : Int)) = true := decide_eq_true (by omega)
      obtain ⟨x, hx⟩ := getE l k N Hn.out hlt
      have HX := Lib.hid (handed_take hx)
      have HLk := Lib.hid (show (handedL (l.take k)).length ≤ k from Nat.le_trans (HL.out k) (by rw [List.length_take]; omega))
      obtain ⟨bb, off, hA, hc⟩ := elem_Crs (HV.out.below Hbel.out).at hx
      subst hA
      obtain ⟨d0, d1, d2, d3, d4, d5, d6, d7, d8, d9, d10, d11, d12, d13, d14⟩ := hc
      clear hx
      go_upto_region 5 with fail
      generalize hW : World.alloc _ _ = W at *
      have BX := Lib.hid (show CrsBox W wr.heap.size x from by rw [← hW]; exact CrsBox.n1 wr x _ rfl)
      have HO := Lib.hid (show W.ownsRow w.heap.size 37 9 u3 (handedL (l.take k)).length ((handedL (l.take k)).flatMap entC) from by rw [← hW]; exact Hown.out.alloc _)
      have HB := Lib.hid (show Below w.heap.size w W from by rw [← hW]; exact Hbel.out.alloc Hbel.out.size _)
      generalize wr.heap.size = gx at *
      clear hW d0 d1 d2 d3 d4 d5 d6 d7 d8 d9 d10 d11 d12 d13 d14 Hown Hbel
      have hgx := BX.out.has
      obtain ⟨x0, x1, x2, x3, x4, x5, x6, x7, x8, x9, x10, x11, x12, x13, x14, -⟩ := BX.out
      by_cases hk1 : x.kind = 1
      · have hk1' : (x.kind == 1) = true := by simpa using hk1
        rw [if_pos hk1] at HX
        have hbs := HB.out.size
        clear hk1
        go_wp2_with (at_builtin; go_must (refine appL_Ent (by rfl) (.tmp 15) (.tmp 18) (by rfl) w.heap.size _ (handedL (l.take k)) (by rfl) (HO.out.alloc _) _ [x.e] (by rfl) (one_Ent _ x.e _ 1 (by first | rfl | simp) (by omega)) (by have := HLk.out; simp; omega) (by simp; omega) ?_))
        intro v' w5 hown5 hb5 _
        have HO5 := Lib.hid (show w5.ownsRow w.heap.size 37 9 v' (handedL (l.take (k + 1))).length ((handedL (l.take (k + 1))).flatMap entC) from by rw [HX.out]; simpa using hown5)
        have HB5 := Lib.hid ((HB.out.alloc HB.out.size _).trans hb5)
        clear hown5 hb5
        go_wp2
        go_roundw
        case rel => exact ⟨k + 1, by omega, by go_num, HO5.out, HB5.out⟩
        case measure => simp [intOf]; omega
      · have hk1' : (x.kind == 1) = false := by simpa using hk1
        rw [if_neg hk1, List.append_nil] at HX
        go_wp2
        go_roundw
        case rel => exact ⟨k + 1, by omega, by go_num, by rw [HX.out]; exact HO.out, HB.out⟩
        case measure => simp [intOf]; omega
    · obtain rfl : k = N := by omega
      have hd1 : decide ((k : Int) < (k : Int)) = false := decide_eq_false (by omega)
      rw [List.take_of_length_le (Nat.le_of_eq Hn.out)] at Hown
      go_wp2
      go_ret
      exact ⟨⟨_, rfl, Hown.out⟩, Hbel.out⟩

/- ## Worlds -/

theorem elem_Reg {w : World} {A : Option Addr} {es : List Reg} (h : CellsAt w A (es.flatMap regC)) {k : Nat} {e : Reg} (hk : es[k]? = some e) :
    ∃ b off, A = some ⟨b, off, none⟩ ∧ w.cell? ⟨b, off + k * 2, none⟩ = some (.int .i64 e.frame) ∧ w.cell? ⟨b, off + k * 2 + 1, none⟩ = some e.list := by
  obtain ⟨b, off, e1, hc⟩ := h.elem 2 regC_len (by omega) hk
  exact ⟨b, off, e1, hc 0 _ rfl, hc 1 _ rfl⟩

/-- Regions that read as frames and lists. -/
def AllRg (w : World) (rs : List Reg) (fs : List (Int × List Ent)) : Prop := rs.length = fs.length ∧ ∀ (i : Nat) R f, rs[i]? = some R → fs[i]? = some f → R.frame = f.1 ∧ IsSl entC w R.list f.2

theorem AllRg.below {w w' : World} {rs : List Reg} {fs : List (Int × List Ent)} (h : AllRg w rs fs) (hb : Below w.heap.size w w') : AllRg w' rs fs := ⟨h.1, fun i R f h1 h2 => ⟨(h.2 i R f h1 h2).1, (h.2 i R f h1 h2).2.below hb⟩⟩

def RgsSl (w : World) (v : Value) (fs : List (Int × List Ent)) : Prop := ∃ rs, IsSl regC w v rs ∧ AllRg w rs fs

theorem RgsSl.below {w w' : World} {v : Value} {fs : List (Int × List Ent)} (h : RgsSl w v fs) (hb : Below w.heap.size w w') : RgsSl w' v fs := by
  obtain ⟨rs, h1, h2⟩ := h
  exact ⟨rs, h1.below hb, h2.below hb⟩

def OutSl (w : World) (v : Value) (os : List (List Crs)) : Prop := ∃ vs, IsSl oneV w v vs ∧ AllSl w vs os

theorem OutSl.below {w w' : World} {v : Value} {os : List (List Crs)} (h : OutSl w v os) (hb : Below w.heap.size w w') : OutSl w' v os := by
  obtain ⟨vs, h1, h2⟩ := h
  exact ⟨vs, h1.below hb, h2.below hb⟩

/-- All that there is: who is in a region, and who is on its way. -/
def listsL (fs : List (Int × List Ent)) : List Ent := fs.flatMap fun f => f.2

def handsL (os : List (List Crs)) : List Ent := os.flatMap handedL

def allL (fs : List (Int × List Ent)) (os : List (List Crs)) : List Ent := st Se.idB (listsL fs ++ handsL os)

theorem lists_take {fs : List (Int × List Ent)} {k : Nat} {f : Int × List Ent} (h : fs[k]? = some f) : listsL (fs.take (k + 1)) = listsL (fs.take k) ++ f.2 := by
  unfold listsL
  rw [take_at h, List.flatMap_append]
  simp

theorem hands_take {os : List (List Crs)} {k : Nat} {o : List Crs} (h : os[k]? = some o) : handsL (os.take (k + 1)) = handsL (os.take k) ++ handedL o := by
  unfold handsL
  rw [take_at h, List.flatMap_append]
  simp

theorem flat_take_le {α β : Type} (g : α → List β) (l : List α) (k : Nat) : ((l.take k).flatMap g).length ≤ (l.flatMap g).length := by
  have e : l.flatMap g = (l.take k).flatMap g ++ (l.drop k).flatMap g := by rw [← List.flatMap_append, List.take_append_drop]
  rw [e, List.length_append]
  omega

set_option maxHeartbeats 8000000 in
theorem aall_any (v u : Value) (fs : List (Int × List Ent)) (os : List (List Crs)) (w : World) (hR : RgsSl w v fs) (hO : OutSl w u os) (hn : (listsL fs).length ≤ 100000) (hm : (handsL os).length ≤ 100000) (hc : ∀ o ∈ os, o.length ≤ 100000) (hk : fs.length ≤ 1000) (hq : os.length ≤ 1000) :
    Calls Try.prog 6 #[.agg #[v, u]] w fun z w' => (∃ v', z = .returned v' ∧ w'.ownsRow w.heap.size 37 9 v' (allL fs os).length ((allL fs os).flatMap entC)) ∧ Below w.heap.size w w' := by
  obtain ⟨rs, hrs, hra⟩ := hR
  obtain ⟨vs, hvs, hva⟩ := hO
  have HR := Lib.hid hrs
  have HA := Lib.hid hra
  have HO := Lib.hid hvs
  have HV := Lib.hid hva
  obtain ⟨A, c, rfl, -⟩ := hrs
  obtain ⟨B, d, rfl, -⟩ := hvs
  obtain ⟨N, hN⟩ : ∃ N, rs.length = N := ⟨_, rfl⟩
  obtain ⟨M, hM⟩ : ∃ M, vs.length = M := ⟨_, rfl⟩
  rw [hN] at HR ⊢
  rw [hM] at HO ⊢
  have Hn := Lib.hid hN
  have Hm := Lib.hid hM
  have hfN : fs.length = N := by rw [← hra.1, hN]
  have hoM : os.length = M := by rw [← hva.1, hM]
  have hN6 : N ≤ 1000 := by omega
  have hM6 : M ≤ 1000 := by omega
  have HfN := Lib.hid hfN
  have HoM := Lib.hid hoM
  have HLf := Lib.hid (fun k => Nat.le_trans (flat_take_le (fun f : Int × List Ent => f.2) fs k) hn)
  have HLo := Lib.hid (fun k => Nat.le_trans (flat_take_le handedL os k) hm)
  have Hc := Lib.hid hc
  have HH := Lib.hid handed_any
  have HS := Lib.hid (fun v w2 base hb ho => Se.sort_own v (listsL fs ++ handsL os) base w2 hb ho (by rw [List.length_append]; omega))
  have HE := Lib.hid (show allL fs os = st Se.idB (listsL fs ++ handsL os) from rfl)
  clear hra hva hN hM hn hm hc hk hq hfN hoM
  go_enter Try.func6, Try.ntmps6
  go_upto_region 2 with fail
  generalize hW : World.alloc _ _ = W at *
  have b0 : W.cell? ⟨w.heap.size, 0, none⟩ = some (.slice A N c) := by rw [← hW, World.cell?_alloc_new]; rfl
  have b1 : W.cell? ⟨w.heap.size, 1, none⟩ = some (.slice B M d) := by rw [← hW, World.cell?_alloc_new]; rfl
  have hbs : W.heap.size = w.heap.size + 1 := by rw [← hW]; simp
  have HB := Lib.hid (show Below w.heap.size w W from by rw [← hW]; exact (Below.refl _ _).alloc (Nat.le_refl _) _)
  have B1 := Lib.hid b1
  have Hbs := Lib.hid hbs
  have hgl : w.heap.size < W.heap.size := by omega
  clear hW hbs
  go_wp2
  go_loopw [3, 11] (fun v i wr => ∃ k : Nat, k ≤ N ∧ i = .int .i64 k ∧ wr.ownsRow W.heap.size 37 9 v (listsL (fs.take k)).length ((listsL (fs.take k)).flatMap entC) ∧ Below W.heap.size W wr) (fun _ i _ => N - (intOf i).toNat)
  case atStart => exact ⟨0, Nat.zero_le _, rfl, ⟨by simp [listsL], .inl ⟨rfl, rfl⟩⟩, Below.refl _ _⟩
  case round =>
    obtain ⟨k, hk, rfl, hown, hbel⟩ := hrel
    have Hown := Lib.hid hown
    have Hbel := Lib.hid hbel
    clear hown hbel b0 b1
    by_cases hlt : k < N
    · have hd1 : decide ((k : Int) < (N : Int)) = true := decide_eq_true (by omega)
      obtain ⟨R, hR⟩ := getE rs k N Hn.out hlt
      obtain ⟨f, hf⟩ := getE fs k N HfN.out hlt
      obtain ⟨hfr, hsl⟩ := HA.out.2 k R f hR hf
      have HX := Lib.hid (lists_take hf)
      have HLk := Lib.hid (HLf.out (k + 1))
      have HF := Lib.hid ((hsl.below HB.out).below Hbel.out)
      obtain ⟨bb, off, hA, r0, r1⟩ := elem_Reg ((HR.out.below HB.out).below Hbel.out).at hR
      subst hA
      obtain ⟨A2, c2, hRl, -⟩ := hsl
      rw [hRl] at r1 HF
      clear hR hf hRl hfr
      go_upto_region 5 with fail
      generalize hW : World.alloc _ _ = W2 at *
      have q1 : W2.cell? ⟨wr.heap.size, 1, none⟩ = some (.slice A2 f.2.length c2) := by rw [← hW, World.cell?_alloc_new]; rfl
      have hal : Below wr.heap.size wr W2 := by rw [← hW]; exact (Below.refl _ _).alloc (Nat.le_refl _) _
      have HO2 := Lib.hid (own_below Hown.out hal)
      have HB2 := Lib.hid (nextW Hbel.out hal)
      have HF2 := Lib.hid (HF.out.below hal)
      have hq1 := World.block_lt_of_cell? _ _ q1
      generalize wr.heap.size = gx at *
      clear hW hal r0 r1 Hown Hbel HF
      have hbs := HB2.out.size
      go_wp2_with (at_builtin; go_must (refine appL_Ent (by rfl) (.tmp 15) (.tmp 17) (by rfl) W.heap.size _ (listsL (fs.take k)) (by rfl) HO2.out _ f.2 (by rfl) HF2.out (by have h1 := HLk.out; have h2 := HX.out; unfold listsL at h2 ⊢; rw [h2, List.length_append] at h1; omega) hbs ?_))
      intro v' w5 hown5 hb5 _
      have HO5 := Lib.hid (show w5.ownsRow W.heap.size 37 9 v' (listsL (fs.take (k + 1))).length ((listsL (fs.take (k + 1))).flatMap entC) from by rw [HX.out]; simpa using hown5)
      have HB5 := Lib.hid (HB2.out.trans hb5)
      clear hown5 hb5
      go_wp2
      go_roundw
      case rel => exact ⟨k + 1, by omega, by go_num, HO5.out, HB5.out⟩
      case measure => simp [intOf]; omega
    · obtain rfl : k = N := by omega
      have hd1 : decide ((k : Int) < (k : Int)) = false := decide_eq_false (by omega)
      rw [List.take_of_length_le (Nat.le_of_eq HfN.out)] at Hown
      have b1 : wr.cell? ⟨w.heap.size, 1, none⟩ = some (.slice B M d) := (Hbel.out.cell (p := ⟨w.heap.size, 1, none⟩) hgl).trans B1.out
      have HLl := Lib.hid (show (listsL fs).length ≤ 100000 from by have := HLf.out fs.length; rw [List.take_length] at this; exact this)
      clear HLf
      generalize listsL fs = X at *
      go_wp2
      clear b1
      go_loopw [3, 23] (fun v i wr => ∃ k : Nat, k ≤ M ∧ i = .int .i64 k ∧ wr.ownsRow W.heap.size 37 9 v (X ++ handsL (os.take k)).length ((X ++ handsL (os.take k)).flatMap entC) ∧ Below W.heap.size W wr) (fun _ i _ => M - (intOf i).toNat)
      case atStart => exact ⟨0, Nat.zero_le _, rfl, by simpa [handsL] using Hown.out, Hbel.out⟩
      case round =>
        clear Hown Hbel
        obtain ⟨k, hk, rfl, hown, hbel⟩ := hrel
        have Hown := Lib.hid hown
        have Hbel := Lib.hid hbel
        clear hown hbel
        by_cases hlt : k < M
        · have hd1 : decide ((k : Int) < (M : Int)) = true := decide_eq_true (by omega)
          obtain ⟨V, hV⟩ := getE vs k M Hm.out hlt
          obtain ⟨o, ho⟩ := getE os k M HoM.out hlt
          have hsl := HV.out.2 k V o hV ho
          have HX := Lib.hid (hands_take ho)
          have HLk := Lib.hid (HLo.out (k + 1))
          have Hol := Lib.hid (Hc.out o (List.mem_of_getElem? ho))
          have HF := Lib.hid ((hsl.below HB.out).below Hbel.out)
          obtain ⟨bb, off, hB, hc⟩ := ((HO.out.below HB.out).below Hbel.out).at (by intro h; rw [flat_oneV] at h; subst h; simp at hV)
          subst hB
          rw [flat_oneV] at hc
          have v0 := hc k V hV
          obtain ⟨A2, c2, rfl, -⟩ := hsl
          clear hV ho hc
          go_wp2_with fail
          refine (HH.out _ _ _ HF.out (by have := Hol.out; omega)).mono ?_
          rintro e w4 ⟨⟨v4, rfl, ho4⟩, hb4⟩
          have HO2 := Lib.hid (own_below Hown.out hb4)
          have HB2 := Lib.hid (nextW Hbel.out hb4)
          have HF2 := Lib.hid (owned_sl ho4)
          obtain ⟨A4, c4, rfl, -⟩ := owned_sl ho4
          clear ho4 hb4 v0 Hown Hbel HF
          have hbs := HB2.out.size
          go_wp2_with (at_builtin; go_must (refine appL_Ent (by rfl) (.tmp 27) (.tmp 29) (by rfl) W.heap.size _ (X ++ handsL (os.take k)) (by rfl) HO2.out _ (handedL o) (by rfl) HF2.out (by have h1 := HLk.out; have h2 := HX.out; have h3 := HLl.out; unfold handsL at h2 ⊢; rw [h2, List.length_append] at h1; rw [List.length_append]; omega) hbs ?_))
          intro v' w5 hown5 hb5 _
          have HO5 := Lib.hid (show w5.ownsRow W.heap.size 37 9 v' (X ++ handsL (os.take (k + 1))).length ((X ++ handsL (os.take (k + 1))).flatMap entC) from by rw [HX.out, ← List.append_assoc]; simpa using hown5)
          have HB5 := Lib.hid (HB2.out.trans hb5)
          clear hown5 hb5
          go_wp2
          go_roundw
          case rel => exact ⟨k + 1, by omega, by go_num, HO5.out, HB5.out⟩
          case measure => simp [intOf]; omega
        · obtain rfl : k = M := by omega
          have hd1 : decide ((k : Int) < (k : Int)) = false := decide_eq_false (by omega)
          rw [List.take_of_length_le (Nat.le_of_eq HoM.out)] at Hown
          generalize X ++ handsL os = Z at *
          obtain ⟨A4, c4, rfl, -⟩ := owned_sl Hown.out
          have hbs := Hbel.out.size
          go_wp2_with fail
          refine (HS.out _ _ W.heap.size hbs Hown.out).mono ?_
          rintro e w4 ⟨rfl, ho4, hb4⟩
          have ho5 : w4.ownsRow W.heap.size 37 9 (.slice A4 Z.length c4) (allL fs os).length ((allL fs os).flatMap entC) := by rw [HE.out]; exact ho4
          have HO4 := Lib.hid (ho5.mono (show w.heap.size ≤ W.heap.size by omega))
          have HB4 := Lib.hid (nextW HB.out (Hbel.out.trans hb4))
          clear ho4 ho5 hb4
          go_wp2
          go_ret
          exact ⟨⟨_, rfl, HO4.out⟩, HB4.out⟩

end Go.Proofs.Ytfpofegfbinalaa.Fx
