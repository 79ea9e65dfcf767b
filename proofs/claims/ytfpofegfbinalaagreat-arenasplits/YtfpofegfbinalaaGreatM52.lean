/- Package arena: handed and All: everybody in a world, by rising numbers. Package arena: empty worlds and who stands in them. -/
import Derived.Test.YtfpofegfbinalaaGreatM51
import Derived.Test.YtfpofegfbinalaaGreatM36
import Derived.Test.YtfpofegfbinalaaGreatM03
import Derived.Deep.Onto
import Derived.Test.YtfpofegfbinalaaGreatM07
import Derived.Test.YtfpofegfbinalaaGreatM01
import Derived.Test.YtfpofegfbinalaaGreatM19
import Derived.Deep.OwnRows
namespace Go.Proofs.YtfpofegfbinalaaGreat.Fx
open Go.ChangeShapes Go.WideShapes Go.ChangeAt Go.RowKit
set_option linter.unusedVariables false
set_option maxRecDepth 100000

/-- The entities that are handed over. -/
def handedL (l : List Crs) : List Ent := (l.filter fun c => decide (c.kind = 1)).map Crs.e

theorem handed_take {l : List Crs} {k : Nat} {c : Crs} (h : l[k]? = some c) : handedL (l.take (k + 1)) = handedL (l.take k) ++ if c.kind = 1 then [c.e] else [] := by
  unfold handedL
  rw [take_at h, List.filter_append, List.map_append]
  congr 1
  by_cases h1 : c.kind = 1 <;> simp [h1]

theorem handed_le (l : List Crs) : (handedL l).length ≤ l.length := by
  unfold handedL
  rw [List.length_map]
  exact List.length_filter_le _ _

set_option maxHeartbeats 4000000 in
theorem handed_any (v : Value) (l : List Crs) (w : World) (hv : IsSl crsC w v l) (hn : l.length ≤ 1000000) :
    Calls Tryz.prog 41 #[v] w fun z w' => (∃ v', z = .returned v' ∧ w'.ownsRow w.heap.size 45 9 v' (handedL l).length ((handedL l).flatMap entC)) ∧ Below w.heap.size w w' := by
  have HV := Lib.hid hv
  obtain ⟨A, c, rfl, -⟩ := hv
  obtain ⟨N, hN⟩ : ∃ N, l.length = N := ⟨_, rfl⟩
  rw [hN] at hn HV ⊢
  have Hn := Lib.hid hN
  have HL := Lib.hid (fun k => handed_le (l.take k))
  clear hN
  go_enter Tryz.func41, Tryz.ntmps41
  go_wp2
  go_loopw [3, 8] (fun v i wr => ∃ k : Nat, k ≤ N ∧ i = .int .i64 k ∧ wr.ownsRow w.heap.size 45 9 v (handedL (l.take k)).length ((handedL (l.take k)).flatMap entC) ∧ Below w.heap.size w wr) (fun _ i _ => N - (intOf i).toNat)
  case atStart => exact ⟨0, Nat.zero_le _, rfl, ⟨by simp [handedL], .inl ⟨rfl, rfl⟩⟩, Below.refl _ _⟩
  case round =>
    obtain ⟨k, hk, rfl, hown, hbel⟩ := hrel
    have Hown := Lib.hid hown
    have Hbel := Lib.hid hbel
    clear hown hbel
    by_cases hlt : k < N
    · have hd1 : decide ((k : Int) < (N : Int)) = true := decide_eq_true (by omega)
      obtain ⟨x, hx⟩ := getE l k N Hn.out hlt
      have HX := Lib.hid (handed_take hx)
      have HLk := Lib.hid (show (handedL (l.take k)).length ≤ k from Nat.le_trans (HL.out k) (by rw [List.length_take]; omega))
      obtain ⟨bb, off, hA, hc⟩ := elem_Crs (HV.out.below Hbel.out).at hx
      subst hA
      obtain ⟨d0, d1, d2, d3, d4, d5, d6, d7, d8, d9, d10, d11, d12, d13, d14⟩ := hc
      clear hx
      go_upto_region 5 with fail
      generalize hW : World.alloc _ _ = W at *
      have BX := Lib.hid (show CrsBox W wr.heap.size x from by rw [← hW]; exact CrsBox.n1 wr x _ rfl)
      have HO := Lib.hid (show W.ownsRow w.heap.size 45 9 u3 (handedL (l.take k)).length ((handedL (l.take k)).flatMap entC) from by rw [← hW]; exact Hown.out.alloc _)
      have HB := Lib.hid (show Below w.heap.size w W from by rw [← hW]; exact Hbel.out.alloc Hbel.out.size _)
      generalize wr.heap.size = gx at *
      clear hW d0 d1 d2 d3 d4 d5 d6 d7 d8 d9 d10 d11 d12 d13 d14 Hown Hbel
      have hgx := BX.out.has
      obtain ⟨x0, x1, x2, x3, x4, x5, x6, x7, x8, x9, x10, x11, x12, x13, x14, -⟩ := BX.out
      by_cases hk1 : x.kind = 1
      · have hk1' : (x.kind == 1) = true := by simpa using hk1
        rw [if_pos hk1] at HX
        have hbs := HB.out.size
        clear hk1
        go_wp2_with (at_builtin; go_must (refine appL_Ent (by rfl) (.tmp 15) (.tmp 18) (by rfl) w.heap.size _ (handedL (l.take k)) (by rfl) (HO.out.alloc _) _ [x.e] (by rfl) (one_Ent _ x.e _ 1 (by first | rfl | simp) (by omega)) (by have := HLk.out; simp; omega) (by simp; omega) ?_))
        intro v' w5 hown5 hb5 _
        have HO5 := Lib.hid (show w5.ownsRow w.heap.size 45 9 v' (handedL (l.take (k + 1))).length ((handedL (l.take (k + 1))).flatMap entC) from by rw [HX.out]; simpa using hown5)
        have HB5 := Lib.hid ((HB.out.alloc HB.out.size _).trans hb5)
        clear hown5 hb5
        go_wp2
        go_roundw
        case rel => exact ⟨k + 1, by omega, by go_num, HO5.out, HB5.out⟩
        case measure => simp [intOf]; omega
      · have hk1' : (x.kind == 1) = false := by simpa using hk1
        rw [if_neg hk1, List.append_nil] at HX
        go_wp2
        go_roundw
        case rel => exact ⟨k + 1, by omega, by go_num, by rw [HX.out]; exact HO.out, HB.out⟩
        case measure => simp [intOf]; omega
    · obtain rfl : k = N := by omega
      have hd1 : decide ((k : Int) < (k : Int)) = false := decide_eq_false (by omega)
      rw [List.take_of_length_le (Nat.le_of_eq Hn.out)] at Hown
      go_wp2
      go_ret
      exact ⟨⟨_, rfl, Hown.out⟩, Hbel.out⟩

/- ## Worlds -/

theorem elem_Reg {w : World} {A : Option Addr} {es : List Reg} (h : CellsAt w A (es.flatMap regC)) {k : Nat} {e : Reg} (hk : es[k]? = some e) :
    ∃ b off, A = some ⟨b, off, none⟩ ∧ w.cell? ⟨b, off + k * 2, none⟩ = some (.int .i64 e.frame) ∧ w.cell? ⟨b, off + k * 2 + 1, none⟩ = some e.list := by
  obtain ⟨b, off, e1, hc⟩ := h.elem 2 regC_len (by omega) hk
  exact ⟨b, off, e1, hc 0 _ rfl, hc 1 _ rfl⟩

/-- Regions that read as frames and lists. -/
def AllRg (w : World) (rs : List Reg) (fs : List (Int × List Ent)) : Prop := rs.length = fs.length ∧ ∀ (i : Nat) R f, rs[i]? = some R → fs[i]? = some f → R.frame = f.1 ∧ IsSl entC w R.list f.2

theorem AllRg.below {w w' : World} {rs : List Reg} {fs : List (Int × List Ent)} (h : AllRg w rs fs) (hb : Below w.heap.size w w') : AllRg w' rs fs := ⟨h.1, fun i R f h1 h2 => ⟨(h.2 i R f h1 h2).1, (h.2 i R f h1 h2).2.below hb⟩⟩

def RgsSl (w : World) (v : Value) (fs : List (Int × List Ent)) : Prop := ∃ rs, IsSl regC w v rs ∧ AllRg w rs fs

theorem RgsSl.below {w w' : World} {v : Value} {fs : List (Int × List Ent)} (h : RgsSl w v fs) (hb : Below w.heap.size w w') : RgsSl w' v fs := by
  obtain ⟨rs, h1, h2⟩ := h
  exact ⟨rs, h1.below hb, h2.below hb⟩

def OutSl (w : World) (v : Value) (os : List (List Crs)) : Prop := ∃ vs, IsSl oneV w v vs ∧ AllSl w vs os

theorem OutSl.below {w w' : World} {v : Value} {os : List (List Crs)} (h : OutSl w v os) (hb : Below w.heap.size w w') : OutSl w' v os := by
  obtain ⟨vs, h1, h2⟩ := h
  exact ⟨vs, h1.below hb, h2.below hb⟩

/-- All that there is: who is in a region, and who is on its way. -/
def listsL (fs : List (Int × List Ent)) : List Ent := fs.flatMap fun f => f.2

def handsL (os : List (List Crs)) : List Ent := os.flatMap handedL

def allL (fs : List (Int × List Ent)) (os : List (List Crs)) : List Ent := st Se.idB (listsL fs ++ handsL os)

theorem lists_take {fs : List (Int × List Ent)} {k : Nat} {f : Int × List Ent} (h : fs[k]? = some f) : listsL (fs.take (k + 1)) = listsL (fs.take k) ++ f.2 := by
  unfold listsL
  rw [take_at h, List.flatMap_append]
  simp

theorem hands_take {os : List (List Crs)} {k : Nat} {o : List Crs} (h : os[k]? = some o) : handsL (os.take (k + 1)) = handsL (os.take k) ++ handedL o := by
  unfold handsL
  rw [take_at h, List.flatMap_append]
  simp

theorem flat_take_le {α β : Type} (g : α → List β) (l : List α) (k : Nat) : ((l.take k).flatMap g).length ≤ (l.flatMap g).length := by
  have e : l.flatMap g = (l.take k).flatMap g ++ (l.drop k).flatMap g := by rw [← List.flatMap_append, List.take_append_drop]
  rw [e, List.length_append]
  omega

set_option maxHeartbeats 8000000 in
theorem aall_any (v u : Value) (fs : List (Int × List Ent)) (os : List (List Crs)) (w : World) (hR : RgsSl w v fs) (hO : OutSl w u os) (hn : (listsL fs).length ≤ 100000) (hm : (handsL os).length ≤ 100000) (hc : ∀ o ∈ os, o.length ≤ 100000) (hk : fs.length ≤ 1000) (hq : os.length ≤ 1000) :
    Calls Tryz.prog 18 #[.agg #[v, u]] w fun z w' => (∃ v', z = .returned v' ∧ w'.ownsRow w.heap.size 45 9 v' (allL fs os).length ((allL fs os).flatMap entC)) ∧ Below w.heap.size w w' := by
  obtain ⟨rs, hrs, hra⟩ := hR
  obtain ⟨vs, hvs, hva⟩ := hO
  have HR := Lib.hid hrs
  have HA := Lib.hid hra
  have HO := Lib.hid hvs
  have HV := Lib.hid hva
  obtain ⟨A, c, rfl, -⟩ := hrs
  obtain ⟨B, d, rfl, -⟩ := hvs
  obtain ⟨N, hN⟩ : ∃ N, rs.length = N := ⟨_, rfl⟩
  obtain ⟨M, hM⟩ : ∃ M, vs.length = M := ⟨_, rfl⟩
  rw [hN] at HR ⊢
  rw [hM] at HO ⊢
  have Hn := Lib.hid hN
  have Hm := Lib.hid hM
  have hfN : fs.length = N := by rw [← hra.1, hN]
  have hoM : os.length = M := by rw [← hva.1, hM]
  have hN6 : N ≤ 1000 := by omega
  have hM6 : M ≤ 1000 := by omega
  have HfN := Lib.hid hfN
  have HoM := Lib.hid hoM
  have HLf := Lib.hid (fun k => Nat.le_trans (flat_take_le (fun f : Int × List Ent => f.2) fs k) hn)
  have HLo := Lib.hid (fun k => Nat.le_trans (flat_take_le handedL os k) hm)
  have Hc := Lib.hid hc
  have HH := Lib.hid handed_any
  have HS := Lib.hid (fun v w2 base hb ho => Se.sort_own v (listsL fs ++ handsL os) base w2 hb ho (by rw [List.length_append]; omega))
  have HE := Lib.hid (show allL fs os = st Se.idB (listsL fs ++ handsL os) from rfl)
  clear hra hva hN hM hn hm hc hk hq hfN hoM
  go_enter Tryz.func18, Tryz.ntmps18
  go_upto_region 2 with fail
  generalize hW : World.alloc _ _ = W at *
  have b0 : W.cell? ⟨w.heap.size, 0, none⟩ = some (.slice A N c) := by rw [← hW, World.cell?_alloc_new]; rfl
  have b1 : W.cell? ⟨w.heap.size, 1, none⟩ = some (.slice B M d) := by rw [← hW, World.cell?_alloc_new]; rfl
  have hbs : W.heap.size = w.heap.size + 1 := by rw [← hW]; simp
  have HB := Lib.hid (show Below w.heap.size w W from by rw [← hW]; exact (Below.refl _ _).alloc (Nat.le_refl _) _)
  have B1 := Lib.hid b1
  have Hbs := Lib.hid hbs
  have hgl : w.heap.size < W.heap.size := by omega
  clear hW hbs
  go_wp2
  go_loopw [3, 11] (fun v i wr => ∃ k : Nat, k ≤ N ∧ i = .int .i64 k ∧ wr.ownsRow W.heap.size 45 9 v (listsL (fs.take k)).length ((listsL (fs.take k)).flatMap entC) ∧ Below W.heap.size W wr) (fun _ i _ => N - (intOf i).toNat)
  case atStart => exact ⟨0, Nat.zero_le _, rfl, ⟨by simp [listsL], .inl ⟨rfl, rfl⟩⟩, Below.refl _ _⟩
  case round =>
    obtain ⟨k, hk, rfl, hown, hbel⟩ := hrel
    have Hown := Lib.hid hown
    have Hbel := Lib.hid hbel
    clear hown hbel b0 b1
    by_cases hlt : k < N
    · have hd1 : decide ((k : Int) < (N : Int)) = true := decide_eq_true (by omega)
      obtain ⟨R, hR⟩ := getE rs k N Hn.out hlt
      obtain ⟨f, hf⟩ := getE fs k N HfN.out hlt
      obtain ⟨hfr, hsl⟩ := HA.out.2 k R f hR hf
      have HX := Lib.hid (lists_take hf)
      have HLk := Lib.hid (HLf.out (k + 1))
      have HF := Lib.hid ((hsl.below HB.out).below Hbel.out)
      obtain ⟨bb, off, hA, r0, r1⟩ := elem_Reg ((HR.out.below HB.out).below Hbel.out).at hR
      subst hA
      obtain ⟨A2, c2, hRl, -⟩ := hsl
      rw [hRl] at r1 HF
      clear hR hf hRl hfr
      go_upto_region 5 with fail
      generalize hW : World.alloc _ _ = W2 at *
      have q1 : W2.cell? ⟨wr.heap.size, 1, none⟩ = some (.slice A2 f.2.length c2) := by rw [← hW, World.cell?_alloc_new]; rfl
      have hal : Below wr.heap.size wr W2 := by rw [← hW]; exact (Below.refl _ _).alloc (Nat.le_refl _) _
      have HO2 := Lib.hid (own_below Hown.out hal)
      have HB2 := Lib.hid (nextW Hbel.out hal)
      have HF2 := Lib.hid (HF.out.below hal)
      have hq1 := World.block_lt_of_cell? _ _ q1
      generalize wr.heap.size = gx at *
      clear hW hal r0 r1 Hown Hbel HF
      have hbs := HB2.out.size
      go_wp2_with (at_builtin; go_must (refine appL_Ent (by rfl) (.tmp 15) (.tmp 17) (by rfl) W.heap.size _ (listsL (fs.take k)) (by rfl) HO2.out _ f.2 (by rfl) HF2.out (by have h1 := HLk.out; have h2 := HX.out; unfold listsL at h2 ⊢; rw [h2, List.length_append] at h1; omega) hbs ?_))
      intro v' w5 hown5 hb5 _
      have HO5 := Lib.hid (show w5.ownsRow W.heap.size 45 9 v' (listsL (fs.take (k + 1))).length ((listsL (fs.take (k + 1))).flatMap entC) from by rw [HX.out]; simpa using hown5)
      have HB5 := Lib.hid (HB2.out.trans hb5)
      clear hown5 hb5
      go_wp2
      go_roundw
      case rel => exact ⟨k + 1, by omega, by go_num, HO5.out, HB5.out⟩
      case measure => simp [intOf]; omega
    · obtain rfl : k = N := by omega
      have hd1 : decide ((k : Int) < (k : Int)) = false := decide_eq_false (by omega)
      rw [List.take_of_length_le (Nat.le_of_eq HfN.out)] at Hown
      have b1 : wr.cell? ⟨w.heap.size, 1, none⟩ = some (.slice B M d) := (Hbel.out.cell (p := ⟨w.heap.size, 1, none⟩) hgl).trans B1.out
      have HLl := Lib.hid (show (listsL fs).length ≤ 100000 from by have := HLf.out fs.length; rw [List.take_length] at this; exact this)
      clear HLf
      generalize listsL fs = X at *
      go_wp2
      clear b1
      go_loopw [3, 23] (fun v i wr => ∃ k : Nat, k ≤ M ∧ i = .int .i64 k ∧ wr.ownsRow W.heap.size 45 9 v (X ++ handsL (os.take k)).length ((X ++ handsL (os.take k)).flatMap entC) ∧ Below W.heap.size W wr) (fun _ i _ => M - (intOf i).toNat)
      case atStart => exact ⟨0, Nat.zero_le _, rfl, by simpa [handsL] using Hown.out, Hbel.out⟩
      case round =>
        clear Hown Hbel
        obtain ⟨k, hk, rfl, hown, hbel⟩ := hrel
        have Hown := Lib.hid hown
        have Hbel := Lib.hid hbel
        clear hown hbel
        by_cases hlt : k < M
        · have hd1 : decide ((k : Int) < (M : Int)) = true := decide_eq_true (by omega)
          obtain ⟨V, hV⟩ := getE vs k M Hm.out hlt
          obtain ⟨o, ho⟩ := getE os k M HoM.out hlt
          have hsl := HV.out.2 k V o hV ho
          have HX := Lib.hid (hands_take ho)
          have HLk := Lib.hid (HLo.out (k + 1))
          have Hol := Lib.hid (Hc.out o (List.mem_of_getElem? ho))
          have HF := Lib.hid ((hsl.below HB.out).below Hbel.out)
          obtain ⟨bb, off, hB, hc⟩ := ((HO.out.below HB.out).below Hbel.out).at (by intro h; rw [flat_oneV] at h; subst h; simp at hV)
          subst hB
          rw [flat_oneV] at hc
          have v0 := hc k V hV
          obtain ⟨A2, c2, rfl, -⟩ := hsl
          clear hV ho hc
          go_wp2_with fail
          refine (HH.out _ _ _ HF.out (by have := Hol.out; omega)).mono ?_
          rintro e w4 ⟨⟨v4, rfl, ho4⟩, hb4⟩
          have HO2 := Lib.hid (own_below Hown.out hb4)
          have HB2 := Lib.hid (nextW Hbel.out hb4)
          have HF2 := Lib.hid (owned_sl ho4)
          obtain ⟨A4, c4, rfl, -⟩ := owned_sl ho4
          clear ho4 hb4 v0 Hown Hbel HF
          have hbs := HB2.out.size
          go_wp2_with (at_builtin; go_must (refine appL_Ent (by rfl) (.tmp 27) (.tmp 29) (by rfl) W.heap.size _ (X ++ handsL (os.take k)) (by rfl) HO2.out _ (handedL o) (by rfl) HF2.out (by have h1 := HLk.out; have h2 := HX.out; have h3 := HLl.out; unfold handsL at h2 ⊢; rw [h2, List.length_append] at h1; rw [List.length_append]; omega) hbs ?_))
          intro v' w5 hown5 hb5 _
          have HO5 := Lib.hid (show w5.ownsRow W.heap.size 45 9 v' (X ++ handsL (os.take (k + 1))).length ((X ++ handsL (os.take (k + 1))).flatMap entC) from by rw [HX.out, ← List.append_assoc]; simpa using hown5)
          have HB5 := Lib.hid (HB2.out.trans hb5)
          clear hown5 hb5
          go_wp2
          go_roundw
          case rel => exact ⟨k + 1, by omega, by go_num, HO5.out, HB5.out⟩
          case measure => simp [intOf]; omega
        · obtain rfl : k = M := by omega
          have hd1 : decide ((k : Int) < (k : Int)) = false := decide_eq_false (by omega)
          rw [List.take_of_length_le (Nat.le_of_eq HoM.out)] at Hown
          generalize X ++ handsL os = Z at *
          obtain ⟨A4, c4, rfl, -⟩ := owned_sl Hown.out
          have hbs := Hbel.out.size
          go_wp2_with fail
          refine (HS.out _ _ W.heap.size hbs Hown.out).mono ?_
          rintro e w4 ⟨rfl, ho4, hb4⟩
          have ho5 : w4.ownsRow W.heap.size 45 9 (.slice A4 Z.length c4) (allL fs os).length ((allL fs os).flatMap entC) := by rw [HE.out]; exact ho4
          have HO4 := Lib.hid (ho5.mono (show w.heap.size ≤ W.heap.size by omega))
          have HB4 := Lib.hid (nextW HB.out (Hbel.out.trans hb4))
          clear ho4 ho5 hb4
          go_wp2
          go_ret
          exact ⟨⟨_, rfl, HO4.out⟩, HB4.out⟩

end Go.Proofs.YtfpofegfbinalaaGreat.Fx
namespace Go.Proofs.YtfpofegfbinalaaGreat.Fx
open Go.ChangeShapes Go.WideShapes Go.ChangeAt Go.RowKit
set_option linter.unusedVariables false
set_option maxRecDepth 100000

theorem grown_setA (w : World) (b o : Nat) (v : Value) : w.grownBy (w.setCell ⟨b, o, none⟩ v) (some b) :=
  ⟨rfl, rfl, rfl, by simp, fun k _ hk => Below.heap_setCell _ _ _ k (fun e => hk (by rw [e]))⟩

theorem Blk.keptA {w w' : World} {g : Nat} {t : TypeId} {cur : Array Value} {row : Option Nat} (h : Blk w g t cur) (hg : w.grownBy w' row) (hne : some g ≠ row) : Blk w' g t cur := by
  unfold Blk at *
  rw [hg.block g (Array.getElem?_eq_some_iff.1 h).1 hne]
  exact h

/-- A row is no block of another type. -/
theorem own_neA {w : World} {base size n b : Nat} {e t : TypeId} {v : Value} {xs : List Value} {cur : Array Value} (h : w.ownsRow base e size v n xs) (hb : Blk w b t cur) (hne : e ≠ t) : some b ≠ v.ownBlock := by
  rcases h.2 with ⟨rfl, -⟩ | ⟨g, cap, c, rfl, -, hg, -⟩
  · simp [Value.ownBlock]
  · intro hh
    simp only [Value.ownBlock, Option.some.injEq] at hh
    subst hh
    unfold Blk at hb
    rw [hb] at hg
    simp only [Option.some.injEq, Obj.cells.injEq] at hg
    exact hne hg.2.1.symm

theorem own_apartA {w : World} {base base' size size' n n' : Nat} {e t : TypeId} {v v' : Value} {xs xs' : List Value} (h : w.ownsRow base e size v n xs) (h' : w.ownsRow base' t size' v' n' xs') (hne : e ≠ t) : v'.ownBlock = none ∨ v'.ownBlock ≠ v.ownBlock := by
  rcases h'.2 with ⟨rfl, -⟩ | ⟨g, cap, c, rfl, -, hg, -⟩
  · exact .inl rfl
  · exact .inr (own_neA (cur := c) h hg hne)

/-- A player who stands in the middle of its region. -/
def std (a b p n r id : Int) : Ent := ⟨id, 1, crx a b p n r + 512, cry a b p n r + 512, 0, 0, 100, 0, 0⟩

theorem corner_bd4 {a b p n r : Int} (h : hasB a b p n r = true) : 0 ≤ crx a b p n r ∧ crx a b p n r ≤ 3072 ∧ 0 ≤ cry a b p n r ∧ cry a b p n r ≤ 3072 := by
  obtain ⟨-, h0, h1, ha, ha4, hb, hb4, -⟩ := hasB_rt h
  unfold crx cry
  rw [if_pos h, if_pos h]
  have e1 := Int.emod_nonneg r (show a ≠ 0 by omega)
  have e2 := Int.emod_lt_of_pos r (show 0 < a by omega)
  have e3 : 0 ≤ r / a := Int.ediv_nonneg h0 (by omega)
  have e4 : r / a < b := Int.ediv_lt_of_lt_mul (by omega) (by rw [Int.mul_comm]; exact h1)
  omega

theorem standing_any (a b p n s r id : Int) (h : hasB a b p n r = true) (w : World) :
    Calls Tryz.prog 35 #[.agg #[.int .i64 a, .int .i64 b, .int .i64 p, .int .i64 n, .int .u64 s], .int .i64 r, .int .i64 id] w fun z w' => z = .returned (.agg #[.int .i64 (std a b p n r id).id, .int .i64 (std a b p n r id).kind, .int .i64 (std a b p n r id).x, .int .i64 (std a b p n r id).y, .int .i64 (std a b p n r id).vx, .int .i64 (std a b p n r id).vy, .int .i64 (std a b p n r id).health, .int .i64 (std a b p n r id).age, .int .i64 (std a b p n r id).owner]) ∧ Below w.heap.size w w' := by
  have HC := Lib.hid (fun w => corner_any a b p n s r w)
  obtain ⟨h1, h2, h3, h4⟩ := corner_bd4 h
  unfold std
  generalize crx a b p n r = x at *
  generalize cry a b p n r = y at *
  have e1 : wrap64 (x + 512) = x + 512 := IntWalk.wrap64_in _ (by omega)
  have e2 : wrap64 (y + 512) = y + 512 := IntWalk.wrap64_in _ (by omega)
  clear h
  go_enter Tryz.func35, Tryz.ntmps35
  go_upto_region 1 with fail
  generalize hW : World.alloc _ _ = W
  have BG := Lib.hid (show CfgBox W w.heap.size ⟨a, b, p, n, s⟩ from by rw [← hW]; exact CfgBox.n2a _ ⟨a, b, p, n, s⟩ _ _ rfl)
  have BX := Lib.hid (show EntBox W (w.heap.size + 1) ⟨0, 0, 0, 0, 0, 0, 0, 0, 0⟩ from by rw [← hW]; exact EntBox.n2b _ ⟨0, 0, 0, 0, 0, 0, 0, 0, 0⟩ _ _ rfl)
  have HB := Lib.hid (show Below w.heap.size w W from by rw [← hW]; exact ((Below.refl _ _).alloc (Nat.le_refl _) _).alloc (by simp) _)
  clear hW
  have hgl := BG.out.has
  obtain ⟨g0, g1, g2, g3, g4, -⟩ := BG.out
  go_wp2_with fail
  refine (HC.out _).mono ?_
  rintro e w1 ⟨rfl, hb⟩
  replace HB := Lib.hid (nextW HB.out hb)
  replace BX := Lib.hid (BX.out.nx hb)
  clear hb g0 g1 g2 g3 g4 hgl BG
  have fX0 := BX.out.f0
  have fX1 := BX.out.f1
  have fX2 := BX.out.f2
  have fX3 := BX.out.f3
  have fX4 := BX.out.f4
  have fX5 := BX.out.f5
  have fX6 := BX.out.f6
  have fX7 := BX.out.f7
  have fX8 := BX.out.f8
  have X0 := BX.out.c0
  have X1 := BX.out.c1
  have X2 := BX.out.c2
  have X3 := BX.out.c3
  have X4 := BX.out.c4
  have X5 := BX.out.c5
  have X6 := BX.out.c6
  have X7 := BX.out.c7
  have X8 := BX.out.c8
  have hxl := BX.out.has
  go_wp2
  have HB2 := Lib.hid (EntBox.bel HB.out ⟨id, 1, x + 512, y + 512, 0, 0, 100, 0, 0⟩ (Nat.le_succ _) rfl)
  have BX2 := Lib.hid (BX.out.put ⟨id, 1, x + 512, y + 512, 0, 0, 100, 0, 0⟩)
  obtain ⟨z0, z1, z2, z3, z4, z5, z6, z7, z8, -⟩ := BX2.out
  refine bodyPost_ret (v := .agg #[.int .i64 id, .int .i64 1, .int .i64 (x + 512), .int .i64 (y + 512), .int .i64 0, .int .i64 0, .int .i64 100, .int .i64 0, .int .i64 0]) (by simp [results, Tryz.results35, go_sem, z0, z1, z2, z3, z4, z5, z6, z7, z8]) rfl ⟨rfl, HB2.out⟩

theorem made_reg (n : Nat) : (madeCells (Value.cells (.agg #[.int .i64 0, .slice none 0 0])) (n * 2)) = ((List.replicate n r0).flatMap regC).toArray := by
  apply Array.ext'
  apply List.ext_getElem?
  intro i
  rw [show i = i / 2 * 2 + i % 2 by omega, flat_get regC 2 (fun _ => rfl) _ _ _ (Nat.mod_lt _ (by omega))]
  by_cases hi : i / 2 < n
  · rw [List.getElem?_replicate, if_pos hi]
    have h : i / 2 * 2 + i % 2 < n * 2 := by omega
    simp only [madeCells, Array.toList_map, Array.toList_range, List.getElem?_map, List.getElem?_range h]
    have hm : (i / 2 * 2 + i % 2) % 2 = i % 2 := by omega
    have h3 : i % 2 = 0 ∨ i % 2 = 1 := by omega
    rcases h3 with h3 | h3 <;> simp [Value.cells, h3, regC, r0]
  · rw [List.getElem?_replicate, if_neg hi]
    have h : n * 2 ≤ i / 2 * 2 + i % 2 := by omega
    rw [List.getElem?_eq_none (by simp [madeCells]; exact h)]
    rfl

theorem info_Reg : (Tryz.prog.info? 59).map (fun i => (i.zero, i.size, i.bytes)) = some (some (.agg #[.int .i64 0, .slice none 0 0]), 2, 32) := by kernel_rfl

theorem make_reg (n : Nat) (hn : n ≤ 1000) (w : World) : (Instr.makeSlice 29 (.int .i64 (n : Int)) (.int .i64 (n : Int))).run Tryz.prog w = .ok (.slice (some ⟨w.heap.size, 0, none⟩) n n) (w.alloc (.cells ((List.replicate n r0).flatMap regC).toArray 59)) := by
  obtain ⟨i0, hi, hz0, hz1, hz2⟩ := info_parts info_Reg
  have hr := run_make (P := Tryz.prog) w 29 59 i0 _ Tryz.underlying29 hi hz0 .i64 .i64 n n (by omega) (Int.le_refl _) (by rw [hz2]; omega) (by omega)
  rw [hz1, Int.toNat_natCast, made_reg] at hr
  exact hr

theorem row_reg {X W : World} {n : Nat} (hn : n ≤ 1000) (h : X.alloc (.cells ((List.replicate n r0).flatMap regC).toArray 59) = W) : W.ownsRow X.heap.size 59 2 (.slice (some ⟨X.heap.size, 0, none⟩) n n) n ((List.replicate n r0).flatMap regC) ∧ Below X.heap.size X W := by
  subst h
  refine ⟨?_, (Below.refl _ _).alloc (Nat.le_refl _) _⟩
  exact World.ownsRow_lit (size := 2) (e := 59) X (((List.replicate n r0).flatMap regC).toArray) n (Nat.le_refl _) (by unfold maxLen; omega) (by rw [List.size_toArray, flat_len regC 2 (fun _ => rfl), List.length_replicate])

/-- A list that nothing was put into. -/
def nil0 : Value := .slice none 0 0

theorem make_out (n : Nat) (hn : n ≤ 1000) (w : World) : (Instr.makeSlice 30 (.int .i64 (n : Int)) (.int .i64 (n : Int))).run Tryz.prog w = .ok (.slice (some ⟨w.heap.size, 0, none⟩) n n) (w.alloc (.cells (madeCells #[nil0] n) 51)) :=
  Go.run_make_row' 30 51 nil0 24 Tryz.underlying30 (by kernel_rfl) rfl .i64 .i64 n (by omega) (by omega) w

theorem row_out {X W : World} {n : Nat} (hn : n ≤ 1000) (h : X.alloc (.cells (madeCells #[nil0] n) 51) = W) : W.ownsRow X.heap.size 51 1 (.slice (some ⟨X.heap.size, 0, none⟩) n n) n (List.replicate n nil0) ∧ Below X.heap.size X W := by
  subst h
  refine ⟨?_, (Below.refl _ _).alloc (Nat.le_refl _) _⟩
  have h := World.ownsRow_lit (size := 1) (e := 51) X (madeCells #[nil0] n) n (Nat.le_refl _) (by unfold maxLen; omega) (by simp [madeCells])
  rw [toList_madeCells_one] at h
  exact h

/-- The box of a world. -/
theorem own_wbox {w : World} {base size n b : Nat} {e : TypeId} {v : Value} {xs : List Value} {cur : Array Value} (h : w.ownsRow base e size v n xs) (hb : Blk w b 32 cur) (he : e ≠ 32) (x y : Value) : ((w.setCell ⟨b, 0, none⟩ x).setCell ⟨b, 1, none⟩ y).ownsRow base e size v n xs :=
  h.kept (grown_trans (grown_setA w b 0 x) (grown_setA _ b 1 y)) (.inr (Ne.symm (own_neA h hb he)))

set_option maxHeartbeats 4000000 in
theorem empty_any (a b p n s : Int) (R : Nat) (hR : regs a b p n = R) (hR16 : R ≤ 16) (w : World) :
    Calls Tryz.prog 33 #[.agg #[.int .i64 a, .int .i64 b, .int .i64 p, .int .i64 n, .int .u64 s]] w fun z w' =>
      (∃ g1 g2, z = .returned (.agg #[.slice (some ⟨g1, 0, none⟩) R R, .slice (some ⟨g2, 0, none⟩) R R]) ∧ w'.ownsRow w.heap.size 59 2 (.slice (some ⟨g1, 0, none⟩) R R) R ((List.replicate R r0).flatMap regC) ∧
        w'.ownsRow w.heap.size 51 1 (.slice (some ⟨g2, 0, none⟩) R R) R (List.replicate R nil0)) ∧ Below w.heap.size w w' := by
  have HR := Lib.hid (fun w => hR ▸ regions_any a b p n s w)
  have Hm1 := Lib.hid (fun w => make_reg R (by omega) w)
  have Hm2 := Lib.hid (fun w => make_out R (by omega) w)
  have HR16 := Lib.hid (show R ≤ 1000 by omega)
  clear hR
  go_enter Tryz.func33, Tryz.ntmps33
  go_upto_region 1 with fail
  generalize hW : World.alloc _ _ = W
  have BG := Lib.hid (show CfgBox W w.heap.size ⟨a, b, p, n, s⟩ from by rw [← hW]; exact CfgBox.n2a _ ⟨a, b, p, n, s⟩ _ _ rfl)
  have BW := Lib.hid (show Blk W (w.heap.size + 1) 32 #[nil0, nil0] from by rw [← hW]; exact Blk.new' _ _ _ (by simp))
  have HB := Lib.hid (show Below w.heap.size w W from by rw [← hW]; exact ((Below.refl _ _).alloc (Nat.le_refl _) _).alloc (by simp) _)
  clear hW
  have hgl := BG.out.has
  have hwl := BW.out.lt
  obtain ⟨g0, g1, g2, g3, g4, -⟩ := BG.out
  have w0 : W.cell? ⟨w.heap.size + 1, 0, none⟩ = some (.slice none 0 0) := BW.out.cell 0
  have w1 : W.cell? ⟨w.heap.size + 1, 1, none⟩ = some (.slice none 0 0) := BW.out.cell 1
  have wf0 := BW.out.frozen 0
  have wf1 := BW.out.frozen 1
  refine tail_region (S := (fun w' => (∀ b o, b < (W).heap.size → w'.cell? ⟨b, o, none⟩ = (W).cell? ⟨b, o, none⟩) ∧ (∀ b o, b < (W).heap.size → w'.frozen? ⟨b, o, none⟩ = (W).frozen? ⟨b, o, none⟩) ∧ Below (W).heap.size (W) w')) 7 (.free 0 (.free 3 (.one 1 (.two 2 (.one 4 (.one 5 (.free 6 .tail))) 4 (.two 2 (.one 5 (.free 6 .tail)) 5 (.one 2 (.free 6 .tail))))))) (by kernel_rfl) (by kernel_rfl) (fun _ _ d _ _ h => by cases d <;> exact h) (keepW0 _) (fun hS => ?_)
  simp only [writtenT, List.drop_succ_cons, List.drop_zero, List.getElem?_cons_succ, List.getElem?_cons_zero]
  iterate 2
   refine rz_free (v := ?_) (by rfl) ?_ ?_; rotate_left 1; focus (intro w hSw; (try dsimp only at hSw); go_simp; (try with_reducible rfl))
   (try simp only [Act.put, tA, tB, tC])
  refine rz_call (by rfl) (fun K hK => ?_)
  go_simp
  (refine (HR.out _).mono ?_; rintro e w4 ⟨rfl, hb4⟩)
  (try go_wp2_with fail)
  refine hK.out _ _ ?_ (fun hS' => ?_)
  · (try dsimp only); first | exact keepW (by assumption) (by assumption) | exact keepB (by assumption) (by assumption) | exact keepA (by assumption) | assumption
  clear hS hK K
  have hS := hS'
  clear hS'
  (try simp only [Act.put, tA, tB, tC])
  refine rz_two ?_ ?_
  · skip
    refine rz_call (by rfl) (fun K hK => ?_)
    go_simp
    (simp only [Hm1.out]; generalize hG1 : World.alloc _ _ = wm1; obtain ⟨hrow1, hbm1⟩ := row_reg HR16.out hG1; clear hG1)
    (try go_wp2_with fail)
    refine hK.out _ _ ?_ (fun hS' => ?_)
    · (try dsimp only); first | exact keepOf (nextW hS.2.2 hbm1) | exact keepOf (nextW hS.2.2 hbm2)
    clear hS hK K
    have hS := hS'
    clear hS'
    (try simp only [Act.put, tA, tB, tC])
    refine rz_call (by rfl) (fun K hK => ?_)
    go_simp
    (refine (HR.out _).mono ?_; rintro e w7 ⟨rfl, hb7⟩)
    (try go_wp2_with fail)
    refine hK.out _ _ ?_ (fun hS' => ?_)
    · (try dsimp only); first | exact keepW (by assumption) (by assumption) | exact keepB (by assumption) (by assumption) | exact keepA (by assumption) | assumption
    clear hS hK K
    have hS := hS'
    clear hS'
    (try simp only [Act.put, tA, tB, tC])
    refine rz_call (by rfl) (fun K hK => ?_)
    go_simp
    (simp only [Hm2.out]; generalize hG2 : World.alloc _ _ = wm2; obtain ⟨hrow2, hbm2⟩ := row_out HR16.out hG2; clear hG2)
    (try go_wp2_with fail)
    refine hK.out _ _ ?_ (fun hS' => ?_)
    · (try dsimp only); first | exact keepOf (nextW hS.2.2 hbm1) | exact keepOf (nextW hS.2.2 hbm2)
    clear hS hK K
    have hS := hS'
    clear hS'
    (try simp only [Act.put, tA, tB, tC])
    refine rz_free (v := ?_) (by rfl) ?_ ?_; rotate_left 1; focus (intro w hSw; (try dsimp only at hSw); go_simp; (try with_reducible rfl))
    (try simp only [Act.put, tA, tB, tC])
    refine rz_done ?_
    have HS := Lib.hid hS.2.2
    obtain ⟨hSc, hSf, -⟩ := hS
    go_wp2
    have BWq := BW.out.below HS.out BW.out.lt
    have q0 : _ = some nil0 := BWq.cell 0
    have q1 : _ = some nil0 := BWq.cell 1
    refine bodyPost_ret (v := _) (by simp [results, Tryz.results33, go_sem, q0, q1]; exact ⟨rfl, rfl⟩) rfl ⟨⟨_, _, rfl, ?_, ?_⟩, ?_⟩
    · first | exact own_wbox ((own_below (own_below hrow1 hb7) hbm2).mono (by have h1 := HB.out.size; have h2 := hb4.size; have h3 := hb7.size; have h4 := hbm1.size; have h5 := hbm2.size; simp at h2 h3 h4 h5; omega)) BWq (by decide) _ _ | exact own_wbox ((own_below hrow1 hbm2).mono (by have h1 := HB.out.size; have h2 := hb4.size; have h3 := hb7.size; have h4 := hbm1.size; have h5 := hbm2.size; simp at h2 h3 h4 h5; omega)) BWq (by decide) _ _ | exact own_wbox (hrow1.mono (by have h1 := HB.out.size; have h2 := hb4.size; have h3 := hb7.size; have h4 := hbm1.size; have h5 := hbm2.size; simp at h2 h3 h4 h5; omega)) BWq (by decide) _ _
    · first | exact own_wbox (hrow2.mono (by have h1 := HB.out.size; have h2 := hb4.size; have h3 := hb7.size; have h4 := hbm1.size; have h5 := hbm2.size; simp at h2 h3 h4 h5; omega)) BWq (by decide) _ _ | exact own_wbox ((own_below hrow2 hbm1).mono (by have h1 := HB.out.size; have h2 := hb4.size; have h3 := hb7.size; have h4 := hbm1.size; have h5 := hbm2.size; simp at h2 h3 h4 h5; omega)) BWq (by decide) _ _
    · exact ((nextW HB.out HS.out).setCell (Nat.le_succ _) _).setCell (Nat.le_succ _) _
  · skip
    refine rz_call (by rfl) (fun K hK => ?_)
    go_simp
    (refine (HR.out _).mono ?_; rintro e w7 ⟨rfl, hb7⟩)
    (try go_wp2_with fail)
    refine hK.out _ _ ?_ (fun hS' => ?_)
    · (try dsimp only); first | exact keepW (by assumption) (by assumption) | exact keepB (by assumption) (by assumption) | exact keepA (by assumption) | assumption
    clear hS hK K
    have hS := hS'
    clear hS'
    (try simp only [Act.put, tA, tB, tC])
    refine rz_two ?_ ?_
    · skip
      refine rz_call (by rfl) (fun K hK => ?_)
      go_simp
      (simp only [Hm1.out]; generalize hG1 : World.alloc _ _ = wm1; obtain ⟨hrow1, hbm1⟩ := row_reg HR16.out hG1; clear hG1)
      (try go_wp2_with fail)
      refine hK.out _ _ ?_ (fun hS' => ?_)
      · (try dsimp only); first | exact keepOf (nextW hS.2.2 hbm1) | exact keepOf (nextW hS.2.2 hbm2)
      clear hS hK K
      have hS := hS'
      clear hS'
      (try simp only [Act.put, tA, tB, tC])
      refine rz_call (by rfl) (fun K hK => ?_)
      go_simp
      (simp only [Hm2.out]; generalize hG2 : World.alloc _ _ = wm2; obtain ⟨hrow2, hbm2⟩ := row_out HR16.out hG2; clear hG2)
      (try go_wp2_with fail)
      refine hK.out _ _ ?_ (fun hS' => ?_)
      · (try dsimp only); first | exact keepOf (nextW hS.2.2 hbm1) | exact keepOf (nextW hS.2.2 hbm2)
      clear hS hK K
      have hS := hS'
      clear hS'
      (try simp only [Act.put, tA, tB, tC])
      refine rz_free (v := ?_) (by rfl) ?_ ?_; rotate_left 1; focus (intro w hSw; (try dsimp only at hSw); go_simp; (try with_reducible rfl))
      (try simp only [Act.put, tA, tB, tC])
      refine rz_done ?_
      have HS := Lib.hid hS.2.2
      obtain ⟨hSc, hSf, -⟩ := hS
      go_wp2
      have BWq := BW.out.below HS.out BW.out.lt
      have q0 : _ = some nil0 := BWq.cell 0
      have q1 : _ = some nil0 := BWq.cell 1
      refine bodyPost_ret (v := _) (by simp [results, Tryz.results33, go_sem, q0, q1]; exact ⟨rfl, rfl⟩) rfl ⟨⟨_, _, rfl, ?_, ?_⟩, ?_⟩
      · first | exact own_wbox ((own_below (own_below hrow1 hb7) hbm2).mono (by have h1 := HB.out.size; have h2 := hb4.size; have h3 := hb7.size; have h4 := hbm1.size; have h5 := hbm2.size; simp at h2 h3 h4 h5; omega)) BWq (by decide) _ _ | exact own_wbox ((own_below hrow1 hbm2).mono (by have h1 := HB.out.size; have h2 := hb4.size; have h3 := hb7.size; have h4 := hbm1.size; have h5 := hbm2.size; simp at h2 h3 h4 h5; omega)) BWq (by decide) _ _ | exact own_wbox (hrow1.mono (by have h1 := HB.out.size; have h2 := hb4.size; have h3 := hb7.size; have h4 := hbm1.size; have h5 := hbm2.size; simp at h2 h3 h4 h5; omega)) BWq (by decide) _ _
      · first | exact own_wbox (hrow2.mono (by have h1 := HB.out.size; have h2 := hb4.size; have h3 := hb7.size; have h4 := hbm1.size; have h5 := hbm2.size; simp at h2 h3 h4 h5; omega)) BWq (by decide) _ _ | exact own_wbox ((own_below hrow2 hbm1).mono (by have h1 := HB.out.size; have h2 := hb4.size; have h3 := hb7.size; have h4 := hbm1.size; have h5 := hbm2.size; simp at h2 h3 h4 h5; omega)) BWq (by decide) _ _
      · exact ((nextW HB.out HS.out).setCell (Nat.le_succ _) _).setCell (Nat.le_succ _) _
    · skip
      refine rz_call (by rfl) (fun K hK => ?_)
      go_simp
      (simp only [Hm2.out]; generalize hG2 : World.alloc _ _ = wm2; obtain ⟨hrow2, hbm2⟩ := row_out HR16.out hG2; clear hG2)
      (try go_wp2_with fail)
      refine hK.out _ _ ?_ (fun hS' => ?_)
      · (try dsimp only); first | exact keepOf (nextW hS.2.2 hbm1) | exact keepOf (nextW hS.2.2 hbm2)
      clear hS hK K
      have hS := hS'
      clear hS'
      (try simp only [Act.put, tA, tB, tC])
      refine rz_call (by rfl) (fun K hK => ?_)
      go_simp
      (simp only [Hm1.out]; generalize hG1 : World.alloc _ _ = wm1; obtain ⟨hrow1, hbm1⟩ := row_reg HR16.out hG1; clear hG1)
      (try go_wp2_with fail)
      refine hK.out _ _ ?_ (fun hS' => ?_)
      · (try dsimp only); first | exact keepOf (nextW hS.2.2 hbm1) | exact keepOf (nextW hS.2.2 hbm2)
      clear hS hK K
      have hS := hS'
      clear hS'
      (try simp only [Act.put, tA, tB, tC])
      refine rz_free (v := ?_) (by rfl) ?_ ?_; rotate_left 1; focus (intro w hSw; (try dsimp only at hSw); go_simp; (try with_reducible rfl))
      (try simp only [Act.put, tA, tB, tC])
      refine rz_done ?_
      have HS := Lib.hid hS.2.2
      obtain ⟨hSc, hSf, -⟩ := hS
      go_wp2
      have BWq := BW.out.below HS.out BW.out.lt
      have q0 : _ = some nil0 := BWq.cell 0
      have q1 : _ = some nil0 := BWq.cell 1
      refine bodyPost_ret (v := _) (by simp [results, Tryz.results33, go_sem, q0, q1]; exact ⟨rfl, rfl⟩) rfl ⟨⟨_, _, rfl, ?_, ?_⟩, ?_⟩
      · first | exact own_wbox ((own_below (own_below hrow1 hb7) hbm2).mono (by have h1 := HB.out.size; have h2 := hb4.size; have h3 := hb7.size; have h4 := hbm1.size; have h5 := hbm2.size; simp at h2 h3 h4 h5; omega)) BWq (by decide) _ _ | exact own_wbox ((own_below hrow1 hbm2).mono (by have h1 := HB.out.size; have h2 := hb4.size; have h3 := hb7.size; have h4 := hbm1.size; have h5 := hbm2.size; simp at h2 h3 h4 h5; omega)) BWq (by decide) _ _ | exact own_wbox (hrow1.mono (by have h1 := HB.out.size; have h2 := hb4.size; have h3 := hb7.size; have h4 := hbm1.size; have h5 := hbm2.size; simp at h2 h3 h4 h5; omega)) BWq (by decide) _ _
      · first | exact own_wbox (hrow2.mono (by have h1 := HB.out.size; have h2 := hb4.size; have h3 := hb7.size; have h4 := hbm1.size; have h5 := hbm2.size; simp at h2 h3 h4 h5; omega)) BWq (by decide) _ _ | exact own_wbox ((own_below hrow2 hbm1).mono (by have h1 := HB.out.size; have h2 := hb4.size; have h3 := hb7.size; have h4 := hbm1.size; have h5 := hbm2.size; simp at h2 h3 h4 h5; omega)) BWq (by decide) _ _
      · exact ((nextW HB.out HS.out).setCell (Nat.le_succ _) _).setCell (Nat.le_succ _) _

end Go.Proofs.YtfpofegfbinalaaGreat.Fx
