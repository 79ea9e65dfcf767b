/- slices.Clone and slices.Insert of one, at slices of Entity: what they return; memory that is not the row's own stays. -/
import Derived.Test.YtlpkaljepaclpaaGreatM03
import Derived.Test.YtlpkaljepaclpaaGreatM12
import Derived.Test.YtlpkaljepaclpaaGreatM04
import Derived.Maps.AppendAt
import Derived.Deep.DeepMust
import Derived.Deep.RegionLaw
import Derived.Deep.Onto
namespace Go.Proofs.YtlpkaljepaclpaaGreat.Fx
open Go.ChangeShapes Go.WideShapes Go.ChangeAt Go.RowKit
set_option linter.unusedVariables false
set_option maxRecDepth 100000

/-- A list with one more, at place i. -/
def insEnt (es : List Ent) (i : Nat) (y : Ent) : List Ent := es.take i ++ [y] ++ es.drop i

theorem insEnt_len (es : List Ent) (i : Nat) (y : Ent) : (insEnt es i y).length = es.length + 1 := by
  simp [insEnt]; omega

theorem insEnt_flat (es : List Ent) (i : Nat) (y : Ent) : (insEnt es i y).flatMap entC = (es.take i).flatMap entC ++ entC y ++ (es.drop i).flatMap entC := by
  simp [insEnt, List.flatMap_append]

/-- What slices.Insert leaves. -/
def RetInsEnt (base : Nat) (w : World) (row : Option Nat) (l : List Ent) (e : Ending) (w' : World) : Prop :=
  ∃ v', e = .returned v' ∧ w'.ownsRow base 45 9 v' l.length (l.flatMap entC) ∧ Below base w w' ∧ w.grownBy w' row

theorem blk_Ent {w : World} {g : Nat} {y : Ent} (h : Blk w g 45 (entC y).toArray) (c : Nat) (hc : 1 ≤ c) : IsSl entC w (.slice (some ⟨g, 0, none⟩) 1 c) [y] := by
  refine ⟨_, _, rfl, fun h => (by cases h), hc, fun _ => ⟨_, _, rfl, fun i v hv => ?_⟩⟩
  rw [Nat.zero_add, h.cell]
  simpa using hv

theorem insert_end_Ent (v : Value) (es : List Ent) (y : Ent) (vb vc base : Nat) (w : World) (hown : w.ownsRow base 45 9 v es.length (es.flatMap entC)) (hbase : base ≤ w.heap.size) (hn : es.length ≤ 1000000)
    (hy : Blk w vb 45 (entC y).toArray) (hvc : 1 ≤ vc) :
    Calls Tryz.prog 217 #[v, .int .i64 (es.length : Nat), .slice (some ⟨vb, 0, none⟩) 1 vc] w (RetInsEnt base w v.ownBlock (insEnt es es.length y)) := by
  have HO := Lib.hid hown
  have HY := Lib.hid (blk_Ent hy vc hvc)
  have HL := Lib.hid (show insEnt es es.length y = es ++ [y] from by simp [insEnt])
  obtain ⟨n, hnn⟩ : ∃ n, es.length = n := ⟨_, rfl⟩
  have HN := Lib.hid hnn
  obtain ⟨A, c, rfl, hnc⟩ : ∃ A c, v = .slice A n c ∧ n ≤ c := by
    rcases hown.2 with ⟨h1, h2⟩ | ⟨g, cap, cur, h1, h3, h4, h5, h6⟩
    · exact ⟨none, 0, by rw [h1, ← hnn, h2], by omega⟩
    · exact ⟨_, cap, by rw [h1, hnn], by omega⟩
  rw [hnn] at hn ⊢
  rw [hnn] at HL
  clear hown hy hnn
  go_enter Tryz.func217, Tryz.ntmps217
  go_wp2_with (at_builtin; go_must (refine appL_Ent (by rfl) (.tmp 23) (.tmp 24) (by rfl) base _ es (by rfl) HO.out _ [y] (by rfl) HY.out (by have := HN.out; simp; omega) hbase ?_))
  intro v' w1 ho hb hg
  have HO1 := Lib.hid ho
  have HB1 := Lib.hid hb
  have HG1 := Lib.hid hg
  clear ho hb hg
  go_wp2
  go_ret
  exact ⟨_, rfl, by rw [HL.out]; simpa using HO1.out, HB1.out, HG1.out⟩

set_option maxHeartbeats 2000000 in
set_option maxRecDepth 100000 in
theorem insert_room_Ent (es : List Ent) (i : Nat) (y : Ent) (g c vb vc base : Nat) (w : World) (hown : w.ownsRow base 45 9 (.slice (some ⟨g, 0, none⟩) es.length c) es.length (es.flatMap entC)) (hbase : base ≤ w.heap.size) (hn : es.length ≤ 1000000)
    (hi : i < es.length) (hroom : es.length + 1 ≤ c) (hy : Blk w vb 45 (entC y).toArray) (hne : vb ≠ g) (hvc : 1 ≤ vc) :
    Calls Tryz.prog 217 #[.slice (some ⟨g, 0, none⟩) es.length c, .int .i64 i, .slice (some ⟨vb, 0, none⟩) 1 vc] w (RetInsEnt base w (some g) (insEnt es i y)) := by
  obtain ⟨i0, hi0, hz0, hz1, hz2⟩ := info_parts info_Ent
  have hsz : (Tryz.prog.info? 45).map (·.size) = some 9 := by rw [hi0]; simp [hz1]
  have hg0 : base ≤ g := own_ge hown g rfl
  have hcm : c ≤ maxLen := by
    rcases hown.2 with ⟨h1, h2⟩ | ⟨g', cap, cur, h1, h3, h4, h5, h6, h7⟩
    · cases h1
    · simp at h1; omega
  have HLen := Lib.hid (insEnt_len es i y)
  have HFl := Lib.hid (insEnt_flat es i y)
  have hT : ((es.take i).flatMap entC).length = i * 9 := by rw [entC_length, List.length_take, Nat.min_eq_left (by omega)]
  have hD : ((es.drop i).flatMap entC).length = (es.length - i) * 9 := by rw [entC_length, List.length_drop]
  have hS : es.flatMap entC = (es.take i).flatMap entC ++ (es.drop i).flatMap entC := by rw [← List.flatMap_append, List.take_append_drop]
  have hD1 := entC_flat (es.drop i)
  obtain ⟨n, hnn⟩ : ∃ n, es.length = n := ⟨_, rfl⟩
  rw [hnn] at hown hn hi hroom HLen hD ⊢
  rw [hS] at hown
  obtain ⟨Y, hY, hrow⟩ := own_more hown 1 hroom
  generalize (es.take i).flatMap entC = TK at *
  generalize (es.drop i).flatMap entC = DK at *
  have hov : ∀ lb cb, (callFunc 251 #[.slice (some ⟨vb, 0, none⟩) 1 vc, .slice (some ⟨g, (i + 1) * 9, none⟩) lb cb]).run Tryz.prog w = .ok (.value (.bool false)) w := fun lb cb => by
    rw [run_callFunc_extern Tryz.func251 (by kernel_rfl) (by kernel_rfl) (by kernel_rfl) (e := Extern.SlicesOverlaps.overlaps #[46, 46] #[4]) (by kernel_rfl),
      Lib.run_overlaps_apart w 46 4 45 Tryz.underlying46 9 Tryz.sizeOf45 ⟨vb, 0, none⟩ ⟨g, (i + 1) * 9, none⟩ 1 vc _ _ hne 45 45 9 (c * 9) (by unfold Blk at hy; simp [World.shape?, hy, entC]) (own_shape hown) (by omega) (hy.frozen 0) (hy.frozen _)]
    rfl
  have Hov := Lib.hid hov
  have Hov2 := Lib.hid (show (callFunc 251 #[.slice (some ⟨vb, 0, none⟩) 1 vc, slFrom 9 (.slice (some ⟨g, 0, none⟩) (n + 1) c) (i + 1)]).run Tryz.prog w = .ok (.value (.bool false)) w from by rw [slFrom_own _ _ _ _ _ (by omega)]; exact hov _ _)
  have HR := Lib.hid hrow
  have HM1 := Lib.hid (show Nat.min (n + 1 - i) (n + 1 - (i + 1)) = n - i from by show min _ _ = _; omega)
  have HM2 := Lib.hid (show Nat.min 1 (n + 1 - i) = 1 from by show min _ _ = _; omega)
  have hadd : ∀ g o j : Nat, (Addr.mk g o none).add j = ⟨g, o + j, none⟩ := fun g o j => by unfold Addr.add; split <;> simp_all
  have HSrc := Lib.hid (show ∀ j u, DK[j]? = some u → w.cell? ((Addr.mk g (i * 9) none).add j) = some u from fun j u hu => by
    have hj := (List.getElem?_eq_some_iff.1 hu).1
    rw [hadd, hrow.cellAt (i * 9 + j) (by omega), List.append_assoc, List.getElem?_append_right (by omega), hT, Nat.add_sub_cancel_left, List.getElem?_append_left (by omega)]
    exact hu)
  have HVb := Lib.hid (show ∀ j u, (entC y)[j]? = some u → w.cell? ((Addr.mk vb 0 none).add j) = some u from fun j u hu => by
    rw [hadd, Nat.zero_add, hy.cell]
    simpa using hu)
  have HYc := Lib.hid hy
  have Hsz := Lib.hid hsz
  have HT := Lib.hid hT
  have HD := Lib.hid hD
  have HD1 := Lib.hid hD1
  have HYl := Lib.hid hY
  clear hown hov hrow hy hsz hT hD hY hD1 hi0 hz0 hz1 hz2 hS hnn
  have hb1 : (i : Int) ≤ (n : Int) := by omega
  have hb2 : ¬ ((i : Int) = (n : Int)) := by omega
  have hb3 : ¬ ((c : Int) < (n : Int) + 1) := by omega
  have hb4 : (n : Int) + 1 ≤ (c : Int) := by omega
  have hb5 : ((n : Int) + 1).toNat = n + 1 := by omega
  have hb6 : ((i : Int) + 1).toNat = i + 1 := by omega
  have hb7 : (i : Int) + 1 ≤ (n : Int) + 1 := by omega
  have hb8 : (i : Int) ≤ (n : Int) + 1 := by omega
  have hb9 : (i : Int) + 1 ≤ ((n + 1 : Nat) : Int) := by omega
  have hb10 : (i : Int) ≤ ((n + 1 : Nat) : Int) := by omega
  have hw1 : IntKind.i64.wrap ((i : Int) + 1) = (i : Int) + 1 := by rw [IntKind.wrap_i64]; omega
  have hb11 : (0 : Int) ≤ (i : Int) + 1 := by omega
  have hb12 : ¬ (c = i + 1) := by omega
  have hb13 : ¬ (c = i) := by omega
  have hb14 : i ≤ n := by omega
  go_enter Tryz.func217, Tryz.ntmps217
  go_wp2_with (simp only [Hov2.out])
  go_region_law (refine step_copy_own rfl (.tmp 73) (.tmp 76) 46 45 9 rfl Tryz.underlying46 Hsz.out (base := base) (g := g) (N := n + 1) (cap := c) (xs := TK ++ DK ++ Y) (i + 1) (c - (i + 1)) (slFrom 9 (.slice (some ⟨g, 0, none⟩) (n + 1) c) (i + 1)) (by simp [Act.eval, Act.put]) (slFrom_own _ _ _ _ _ (by omega)) (slFrom 9 (.slice (some ⟨g, 0, none⟩) (n + 1) c) i) (by simp [Act.eval, Act.put]) HR.out (by omega) ⟨g, i * 9, none⟩ (n + 1 - i) (c - i) (slFrom_own _ _ _ _ _ (by omega)) DK (by rw [HD.out, HM1.out]) HSrc.out HD1.out ?_; intro v1 W1 ho1 hg1)
  have HO1 := Lib.hid ho1
  have HG1 := Lib.hid hg1
  have HV1 := Lib.hid (show ∀ j u, (entC y)[j]? = some u → W1.cell? ((Addr.mk vb 0 none).add j) = some u from fun j u hu => hg1.cell (HVb.out j u hu) (by simp only [ne_eq, Option.some.injEq]; unfold Addr.add; split <;> exact hne))
  clear ho1 hg1
  obtain ⟨W2, v2, hr2, ho2, hg2⟩ := copy_own_eq 46 45 9 Tryz.underlying46 Hsz.out HO1.out i (slFrom 9 (.slice (some ⟨g, 0, none⟩) (n + 1) c) i) (.slice (some ⟨vb, 0, none⟩) 1 vc) (c - i) (slFrom_own _ _ _ _ _ (by omega)) ⟨vb, 0, none⟩ 1 vc rfl (entC y) (by rw [entC_len, HM2.out]) (by omega) HV1.out (entC_one y)
  have Hr2 := Lib.hid hr2
  have HO2 := Lib.hid (show W2.ownsRow base 45 9 (.slice (some ⟨g, 0, none⟩) (n + 1) c) (n + 1) ((insEnt es i y).flatMap entC) from by
    rw [HFl.out, ← put_shift TK DK Y (entC y) (by rw [HYl.out]; rfl), HT.out]
    rw [show (i + 1) * 9 = i * 9 + (entC y).length from by rw [entC_len]; omega] at ho2
    exact ho2)
  have HB2 := Lib.hid (show Below base w W2 from ((Below.refl _ _).drew.grown HG1.out hbase (by intro k hk; cases hk; exact hg0)).grown hg2 (Nat.le_trans hbase HG1.out.size) (by intro k hk; cases hk; exact hg0))
  have HG2 := Lib.hid (show w.grownBy W2 (some g) from grown_trans (grown_drew HG1.out) hg2)
  clear ho2 hg2 hr2
  go_wp2_with (simp only [Hr2.out])
  go_ret
  exact ⟨_, rfl, by rw [HLen.out]; exact HO2.out, HB2.out, HG2.out⟩

set_option maxHeartbeats 2000000 in
set_option maxRecDepth 100000 in
theorem insert_grow_Ent (es : List Ent) (i : Nat) (y : Ent) (g c vb vc base : Nat) (w : World) (hown : w.ownsRow base 45 9 (.slice (some ⟨g, 0, none⟩) es.length c) es.length (es.flatMap entC)) (hbase : base ≤ w.heap.size) (hn : es.length ≤ 1000000)
    (hi : i < es.length) (hroom : c < es.length + 1) (hy : Blk w vb 45 (entC y).toArray) (hvc : 1 ≤ vc) :
    Calls Tryz.prog 217 #[.slice (some ⟨g, 0, none⟩) es.length c, .int .i64 i, .slice (some ⟨vb, 0, none⟩) 1 vc] w (RetInsEnt base w (some g) (insEnt es i y)) := by
  obtain ⟨i0, hi0, hz0, hz1, hz2⟩ := info_parts info_Ent
  have hsz : (Tryz.prog.info? 45).map (·.size) = some 9 := by rw [hi0]; simp [hz1]
  have hgw : g < w.heap.size := (hown.lt g rfl).2
  have hcn : es.length ≤ c := by
    rcases hown.2 with ⟨h1, h2⟩ | ⟨g', cap, cur, h1, h3, h4, h5, h6, h7⟩
    · cases h1
    · simp at h1; omega
  have HLen := Lib.hid (insEnt_len es i y)
  have HFl := Lib.hid (insEnt_flat es i y)
  have hT : ((es.take i).flatMap entC).length = i * 9 := by rw [entC_length, List.length_take, Nat.min_eq_left (by omega)]
  have hD : ((es.drop i).flatMap entC).length = (es.length - i) * 9 := by rw [entC_length, List.length_drop]
  have hS : es.flatMap entC = (es.take i).flatMap entC ++ (es.drop i).flatMap entC := by rw [← List.flatMap_append, List.take_append_drop]
  have hD1 := entC_flat (es.drop i)
  obtain ⟨n, hnn⟩ : ∃ n, es.length = n := ⟨_, rfl⟩
  rw [hnn] at hown hn hi hroom HLen hD hcn ⊢
  rw [hS] at hown
  generalize (es.take i).flatMap entC = TK at *
  generalize (es.drop i).flatMap entC = DK at *
  have hadd : ∀ g o j : Nat, (Addr.mk g o none).add j = ⟨g, o + j, none⟩ := fun g o j => by unfold Addr.add; split <;> simp_all
  have hsrc : ∀ j u, DK[j]? = some u → w.cell? ((Addr.mk g (i * 9) none).add j) = some u := fun j u hu => by
    have hj := (List.getElem?_eq_some_iff.1 hu).1
    rw [hadd, hown.cellAt (i * 9 + j) (by omega), List.getElem?_append_right (by omega), hT, Nat.add_sub_cancel_left]
    exact hu
  have hold : (Builtin.firstCells i0.size i (.slice (some ⟨g, 0, none⟩) i c)).run Tryz.prog w.drew = .ok TK.toArray w.drew := by
    rw [hz1]
    refine run_firstCells_some w.drew 9 i ⟨g, 0, none⟩ i c TK hT (fun j u hu => ?_)
    have hj := (List.getElem?_eq_some_iff.1 hu).1
    show w.cell? _ = _
    rw [hadd, Nat.zero_add, hown.cellAt j (by omega), List.getElem?_append_left (by omega)]
    exact hu
  obtain ⟨W1, G, Z, hZ, hG, hrz, ho1, hb1⟩ : ∃ (W1 : World) (G : Nat) (Z : List Value), Z.length = (n + 1 - i) * 9 ∧ n + 1 ≤ G ∧
      (∀ ty, (Builtin.append_ #[46, 3] ty #[.slice (some ⟨g, 0, none⟩) i c, .int .i64 ((n : Int) + 1 - (i : Int))]).run Tryz.prog w = .ok (.slice (some ⟨w.heap.size, 0, none⟩) (n + 1) G) W1) ∧
      W1.ownsRow w.heap.size 45 9 (.slice (some ⟨w.heap.size, 0, none⟩) (n + 1) G) (n + 1) (TK ++ Z) ∧ Below w.heap.size w W1 := by
    have hk : i + (n + 1 - i) = n + 1 := by omega
    have hkk : (n : Int) + 1 - (i : Int) = ((n + 1 - i : Nat) : Int) := by omega
    have hzl : ∀ k, (Builtin.zeroCells (Value.cells (.agg #[.int .i64 0, .int .i64 0, .int .i64 0, .int .i64 0, .int .i64 0, .int .i64 0, .int .i64 0, .int .i64 0, .int .i64 0])) k).size = k * 9 := fun k => by rw [zeroCells_size]; rfl
    have hzl2 : ∀ k, (Builtin.zeroCells (Value.cells (.agg #[.int .i64 0, .int .i64 0, .int .i64 0, .int .i64 0, .int .i64 0, .int .i64 0, .int .i64 0, .int .i64 0, .int .i64 0])) k).toList.length = k * 9 := fun k => by rw [Array.length_toList, hzl]
    have hGe := grownCap_ge w (n + 1) c 45
    have hGm := grownCap_le_maxLen w (n + 1) c 45 (by unfold maxLen; omega)
    have hrun := fun ty => Lib.run_append_grow_zeros w 46 3 ty 45 i0 _ .i64 .i64 Tryz.underlying46 Tryz.underlying3 hi0 hz0 (some ⟨g, 0, none⟩) i c TK hold (n + 1 - i) (by omega) (by omega) (by omega) (by omega) (by rw [hz2]; omega) (by rw [hz2, hk]; exact growslice_fits (by omega) (by omega))
    rw [hk] at hrun
    refine ⟨_, grownCap w (n + 1) c 45, (Builtin.zeroCells (Value.cells (.agg #[.int .i64 0, .int .i64 0, .int .i64 0, .int .i64 0, .int .i64 0, .int .i64 0, .int .i64 0, .int .i64 0, .int .i64 0])) (n + 1 - i)).toList, hzl2 _, hGe, fun ty => by rw [hkk]; exact hrun ty, ?_, ?_⟩
    · refine own_new w.drew (TK ++ (Builtin.zeroCells (Value.cells (.agg #[.int .i64 0, .int .i64 0, .int .i64 0, .int .i64 0, .int .i64 0, .int .i64 0, .int .i64 0, .int .i64 0, .int .i64 0])) (n + 1 - i)).toList) _ (Nat.le_refl _) ?_ hGe hGm ?_ ?_
      · rw [List.length_append, hzl2, hT]; omega
      · rw [Array.size_append, Array.size_append, hzl, hzl, List.size_toArray, hT]; omega
      · rw [Array.toList_append, Array.toList_append, List.toList_toArray, List.take_left' (by rw [List.length_append, hzl2, hT]; omega)]
    · exact (Below.refl _ _).drew.alloc (Nat.le_refl _) _
  have HV1 := Lib.hid (show ∀ j u, (entC y)[j]? = some u → W1.cell? ((Addr.mk vb 0 none).add j) = some u from fun j u hu => by
    rw [hadd, Nat.zero_add, hb1.cell (p := ⟨vb, j, none⟩) hy.lt, hy.cell]
    simpa using hu)
  have HM1 := Lib.hid (show Nat.min (n - i) (n + 1 - (i + 1)) = n - i from by show min _ _ = _; omega)
  have HM2 := Lib.hid (show Nat.min 1 (n + 1 - i) = 1 from by show min _ _ = _; omega)
  obtain ⟨W2, v2, hr2, ho2, hg2⟩ := copy_own_eq 46 45 9 Tryz.underlying46 hsz ho1 i (slFrom 9 (.slice (some ⟨w.heap.size, 0, none⟩) (n + 1) G) i) (.slice (some ⟨vb, 0, none⟩) 1 vc) (G - i) (slFrom_own _ _ _ _ _ (by omega)) ⟨vb, 0, none⟩ 1 vc rfl (entC y) (by rw [entC_len, HM2.out]) (by omega) HV1.out (entC_one y)
  have HSrc := Lib.hid (show ∀ j u, DK[j]? = some u → W2.cell? ((Addr.mk g (i * 9) none).add j) = some u from fun j u hu => hg2.cell (by have := hsrc j u hu; rw [hadd] at this ⊢; rw [hb1.cell (p := ⟨g, _, none⟩) hgw]; exact this) (by rw [hadd]; simp only [ne_eq, Option.some.injEq]; omega))
  have Hrz := Lib.hid hrz
  have Hr2 := Lib.hid hr2
  have HO2 := Lib.hid ho2
  have HB2 := Lib.hid (hb1.grown hg2 hb1.size (by intro k hk; cases hk; exact Nat.le_refl _))
  have Hsz := Lib.hid hsz
  have HT := Lib.hid hT
  have HD := Lib.hid hD
  have HD1 := Lib.hid hD1
  have HZl := Lib.hid hZ
  clear hown hy hsz hT hD hD1 hi0 hz0 hz1 hz2 hS hnn hrz hr2 ho1 ho2 hb1 hg2 hsrc hold hZ
  have hc1 : (i : Int) ≤ (n : Int) := by omega
  have hc2 : ¬ ((i : Int) = (n : Int)) := by omega
  have hc3 : (c : Int) < (n : Int) + 1 := by omega
  have hc4 : (i : Int) ≤ (c : Int) := by omega
  have hc5 : ((n : Int) + 1).toNat = n + 1 := by omega
  have hc6 : ((i : Int) + 1).toNat = i + 1 := by omega
  have hc7 : (i : Int) + 1 ≤ (n : Int) + 1 := by omega
  have hc8 : (i : Int) ≤ (n : Int) + 1 := by omega
  have hc9 : (i : Int) + 1 ≤ ((n + 1 : Nat) : Int) := by omega
  have hc10 : (i : Int) ≤ ((n + 1 : Nat) : Int) := by omega
  have hw1 : IntKind.i64.wrap ((i : Int) + 1) = (i : Int) + 1 := by rw [IntKind.wrap_i64]; omega
  have hc11 : (0 : Int) ≤ (i : Int) + 1 := by omega
  have hc12 : ¬ (G = i + 1) := by omega
  have hc13 : ¬ (G = i) := by omega
  have hc14 : i ≤ n := by omega
  have hc15 : ¬ (c = i) := by omega
  go_enter Tryz.func217, Tryz.ntmps217
  go_wp2_with (first | (at_builtin; go_must (refine Lib.wpList_append_run _ (by rfl) _ _ _ _ (by rfl) _ _ (by rfl) (by rfl) _ _ (Hrz.out _) ?_)) | (simp only [Hr2.out]))
  go_region_law (refine step_copy_own rfl (.tmp 50) (.tmp 53) 46 45 9 rfl Tryz.underlying46 Hsz.out (base := w.heap.size) (g := w.heap.size) (N := n + 1) (cap := G) (xs := putL (TK ++ Z) (i * 9) (entC y)) (i + 1) (G - (i + 1)) (slFrom 9 (.slice (some ⟨w.heap.size, 0, none⟩) (n + 1) G) (i + 1)) (by simp [Act.eval, Act.put]) (slFrom_own _ _ _ _ _ (by omega)) (slFrom 9 (.slice (some ⟨g, 0, none⟩) n c) i) (by simp [Act.eval, Act.put]) HO2.out (by omega) ⟨g, i * 9, none⟩ (n - i) (c - i) (slFrom_own _ _ _ _ _ (by omega)) DK (by rw [HD.out, HM1.out]) HSrc.out HD1.out ?_; intro v3 W3 ho3 hg3)
  have HO3 := Lib.hid (show W3.ownsRow base 45 9 (.slice (some ⟨w.heap.size, 0, none⟩) (n + 1) G) (n + 1) ((insEnt es i y).flatMap entC) from by
    rw [HFl.out, ← put_two TK Z (entC y) DK (by rw [HZl.out, HD.out, entC_len]; omega), HT.out]
    rw [show (i + 1) * 9 = i * 9 + (entC y).length from by rw [entC_len]; omega] at ho3
    exact ho3.mono hbase)
  have HB3 := Lib.hid (show Below base w W3 from (HB2.out.drew.grown hg3 HB2.out.size (by intro k hk; cases hk; exact Nat.le_refl _)).mono hbase)
  have HG3 := Lib.hid (show w.grownBy W3 (some g) from grown_below (HB2.out.drew.grown hg3 HB2.out.size (by intro k hk; cases hk; exact Nat.le_refl _)))
  clear ho3 hg3
  go_wp2
  go_ret
  exact ⟨_, rfl, by rw [HLen.out]; exact HO3.out, HB3.out, HG3.out⟩

/-- slices.Insert of one into a row of one's own, at any place. -/
theorem insert_Ent (v : Value) (es : List Ent) (i : Nat) (y : Ent) (vb vc base : Nat) (w : World) (hown : w.ownsRow base 45 9 v es.length (es.flatMap entC)) (hbase : base ≤ w.heap.size) (hn : es.length ≤ 1000000)
    (hi : i ≤ es.length) (hy : Blk w vb 45 (entC y).toArray) (hne : some vb ≠ v.ownBlock) (hvc : 1 ≤ vc) :
    Calls Tryz.prog 217 #[v, .int .i64 i, .slice (some ⟨vb, 0, none⟩) 1 vc] w (RetInsEnt base w v.ownBlock (insEnt es i y)) := by
  by_cases he : i = es.length
  · subst he
    exact insert_end_Ent v es y vb vc base w hown hbase hn hy hvc
  · obtain ⟨g, c, rfl⟩ : ∃ g c, v = .slice (some ⟨g, 0, none⟩) es.length c := by
      rcases hown.2 with ⟨h1, h2⟩ | ⟨g, cap, cur, h1, _⟩
      · omega
      · exact ⟨g, cap, h1⟩
    by_cases hc : es.length + 1 ≤ c
    · exact insert_room_Ent es i y g c vb vc base w hown hbase hn (by omega) hc hy (fun h => hne (by simp [Value.ownBlock, h])) hvc
    · exact insert_grow_Ent es i y g c vb vc base w hown hbase hn (by omega) (by omega) hy hvc

end Go.Proofs.YtlpkaljepaclpaaGreat.Fx
