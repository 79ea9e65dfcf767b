/- Package entity's calls on lists: what each returns, for every list; old memory stays. Package entity's Put, and all of its contracts together. -/
import Derived.Test.YtfpofegfbinalaaGreatM12
import Derived.Test.YtfpofegfbinalaaGreatM13
import Derived.Test.YtfpofegfbinalaaGreatM07
import Derived.Deep.RegionWith
namespace Go.Proofs.YtfpofegfbinalaaGreat.Fx
open Go.ChangeShapes Go.WideShapes Go.ChangeAt Go.RowKit
set_option linter.unusedVariables false
set_option maxRecDepth 100000

theorem things_any (v : Value) (l : List Ent) (w : World) (hv : IsSl entC w v l) (hn : l.length ≤ 1000) :
    Calls Tryz.prog 130 #[v] w fun e w' => e = .returned (.int .i64 (Fx.things l)) ∧ Below w.heap.size w w' := by
  obtain ⟨A, c, rfl, -, -, hat⟩ := hv
  have Hat := Lib.hid hat
  obtain ⟨n, hnn⟩ : ∃ n, l.length = n := ⟨_, rfl⟩
  rw [hnn] at hn ⊢
  have Hn := Lib.hid hnn
  clear hat hnn
  have HF := Lib.hid (show Fx.things l = 0 + Fx.things (l.drop 0) by simp)
  generalize Fx.things l = r at *
  go_enter Tryz.func130, Tryz.ntmps130
  go_wp2
  go_loopw [3, 8] (fun m i wr => ∃ (k : Nat) (q : Int), k ≤ n ∧ i = .int .i64 k ∧ m = .int .i64 q ∧ 0 ≤ q ∧ q ≤ k ∧ r = q + Fx.things (l.drop k) ∧ Below w.heap.size w wr) (fun _ i _ => n - (intOf i).toNat)
  case atStart => exact ⟨0, 0, Nat.zero_le _, rfl, rfl, by omega, by omega, HF.out, Below.refl _ _⟩
  case round =>
    obtain ⟨k, q, hk, rfl, rfl, hq0, hq1, hr, hbel⟩ := hrel
    have Hr := Lib.hid hr
    have Hbel := Lib.hid hbel
    clear hr hbel
    by_cases hlt : k < n
    · obtain ⟨x, hx⟩ := getE l k n Hn.out hlt
      have HX := Lib.hid (drop_at hx)
      obtain ⟨b, off, rfl, hc⟩ := elem_Ent (Hat.out.below Hbel.out) hx
      obtain ⟨c0, c1, c2, c3, c4, c5, c6, c7, c8⟩ := hc
      clear hx
      by_cases hxy : x.kind = 1
      · go_wp2
        go_roundw
        case rel => exact ⟨k + 1, q, by omega, by go_num, rfl, hq0, by omega, by rw [Hr.out, HX.out, Fx.things, if_pos hxy]; omega, by (repeat refine Below.setCell ?_ Hbel.out.size _); exact Hbel.out.alloc Hbel.out.size _⟩
        case measure => simp [intOf]; omega
      · have hxy' : (x.kind != 1) = true := by simpa using hxy
        go_wp2
        go_roundw
        case rel => exact ⟨k + 1, q + 1, by omega, by go_num, by go_num, by omega, by omega, by rw [Hr.out, HX.out, Fx.things, if_neg hxy]; omega, by (repeat refine Below.setCell ?_ Hbel.out.size _); exact Hbel.out.alloc Hbel.out.size _⟩
        case measure => simp [intOf]; omega
    · obtain rfl : k = n := by omega
      go_wp2
      go_ret
      exact ⟨ret_int (by rw [Hr.out, List.drop_eq_nil_of_le (by have := Hn.out; omega)]; simp [Fx.things]), Hbel.out⟩

theorem sorted_any (v : Value) (l : List Ent) (w : World) (hv : IsSl entC w v l) (hn : l.length ≤ 1000) :
    Calls Tryz.prog 129 #[v] w fun e w' => e = .returned (.bool (srt l)) ∧ Below w.heap.size w w' := by
  obtain ⟨A, c, rfl, -, -, hat⟩ := hv
  have Hat := Lib.hid hat
  obtain ⟨n, hnn⟩ : ∃ n, l.length = n := ⟨_, rfl⟩
  rw [hnn] at hn ⊢
  have Hn := Lib.hid hnn
  have HF := Lib.hid (show ∀ y, l[0]? = some y → srt l = srtI y.id (l.drop 1) from fun y hy => by cases l with | nil => simp at hy | cons e r => simp at hy; subst hy; rfl)
  have H0 := Lib.hid (show n = 0 → srt l = true from fun h => by cases l with | nil => rfl | cons e r => simp at hnn; omega)
  clear hat hnn
  generalize srt l = r at *
  go_enter Tryz.func129, Tryz.ntmps129
  go_wp2
  go_loopw [3] (fun i wr => ∃ k : Nat, 1 ≤ k ∧ k ≤ n + 1 ∧ i = .int .i64 k ∧ (∀ y, l[k - 1]? = some y → r = srtI y.id (l.drop k)) ∧ (k ≤ n ∨ n = 0) ∧ Below w.heap.size w wr) (fun i _ => n + 1 - (intOf i).toNat)
  case atStart => exact ⟨1, by omega, by omega, rfl, HF.out, by omega, Below.refl _ _⟩
  case round =>
    obtain ⟨k, hk1, hk, rfl, hr, hkn, hbel⟩ := hrel
    have Hr := Lib.hid hr
    have Hbel := Lib.hid hbel
    clear hr hbel
    by_cases hlt : k < n
    · obtain ⟨x, hx⟩ := getE l k n Hn.out hlt
      obtain ⟨y, hy⟩ := getE l (k - 1) n Hn.out (by omega)
      have HX := Lib.hid (drop_at hx)
      have HY := Lib.hid (Hr.out y hy)
      have HK := Lib.hid (show l[k + 1 - 1]? = some x from hx)
      obtain ⟨b, off, rfl, hc⟩ := elem_Ent (Hat.out.below Hbel.out) hx
      obtain ⟨b', off', hbo, hd⟩ := elem_Ent (Hat.out.below Hbel.out) hy
      cases hbo
      have hck := hc.1
      have hdk := hd.1
      have hk' : ((k : Int) - 1).toNat = k - 1 := by omega
      clear hc hx hd hy
      by_cases hxy : x.id ≤ y.id
      · go_wp2_with fail
        go_region
        go_wp2
        go_ret
        exact ⟨ret_bool (by rw [HY.out, HX.out, srtI]; simp; omega), Hbel.out.drew⟩
      · have hxy' : decide (x.id ≤ y.id) = false := by simpa using hxy
        go_wp2_with fail
        go_region
        go_wp2
        go_roundw
        case rel => exact ⟨k + 1, by omega, by omega, by go_num, fun z hz => by rw [HK.out] at hz; cases hz; rw [HY.out, HX.out, srtI, decide_eq_true (by omega)]; rfl, by omega, Hbel.out.drew⟩
        case measure => simp [intOf]; omega
    · go_wp2
      go_ret
      refine ⟨ret_bool ?_, Hbel.out⟩
      rcases hkn with h | h
      · obtain ⟨y, hy⟩ := getE l (k - 1) n Hn.out (by omega)
        rw [Hr.out y hy, List.drop_eq_nil_of_le (by have := Hn.out; omega)]
        simp [srtI]
      · rw [H0.out h]

/-- The test that Find hands on: a box that holds the number is in memory. -/
theorem findf_any (y : Ent) (g : Nat) (id : Int) (w : World) (hg : w.cell? ⟨g, 0, none⟩ = some (.int .i64 id)) :
    Calls Tryz.prog 156 #[.agg #[.int .i64 y.id, .int .i64 y.kind, .int .i64 y.x, .int .i64 y.y, .int .i64 y.vx, .int .i64 y.vy, .int .i64 y.health, .int .i64 y.age, .int .i64 y.owner], .pointer (some ⟨g, 0, none⟩)] w
      fun e w' => e = .returned (.bool (decide (y.id = id))) ∧ Below w.heap.size w w' := by
  have hlt : g < w.heap.size := World.block_lt_of_cell? _ _ hg
  by_cases h : y.id = id
  · go_enter Tryz.func156, Tryz.ntmps156
    go_wp2
    go_ret
    exact ⟨ret_bool (by simp [h]), (Below.refl _ _).alloc (Nat.le_refl _) _⟩
  · have h' : (y.id == id) = false := by simpa using h
    go_enter Tryz.func156, Tryz.ntmps156
    go_wp2
    go_ret
    exact ⟨ret_bool (by simp [h]), (Below.refl _ _).alloc (Nat.le_refl _) _⟩

theorem find_any (v : Value) (l : List Ent) (id : Int) (w : World) (hv : IsSl entC w v l) (hn : l.length ≤ 1000000) :
    Calls Tryz.prog 102 #[v, .int .i64 id] w fun e w' => e = .returned (.int .i64 (fnd l id)) ∧ Below w.heap.size w w' := by
  obtain ⟨A, c, rfl, -, -, hat⟩ := hv
  have Hat := Lib.hid hat
  obtain ⟨n, hnn⟩ : ∃ n, l.length = n := ⟨_, rfl⟩
  rw [hnn] at hn ⊢
  have Hn := Lib.hid hnn
  clear hat hnn
  have HF := Lib.hid (show fnd l id = fndI (l.drop 0) id 0 from rfl)
  generalize fnd l id = r at *
  have HT := Lib.hid findf_any
  go_enter Tryz.func102, Tryz.ntmps102
  go_wp2_with (go_at_call 155; go_in)
  go_loopw [8] (fun i wr => ∃ k : Nat, k ≤ n ∧ i = .int .i64 k ∧ r = fndI (l.drop k) id k ∧ Below (w.heap.size + 1) (w.alloc (.cells #[.int .i64 id] 3)) wr) (fun i _ => n - (intOf i).toNat)
  case atStart => exact ⟨0, Nat.zero_le _, rfl, HF.out, Below.refl _ _⟩
  case round =>
    obtain ⟨k, hk, rfl, hr, hbel⟩ := hrel
    have Hr := Lib.hid hr
    have Hbel := Lib.hid hbel
    have Hb0 := Lib.hid (show Below w.heap.size w wr from unbox (by simpa using hbel))
    have Hid0 := Lib.hid (show wr.cell? ⟨w.heap.size, 0, none⟩ = some (.int .i64 id) from by rw [hbel.cell (p := ⟨w.heap.size, 0, none⟩) (Nat.lt_succ_self _)]; simp)
    clear hr hbel
    by_cases hlt : k < n
    · obtain ⟨x, hx⟩ := getE l k n Hn.out hlt
      have HX := Lib.hid (drop_at hx)
      obtain ⟨b, off, rfl, hc⟩ := elem_Ent (Hat.out.below Hb0.out) hx
      obtain ⟨c0, c1, c2, c3, c4, c5, c6, c7, c8⟩ := hc
      clear hx
      go_wp2_with fail
      refine (HT.out x _ id _ Hid0.out).mono ?_
      rintro e w4 ⟨rfl, hb4⟩
      have Hb4 := Lib.hid (Hbel.out.trans (hb4.mono (by have := Hbel.out.size; simp at this; omega)))
      clear hb4 c0 c1 c2 c3 c4 c5 c6 c7 c8 HT
      by_cases hxy : x.id = id
      · have hxy' : decide (x.id = id) = true := decide_eq_true hxy
        rw [hxy']
        go_wp2
        go_ret
        exact ⟨ret_int (by rw [Hr.out, HX.out, fndI, if_pos hxy]), unbox (by simpa using Hb4.out)⟩
      · have hxy' : decide (x.id = id) = false := decide_eq_false hxy
        rw [hxy']
        go_wp2
        go_roundw
        case rel => exact ⟨k + 1, by omega, by go_num, by rw [Hr.out, HX.out, fndI, if_neg hxy], Hb4.out⟩
        case measure => simp [intOf]; omega
    · obtain rfl : k = n := by omega
      go_wp2
      go_ret
      exact ⟨ret_int (by rw [Hr.out, List.drop_eq_nil_of_le (by have := Hn.out; omega)]; rfl), Hb0.out⟩

theorem placeOf_any (v : Value) (l : List Ent) (id : Int) (w : World) (hv : IsSl entC w v l) (hn : l.length ≤ 1000000) :
    Calls Tryz.prog 141 #[v, .int .i64 id] w fun e w' => e = .returned (.int .i64 (pos l id : Nat)) ∧ Below w.heap.size w w' := by
  obtain ⟨A, c, rfl, -, -, hat⟩ := hv
  have Hat := Lib.hid hat
  obtain ⟨n, hnn⟩ : ∃ n, l.length = n := ⟨_, rfl⟩
  rw [hnn] at hn ⊢
  have Hn := Lib.hid hnn
  clear hat hnn
  have HF := Lib.hid (show pos l id = 0 + pos (l.drop 0) id by simp)
  generalize pos l id = r at *
  go_enter Tryz.func141, Tryz.ntmps141
  go_wp2
  go_loopw [9] (fun i wr => ∃ k : Nat, k ≤ n ∧ i = .int .i64 k ∧ r = k + pos (l.drop k) id ∧ Below w.heap.size w wr) (fun i _ => n - (intOf i).toNat)
  case atStart => exact ⟨0, Nat.zero_le _, rfl, HF.out, Below.refl _ _⟩
  case round =>
    obtain ⟨k, hk, rfl, hr, hbel⟩ := hrel
    have Hr := Lib.hid hr
    have Hbel := Lib.hid hbel
    clear hr hbel
    by_cases hlt : k < n
    · obtain ⟨x, hx⟩ := getE l k n Hn.out hlt
      have HX := Lib.hid (drop_at hx)
      obtain ⟨b, off, rfl, hc⟩ := elem_Ent (Hat.out.below Hbel.out) hx
      obtain ⟨c0, c1, c2, c3, c4, c5, c6, c7, c8⟩ := hc
      clear hx
      by_cases hxy : x.id < id
      · have hxy' : decide (id ≤ x.id) = false := decide_eq_false (by omega)
        go_wp2
        go_roundw
        case rel => exact ⟨k + 1, by omega, by go_num, by rw [Hr.out, HX.out, pos, if_pos hxy]; omega, by (repeat refine Below.setCell ?_ Hbel.out.size _); exact Hbel.out.alloc Hbel.out.size _⟩
        case measure => simp [intOf]; omega
      · have hxy' : decide (id ≤ x.id) = true := decide_eq_true (by omega)
        have hxy2 : id ≤ x.id := by omega
        go_wp2
        go_ret
        exact ⟨ret_int (by rw [Hr.out, HX.out, pos, if_neg (by omega)]; simp), by (repeat refine Below.setCell ?_ Hbel.out.size _); exact Hbel.out.alloc Hbel.out.size _⟩
    · obtain rfl : k = n := by omega
      go_wp2
      go_ret
      exact ⟨ret_int (by rw [Hr.out, List.drop_eq_nil_of_le (by have := Hn.out; omega)]; simp [pos]), Hbel.out⟩

end Go.Proofs.YtfpofegfbinalaaGreat.Fx
namespace Go.Proofs.YtfpofegfbinalaaGreat.Fx
open Go.ChangeShapes Go.WideShapes Go.ChangeAt Go.RowKit
set_option linter.unusedVariables false
set_option maxRecDepth 100000

theorem put_ins (l : List Ent) (y : Ent) (h : ¬ 0 ≤ fnd l y.id) : put l y = insEnt l (pos l y.id) y := by
  unfold put
  rw [if_neg h]
  rfl

set_option maxHeartbeats 2000000 in
theorem puts_own (v : Value) (l : List Ent) (u : Value) (m : List Ent) (w : World) (hv : IsSl entC w v l) (hn : l.length ≤ 400) (hu : IsSl entC w u m) (hm : m.length ≤ 400) :
    Calls Tryz.prog 94 #[v, u] w fun z w' => ∃ v', z = .returned v' ∧ w'.ownsRow w.heap.size 45 9 v' (Fx.puts l m).length ((Fx.puts l m).flatMap entC) ∧ Below w.heap.size w w' := by
  have HC := Lib.hid (clone_Ent v l w hv (by omega))
  have HF := Lib.hid find_any
  have HP := Lib.hid placeOf_any
  have HI := Lib.hid insert_Ent
  obtain ⟨A0, c0, rfl, -, -, -⟩ := hv
  obtain ⟨A, c, rfl, -, -, hat⟩ := hu
  have Hat := Lib.hid hat
  obtain ⟨n, hnn⟩ : ∃ n, m.length = n := ⟨_, rfl⟩
  rw [hnn] at hm ⊢
  have Hn := Lib.hid hnn
  have Hl := Lib.hid hn
  have HL := Lib.hid (fun k => puts_len l (m.take k))
  clear hat hnn hn
  go_enter Tryz.func94, Tryz.ntmps94
  go_wp2_with fail
  refine HC.out.mono ?_
  rintro e w1 ⟨v1, rfl, ho1, hb1⟩
  have HO1 := Lib.hid ho1
  have HB1 := Lib.hid hb1
  clear ho1 hb1 HC
  go_wp2
  go_loopw [5, 12] (fun v i wr => ∃ k : Nat, k ≤ n ∧ i = .int .i64 k ∧ wr.ownsRow w.heap.size 45 9 v (Fx.puts l (m.take k)).length ((Fx.puts l (m.take k)).flatMap entC) ∧ Below w.heap.size w wr) (fun _ i _ => n - (intOf i).toNat)
  case atStart => exact ⟨0, Nat.zero_le _, rfl, HO1.out, HB1.out⟩
  case round =>
    obtain ⟨k, hk, rfl, hown, hbel⟩ := hrel
    have Hown := Lib.hid hown
    have Hbel := Lib.hid hbel
    by_cases hlt : k < n
    · obtain ⟨x, hx⟩ := getE m k n Hn.out hlt
      have HX := Lib.hid (show Fx.puts l (m.take (k + 1)) = put (Fx.puts l (m.take k)) x from by rw [take_at hx, puts_snoc])
      have HLk := Lib.hid (show (Fx.puts l (m.take k)).length ≤ 800 from by have := HL.out k; have := Hl.out; rw [List.length_take] at *; omega)
      obtain ⟨b, off, rfl, hc⟩ := elem_Ent (Hat.out.below Hbel.out) hx
      obtain ⟨c0, c1, c2, c3, c4, c5, c6, c7, c8⟩ := hc
      clear hx
      generalize Fx.puts l (m.take k) = L at *
      obtain ⟨B, d, rfl, -⟩ := owned_sl hown
      clear hown hbel
      go_wp2_with fail
      refine (HF.out _ L x.id _ ((owned_sl Hown.out).below ((Below.refl _ _).alloc (Nat.le_refl _) _)) (by have := HLk.out; omega)).mono ?_
      rintro e w2 ⟨rfl, hb2⟩
      obtain ⟨hc2, hf2⟩ := bcell hb2
      have hz : wr.heap.size < w2.heap.size := by have := hb2.size; simp at this; omega
      have y0 : (w2).cell? ⟨wr.heap.size, 0, none⟩ = some (.int .i64 x.id) := by rw [hc2 _ _ (by simp)]; simp
      have y1 : (w2).cell? ⟨wr.heap.size, 1, none⟩ = some (.int .i64 x.kind) := by rw [hc2 _ _ (by simp)]; simp
      have y2 : (w2).cell? ⟨wr.heap.size, 2, none⟩ = some (.int .i64 x.x) := by rw [hc2 _ _ (by simp)]; simp
      have y3 : (w2).cell? ⟨wr.heap.size, 3, none⟩ = some (.int .i64 x.y) := by rw [hc2 _ _ (by simp)]; simp
      have y4 : (w2).cell? ⟨wr.heap.size, 4, none⟩ = some (.int .i64 x.vx) := by rw [hc2 _ _ (by simp)]; simp
      have y5 : (w2).cell? ⟨wr.heap.size, 5, none⟩ = some (.int .i64 x.vy) := by rw [hc2 _ _ (by simp)]; simp
      have y6 : (w2).cell? ⟨wr.heap.size, 6, none⟩ = some (.int .i64 x.health) := by rw [hc2 _ _ (by simp)]; simp
      have y7 : (w2).cell? ⟨wr.heap.size, 7, none⟩ = some (.int .i64 x.age) := by rw [hc2 _ _ (by simp)]; simp
      have y8 : (w2).cell? ⟨wr.heap.size, 8, none⟩ = some (.int .i64 x.owner) := by rw [hc2 _ _ (by simp)]; simp
      have HNB0 := Lib.hid (show some wr.heap.size ≠ (Value.slice B L.length d).ownBlock from fun h => by have := (Hown.out.lt _ h.symm).2; omega)
      have HO2 := Lib.hid (own_below (Hown.out.alloc _) hb2)
      have HB2 := Lib.hid ((Hbel.out.alloc Hbel.out.size _).trans (hb2.mono (Nat.le_trans Hbel.out.size (by simp))))
      clear hb2 hc2 hf2 c0 c1 c2 c3 c4 c5 c6 c7 c8 Hown HF
      by_cases hin : 0 ≤ fnd L x.id
      · have HX2 := Lib.hid (show put L x = L from by unfold put; rw [if_pos hin])
        have hd : decide (fnd L x.id < 0) = false := decide_eq_false (by omega)
        generalize fnd L x.id = r at *
        go_wp2
        go_roundw
        case rel => exact ⟨k + 1, by omega, by go_num, by rw [HX.out, HX2.out]; exact HO2.out, HB2.out⟩
        case measure => simp [intOf]; omega
      · have HX2 := Lib.hid (put_ins L x hin)
        have hd : decide (fnd L x.id < 0) = true := decide_eq_true (by omega)
        generalize fnd L x.id = r at *
        have HSL := Lib.hid (fun W (h : Below w2.heap.size w2 W) => (owned_sl HO2.out).below h)
        have HNB := Lib.hid HNB0.out
        have HNE := Lib.hid (show ∀ q, w2.heap.size ≤ q → some q ≠ (Value.slice B L.length d).ownBlock from fun q hq h => by have := (HO2.out.lt q h.symm).2; omega)
        have HPl := Lib.hid (pos_le L x.id)
        have hzw : w.heap.size ≤ w2.heap.size := HB2.out.size
        go_wp2_with fail
        refine tree_region (S := (fun w' => ∀ o, w'.cell? ⟨wr.heap.size, o, none⟩ = w2.cell? ⟨wr.heap.size, o, none⟩)) (.free 0 (.free 1 (.free 2 (.free 3 (.free 5 (.two 4 (.one 6 (.one 7 (.free 8 .done))) 6 (.one 4 (.one 7 (.free 8 .done))))))))) (by kernel_rfl) (by kernel_rfl) (fun _ _ d _ _ h => by cases d <;> exact h) (fun _ => rfl) (fun hS => ?_)
        simp only [written, List.getElem?_cons_succ, List.getElem?_cons_zero]
        iterate 5
         refine rw_free (v := ?_) (by rfl) ?_ ?_; rotate_left 1; focus (intro w hSw; (try dsimp only at hSw); go_simp; (try with_reducible rfl))
         (try simp only [Act.put, tA, tB, tC])
        refine rw_two ?_ ?_
        · skip
          refine rw_call (by rfl) (fun K hK => ?_)
          go_simp
          (refine (HP.out _ L x.id _ ?_ ?_).mono ?_; (first | exact HSL.out _ (Below.refl _ _).drew | exact HSL.out _ ((Below.refl _ _).drew.alloc (Nat.le_refl _) _)); (have := HLk.out; omega); rintro e w3 ⟨rfl, hb3⟩)
          (try go_wp2_with fail)
          refine hK.out _ _ ?_ (fun hS' => ?_)
          · (try dsimp only); first | exact fun o => (World.cell?_of_block (hg5.block wr.heap.size (by have := hb3.size; first | omega | (simp at *; done) | (simp at *; omega)) HNB.out)).trans (hS o) | exact fun o => (hb3.cell (p := ⟨wr.heap.size, o, none⟩) (by simp; omega)).trans (hS o) | exact fun o => (World.cell?_alloc_lt _ _ _ (by first | exact hz | (have := hb3.size; first | omega | (simp at *; done) | (simp at *; omega)))).trans (hS o)
          clear hS hK K
          have hS := hS'
          clear hS'
          (try simp only [Act.put, tA, tB, tC])
          refine rw_call (by rfl) (fun K hK => ?_)
          go_simp
          (skip)
          (try go_wp2_with fail)
          refine hK.out _ _ ?_ (fun hS' => ?_)
          · (try dsimp only); first | exact fun o => (World.cell?_of_block (hg5.block wr.heap.size (by have := hb3.size; first | omega | (simp at *; done) | (simp at *; omega)) HNB.out)).trans (hS o) | exact fun o => (hb3.cell (p := ⟨wr.heap.size, o, none⟩) (by simp; omega)).trans (hS o) | exact fun o => (World.cell?_alloc_lt _ _ _ (by first | exact hz | (have := hb3.size; first | omega | (simp at *; done) | (simp at *; omega)))).trans (hS o)
          clear hS hK K
          have hS := hS'
          clear hS'
          (try simp only [Act.put, tA, tB, tC])
          refine rw_call (by rfl) (fun K hK => ?_)
          go_simp
          (refine (HI.out _ L (pos L x.id) x _ 1 w.heap.size _ ?_ ?_ ?_ ?_ ?_ ?_ ?_).mono ?_; (first | exact (own_below HO2.out.drew hb3).alloc _ | exact own_below (HO2.out.drew.alloc _) hb3); (have := hb3.size; first | omega | (simp at *; done) | (simp at *; omega)); (have := HLk.out; omega); exact HPl.out; (first | exact heap_alloc_new w3 _ | exact Blk.below (heap_alloc_new w2.drew _) hb3 (by simp)); exact HNE.out _ (by have := hb3.size; first | omega | (simp at *; done) | (simp at *; omega)); omega; rintro e w5 ⟨v5, rfl, ho5, hb5, hg5⟩)
          (try go_wp2_with fail)
          refine hK.out _ _ ?_ (fun hS' => ?_)
          · (try dsimp only); first | exact fun o => (World.cell?_of_block (hg5.block wr.heap.size (by have := hb3.size; first | omega | (simp at *; done) | (simp at *; omega)) HNB.out)).trans (hS o) | exact fun o => (hb3.cell (p := ⟨wr.heap.size, o, none⟩) (by simp; omega)).trans (hS o) | exact fun o => (World.cell?_alloc_lt _ _ _ (by first | exact hz | (have := hb3.size; first | omega | (simp at *; done) | (simp at *; omega)))).trans (hS o)
          clear hS hK K
          have hS := hS'
          clear hS'
          (try simp only [Act.put, tA, tB, tC])
          refine rw_free (v := ?_) (by rfl) ?_ ?_; rotate_left 1; focus (intro w hSw; (try dsimp only at hSw); go_simp; (try with_reducible rfl))
          (try simp only [Act.put, tA, tB, tC])
          refine rw_done ?_
          have HO5 := Lib.hid ho5
          have HB5 := Lib.hid (show Below w.heap.size w w5 from (by first | exact ((HB2.out.drew.trans (hb3.mono hzw)).alloc (by have := hb3.size; first | omega | (simp at *; done) | (simp at *; omega)) _).trans hb5 | exact ((HB2.out.drew.alloc hzw _).trans (hb3.mono (by simp; omega))).trans hb5))
          clear ho5 hb5 hg5 hb3 hS
          go_wp2
          go_roundw
          case rel => exact ⟨k + 1, by omega, by go_num, by rw [HX.out, HX2.out]; exact HO5.out, HB5.out⟩
          case measure => simp [intOf]; omega
        · skip
          refine rw_call (by rfl) (fun K hK => ?_)
          go_simp
          (skip)
          (try go_wp2_with fail)
          refine hK.out _ _ ?_ (fun hS' => ?_)
          · (try dsimp only); first | exact fun o => (World.cell?_of_block (hg5.block wr.heap.size (by have := hb3.size; first | omega | (simp at *; done) | (simp at *; omega)) HNB.out)).trans (hS o) | exact fun o => (hb3.cell (p := ⟨wr.heap.size, o, none⟩) (by simp; omega)).trans (hS o) | exact fun o => (World.cell?_alloc_lt _ _ _ (by first | exact hz | (have := hb3.size; first | omega | (simp at *; done) | (simp at *; omega)))).trans (hS o)
          clear hS hK K
          have hS := hS'
          clear hS'
          (try simp only [Act.put, tA, tB, tC])
          refine rw_call (by rfl) (fun K hK => ?_)
          go_simp
          (refine (HP.out _ L x.id _ ?_ ?_).mono ?_; (first | exact HSL.out _ (Below.refl _ _).drew | exact HSL.out _ ((Below.refl _ _).drew.alloc (Nat.le_refl _) _)); (have := HLk.out; omega); rintro e w3 ⟨rfl, hb3⟩)
          (try go_wp2_with fail)
          refine hK.out _ _ ?_ (fun hS' => ?_)
          · (try dsimp only); first | exact fun o => (World.cell?_of_block (hg5.block wr.heap.size (by have := hb3.size; first | omega | (simp at *; done) | (simp at *; omega)) HNB.out)).trans (hS o) | exact fun o => (hb3.cell (p := ⟨wr.heap.size, o, none⟩) (by simp; omega)).trans (hS o) | exact fun o => (World.cell?_alloc_lt _ _ _ (by first | exact hz | (have := hb3.size; first | omega | (simp at *; done) | (simp at *; omega)))).trans (hS o)
          clear hS hK K
          have hS := hS'
          clear hS'
          (try simp only [Act.put, tA, tB, tC])
          refine rw_call (by rfl) (fun K hK => ?_)
          go_simp
          (refine (HI.out _ L (pos L x.id) x _ 1 w.heap.size _ ?_ ?_ ?_ ?_ ?_ ?_ ?_).mono ?_; (first | exact (own_below HO2.out.drew hb3).alloc _ | exact own_below (HO2.out.drew.alloc _) hb3); (have := hb3.size; first | omega | (simp at *; done) | (simp at *; omega)); (have := HLk.out; omega); exact HPl.out; (first | exact heap_alloc_new w3 _ | exact Blk.below (heap_alloc_new w2.drew _) hb3 (by simp)); exact HNE.out _ (by have := hb3.size; first | omega | (simp at *; done) | (simp at *; omega)); omega; rintro e w5 ⟨v5, rfl, ho5, hb5, hg5⟩)
          (try go_wp2_with fail)
          refine hK.out _ _ ?_ (fun hS' => ?_)
          · (try dsimp only); first | exact fun o => (World.cell?_of_block (hg5.block wr.heap.size (by have := hb3.size; first | omega | (simp at *; done) | (simp at *; omega)) HNB.out)).trans (hS o) | exact fun o => (hb3.cell (p := ⟨wr.heap.size, o, none⟩) (by simp; omega)).trans (hS o) | exact fun o => (World.cell?_alloc_lt _ _ _ (by first | exact hz | (have := hb3.size; first | omega | (simp at *; done) | (simp at *; omega)))).trans (hS o)
          clear hS hK K
          have hS := hS'
          clear hS'
          (try simp only [Act.put, tA, tB, tC])
          refine rw_free (v := ?_) (by rfl) ?_ ?_; rotate_left 1; focus (intro w hSw; (try dsimp only at hSw); go_simp; (try with_reducible rfl))
          (try simp only [Act.put, tA, tB, tC])
          refine rw_done ?_
          have HO5 := Lib.hid ho5
          have HB5 := Lib.hid (show Below w.heap.size w w5 from (by first | exact ((HB2.out.drew.trans (hb3.mono hzw)).alloc (by have := hb3.size; first | omega | (simp at *; done) | (simp at *; omega)) _).trans hb5 | exact ((HB2.out.drew.alloc hzw _).trans (hb3.mono (by simp; omega))).trans hb5))
          clear ho5 hb5 hg5 hb3 hS
          go_wp2
          go_roundw
          case rel => exact ⟨k + 1, by omega, by go_num, by rw [HX.out, HX2.out]; exact HO5.out, HB5.out⟩
          case measure => simp [intOf]; omega
    · obtain rfl : k = n := by omega
      rw [List.take_of_length_le (Nat.le_of_eq Hn.out)] at Hown
      clear hown hbel
      go_wp2
      go_ret
      exact ⟨_, rfl, Hown.out, Hbel.out⟩

end Go.Proofs.YtfpofegfbinalaaGreat.Fx
