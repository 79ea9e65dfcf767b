/- Package cross's Sort and To, and the document's To: what they return; old memory stays. -/
import Derived.Test.YtfpofegfbinalaaGreatM35
import Derived.Test.YtfpofegfbinalaaGreatM04
import Derived.Test.YtfpofegfbinalaaGreatM01
import Derived.Test.YtfpofegfbinalaaGreatM09
import Derived.Lib.AppendZerosOnto
namespace Go.Proofs.YtfpofegfbinalaaGreat.Fx
open Go.ChangeShapes Go.WideShapes Go.ChangeAt Go.RowKit
set_option linter.unusedVariables false
set_option maxRecDepth 100000

/-- A value as a cell. -/
def oneV (v : Value) : List Value := [v]

theorem oneV_len (v : Value) : (oneV v).length = 1 := rfl

theorem flat_oneV (vs : List Value) : vs.flatMap oneV = vs := by
  induction vs with
  | nil => rfl
  | cons v vs ih => rw [List.flatMap_cons, ih]; rfl

/-- Values that read as lists. -/
def AllSl (w : World) (vs : List Value) (ls : List (List Crs)) : Prop := vs.length = ls.length ∧ ∀ (i : Nat) v l, vs[i]? = some v → ls[i]? = some l → IsSl crsC w v l

theorem AllSl.below {w w' : World} {vs : List Value} {ls : List (List Crs)} (h : AllSl w vs ls) (hb : Below w.heap.size w w') : AllSl w' vs ls := ⟨h.1, fun i v l h1 h2 => (h.2 i v l h1 h2).below hb⟩

theorem AllSl.nil (w : World) : AllSl w [] [] := ⟨rfl, fun i v l h => by simp at h⟩

theorem AllSl.cons {w : World} {v : Value} {l : List Crs} {vs : List Value} {ls : List (List Crs)} (hv : IsSl crsC w v l) (h : AllSl w vs ls) : AllSl w (v :: vs) (l :: ls) := by
  refine ⟨by simp [h.1], fun i u m h1 h2 => ?_⟩
  cases i with
  | zero => simp at h1 h2; subst h1 h2; exact hv
  | succ i => exact h.2 i u m (by simpa using h1) (by simpa using h2)

/-- A list of messages that comes back in memory of the call's own. -/
def RetCrs (l : List Crs) (w : World) (e : Ending) (w' : World) : Prop := ∃ v, e = .returned v ∧ w'.ownsRow w.heap.size 50 15 v l.length (l.flatMap crsC) ∧ Below w.heap.size w w'

theorem grow_zero (w : World) : Calls Tryz.prog 161 #[.slice none 0 0, .int .i64 0] w fun e w' => e = .returned (.slice none 0 0) ∧ w = w' := by
  go_enter Tryz.func161, Tryz.ntmps161
  go_wp2
  go_ret
  exact ⟨rfl, rfl⟩

set_option maxHeartbeats 1000000 in
theorem grow_some (n : Nat) (h0 : 0 < n) (hn : n ≤ 1000000) (w : World) : Calls Tryz.prog 161 #[.slice none 0 0, .int .i64 n] w (RetCrs [] w) := by
  obtain ⟨i0, hi0, hz0, hz1, hz2⟩ := info_parts info_Crs
  have hzl : ∀ k, (Builtin.zeroCells (Value.cells (.agg #[.int .i64 0, .int .i64 0, .int .i64 0, .int .i64 0, .int .i64 0, .int .i64 0, .int .i64 0, .int .i64 0, .int .i64 0, .int .i64 0, .int .i64 0, .int .i64 0, .int .i64 0, .int .i64 0, .int .i64 0])) k).size = k * 15 := fun k => by rw [zeroCells_size]; rfl
  have hGe := grownCap_ge w n 0 50
  have hGm := grownCap_le_maxLen w n 0 50 (by unfold maxLen; omega)
  have hrun := fun ty => Lib.run_append_grow_zeros w 51 3 ty 50 i0 _ .i64 .i64 Tryz.underlying51 Tryz.underlying3 hi0 hz0 none 0 0 [] (run_firstCells_none _ _ _ _ _) n h0 (by omega) (by omega) (by omega) (by rw [hz2]; omega) (by rw [hz2, Nat.zero_add]; exact growslice_fits (by omega) (by omega))
  simp only [Nat.zero_add] at hrun
  have hown : (w.drew.alloc (.cells ([].toArray ++ Builtin.zeroCells (Value.cells (.agg #[.int .i64 0, .int .i64 0, .int .i64 0, .int .i64 0, .int .i64 0, .int .i64 0, .int .i64 0, .int .i64 0, .int .i64 0, .int .i64 0, .int .i64 0, .int .i64 0, .int .i64 0, .int .i64 0, .int .i64 0])) n ++ Builtin.zeroCells (Value.cells (.agg #[.int .i64 0, .int .i64 0, .int .i64 0, .int .i64 0, .int .i64 0, .int .i64 0, .int .i64 0, .int .i64 0, .int .i64 0, .int .i64 0, .int .i64 0, .int .i64 0, .int .i64 0, .int .i64 0, .int .i64 0])) (grownCap w n 0 50 - n)) 50)).ownsRow w.heap.size 50 15 (.slice (some ⟨w.heap.size, 0, none⟩) 0 (grownCap w n 0 50)) 0 [] := by
    refine own_new w.drew [] _ (Nat.le_refl _) rfl (Nat.zero_le _) hGm ?_ (by simp)
    rw [Array.size_append, Array.size_append, hzl, hzl]; simp; omega
  have Hrun := Lib.hid hrun
  have HO := Lib.hid hown
  have hnz : (0 : Int) < (n : Int) := by omega
  have hs0 : slTo 15 (.slice none 0 0) 0 = .slice none 0 0 := rfl
  clear hi0 hz0 hz1 hz2 hzl hrun hown
  generalize grownCap w n 0 50 = G at *
  generalize hW : w.drew.alloc _ = W1 at Hrun HO
  have HW := Lib.hid (show Below w.heap.size w W1 from by rw [← hW]; exact (Below.refl _ _).drew.alloc (Nat.le_refl _) _)
  clear hW
  go_enter Tryz.func161, Tryz.ntmps161
  go_wp2_with (at_builtin; go_must (refine Lib.wpList_append_run _ (by rfl) _ _ _ _ (by rfl) _ _ (by rfl) (by rfl) _ _ (Hrun.out _) ?_))
  go_ret
  exact ⟨_, rfl, HO.out, HW.out⟩

theorem grow_any (n : Nat) (hn : n ≤ 1000000) (w : World) : Calls Tryz.prog 161 #[.slice none 0 0, .int .i64 n] w (RetCrs [] w) := by
  rcases Nat.eq_zero_or_pos n with h0 | h0
  · subst h0
    exact (grow_zero w).mono fun e w' ⟨he, hw⟩ => ⟨_, he, by rw [← hw]; exact World.ownsRow_nil _ _ _ _, by rw [← hw]; exact Below.refl _ _⟩
  · exact grow_some n h0 hn w

set_option maxHeartbeats 1000000 in
theorem concat_any (V : Value) (vs : List Value) (ls : List (List Crs)) (w : World) (hV : IsSl oneV w V vs) (hA : AllSl w vs ls) (hk : vs.length ≤ 1000) (hn : ls.flatten.length ≤ 100000) :
    Calls Tryz.prog 111 #[V] w (RetCrs ls.flatten w) := by
  obtain ⟨A, c, rfl, -, -, hat⟩ := hV
  rw [flat_oneV] at hat
  have hlen := hA.1
  have HTk := Lib.hid (show ∀ k, (ls.take k).flatten.length ≤ ls.flatten.length from fun k => by
    have e : ls.flatten = (ls.take k).flatten ++ (ls.drop k).flatten := by rw [← List.flatten_append, List.take_append_drop]
    rw [e, List.length_append]; omega)
  obtain ⟨N, hN⟩ : ∃ N, vs.length = N := ⟨_, rfl⟩
  rw [hN] at hk hlen ⊢
  have HN := Lib.hid hN
  have HLen := Lib.hid hlen
  have Hat := Lib.hid hat
  have HA := Lib.hid hA
  have Hn := Lib.hid hn
  have HG := Lib.hid grow_any
  clear hat hA hN hlen hn
  go_enter Tryz.func111, Tryz.ntmps111
  go_wp2
  go_loop [3, 11] (fun s3 s11 => ∃ k : Nat, k ≤ N ∧ s11 = .int .i64 k ∧ s3 = .int .i64 ((ls.take k).flatten.length : Nat)) (fun _ i => N - (intOf i).toNat)
  case atStart => exact ⟨0, Nat.zero_le _, rfl, by simp⟩
  case round =>
    obtain ⟨k, hk', rfl, rfl⟩ := hrel
    by_cases hlt : k < N
    · obtain ⟨v, hv⟩ := getE vs k N HN.out hlt
      obtain ⟨l, hl⟩ := getE ls k N HLen.out.symm hlt
      obtain ⟨A', c', rfl, -, -, -⟩ := HA.out.2 k v l hv hl
      obtain ⟨b, off, rfl, hc⟩ := Hat.out (fun h => by rw [h] at hv; simp at hv)
      have hck := hc k _ hv
      have hT : (ls.take (k + 1)).flatten.length = (ls.take k).flatten.length + l.length := by rw [take_at hl, List.flatten_append]; simp
      have h1 := HTk.out k
      have h2 := HTk.out (k + 1)
      have h3 := Hn.out
      rw [hT] at h2
      have HT := Lib.hid hT
      clear hc hv hl hT
      generalize (ls.take k).flatten.length = s at *
      generalize l.length = m at *
      generalize ls.flatten.length = q at *
      have hneg : ¬ ((s : Int) + (m : Int) < 0) := by omega
      go_wp2
      go_round
      case rel => exact ⟨k + 1, by omega, by go_num, by rw [HT.out]; go_num⟩
      case measure => simp [intOf]; omega
    · obtain rfl : k = N := by omega
      have hall : ls.take k = ls := List.take_of_length_le (by have := HLen.out; omega)
      rw [hall]
      have h3 := Hn.out
      clear hlt hk' hall
      generalize ls.flatten.length = q at h3 ⊢
      go_wp2_with fail
      refine (HG.out q (by omega) _).mono ?_
      rintro e w1 ⟨v1, rfl, ho, hb⟩
      have HO := Lib.hid ho
      have HB := Lib.hid hb
      clear ho hb
      go_wp2
      go_loopw [6, 27] (fun s6 s27 wr => ∃ j : Nat, j ≤ k ∧ s27 = .int .i64 j ∧ wr.ownsRow w.heap.size 50 15 s6 (ls.take j).flatten.length ((ls.take j).flatten.flatMap crsC) ∧ Below w.heap.size w wr) (fun _ i _ => k - (intOf i).toNat)
      case atStart => exact ⟨0, Nat.zero_le _, rfl, by simpa using HO.out, HB.out⟩
      case round =>
        clear HO HB
        obtain ⟨j, hj, rfl, ho, hb⟩ := hrel
        have HO := Lib.hid ho
        have HB := Lib.hid hb
        clear ho hb
        by_cases hlt : j < k
        · obtain ⟨v, hv⟩ := getE vs j k HN.out hlt
          obtain ⟨l, hl⟩ := getE ls j k HLen.out.symm hlt
          have HV := Lib.hid ((HA.out.2 j v l hv hl).below HB.out)
          obtain ⟨b, off, rfl, hc⟩ := Hat.out (fun h => by rw [h] at hv; simp at hv)
          have hck : wr.cell? ⟨b, off + j, none⟩ = some v := (HB.out.cell (p := ⟨b, off + j, none⟩) (World.block_lt_of_cell? _ _ (hc j _ hv))).trans (hc j _ hv)
          have HT := Lib.hid (show (ls.take (j + 1)).flatten = (ls.take j).flatten ++ l from by rw [take_at hl, List.flatten_append]; simp)
          have h1 := HTk.out (j + 1)
          rw [HT.out, List.length_append] at h1
          have h4 := Hn.out
          have hcell := hck
          obtain ⟨A', c', hv', -, -, -⟩ := HV.out
          have HVe := Lib.hid hv'
          clear hc hv hl hv'
          go_wp2_with (at_builtin; go_must (refine appL_Crs (by rfl) (.tmp 31) (.tmp 32) (by rfl) w.heap.size _ (ls.take j).flatten (by rfl) HO.out v l (by rfl) HV.out (by omega) HB.out.size ?_))
          intro v' w5 ho5 hb5 _
          have HO5 := Lib.hid (show w5.ownsRow w.heap.size 50 15 v' (ls.take (j + 1)).flatten.length ((ls.take (j + 1)).flatten.flatMap crsC) from by rw [HT.out]; simpa using ho5)
          have HB5 := Lib.hid (HB.out.trans hb5)
          clear ho5 hb5
          go_wp2
          go_roundw
          case rel => exact ⟨j + 1, by omega, by go_num, HO5.out, HB5.out⟩
          case measure => simp [intOf]; omega
        · obtain rfl : j = k := by omega
          have hall : ls.take j = ls := List.take_of_length_le (by have := HLen.out; omega)
          rw [hall] at HO
          go_wp2
          go_ret
          exact ⟨_, rfl, HO.out, HB.out⟩

/-- cross.Sort. -/
theorem csort_any (V : Value) (vs : List Value) (ls : List (List Crs)) (w : World) (hV : IsSl oneV w V vs) (hA : AllSl w vs ls) (hk : vs.length ≤ 1000) (hn : ls.flatten.length ≤ 100000) :
    Calls Tryz.prog 60 #[V] w (RetCrs (st lessB ls.flatten) w) := by
  have HC := Lib.hid (concat_any V vs ls w hV hA hk hn)
  have HS := Lib.hid sort_own
  obtain ⟨A, c, rfl, -, -, -⟩ := hV
  go_enter Tryz.func60, Tryz.ntmps60
  go_wp2_with fail
  refine HC.out.mono ?_
  rintro e w1 ⟨v, rfl, ho, hb⟩
  have HO := Lib.hid ho
  have HB := Lib.hid hb
  clear ho hb
  go_wp2_with fail
  refine (HS.out v ls.flatten w.heap.size _ HB.out.size HO.out (by omega)).mono ?_
  rintro e w2 ⟨rfl, ho, hb⟩
  have HO2 := Lib.hid ho
  have HB2 := Lib.hid hb
  clear ho hb
  go_wp2
  go_ret
  exact ⟨v, rfl, HO2.out, HB.out.trans HB2.out⟩

/-- Those that go to a region. -/
def toL (l : List Crs) (r : Int) : List Crs := l.filter fun c => decide (c.dst = r)

set_option maxHeartbeats 1000000 in
theorem cto_any (v : Value) (l : List Crs) (r : Int) (w : World) (hv : IsSl crsC w v l) (hn : l.length ≤ 1000) :
    Calls Tryz.prog 48 #[v, .int .i64 r] w (RetCrs (toL l r) w) := by
  obtain ⟨A, c, rfl, -, -, hat⟩ := hv
  have Hat := Lib.hid hat
  obtain ⟨n, hnn⟩ : ∃ n, l.length = n := ⟨_, rfl⟩
  rw [hnn] at hn ⊢
  have Hn := Lib.hid hnn
  have HL := Lib.hid (fun k => List.length_filter_le (fun c : Crs => decide (c.dst = r)) (l.take k))
  clear hat hnn
  go_enter Tryz.func48, Tryz.ntmps48
  go_wp2
  go_loopw [5, 10] (fun v i wr => ∃ k : Nat, k ≤ n ∧ i = .int .i64 k ∧ wr.ownsRow w.heap.size 50 15 v (toL (l.take k) r).length ((toL (l.take k) r).flatMap crsC) ∧ Below w.heap.size w wr) (fun _ i _ => n - (intOf i).toNat)
  case atStart => exact ⟨0, Nat.zero_le _, rfl, ⟨by simp [toL], .inl ⟨rfl, rfl⟩⟩, Below.refl _ _⟩
  case round =>
    obtain ⟨k, hk, rfl, hown, hbel⟩ := hrel
    have Hown := Lib.hid hown
    have Hbel := Lib.hid hbel
    clear hown hbel
    by_cases hlt : k < n
    · obtain ⟨x, hx⟩ := getE l k n Hn.out hlt
      have HX := Lib.hid (show toL (l.take (k + 1)) r = toL (l.take k) r ++ if x.dst = r then [x] else [] from by rw [take_at hx, toL, toL, List.filter_append]; congr 1; by_cases h : x.dst = r <;> simp [h])
      have HLk := Lib.hid (show (toL (l.take k) r).length ≤ k from Nat.le_trans (HL.out k) (by rw [List.length_take]; omega))
      obtain ⟨b, off, rfl, hc⟩ := elem_Crs (Hat.out.below Hbel.out) hx
      obtain ⟨c0, c1, c2, c3, c4, c5, c6, c7, c8, c9, c10, c11, c12, c13, c14⟩ := hc
      clear hx
      have hbw : b < wr.heap.size := World.block_lt_of_cell? _ _ c0
      by_cases hin : x.dst = r
      · rw [if_pos hin] at HX
        have hin' : (x.dst == r) = true := by simpa using hin
        have HHin := Lib.hid hin
        clear hin
        go_wp2_with (at_builtin; go_must (refine appL_Crs (by rfl) (.tmp 18) (.tmp 20) (by rfl) w.heap.size _ (toL (l.take k) r) (by rfl) (own_below Hown.out (by first | exact ((Below.refl _ _).alloc (Nat.le_refl _) _).alloc (by simp) _ | ((repeat refine Below.setCell ?_ (Nat.le_refl _) _); exact (Below.refl _ _).alloc (Nat.le_refl _) _) | (refine Below.alloc ?_ (by simp) _; (repeat refine Below.setCell ?_ (Nat.le_refl _) _); exact (Below.refl _ _).alloc (Nat.le_refl _) _))) _ [x] (by rfl) (one_Crs _ x _ 1 (by first | rfl | simp) (by omega)) (by have := HLk.out; simp; omega) (by have := Hbel.out.size; simp; omega) ?_))
        intro v' w5 hown5 hb5 _
        have HO5 := Lib.hid (show w5.ownsRow w.heap.size 50 15 v' (toL (l.take (k + 1)) r).length ((toL (l.take (k + 1)) r).flatMap crsC) from by rw [HX.out]; simpa using hown5)
        have HB5 := Lib.hid (Below.trans (show Below w.heap.size w _ from by refine Below.alloc ?_ (by have := Hbel.out.size; simp; omega) _; (repeat refine Below.setCell ?_ Hbel.out.size _); exact Hbel.out.alloc Hbel.out.size _) hb5)
        clear hown5 hb5
        go_wp2
        go_roundw
        case rel => exact ⟨k + 1, by omega, by go_num, HO5.out, HB5.out⟩
        case measure => simp [intOf]; omega
      · rw [if_neg hin, List.append_nil] at HX
        have hin' : (x.dst == r) = false := by simpa using hin
        go_wp2
        go_roundw
        case rel => exact ⟨k + 1, by omega, by go_num, by rw [HX.out]; exact own_below Hown.out (by (repeat refine Below.setCell ?_ (Nat.le_refl _) _); exact (Below.refl _ _).alloc (Nat.le_refl _) _), by (repeat refine Below.setCell ?_ Hbel.out.size _); exact Hbel.out.alloc Hbel.out.size _⟩
        case measure => simp [intOf]; omega
    · obtain rfl : k = n := by omega
      rw [List.take_of_length_le (Nat.le_of_eq Hn.out)] at Hown
      go_wp2
      go_ret
      exact ⟨_, rfl, Hown.out, Hbel.out⟩

set_option maxHeartbeats 1000000 in
theorem rto_any (v : Value) (l : List Crs) (r : Int) (w : World) (hv : IsSl crsC w v l) (hn : l.length ≤ 1000) :
    Calls Tryz.prog 50 #[v, .int .i64 r] w (RetCrs (toL l r) w) := by
  obtain ⟨A, c, rfl, -, -, hat⟩ := hv
  have Hat := Lib.hid hat
  obtain ⟨n, hnn⟩ : ∃ n, l.length = n := ⟨_, rfl⟩
  rw [hnn] at hn ⊢
  have Hn := Lib.hid hnn
  have HL := Lib.hid (fun k => List.length_filter_le (fun c : Crs => decide (c.dst = r)) (l.take k))
  clear hat hnn
  go_enter Tryz.func50, Tryz.ntmps50
  go_wp2
  go_loopw [5, 6] (fun v i wr => ∃ k : Nat, k ≤ n ∧ i = .int .i64 k ∧ wr.ownsRow w.heap.size 50 15 v (toL (l.take k) r).length ((toL (l.take k) r).flatMap crsC) ∧ Below w.heap.size w wr) (fun _ i _ => n - (intOf i).toNat)
  case atStart => exact ⟨0, Nat.zero_le _, rfl, ⟨by simp [toL], .inl ⟨rfl, rfl⟩⟩, Below.refl _ _⟩
  case round =>
    obtain ⟨k, hk, rfl, hown, hbel⟩ := hrel
    have Hown := Lib.hid hown
    have Hbel := Lib.hid hbel
    clear hown hbel
    by_cases hlt : k < n
    · obtain ⟨x, hx⟩ := getE l k n Hn.out hlt
      have HX := Lib.hid (show toL (l.take (k + 1)) r = toL (l.take k) r ++ if x.dst = r then [x] else [] from by rw [take_at hx, toL, toL, List.filter_append]; congr 1; by_cases h : x.dst = r <;> simp [h])
      have HLk := Lib.hid (show (toL (l.take k) r).length ≤ k from Nat.le_trans (HL.out k) (by rw [List.length_take]; omega))
      obtain ⟨b, off, rfl, hc⟩ := elem_Crs (Hat.out.below Hbel.out) hx
      obtain ⟨c0, c1, c2, c3, c4, c5, c6, c7, c8, c9, c10, c11, c12, c13, c14⟩ := hc
      clear hx
      by_cases hin : x.dst = r
      · rw [if_pos hin] at HX
        have hin' : (x.dst == r) = true := by simpa using hin
        have HHin := Lib.hid hin
        clear hin
        go_wp2_with (at_builtin; go_must (refine appL_Crs (by rfl) (.tmp 20) (.tmp 25) (by rfl) w.heap.size _ (toL (l.take k) r) (by rfl) (Hown.out.alloc _) _ [x] (by rfl) (one_Crs _ x _ 1 (by first | rfl | simp) (by omega)) (by have := HLk.out; simp; omega) (by have := Hbel.out.size; simp; omega) ?_))
        intro v' w5 hown5 hb5 _
        have HO5 := Lib.hid (show w5.ownsRow w.heap.size 50 15 v' (toL (l.take (k + 1)) r).length ((toL (l.take (k + 1)) r).flatMap crsC) from by rw [HX.out]; simpa using hown5)
        have HB5 := Lib.hid ((Hbel.out.alloc Hbel.out.size _).trans hb5)
        clear hown5 hb5
        go_wp2
        go_roundw
        case rel => exact ⟨k + 1, by omega, by go_num, HO5.out, HB5.out⟩
        case measure => simp [intOf]; omega
      · rw [if_neg hin, List.append_nil] at HX
        have hin' : (x.dst == r) = false := by simpa using hin
        go_wp2
        go_roundw
        case rel => exact ⟨k + 1, by omega, by go_num, by rw [HX.out]; exact Hown.out, Hbel.out⟩
        case measure => simp [intOf]; omega
    · obtain rfl : k = n := by omega
      rw [List.take_of_length_le (Nat.le_of_eq Hn.out)] at Hown
      go_wp2
      go_ret
      exact ⟨_, rfl, Hown.out, Hbel.out⟩

end Go.Proofs.YtfpofegfbinalaaGreat.Fx
