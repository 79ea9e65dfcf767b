/- Blasts and Fallen: what they return, for every list. -/
import Derived.Test.YtfpofegfbinalaaGreatM17
import Derived.Test.YtfpofegfbinalaaGreatM02
namespace Go.Proofs.YtfpofegfbinalaaGreat.Fx
open Go.ChangeShapes Go.WideShapes Go.ChangeAt Go.RowKit
set_option linter.unusedVariables false
set_option maxRecDepth 100000

/-- What a blast makes of one. -/
def blow1 (x y : Int) (p : Ent) : Ent := if rchB x y 128 p = true then healthy (fun h => sub h 10) p else p

/-- The first k are blown. -/
def blwK (x y : Int) (es : List Ent) (k : Nat) : List Ent := (es.take k).map (blow1 x y) ++ es.drop k

theorem blwK_at (x y : Int) {es : List Ent} {k : Nat} {p : Ent} (h : es[k]? = some p) : (blwK x y es k)[k]? = some p := by
  have hk := (List.getElem?_eq_some_iff.1 h).1
  rw [blwK, List.getElem?_append_right (by simp; omega)]
  simp only [List.length_map, List.length_take, Nat.min_eq_left (Nat.le_of_lt hk), Nat.sub_self, List.getElem?_drop, Nat.add_zero]
  exact h

theorem blwK_set (x y : Int) {es : List Ent} {k : Nat} {p : Ent} (h : es[k]? = some p) : blwK x y es (k + 1) = (blwK x y es k).set k (blow1 x y p) := by
  have hk := (List.getElem?_eq_some_iff.1 h).1
  rw [blwK, blwK, List.set_append_right _ _ (by simp; omega), take_at h, drop_at h]
  simp only [List.length_map, List.length_take, Nat.min_eq_left (Nat.le_of_lt hk), Nat.sub_self, List.map_append, List.map_cons, List.map_nil, List.set_cons_zero, List.append_assoc, List.cons_append, List.nil_append]

theorem set_same {α : Type} {l : List α} {k : Nat} {p : α} (h : l[k]? = some p) : l.set k p = l := by
  apply List.ext_getElem?
  intro i
  rw [List.getElem?_set]
  by_cases hi : k = i
  · subst hi; rw [if_pos rfl, if_pos (List.getElem?_eq_some_iff.1 h).1, h]
  · rw [if_neg hi]

set_option maxHeartbeats 2000000 in
theorem blow_any (B x y : Int) (base : Nat) (v : Value) (es : List Ent) (w : World) (hown : w.ownsRow base 45 9 v es.length (es.flatMap entC)) (hb : base ≤ w.heap.size) (hn : es.length ≤ 1000000) :
    Calls Tryz.prog 146 #[v, .int .i64 x, .int .i64 y] w fun z w' => z = .returned (.tuple #[]) ∧ w'.ownsRow base 45 9 v es.length ((es.map (blow1 x y)).flatMap entC) ∧ Below base w w' := by
  obtain ⟨n, hnn⟩ : ∃ n, es.length = n := ⟨_, rfl⟩
  rw [hnn] at hown hn ⊢
  have Hn := Lib.hid hnn
  have H0 := Lib.hid (show w.ownsRow base 45 9 v n ((blwK x y es 0).flatMap entC) from by simpa [blwK] using hown)
  have HR := Lib.hid (fun p w => reached_any p x y 128 w)
  have HS := Lib.hid (fun h w => sub_any h 10 w)
  obtain ⟨A, c, rfl, -⟩ := owned_cells hown
  clear hown hnn
  go_enter Tryz.func146, Tryz.ntmps146
  go_wp2_with fail
  go_loopw [10] (fun i wr => ∃ k : Nat, k ≤ n ∧ i = .int .i64 k ∧ wr.ownsRow base 45 9 (.slice A n c) n ((blwK x y es k).flatMap entC) ∧ Below base w wr) (fun i _ => n - (intOf i).toNat)
  case atStart => exact ⟨0, Nat.zero_le _, rfl, H0.out, Below.refl _ _⟩
  case round =>
    obtain ⟨k, hk, rfl, ho, hbel⟩ := hrel
    have Ho := Lib.hid ho
    have Hbel := Lib.hid hbel
    clear ho hbel H0
    by_cases hlt : k < n
    · obtain ⟨p, hp⟩ := getE es k n Hn.out hlt
      have HK := Lib.hid (blwK_at x y hp)
      have HX := Lib.hid (blwK_set x y hp)
      obtain ⟨ga, ca, hA, hga, hgw, -, hcs, -⟩ := own_at_Ent Ho.out HK.out
      cases hA
      simp only [Nat.zero_add] at hcs
      obtain ⟨c0, c1, c2, c3, c4, c5, c6, c7, c8⟩ := hcs
      clear hp
      have HQ := Lib.hid (show blow1 x y p = if rchB x y 128 p = true then healthy (fun h => sub h 10) p else p from rfl)
      go_wp2_with fail
      refine (HR.out p _).mono ?_
      rintro e w4 ⟨rfl, hb4⟩
      have Ho4 := Lib.hid (own_below (Ho.out.alloc _) hb4)
      have Hbel4 := Lib.hid ((Hbel.out.alloc (Nat.le_trans hb Hbel.out.size) _).trans (hb4.mono (by have := Hbel.out.size; simp; omega)))
      have Hbx := Lib.hid ((EntBox.n1 wr p 45 rfl).below hb4 (by simp))
      clear hb4 c0 c1 c2 c3 c4 c5 c6 c7 c8
      cases hq : rchB x y 128 p with
      | false =>
        have HY := Lib.hid (show blow1 x y p = p from by rw [HQ.out, hq]; rfl)
        clear hq
        go_wp2
        go_roundw
        case rel => exact ⟨k + 1, by omega, by go_num, by rw [HX.out, HY.out, set_same HK.out]; exact Ho4.out, Hbel4.out⟩
        case measure => simp [intOf]; omega
      | true =>
        have HY := Lib.hid (show blow1 x y p = healthy (fun h => sub h 10) p from by rw [HQ.out, hq]; rfl)
        clear hq
        have b6 := Hbx.out.c6
        obtain ⟨g', c', hA, -, hgw4, -, hcs, hf6⟩ := own_at_Ent Ho4.out HK.out
        cases hA
        simp only [Nat.zero_add] at hcs
        have e6 := hcs.2.2.2.2.2.2.1
        have ef6 := hf6 (k * 9 + 6)
        clear hcs hf6
        have HP := Lib.hid (own_put_Ent (q := 6) (z := healthy (fun h => sub h 10) p) (v := .int .i64 (sub p.health 10)) Ho4.out HK.out (by omega) rfl)
        have Hbel6 := Lib.hid (Hbel4.out.setCell (p := ⟨ga, k * 9 + 6, none⟩) hga (.int .i64 (sub p.health 10)))
        go_wp2_with (go_at_call 154; refine (HS.out p.health _).mono ?_)
        rintro e w5 ⟨rfl, rfl⟩
        generalize sub p.health 10 = fh at *
        go_wp2
        go_roundw
        case rel => exact ⟨k + 1, by omega, by go_num, by rw [HX.out, HY.out]; exact HP.out.1, Hbel6.out⟩
        case measure => simp [intOf]; omega
    · obtain rfl : k = n := by omega
      rw [show blwK x y es k = es.map (blow1 x y) from by rw [blwK, List.take_of_length_le (Nat.le_of_eq Hn.out), List.drop_eq_nil_of_le (Nat.le_of_eq Hn.out), List.append_nil]] at Ho
      go_wp2
      (try simp only [Exit.inBlock, Exit.then])
      refine bodyPost_end (results_none rfl _ _ _) rfl ?_
      exact ⟨rfl, Ho.out, Hbel.out⟩

theorem blast_blow {b : Crs} (h : b.kind = 2) : blast1 b = blow1 b.x b.y := by
  funext p
  unfold blast1 blow1 rchB
  simp [h]

theorem blast_not {b : Crs} (h : ¬ b.kind = 2) (l : List Ent) : l.map (blast1 b) = l := by
  rw [show blast1 b = id from funext fun p => by unfold blast1; rw [if_neg (fun h' => h h'.1)]; rfl]
  simp

theorem blasts_len (l : List Ent) (bs : List Crs) : (blastsL l bs).length = l.length := (blasts_pw bs l).len

theorem blasts_take {bs : List Crs} {k : Nat} {b : Crs} (h : bs[k]? = some b) (l : List Ent) : blastsL l (bs.take (k + 1)) = (blastsL l (bs.take k)).map (blast1 b) := by
  unfold blastsL
  rw [take_at h, List.foldl_append]
  rfl

set_option maxHeartbeats 2000000 in
theorem blastsH_any (v u : Value) (l : List Ent) (bs : List Crs) (w : World) (hv : IsSl entC w v l) (hn : l.length ≤ 1000) (hu : IsSl crsC w u bs) (hm : bs.length ≤ 10000) :
    Calls Tryz.prog 98 #[v, u] w (RetRow (blastsL l bs) w) := by
  have HC := Lib.hid (clone_Ent v l w hv (by omega))
  obtain ⟨n, hnn⟩ : ∃ n, l.length = n := ⟨_, rfl⟩
  have Hn := Lib.hid hnn
  obtain ⟨A, c, rfl, -, -, hat⟩ := hu
  have Hat := Lib.hid hat
  obtain ⟨N, hNN⟩ : ∃ N, bs.length = N := ⟨_, rfl⟩
  have HN := Lib.hid hNN
  rw [hnn] at hn HC
  rw [hNN] at hm ⊢
  have HB := Lib.hid (fun x y base es w ho hb hn => blow_any 0 x y base v es w ho hb hn)
  clear HB
  clear hv hnn hat hNN
  go_enter Tryz.func98, Tryz.ntmps98
  go_wp2_with fail
  refine HC.out.mono ?_
  rintro e w1 ⟨va, rfl, hown, hb1⟩
  have Ho0 := Lib.hid (show w1.ownsRow w.heap.size 45 9 va n ((blastsL l (bs.take 0)).flatMap entC) from hown)
  have Hb0 := Lib.hid hb1
  have HB := Lib.hid (fun x y es w ho hb hn => blow_any 0 x y w1.heap.size va es w ho hb hn)
  clear HB HC hown hb1
  go_wp2_with fail
  go_loopw [12] (fun i wr => ∃ k : Nat, k ≤ N ∧ i = .int .i64 k ∧ wr.ownsRow w.heap.size 45 9 va n ((blastsL l (bs.take k)).flatMap entC) ∧ Below w.heap.size w wr) (fun i _ => N - (intOf i).toNat)
  case atStart => exact ⟨0, Nat.zero_le _, rfl, Ho0.out, Hb0.out⟩
  case round =>
    obtain ⟨k, hk, rfl, ho, hbel⟩ := hrel
    have Ho := Lib.hid ho
    have Hbel := Lib.hid hbel
    clear ho hbel Ho0 Hb0
    by_cases hlt : k < N
    · obtain ⟨b, hb⟩ := getE bs k N HN.out hlt
      have HX := Lib.hid (blasts_take hb l)
      have HL := Lib.hid (show (blastsL l (bs.take k)).length = n from by rw [blasts_len]; exact Hn.out)
      obtain ⟨g, off, rfl, hc⟩ := elem_Crs (Hat.out.below Hbel.out) hb
      obtain ⟨c0, c1, c2, c3, c4, c5, c6, c7, c8, c9, c10, c11, c12, c13, c14⟩ := hc
      clear hb
      generalize blastsL l (bs.take k) = es at *
      by_cases hkd : b.kind = 2
      · rw [blast_blow hkd] at HX
        have HB := Lib.hid (blow_any 0 b.x b.y w.heap.size va es)
        have hkd' : (b.kind == 2) = true := by simpa using hkd
        go_wp2_with fail
        refine (HB.out _ (by rw [HL.out]; exact Ho.out.alloc _) (by have := Hbel.out.size; simp; omega) (by rw [HL.out]; omega)).mono ?_
        rintro e w4 ⟨rfl, ho4, hb4⟩
        rw [HL.out] at ho4
        have Ho4 := Lib.hid ho4
        have Hb4 := Lib.hid ((Hbel.out.alloc Hbel.out.size _).trans hb4)
        clear ho4 hb4 HB c0 c1 c2 c3 c4 c5 c6 c7 c8 c9 c10 c11 c12 c13 c14
        go_wp2
        go_roundw
        case rel => exact ⟨k + 1, by omega, by go_num, by rw [HX.out]; exact Ho4.out, Hb4.out⟩
        case measure => simp [intOf]; omega
      · rw [blast_not hkd] at HX
        have hkd' : (b.kind == 2) = false := by simpa using hkd
        go_wp2
        go_roundw
        case rel => exact ⟨k + 1, by omega, by go_num, by rw [HX.out]; exact Ho.out.alloc _, Hbel.out.alloc Hbel.out.size _⟩
        case measure => simp [intOf]; omega
    · obtain rfl : k = N := by omega
      rw [List.take_of_length_le (Nat.le_of_eq HN.out)] at Ho
      have Hl := Lib.hid (show (blastsL l bs).length = n from by rw [blasts_len]; exact Hn.out)
      go_wp2
      go_ret
      exact ⟨_, rfl, by rw [Hl.out]; exact Ho.out, Hbel.out⟩

theorem fallen_take {l : List Ent} {k : Nat} {p : Ent} (h : l[k]? = some p) : fallenL (l.take (k + 1)) = fallenL (l.take k) ++ if p.kind = 1 ∧ p.health ≤ 0 then [p.id] else [] := by
  unfold fallenL
  rw [take_at h, List.filter_append, List.map_append]
  congr 1
  by_cases h1 : p.kind = 1 <;> by_cases h2 : p.health ≤ 0 <;> simp [h1, h2]

theorem fallen_le (l : List Ent) : (fallenL l).length ≤ l.length := by
  unfold fallenL
  rw [List.length_map]
  exact List.length_filter_le _ _

set_option maxHeartbeats 2000000 in
theorem fallenH_any (v : Value) (l : List Ent) (w : World) (hv : IsSl entC w v l) (hn : l.length ≤ 1000) :
    Calls Tryz.prog 101 #[v] w fun z w' => ∃ v', z = .returned v' ∧ w'.ownsRow w.heap.size 3 1 v' (fallenL l).length ((fallenL l).map (Value.int .i64)) ∧ Below w.heap.size w w' := by
  obtain ⟨i0, hi, hz0, hz1, hz2⟩ := info_parts info_int
  obtain ⟨A, c, rfl, -, -, hat⟩ := hv
  have Hat := Lib.hid hat
  obtain ⟨n, hnn⟩ : ∃ n, l.length = n := ⟨_, rfl⟩
  rw [hnn] at hn ⊢
  have Hn := Lib.hid hnn
  have Hi := Lib.hid hi
  have Hz0 := Lib.hid hz0
  have Hz1 := Lib.hid hz1
  have Hz2 := Lib.hid hz2
  have HL := Lib.hid (fun k => fallen_le (l.take k))
  clear hat hnn hi hz0 hz1 hz2
  go_enter Tryz.func101, Tryz.ntmps101
  go_wp2
  go_loopw [3, 8] (fun v i wr => ∃ k : Nat, k ≤ n ∧ i = .int .i64 k ∧ wr.ownsRow w.heap.size 3 1 v (fallenL (l.take k)).length ((fallenL (l.take k)).map (Value.int .i64)) ∧ Below w.heap.size w wr) (fun _ i _ => n - (intOf i).toNat)
  case atStart => exact ⟨0, Nat.zero_le _, rfl, ⟨by simp [fallenL], .inl ⟨rfl, rfl⟩⟩, Below.refl _ _⟩
  case round =>
    obtain ⟨k, hk, rfl, hown, hbel⟩ := hrel
    have Hown := Lib.hid hown
    have Hbel := Lib.hid hbel
    clear hown hbel
    by_cases hlt : k < n
    · obtain ⟨x, hx⟩ := getE l k n Hn.out hlt
      have HX := Lib.hid (fallen_take hx)
      have HLk := Lib.hid (show (fallenL (l.take k)).length ≤ k from Nat.le_trans (HL.out k) (by rw [List.length_take]; omega))
      obtain ⟨b, off, rfl, hc⟩ := elem_Ent (Hat.out.below Hbel.out) hx
      obtain ⟨c0, c1, c2, c3, c4, c5, c6, c7, c8⟩ := hc
      clear hx
      by_cases hk1 : x.kind = 1
      · have hk1' : (x.kind == 1) = true := by simpa using hk1
        by_cases hk2 : x.health ≤ 0
        · have hk2' : decide (x.health ≤ 0) = true := decide_eq_true hk2
          rw [if_pos ⟨hk1, hk2⟩] at HX
          have hbs := Hbel.out.size
          go_wp2_with (at_builtin; go_must (refine append_int (by rfl) (.tmp 20) (.tmp 23) 87 (by rfl) w.heap.size 3 .i64 i0 8 Tryz.underlying87 Hi.out Hz0.out Hz1.out Hz2.out (by omega) _ (fallenL (l.take k)) (Hown.out.alloc _) x.id (by rfl) _ 1 (by rfl) (by simp) (by have := HLk.out; omega) (by simp; omega) ?_))
          intro v' w5 hown5 hb5
          have HO5 := Lib.hid (show w5.ownsRow w.heap.size 3 1 v' (fallenL (l.take (k + 1))).length ((fallenL (l.take (k + 1))).map (Value.int .i64)) from by rw [HX.out]; simpa using hown5)
          have HB5 := Lib.hid ((Hbel.out.alloc Hbel.out.size _).trans hb5)
          clear hown5 hb5
          go_wp2
          go_roundw
          case rel => exact ⟨k + 1, by omega, by go_num, HO5.out, HB5.out⟩
          case measure => simp [intOf]; omega
        · have hk2' : decide (x.health ≤ 0) = false := decide_eq_false hk2
          rw [if_neg (fun h => hk2 h.2), List.append_nil] at HX
          go_wp2
          go_roundw
          case rel => exact ⟨k + 1, by omega, by go_num, by rw [HX.out]; exact Hown.out.alloc _, Hbel.out.alloc Hbel.out.size _⟩
          case measure => simp [intOf]; omega
      · have hk1' : (x.kind == 1) = false := by simpa using hk1
        rw [if_neg (fun h => hk1 h.1), List.append_nil] at HX
        go_wp2
        go_roundw
        case rel => exact ⟨k + 1, by omega, by go_num, by rw [HX.out]; exact Hown.out.alloc _, Hbel.out.alloc Hbel.out.size _⟩
        case measure => simp [intOf]; omega
    · obtain rfl : k = n := by omega
      rw [List.take_of_length_le (Nat.le_of_eq Hn.out)] at Hown
      go_wp2
      go_ret
      exact ⟨_, rfl, Hown.out, Hbel.out⟩

end Go.Proofs.YtfpofegfbinalaaGreat.Fx
