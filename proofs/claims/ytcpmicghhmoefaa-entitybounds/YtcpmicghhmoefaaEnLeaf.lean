/- Package entity's calls on lists: what each returns, for every list; old memory stays. -/
import Derived.Test.YtcpmicghhmoefaaEnLeafR
import Derived.Test.YtcpmicghhmoefaaGInsTEntity
namespace Go.Proofs.Ytcpmicghhmoefaa.Fx
open Go.ChangeShapes Go.WideShapes Go.ChangeAt Go.RowKit
set_option linter.unusedVariables false

theorem idx_any (A : Option Addr) (n c : Nat) (l : List Int) (x : Int) (w : World) (hl : IntsAt w A n l) (hn : n ≤ 1000000) :
    Calls Try.prog 52 #[.slice A n c, .int .i64 x] w fun e w' => (∃ r : Int, e = .returned (.int .i64 r) ∧ (0 ≤ r ↔ x ∈ l)) ∧ w = w' := by
  obtain ⟨hlen, hat⟩ := hl
  have Hlen := Lib.hid hlen
  have Hat := Lib.hid hat
  clear hat hlen
  go_enter Try.func52, Try.ntmps52
  go_wp2
  go_loop [8] (fun i => ∃ k : Nat, k ≤ n ∧ i = .int .i64 k ∧ ∀ j, j < k → gi l j ≠ x) (fun i => n - (intOf i).toNat)
  case atStart => exact ⟨0, Nat.zero_le _, rfl, fun j hj => by omega⟩
  case round =>
    obtain ⟨k, hk, rfl, hno⟩ := hrel
    have Hno := Lib.hid hno
    clear hno
    by_cases hlt : k < n
    · obtain ⟨b, off, hA, hc⟩ := Hat.out (by omega)
      subst hA
      have hck := hc k hlt
      clear hc
      have Hg := Lib.hid (show gi l k = l.getD k 0 from rfl)
      have HG := Lib.hid (show ∃ v, gi l k = v from ⟨_, rfl⟩)
      obtain ⟨v, hv⟩ := HG.out
      rw [hv] at hck
      by_cases hxy : x = v
      · go_wp2
        go_ret
        exact ⟨⟨k, rfl, by
          refine ⟨fun _ => ?_, fun _ => by omega⟩
          (try rw [hxy]); rw [← hv, Hg.out, List.getD_eq_getElem?_getD, List.getElem?_eq_getElem (by have := Hlen.out; omega)]
          exact List.getElem_mem _⟩, rfl⟩
      · have hxy' : (x == v) = false := by simpa using hxy
        go_wp2
        go_round
        case rel => exact ⟨k + 1, by omega, by go_num, fun j hj => by
          by_cases h : j < k
          · exact Hno.out j h
          · obtain rfl : j = k := by omega
            rw [hv]; exact fun h => hxy h.symm⟩
        case measure => simp [intOf]; omega
    · go_wp2
      go_ret
      have hnot : ¬ x ∈ l := by
        intro hm
        obtain ⟨j, hj, rfl⟩ := List.mem_iff_getElem.1 hm
        have := Hno.out j (by have := Hlen.out; omega)
        unfold gi at this
        rw [List.getD_eq_getElem?_getD, List.getElem?_eq_getElem hj] at this
        exact this rfl
      exact ⟨⟨-1, rfl, by simp [hnot]⟩, rfl⟩

theorem contains_any (A : Option Addr) (n c : Nat) (l : List Int) (x : Int) (w : World) (hl : IntsAt w A n l) (hn : n ≤ 1000000) :
    Calls Try.prog 40 #[.slice A n c, .int .i64 x] w fun e w' => e = .returned (.bool (inB l x)) ∧ w = w' := by
  have HI := Lib.hid (idx_any A n c l x w hl hn)
  have HB := Lib.hid (show inB l x = decide (x ∈ l) from rfl)
  generalize inB l x = q at *
  clear hl
  go_enter Try.func40, Try.ntmps40
  go_wp2_with fail
  refine HI.out.mono ?_
  rintro e w' ⟨⟨r, rfl, hr⟩, rfl⟩
  have Hr := Lib.hid hr
  clear hr
  go_wp2
  go_ret
  exact ⟨ret_bool (by rw [HB.out]; simp [Hr.out]), rfl⟩

theorem things_any (v : Value) (l : List Ent) (w : World) (hv : IsSl entC w v l) (hn : l.length ≤ 1000) :
    Calls Try.prog 19 #[v] w fun e w' => e = .returned (.int .i64 (Fx.things l)) ∧ Below w.heap.size w w' := by
  obtain ⟨A, c, rfl, -, -, hat⟩ := hv
  have Hat := Lib.hid hat
  obtain ⟨n, hnn⟩ : ∃ n, l.length = n := ⟨_, rfl⟩
  rw [hnn] at hn ⊢
  have Hn := Lib.hid hnn
  clear hat hnn
  have HF := Lib.hid (show Fx.things l = 0 + Fx.things (l.drop 0) by simp)
  generalize Fx.things l = r at *
  go_enter Try.func19, Try.ntmps19
  go_wp2
  go_loopw [3, 8] (fun m i wr => ∃ (k : Nat) (q : Int), k ≤ n ∧ i = .int .i64 k ∧ m = .int .i64 q ∧ 0 ≤ q ∧ q ≤ k ∧ r = q + Fx.things (l.drop k) ∧ Below w.heap.size w wr) (fun _ i _ => n - (intOf i).toNat)
  case atStart => exact ⟨0, 0, Nat.zero_le _, rfl, rfl, by omega, by omega, HF.out, Below.refl _ _⟩
  case round =>
    obtain ⟨k, q, hk, rfl, rfl, hq0, hq1, hr, hbel⟩ := hrel
    have Hr := Lib.hid hr
    have Hbel := Lib.hid hbel
    clear hr hbel
    by_cases hlt : k < n
    · obtain ⟨x, hx⟩ := getE l k n Hn.out hlt
      have HX := Lib.hid (drop_at hx)
      obtain ⟨b, off, rfl, hc⟩ := elem_Ent (Hat.out.below Hbel.out) hx
      obtain ⟨c0, c1, c2, c3, c4, c5, c6, c7, c8⟩ := hc
      clear hx
      by_cases hxy : x.kind = 1
      · go_wp2
        go_roundw
        case rel => exact ⟨k + 1, q, by omega, by go_num, rfl, hq0, by omega, by rw [Hr.out, HX.out, Fx.things, if_pos hxy]; omega, by (repeat refine Below.setCell ?_ Hbel.out.size _); exact Hbel.out.alloc Hbel.out.size _⟩
        case measure => simp [intOf]; omega
      · have hxy' : (x.kind != 1) = true := by simpa using hxy
        go_wp2
        go_roundw
        case rel => exact ⟨k + 1, q + 1, by omega, by go_num, by go_num, by omega, by omega, by rw [Hr.out, HX.out, Fx.things, if_neg hxy]; omega, by (repeat refine Below.setCell ?_ Hbel.out.size _); exact Hbel.out.alloc Hbel.out.size _⟩
        case measure => simp [intOf]; omega
    · obtain rfl : k = n := by omega
      go_wp2
      go_ret
      exact ⟨ret_int (by rw [Hr.out, List.drop_eq_nil_of_le (by have := Hn.out; omega)]; simp [Fx.things]), Hbel.out⟩

theorem sorted_any (v : Value) (l : List Ent) (w : World) (hv : IsSl entC w v l) (hn : l.length ≤ 1000) :
    Calls Try.prog 21 #[v] w fun e w' => e = .returned (.bool (srt l)) ∧ Below w.heap.size w w' := by
  obtain ⟨A, c, rfl, -, -, hat⟩ := hv
  have Hat := Lib.hid hat
  obtain ⟨n, hnn⟩ : ∃ n, l.length = n := ⟨_, rfl⟩
  rw [hnn] at hn ⊢
  have Hn := Lib.hid hnn
  have HF := Lib.hid (show ∀ y, l[0]? = some y → srt l = srtI y.id (l.drop 1) from fun y hy => by cases l with | nil => simp at hy | cons e r => simp at hy; subst hy; rfl)
  have H0 := Lib.hid (show n = 0 → srt l = true from fun h => by cases l with | nil => rfl | cons e r => simp at hnn; omega)
  clear hat hnn
  generalize srt l = r at *
  go_enter Try.func21, Try.ntmps21
  go_wp2
  go_loopw [3] (fun i wr => ∃ k : Nat, 1 ≤ k ∧ k ≤ n + 1 ∧ i = .int .i64 k ∧ (∀ y, l[k - 1]? = some y → r = srtI y.id (l.drop k)) ∧ (k ≤ n ∨ n = 0) ∧ Below w.heap.size w wr) (fun i _ => n + 1 - (intOf i).toNat)
  case atStart => exact ⟨1, by omega, by omega, rfl, HF.out, by omega, Below.refl _ _⟩
  case round =>
    obtain ⟨k, hk1, hk, rfl, hr, hkn, hbel⟩ := hrel
    have Hr := Lib.hid hr
    have Hbel := Lib.hid hbel
    clear hr hbel
    by_cases hlt : k < n
    · obtain ⟨x, hx⟩ := getE l k n Hn.out hlt
      obtain ⟨y, hy⟩ := getE l (k - 1) n Hn.out (by omega)
      have HX := Lib.hid (drop_at hx)
      have HY := Lib.hid (Hr.out y hy)
      have HK := Lib.hid (show l[k + 1 - 1]? = some x from hx)
      obtain ⟨b, off, rfl, hc⟩ := elem_Ent (Hat.out.below Hbel.out) hx
      obtain ⟨b', off', hbo, hd⟩ := elem_Ent (Hat.out.below Hbel.out) hy
      cases hbo
      have hck := hc.1
      have hdk := hd.1
      have hk' : ((k : Int) - 1).toNat = k - 1 := by omega
      clear hc hx hd hy
      by_cases hxy : x.id ≤ y.id
      · go_wp2_with fail
        go_region
        go_wp2
        go_ret
        exact ⟨ret_bool (by rw [HY.out, HX.out, srtI]; simp; omega), Hbel.out.drew⟩
      · have hxy' : decide (x.id ≤ y.id) = false := by simpa using hxy
        go_wp2_with fail
        go_region
        go_wp2
        go_roundw
        case rel => exact ⟨k + 1, by omega, by omega, by go_num, fun z hz => by rw [HK.out] at hz; cases hz; rw [HY.out, HX.out, srtI, decide_eq_true (by omega)]; rfl, by omega, Hbel.out.drew⟩
        case measure => simp [intOf]; omega
    · go_wp2
      go_ret
      refine ⟨ret_bool ?_, Hbel.out⟩
      rcases hkn with h | h
      · obtain ⟨y, hy⟩ := getE l (k - 1) n Hn.out (by omega)
        rw [Hr.out y hy, List.drop_eq_nil_of_le (by have := Hn.out; omega)]
        simp [srtI]
      · rw [H0.out h]

/-- The test that Find hands on: a box that holds the number is in memory. -/
theorem findf_any (y : Ent) (g : Nat) (id : Int) (w : World) (hg : w.cell? ⟨g, 0, none⟩ = some (.int .i64 id)) :
    Calls Try.prog 34 #[.agg #[.int .i64 y.id, .int .i64 y.kind, .int .i64 y.x, .int .i64 y.y, .int .i64 y.vx, .int .i64 y.vy, .int .i64 y.health, .int .i64 y.age, .int .i64 y.owner], .pointer (some ⟨g, 0, none⟩)] w
      fun e w' => e = .returned (.bool (decide (y.id = id))) ∧ Below w.heap.size w w' := by
  have hlt : g < w.heap.size := World.block_lt_of_cell? _ _ hg
  by_cases h : y.id = id
  · go_enter Try.func34, Try.ntmps34
    go_wp2
    go_ret
    exact ⟨ret_bool (by simp [h]), (Below.refl _ _).alloc (Nat.le_refl _) _⟩
  · have h' : (y.id == id) = false := by simpa using h
    go_enter Try.func34, Try.ntmps34
    go_wp2
    go_ret
    exact ⟨ret_bool (by simp [h]), (Below.refl _ _).alloc (Nat.le_refl _) _⟩

theorem find_any (v : Value) (l : List Ent) (id : Int) (w : World) (hv : IsSl entC w v l) (hn : l.length ≤ 1000000) :
    Calls Try.prog 13 #[v, .int .i64 id] w fun e w' => e = .returned (.int .i64 (fnd l id)) ∧ Below w.heap.size w w' := by
  obtain ⟨A, c, rfl, -, -, hat⟩ := hv
  have Hat := Lib.hid hat
  obtain ⟨n, hnn⟩ : ∃ n, l.length = n := ⟨_, rfl⟩
  rw [hnn] at hn ⊢
  have Hn := Lib.hid hnn
  clear hat hnn
  have HF := Lib.hid (show fnd l id = fndI (l.drop 0) id 0 from rfl)
  generalize fnd l id = r at *
  have HT := Lib.hid findf_any
  go_enter Try.func13, Try.ntmps13
  go_wp2_with (go_at_call 33; go_in)
  go_loopw [8] (fun i wr => ∃ k : Nat, k ≤ n ∧ i = .int .i64 k ∧ r = fndI (l.drop k) id k ∧ Below (w.heap.size + 1) (w.alloc (.cells #[.int .i64 id] 3)) wr) (fun i _ => n - (intOf i).toNat)
  case atStart => exact ⟨0, Nat.zero_le _, rfl, HF.out, Below.refl _ _⟩
  case round =>
    obtain ⟨k, hk, rfl, hr, hbel⟩ := hrel
    have Hr := Lib.hid hr
    have Hbel := Lib.hid hbel
    have Hb0 := Lib.hid (show Below w.heap.size w wr from unbox (by simpa using hbel))
    have Hid0 := Lib.hid (show wr.cell? ⟨w.heap.size, 0, none⟩ = some (.int .i64 id) from by rw [hbel.cell (p := ⟨w.heap.size, 0, none⟩) (Nat.lt_succ_self _)]; simp)
    clear hr hbel
    by_cases hlt : k < n
    · obtain ⟨x, hx⟩ := getE l k n Hn.out hlt
      have HX := Lib.hid (drop_at hx)
      obtain ⟨b, off, rfl, hc⟩ := elem_Ent (Hat.out.below Hb0.out) hx
      obtain ⟨c0, c1, c2, c3, c4, c5, c6, c7, c8⟩ := hc
      clear hx
      go_wp2_with fail
      refine (HT.out x _ id _ Hid0.out).mono ?_
      rintro e w4 ⟨rfl, hb4⟩
      have Hb4 := Lib.hid (Hbel.out.trans (hb4.mono (by have := Hbel.out.size; simp at this; omega)))
      clear hb4 c0 c1 c2 c3 c4 c5 c6 c7 c8 HT
      by_cases hxy : x.id = id
      · have hxy' : decide (x.id = id) = true := decide_eq_true hxy
        rw [hxy']
        go_wp2
        go_ret
        exact ⟨ret_int (by rw [Hr.out, HX.out, fndI, if_pos hxy]), unbox (by simpa using Hb4.out)⟩
      · have hxy' : decide (x.id = id) = false := decide_eq_false hxy
        rw [hxy']
        go_wp2
        go_roundw
        case rel => exact ⟨k + 1, by omega, by go_num, by rw [Hr.out, HX.out, fndI, if_neg hxy], Hb4.out⟩
        case measure => simp [intOf]; omega
    · obtain rfl : k = n := by omega
      go_wp2
      go_ret
      exact ⟨ret_int (by rw [Hr.out, List.drop_eq_nil_of_le (by have := Hn.out; omega)]; rfl), Hb0.out⟩

theorem placeOf_any (v : Value) (l : List Ent) (id : Int) (w : World) (hv : IsSl entC w v l) (hn : l.length ≤ 1000000) :
    Calls Try.prog 39 #[v, .int .i64 id] w fun e w' => e = .returned (.int .i64 (pos l id : Nat)) ∧ Below w.heap.size w w' := by
  obtain ⟨A, c, rfl, -, -, hat⟩ := hv
  have Hat := Lib.hid hat
  obtain ⟨n, hnn⟩ : ∃ n, l.length = n := ⟨_, rfl⟩
  rw [hnn] at hn ⊢
  have Hn := Lib.hid hnn
  clear hat hnn
  have HF := Lib.hid (show pos l id = 0 + pos (l.drop 0) id by simp)
  generalize pos l id = r at *
  go_enter Try.func39, Try.ntmps39
  go_wp2
  go_loopw [9] (fun i wr => ∃ k : Nat, k ≤ n ∧ i = .int .i64 k ∧ r = k + pos (l.drop k) id ∧ Below w.heap.size w wr) (fun i _ => n - (intOf i).toNat)
  case atStart => exact ⟨0, Nat.zero_le _, rfl, HF.out, Below.refl _ _⟩
  case round =>
    obtain ⟨k, hk, rfl, hr, hbel⟩ := hrel
    have Hr := Lib.hid hr
    have Hbel := Lib.hid hbel
    clear hr hbel
    by_cases hlt : k < n
    · obtain ⟨x, hx⟩ := getE l k n Hn.out hlt
      have HX := Lib.hid (drop_at hx)
      obtain ⟨b, off, rfl, hc⟩ := elem_Ent (Hat.out.below Hbel.out) hx
      obtain ⟨c0, c1, c2, c3, c4, c5, c6, c7, c8⟩ := hc
      clear hx
      by_cases hxy : x.id < id
      · have hxy' : decide (id ≤ x.id) = false := decide_eq_false (by omega)
        go_wp2
        go_roundw
        case rel => exact ⟨k + 1, by omega, by go_num, by rw [Hr.out, HX.out, pos, if_pos hxy]; omega, by (repeat refine Below.setCell ?_ Hbel.out.size _); exact Hbel.out.alloc Hbel.out.size _⟩
        case measure => simp [intOf]; omega
      · have hxy' : decide (id ≤ x.id) = true := decide_eq_true (by omega)
        have hxy2 : id ≤ x.id := by omega
        go_wp2
        go_ret
        exact ⟨ret_int (by rw [Hr.out, HX.out, pos, if_neg (by omega)]; simp), by (repeat refine Below.setCell ?_ Hbel.out.size _); exact Hbel.out.alloc Hbel.out.size _⟩
    · obtain rfl : k = n := by omega
      go_wp2
      go_ret
      exact ⟨ret_int (by rw [Hr.out, List.drop_eq_nil_of_le (by have := Hn.out; omega)]; simp [pos]), Hbel.out⟩

theorem drop_any (v : Value) (l : List Ent) (B : Option Addr) (m d : Nat) (ids : List Int) (w : World) (hv : IsSl entC w v l) (hn : l.length ≤ 1000) (hI : IntsAt w B m ids) (hm : m ≤ 1000) :
    Calls Try.prog 17 #[v, .slice B m d] w (RetEnts (drp l ids) w) := by
  obtain ⟨A, c, rfl, -, -, hat⟩ := hv
  have Hat := Lib.hid hat
  obtain ⟨n, hnn⟩ : ∃ n, l.length = n := ⟨_, rfl⟩
  rw [hnn] at hn ⊢
  have Hn := Lib.hid hnn
  have HI := Lib.hid (fun w hI x => contains_any B m d ids x w hI (by omega))
  have Hids := Lib.hid hI
  have HL := Lib.hid (fun k => List.length_filter_le (fun e : Ent => !inB ids e.id) (l.take k))
  clear hat hnn hI
  go_enter Try.func17, Try.ntmps17
  go_wp2
  go_loopw [5, 10] (fun v i wr => ∃ k : Nat, k ≤ n ∧ i = .int .i64 k ∧ wr.ownsRow w.heap.size 26 9 v (drp (l.take k) ids).length ((drp (l.take k) ids).flatMap entC) ∧ Below w.heap.size w wr) (fun _ i _ => n - (intOf i).toNat)
  case atStart => exact ⟨0, Nat.zero_le _, rfl, ⟨by simp [drp], .inl ⟨rfl, rfl⟩⟩, Below.refl _ _⟩
  case round =>
    obtain ⟨k, hk, rfl, hown, hbel⟩ := hrel
    have Hown := Lib.hid hown
    have Hbel := Lib.hid hbel
    clear hown hbel
    by_cases hlt : k < n
    · obtain ⟨x, hx⟩ := getE l k n Hn.out hlt
      have HX := Lib.hid (show drp (l.take (k + 1)) ids = drp (l.take k) ids ++ if inB ids x.id then [] else [x] from by rw [take_at hx, drp, drp, List.filter_append]; congr 1; by_cases h : inB ids x.id = true <;> simp [h])
      have HLk := Lib.hid (show (drp (l.take k) ids).length ≤ k from Nat.le_trans (HL.out k) (by rw [List.length_take]; omega))
      obtain ⟨b, off, rfl, hc⟩ := elem_Ent (Hat.out.below Hbel.out) hx
      obtain ⟨c0, c1, c2, c3, c4, c5, c6, c7, c8⟩ := hc
      clear hx
      go_wp2_with fail
      refine (HI.out _ ((Hids.out.below Hbel.out).below ((Below.refl _ _).alloc (Nat.le_refl _) _)) _).mono ?_
      rintro e w' ⟨rfl, rfl⟩
      by_cases hin : inB ids x.id = true
      · rw [if_pos hin, List.append_nil] at HX
        go_wp2
        go_roundw
        case rel => exact ⟨k + 1, by omega, by go_num, by rw [HX.out]; exact Hown.out.alloc _, Hbel.out.alloc Hbel.out.size _⟩
        case measure => simp [intOf]; omega
      · rw [if_neg hin] at HX
        rw [Bool.not_eq_true] at hin
        go_wp2_with (at_builtin; go_must (refine appL_Ent (by rfl) (.tmp 19) (.tmp 21) (by rfl) w.heap.size _ (drp (l.take k) ids) (by rfl) ((Hown.out.alloc _).alloc _) _ [x] (by rfl) (one_Ent _ x _ 1 (by first | rfl | simp) (by omega)) (by have := HLk.out; simp; omega) (by have := Hbel.out.size; simp; omega) ?_))
        intro v' w5 hown5 hb5 _
        have HO5 := Lib.hid (show w5.ownsRow w.heap.size 26 9 v' (drp (l.take (k + 1)) ids).length ((drp (l.take (k + 1)) ids).flatMap entC) from by rw [HX.out]; simpa using hown5)
        have HB5 := Lib.hid (((Hbel.out.alloc Hbel.out.size _).alloc (by have := Hbel.out.size; simp; omega) _).trans hb5)
        clear hown5 hb5
        go_wp2
        go_roundw
        case rel => exact ⟨k + 1, by omega, by go_num, HO5.out, HB5.out⟩
        case measure => simp [intOf]; omega
    · obtain rfl : k = n := by omega
      rw [List.take_of_length_le (Nat.le_of_eq Hn.out)] at Hown
      go_wp2
      go_ret
      exact ⟨_, rfl, owned_sl Hown.out, Hbel.out⟩

end Go.Proofs.Ytcpmicghhmoefaa.Fx
