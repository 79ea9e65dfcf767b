/- The turn's call grow: a gem now and then. The turn's call leave: those who are in another region are handed over. -/
import Derived.Test.YtfpofegfbinalaaGreatM25
import Derived.Test.YtfpofegfbinalaaGreatM19
import Derived.Test.YtfpofegfbinalaaGreatM04
import Derived.Test.YtfpofegfbinalaaGreatM16
import Derived.Test.YtfpofegfbinalaaGreatM03
namespace Go.Proofs.YtfpofegfbinalaaGreat.Fx
open Go.ChangeShapes Go.WideShapes Go.ChangeAt Go.RowKit
set_option linter.unusedVariables false
set_option maxRecDepth 100000

set_option maxHeartbeats 4000000 in
theorem tgrow_any {B b : Nat} {w : World} {T : Trn} {L : List Ent} {O : List Crs} (h : Turn B w b T L O) (hn : L.length ≤ 300) (hs : 0 ≤ T.seed ∧ T.seed < 18446744073709551616) (hf : 0 ≤ T.frame ∧ T.frame ≤ 10000) (hg : 0 ≤ T.reg ∧ T.reg ≤ 16) (hm : 0 ≤ T.made ∧ T.made ≤ 8) :
    Calls Tryz.prog 58 #[.pointer (some ⟨b, 0, none⟩)] w fun z w' => z = .returned (.tuple #[]) ∧
      (∃ vl m, Turn B w' b ⟨T.cols, T.rows, T.players, T.window, T.seed, T.reg, T.frame, vl, m, T.out⟩ (gemsIn T.cols T.rows T.players T.window T.seed T.reg T.frame L T.made) O) ∧ Kept B w w' := by
  have HY := Lib.hid h
  have HB := Lib.hid (fun w1 (h : Turn B w1 b T L O) => tbelow_any h hs 8 3 T.reg (by decide))
  have HM := Lib.hid (fun w1 (hv : IsSl entC w1 T.list L) => gemn_any T.list L w1 hv (by omega))
  have HR := Lib.hid (fun w1 (h : Turn B w1 b T L O) => room_any h (by omega))
  have HP := Lib.hid (fun w1 (h : Turn B w1 b T L O) => tplace_any h hs 4 5 T.reg)
  have HNu := Lib.hid (fun w1 (h : Turn B w1 b T L O) => number_any h hf hg hm)
  have HAd := Lib.hid (fun w1 y (h : Turn B w1 b T L O) => tadd_any h (by omega) (by omega) y)
  have HD := Lib.hid (show gemsIn T.cols T.rows T.players T.window T.seed T.reg T.frame L T.made = (if bel 8 T.seed [3, T.frame, T.reg] = 0 ∧ gemCount L < 3 ∧ roomB L T.made = true then put L ⟨newId (regs T.cols T.rows T.players T.window) T.reg T.frame T.made, 3, crx T.cols T.rows T.players T.window T.reg + bel 1024 T.seed [4, T.frame, T.reg], cry T.cols T.rows T.players T.window T.reg + bel 1024 T.seed [5, T.frame, T.reg], 0, 0, 1, 0, 0⟩ else L) from rfl)
  generalize gemsIn T.cols T.rows T.players T.window T.seed T.reg T.frame L T.made = X at *
  generalize newId (regs T.cols T.rows T.players T.window) T.reg T.frame T.made = id at *
  generalize crx T.cols T.rows T.players T.window T.reg + bel 1024 T.seed [4, T.frame, T.reg] = px at *
  generalize cry T.cols T.rows T.players T.window T.reg + bel 1024 T.seed [5, T.frame, T.reg] = py at *
  generalize bel 8 T.seed [3, T.frame, T.reg] = q at *
  generalize gemCount L = m at *
  generalize roomB L T.made = rm at *
  have c5 := h.box.c5
  clear h
  go_enter Tryz.func58, Tryz.ntmps58
  go_wp2_with fail
  refine (HB.out _ HY.out).mono ?_
  rintro e w1 ⟨rfl, hb1⟩
  have HZ := Lib.hid (Kept.of_below B hb1)
  replace HY := Lib.hid (HY.out.nx hb1)
  clear hb1 HB c5
  by_cases hq : q = 0
  · have hq' : (q != 0) = false := by simpa using hq
    have c7 := HY.out.box.c7
    have Hq := Lib.hid hq
    clear hq
    go_wp2_with fail
    refine (HM.out _ HY.out.sl).mono ?_
    rintro e w2 ⟨rfl, hb2⟩
    replace HZ := Lib.hid (HZ.out.below hb2)
    replace HY := Lib.hid (HY.out.nx hb2)
    clear hb2 HM c7
    by_cases hg : m < 3
    · have hg' : decide (3 ≤ m) = false := decide_eq_false (by omega)
      have Hg := Lib.hid hg
      clear hg
      go_wp2_with fail
      refine (HR.out _ HY.out).mono ?_
      rintro e w3 ⟨rfl, hb3⟩
      replace HZ := Lib.hid (HZ.out.below hb3)
      replace HY := Lib.hid (HY.out.nx hb3)
      clear hb3 HR
      cases rm with
      | true =>
        rw [if_pos ⟨Hq.out, Hg.out, rfl⟩] at HD
        have c5 := HY.out.box.c5
        go_wp2_with fail
        refine (HP.out _ HY.out).mono ?_
        rintro e w4 ⟨rfl, hb4⟩
        replace HZ := Lib.hid (HZ.out.below hb4)
        replace HY := Lib.hid (HY.out.nx hb4)
        clear hb4 HP c5
        go_wp2_with fail
        refine (HNu.out _ HY.out).mono ?_
        rintro e w5 ⟨rfl, hb5⟩
        replace HZ := Lib.hid (HZ.out.below hb5)
        replace HY := Lib.hid (HY.out.nx hb5)
        clear hb5 HNu
        go_wp2_with fail
        refine (HAd.out _ ⟨id, 3, px, py, 0, 0, 1, 0, 0⟩ HY.out).mono ?_
        rintro e w6 ⟨rfl, ⟨vl, ht⟩, hg6⟩
        replace HZ := Lib.hid (HZ.out.grown hg6 (fun p hp _ => by cases hp; exact HY.out.mine))
        have HT := Lib.hid ht
        rw [← HD.out] at HT
        clear ht hg6 HAd
        go_wp2
        (try simp only [Exit.inBlock, Exit.then])
        refine bodyPost_end (results_none rfl _ _ _) rfl ?_
        exact ⟨rfl, ⟨vl, _, HT.out⟩, HZ.out⟩
      | false =>
        rw [if_neg (by simp)] at HD
        go_wp2
        (try simp only [Exit.inBlock, Exit.then])
        refine bodyPost_ret (results_none rfl _ _ _) rfl ?_
        exact ⟨rfl, ⟨T.list, T.made, by rw [HD.out]; exact HY.out⟩, HZ.out⟩
    · have hg' : decide (3 ≤ m) = true := decide_eq_true (by omega)
      rw [if_neg (fun h => hg h.2.1)] at HD
      go_wp2
      (try simp only [Exit.inBlock, Exit.then])
      refine bodyPost_ret (results_none rfl _ _ _) rfl ?_
      exact ⟨rfl, ⟨T.list, T.made, by rw [HD.out]; exact HY.out⟩, HZ.out⟩
  · have hq' : (q != 0) = true := by simpa using hq
    rw [if_neg (fun h => hq h.1)] at HD
    go_wp2
    (try simp only [Exit.inBlock, Exit.then])
    refine bodyPost_ret (results_none rfl _ _ _) rfl ?_
    exact ⟨rfl, ⟨T.list, T.made, by rw [HD.out]; exact HY.out⟩, HZ.out⟩

end Go.Proofs.YtfpofegfbinalaaGreat.Fx
namespace Go.Proofs.YtfpofegfbinalaaGreat.Fx
open Go.ChangeShapes Go.WideShapes Go.ChangeAt Go.RowKit
set_option linter.unusedVariables false
set_option maxRecDepth 100000

theorem filter_take {α : Type} {q : α → Bool} {l : List α} {k : Nat} {e : α} (h : l[k]? = some e) : (l.take (k + 1)).filter q = (l.take k).filter q ++ if q e = true then [e] else [] := by
  rw [List.take_add_one, h, Option.toList_some, List.filter_append]
  congr 1
  by_cases hq : q e = true <;> simp [hq]

theorem filter_le (q : Ent → Bool) (l : List Ent) (k : Nat) : ((l.take k).filter q).length ≤ k := Nat.le_trans (List.length_filter_le _ _) (by rw [List.length_take]; omega)

set_option maxHeartbeats 4000000 in
theorem tleave_any {B b : Nat} {w : World} {T : Trn} {L : List Ent} {O : List Crs} (h : Turn B w b T L O) (hn : L.length ≤ 1000) (hO : O.length ≤ 100000) :
    Calls Tryz.prog 59 #[.pointer (some ⟨b, 0, none⟩)] w fun z w' => z = .returned (.tuple #[]) ∧
      (∃ vl vo, Turn B w' b ⟨T.cols, T.rows, T.players, T.window, T.seed, T.reg, T.frame, vl, T.made, vo⟩ (L.filter (hereB T.cols T.rows T.players T.window T.reg)) (O ++ (L.filter fun e => !hereB T.cols T.rows T.players T.window T.reg e).map (handOf T.cols T.rows T.players T.window T.reg T.frame))) ∧ Kept B w w' := by
  have HG := Lib.hid (fun x y w => of_any T.cols T.rows T.players T.window T.seed x y w)
  have HY := Lib.hid h
  have hlt := h.blk.lt
  have hBw := h.size
  obtain ⟨A, c, hA, -, -, hat⟩ := h.sl
  have HA := Lib.hid hA
  obtain ⟨-, -, -, -, -, -, -, c7, -, -⟩ := h.box
  have HLB := Lib.hid (show ∀ p, T.list.ownBlock = some p → p < w.heap.size from fun p hp => (h.list.lt p hp).2)
  rw [hA] at c7
  obtain ⟨n, hnn⟩ : ∃ n, L.length = n := ⟨_, rfl⟩
  rw [hnn] at hn c7 HA
  have Hn := Lib.hid hnn
  clear h hA hat hnn
  go_enter Tryz.func59, Tryz.ntmps59
  go_wp2
  clear c7
  go_loopw [2, 11] (fun v i wr => ∃ (k : Nat) (vo : Value), k ≤ n ∧ i = .int .i64 k ∧ wr.ownsRow w.heap.size 45 9 v ((L.take k).filter (hereB T.cols T.rows T.players T.window T.reg)).length (((L.take k).filter (hereB T.cols T.rows T.players T.window T.reg)).flatMap entC) ∧
    Turn B wr b ⟨T.cols, T.rows, T.players, T.window, T.seed, T.reg, T.frame, T.list, T.made, vo⟩ L (O ++ ((L.take k).filter fun e => !hereB T.cols T.rows T.players T.window T.reg e).map (handOf T.cols T.rows T.players T.window T.reg T.frame)) ∧ Kept B w wr) (fun _ i _ => n - (intOf i).toNat)
  case atStart => exact ⟨0, T.out, Nat.zero_le _, rfl, ⟨by simp, .inl ⟨rfl, rfl⟩⟩, by simpa using HY.out, Kept.refl _ _⟩
  case round =>
    obtain ⟨k, vo, hk, rfl, hown, ht, hz⟩ := hrel
    have Hown := Lib.hid hown
    have HT := Lib.hid ht
    have HZ := Lib.hid hz
    clear hown ht hz
    by_cases hkn : k < n
    · obtain ⟨x, hx⟩ := getE L k n Hn.out hkn
      have HX := Lib.hid (filter_take (q := hereB T.cols T.rows T.players T.window T.reg) hx)
      have HX' := Lib.hid (filter_take (q := fun e => !hereB T.cols T.rows T.players T.window T.reg e) hx)
      have HLk := Lib.hid (filter_le (hereB T.cols T.rows T.players T.window T.reg) L k)
      have HLm := Lib.hid (show (O ++ ((L.take k).filter fun e => !hereB T.cols T.rows T.players T.window T.reg e).map (handOf T.cols T.rows T.players T.window T.reg T.frame)).length ≤ 1000000 from by
        have := filter_le (fun e => !hereB T.cols T.rows T.players T.window T.reg e) L k
        rw [List.length_append, List.length_map]; omega)
      have hat := show IsSl entC wr T.list L from HT.out.sl
      rw [HA.out] at hat
      obtain ⟨bb, off, rfl, hc⟩ := elem_Ent hat.at hx
      obtain ⟨c0, c1, c2, c3, c4, c5, c6, c7, c8⟩ := hc
      have HOf := Lib.hid (fun w => HG.out x.x x.y w)
      have BX := Lib.hid (EntBox.n1 wr x 45 rfl)
      have HTw := Lib.hid (HT.out.alloc (.cells (entC x).toArray 45))
      have HZw := Lib.hid (HZ.out.alloc (.cells (entC x).toArray 45))
      have HOw := Lib.hid (Hown.out.alloc (.cells (entC x).toArray 45))
      simp only [entC] at HTw HZw HOw
      have Hhand := Lib.hid (show handOf T.cols T.rows T.players T.window T.reg T.frame x = ⟨1, T.reg, ofr T.cols T.rows T.players T.window x.x x.y, T.frame, x, 0, 0⟩ from rfl)
      have Hhere := Lib.hid (show hereB T.cols T.rows T.players T.window T.reg x = decide (ofr T.cols T.rows T.players T.window x.x x.y = T.reg) from rfl)
      generalize ofr T.cols T.rows T.players T.window x.x x.y = q at *
      clear hx hat
      go_upto_region 4 with fail
      generalize hW : World.alloc _ _ = W at *
      generalize hgx : wr.heap.size = gx at *
      clear hW hgx c0 c1 c2 c3 c4 c5 c6 c7 c8 Hown HT HZ
      obtain ⟨t0, t1, t2, t3, t4, -⟩ := HTw.out.box
      have hbW := HTw.out.blk.lt
      have hgW := BX.out.has
      obtain ⟨x0, x1, x2, x3, x4, x5, x6, x7, x8, -⟩ := BX.out
      refine plan_region' (S := (fun w' => (∀ b o, b < (W).heap.size → w'.cell? ⟨b, o, none⟩ = (W).cell? ⟨b, o, none⟩) ∧ (∀ b o, b < (W).heap.size → w'.frozen? ⟨b, o, none⟩ = (W).frozen? ⟨b, o, none⟩) ∧ Below (W).heap.size (W) w')) [(0, true), (1, true), (2, true), (3, true), (4, true), (5, true), (6, true), (7, true), (8, false), (9, true)] (by kernel_rfl) (by kernel_rfl) (fun _ _ d _ _ h => by cases d <;> exact h) (keepW0 _) (fun hS => ?_)
      simp only [picked, List.getElem?_cons_succ, List.getElem?_cons_zero]
      iterate 8
       refine row_free (v := ?_) (by rfl) ?_ ?_; rotate_left 1; focus (intro w hSw; (try dsimp only at hSw); go_simp; (try with_reducible rfl))
       (try simp only [Act.put, tA, tB, tC])
      refine row_call (by rfl) (fun K hK => ?_)
      go_simp
      (refine (HOf.out _).mono ?_; rintro e w5 ⟨rfl, hb5⟩)
      (try go_wp2_with fail)
      refine hK.out _ _ ?_ (fun hS' => ?_)
      · (try dsimp only); first | exact keepW (by assumption) (by assumption) | exact keepB (by assumption) (by assumption) | exact keepA (by assumption) | assumption
      clear hS hK K
      have hS := hS'
      clear hS'
      (try simp only [Act.put, tA, tB, tC])
      refine row_free (v := ?_) (by rfl) ?_ ?_; rotate_left 1; focus (intro w hSw; (try dsimp only at hSw); go_simp; (try with_reducible rfl))
      (try simp only [Act.put, tA, tB, tC])
      refine row_done ?_
      replace HTw := Lib.hid (HTw.out.nx hS.2.2)
      replace HZw := Lib.hid (HZw.out.below hS.2.2)
      replace HOw := Lib.hid (own_below HOw.out hS.2.2)
      replace BX := Lib.hid (BX.out.nx hS.2.2)
      clear hS hb5 t0 t1 t2 t3 t4 x0 x1 x2 x3 x4 x5 x6 x7 x8 hbW hgW HOf
      have t5 := HTw.out.box.c5
      obtain ⟨x0, x1, x2, x3, x4, x5, x6, x7, x8, -⟩ := BX.out
      by_cases hto : q = T.reg
      · have hto' : (q != T.reg) = false := by simpa using hto
        rw [Hhere.out, decide_eq_true hto] at HX HX'
        rw [if_pos rfl] at HX
        rw [if_neg (by simp), List.append_nil] at HX'
        clear hto
        have HTa := Lib.hid (HTw.out.alloc (.cells (entC x).toArray 45))
        have HZa := Lib.hid (HZw.out.alloc (.cells (entC x).toArray 45))
        have HOa := Lib.hid (HOw.out.alloc (.cells (entC x).toArray 45))
        go_wp2_with (at_builtin; go_must (refine appL_Ent (by rfl) (.tmp 35) (.tmp 37) (by rfl) w.heap.size _ ((L.take k).filter (hereB T.cols T.rows T.players T.window T.reg)) (by rfl) HOa.out _ [x] (by rfl) (one_Ent _ x _ 1 (by first | rfl | simp) (by omega)) (by have := HLk.out; simp; omega) (by have := HZa.out.size; exact this) ?_))
        intro v' w6 hown6 _ hg6
        have HO6 := Lib.hid (show w6.ownsRow w.heap.size 45 9 v' ((L.take (k + 1)).filter (hereB T.cols T.rows T.players T.window T.reg)).length (((L.take (k + 1)).filter (hereB T.cols T.rows T.players T.window T.reg)).flatMap entC) from by rw [HX.out]; simpa using hown6)
        have HT6 := Lib.hid (HTa.out.other HOa.out hg6 HLB.out)
        have HZ6 := Lib.hid (HZa.out.grown hg6 (fun p hp _ => by have := own_mine HOa.out (.inl rfl) p hp; exact ⟨Nat.le_trans hBw this.1, this.2⟩))
        rw [← HX'.out] at HT6
        clear hown6 hg6
        go_wp2
        go_roundw
        case rel => exact ⟨k + 1, vo, by omega, by go_num, HO6.out, HT6.out, HZ6.out⟩
        case measure => simp [intOf]; omega
      · have hto' : (q != T.reg) = true := by simpa using hto
        rw [Hhere.out, decide_eq_false hto] at HX HX'
        rw [if_neg (by simp), List.append_nil] at HX
        rw [if_pos (show (!false) = true from rfl)] at HX'
        clear hto
        have HE := Lib.hid (emit_any HTw.out HLm.out ⟨1, 0, q, 0, x, 0, 0⟩)
        have HN1 := Lib.hid (own_ne HOw.out HTw.out.blk (by decide))
        have HN2 := Lib.hid (own_apart HOw.out HTw.out.out (by decide))
        go_wp2_with fail
        refine HE.out.mono ?_
        rintro e w7 ⟨rfl, ⟨vo7, ht7⟩, hk7, hs7⟩
        have HT7 := Lib.hid ht7
        have HZ7 := Lib.hid (HZw.out.trans hk7)
        have HO7 := Lib.hid (hs7.row HOw.out HN1.out HN2.out)
        rw [List.append_assoc, ← Hhand.out, ← List.map_singleton (f := handOf T.cols T.rows T.players T.window T.reg T.frame), ← List.map_append, ← HX'.out] at HT7
        clear ht7 hk7 hs7 HE t5 x0 x1 x2 x3 x4 x5 x6 x7 x8
        go_wp2
        go_roundw
        case rel => exact ⟨k + 1, vo7, by omega, by go_num, by rw [HX.out]; exact HO7.out, HT7.out, HZ7.out⟩
        case measure => simp [intOf]; omega
    · obtain rfl : k = n := by omega
      rw [List.take_of_length_le (Nat.le_of_eq Hn.out)] at Hown HT
      obtain ⟨A5, n5, rfl, -⟩ := owned_sl Hown.out
      have t7 := HT.out.box.c7
      have f7 := HT.out.box.f7
      have HU := Lib.hid (HT.out.set7 (Hown.out.mono hBw))
      have HV := Lib.hid (HZ.out.grown (grown_set wr b 7 (.slice A5 (L.filter (hereB T.cols T.rows T.players T.window T.reg)).length n5)) (fun p hp _ => by cases hp; exact HT.out.mine))
      go_wp2
      (try simp only [Exit.inBlock, Exit.then])
      refine bodyPost_end (results_none rfl _ _ _) rfl ?_
      exact ⟨rfl, ⟨_, _, HU.out⟩, HV.out⟩

end Go.Proofs.YtfpofegfbinalaaGreat.Fx
