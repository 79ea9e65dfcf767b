/- The turn's call hit: shots, gems and blasts. The turn's calls below, place, emit. -/
import Derived.Test.YtfpofegfbinalaaGreatM19
import Derived.Test.YtfpofegfbinalaaGreatM17
import Derived.Test.YtfpofegfbinalaaGreatM18
import Derived.Test.YtfpofegfbinalaaGreatM16
import Derived.Test.YtfpofegfbinalaaGreatM03
import Derived.Test.YtfpofegfbinalaaGreatM01
namespace Go.Proofs.YtfpofegfbinalaaGreat.Fx
open Go.ChangeShapes Go.WideShapes Go.ChangeAt Go.RowKit
set_option linter.unusedVariables false
set_option maxRecDepth 100000

theorem touchL_le (kind r : Int) (f : Int → Int) (l : List Ent) : (touchL kind r f l).length ≤ l.length := by
  unfold touchL
  refine Nat.le_trans (List.length_filter_le _ _) ?_
  rw [(touch_pw kind r f l l).len]
  exact Nat.le_refl _

set_option maxHeartbeats 2000000 in
theorem thit_any {B b : Nat} {w : World} {T : Trn} {L : List Ent} {O : List Crs} (h : Turn B w b T L O) (hn : L.length ≤ 1000) (u : Value) (bs : List Crs) (hu : IsSl crsC w u bs) (hm : bs.length ≤ 10000) :
    Calls Tryz.prog 56 #[.pointer (some ⟨b, 0, none⟩), u] w fun z w' => z = .returned (.tuple #[]) ∧ (∃ vl, Turn B w' b ⟨T.cols, T.rows, T.players, T.window, T.seed, T.reg, T.frame, vl, T.made, T.out⟩ (blastsL (gemsL (shotsL L)) bs) O) ∧ Kept B w w' := by
  have HS := Lib.hid (shotsH_any T.list L w h.sl hn)
  have HG := Lib.hid (fun v w hv => gemsH_any v (shotsL L) w hv (Nat.le_trans (touchL_le _ _ _ _) hn))
  have HX := Lib.hid (fun v w hv hu => blastsH_any v u (gemsL (shotsL L)) bs w hv (Nat.le_trans (touchL_le _ _ _ _) (Nat.le_trans (touchL_le _ _ _ _) hn)) hu hm)
  have HU := Lib.hid hu
  have HY := Lib.hid h
  have hBw := h.size
  obtain ⟨A, c, rfl, -, -, -⟩ := hu
  have c7 := h.box.c7
  clear h
  go_enter Tryz.func56, Tryz.ntmps56
  go_wp2_with fail
  refine HS.out.mono ?_
  rintro e w1 ⟨v1, rfl, ho1, hb1⟩
  have H1 := Lib.hid (owned_sl ho1)
  have Hb1 := Lib.hid hb1
  clear ho1 hb1 HS c7
  go_wp2_with fail
  refine (HG.out _ _ H1.out).mono ?_
  rintro e w2 ⟨v2, rfl, ho2, hb2⟩
  have H2 := Lib.hid (owned_sl ho2)
  have Hb2 := Lib.hid (nextW Hb1.out hb2)
  clear ho2 hb2 HG H1 Hb1
  go_wp2_with fail
  refine (HX.out _ _ H2.out (HU.out.below Hb2.out)).mono ?_
  rintro e w3 ⟨v3, rfl, ho3, hb3⟩
  have Hb3 := Lib.hid (nextW Hb2.out hb3)
  have HO := Lib.hid (ho3.mono (Nat.le_trans hBw Hb2.out.size))
  clear ho3 hb3 HX H2 Hb2
  obtain ⟨A5, n5, rfl, -⟩ := owned_sl HO.out
  have HT5 := Lib.hid (HY.out.nx Hb3.out)
  have t7 := HT5.out.box.c7
  have f7 := HT5.out.box.f7
  have HV := Lib.hid (HT5.out.set7 HO.out)
  have HZ := Lib.hid ((Kept.of_below B Hb3.out).grown (grown_set w3 b 7 (.slice A5 (blastsL (gemsL (shotsL L)) bs).length n5)) (fun p hp _ => by cases hp; exact HT5.out.mine))
  go_wp2
  (try simp only [Exit.inBlock, Exit.then])
  refine bodyPost_end (results_none rfl _ _ _) rfl ?_
  exact ⟨rfl, ⟨_, HV.out⟩, HZ.out⟩

end Go.Proofs.YtfpofegfbinalaaGreat.Fx
namespace Go.Proofs.YtfpofegfbinalaaGreat.Fx
open Go.ChangeShapes Go.WideShapes Go.ChangeAt Go.RowKit
set_option linter.unusedVariables false
set_option maxRecDepth 100000

theorem tbelow_any {B b : Nat} {w : World} {T : Trn} {L : List Ent} {O : List Crs} (h : Turn B w b T L O) (hs : 0 ≤ T.seed ∧ T.seed < 18446744073709551616) (n a k : Int) (hn : n ≤ 9223372036854775807) :
    Calls Tryz.prog 105 #[.pointer (some ⟨b, 0, none⟩), .int .i64 n, .int .i64 a, .int .i64 k] w fun z w' => z = .returned (.int .i64 (bel n T.seed [a, T.frame, k])) ∧ Below w.heap.size w w' := by
  have HC := Lib.hid (fun A c w hl => below_any n T.seed A 3 c [a, T.frame, k] w hn hs.1 hs.2 hl (by omega))
  obtain ⟨-, -, -, -, c4, -, c6, -⟩ := h.box
  have hlt := h.blk.lt
  generalize bel n T.seed [a, T.frame, k] = q at *
  clear h
  go_enter Tryz.func105, Tryz.ntmps105
  go_upto_region 1 with fail
  refine plan_region' (S := (fun w' => (∀ b o, b < (w).heap.size → w'.cell? ⟨b, o, none⟩ = (w).cell? ⟨b, o, none⟩) ∧ (∀ b o, b < (w).heap.size → w'.frozen? ⟨b, o, none⟩ = (w).frozen? ⟨b, o, none⟩) ∧ Below (w).heap.size (w) w')) [(0, true), (1, true), (2, true), (3, true), (4, true), (5, true), (6, true), (7, true), (8, true), (9, true), (10, true), (11, true), (12, true), (13, false), (14, false), (15, true)] (by kernel_rfl) (by kernel_rfl) (fun _ _ d _ _ h => by cases d <;> exact h) (keepW0 _) (fun hS => ?_)
  simp only [picked, List.getElem?_cons_succ, List.getElem?_cons_zero]
  iterate 13
   refine row_free (v := ?_) (by rfl) ?_ ?_; rotate_left 1; focus (intro w hSw; (try dsimp only at hSw); go_simp; (try with_reducible rfl))
   (try simp only [Act.put, tA, tB, tC])
  refine row_call (by rfl) (fun K hK => ?_)
  go_simp
  (skip)
  (try go_wp2_with fail)
  refine hK.out _ _ ?_ (fun hS' => ?_)
  · (try dsimp only); first | exact keepW (by assumption) (by assumption) | exact keepB (by assumption) (by assumption) | exact keepA (by assumption) | assumption
  clear hS hK K
  have hS := hS'
  clear hS'
  (try simp only [Act.put, tA, tB, tC])
  refine row_call (by rfl) (fun K hK => ?_)
  go_simp
  (refine (HC.out _ _ _ (by first | exact ints_new3 _ _ _ _ _ _ rfl | exact (ints_new3 _ _ _ _ _ _ rfl).drew)).mono ?_; rintro e w1 ⟨rfl, rfl⟩)
  (try go_wp2_with fail)
  refine hK.out _ _ ?_ (fun hS' => ?_)
  · (try dsimp only); first | exact keepW (by assumption) (by assumption) | exact keepB (by assumption) (by assumption) | exact keepA (by assumption) | assumption
  clear hS hK K
  have hS := hS'
  clear hS'
  (try simp only [Act.put, tA, tB, tC])
  refine row_free (v := ?_) (by rfl) ?_ ?_; rotate_left 1; focus (intro w hSw; (try dsimp only at hSw); go_simp; (try with_reducible rfl))
  (try simp only [Act.put, tA, tB, tC])
  refine row_done ?_
  have HS := Lib.hid hS.2.2
  clear hS
  go_wp2
  go_ret
  exact ⟨rfl, HS.out⟩

theorem corner_bd (a b p n r : Int) : (0 ≤ crx a b p n r ∧ crx a b p n r ≤ 4096) ∧ (0 ≤ cry a b p n r ∧ cry a b p n r ≤ 16384) := by
  unfold crx cry
  by_cases h : hasB a b p n r = true
  · rw [if_pos h, if_pos h]
    unfold hasB at h
    simp only [decide_eq_true_eq] at h
    have hr : rt a b p n = true := by
      unfold regs at h
      split at h
      · assumption
      · omega
    obtain ⟨r1, r2, r3, r4, -⟩ := rt_bd hr
    have h1 := Int.emod_nonneg r (show a ≠ 0 by omega)
    have h2 := Int.emod_lt_of_pos r (show 0 < a by omega)
    have h3 := regs_bd a b p n
    have h4 : 0 ≤ r / a := Int.ediv_nonneg h.1 (by omega)
    have h5 : r / a ≤ r := Int.ediv_le_self _ h.1
    exact ⟨⟨by omega, by omega⟩, by omega, by omega⟩
  · rw [if_neg h, if_neg h]
    omega

theorem tplace_any {B b : Nat} {w : World} {T : Trn} {L : List Ent} {O : List Crs} (h : Turn B w b T L O) (hs : 0 ≤ T.seed ∧ T.seed < 18446744073709551616) (i j k : Int) :
    Calls Tryz.prog 104 #[.pointer (some ⟨b, 0, none⟩), .int .i64 i, .int .i64 j, .int .i64 k] w fun z w' => z = .returned (.tuple #[.int .i64 (crx T.cols T.rows T.players T.window T.reg + bel 1024 T.seed [i, T.frame, k]), .int .i64 (cry T.cols T.rows T.players T.window T.reg + bel 1024 T.seed [j, T.frame, k])]) ∧ Below w.heap.size w w' := by
  have HC := Lib.hid (fun w => corner_any T.cols T.rows T.players T.window T.seed T.reg w)
  have H1 := Lib.hid (fun w1 (hb : Below w.heap.size w w1) => tbelow_any (h.nx hb) hs 1024 i k (by decide))
  have H2 := Lib.hid (fun w1 (hb : Below w.heap.size w w1) => tbelow_any (h.nx hb) hs 1024 j k (by decide))
  obtain ⟨c0, c1, c2, c3, c4, c5, -⟩ := h.box
  have hlt := h.blk.lt
  have b1 := corner_bd T.cols T.rows T.players T.window T.reg
  have b2 := bel_bd 1024 T.seed [i, T.frame, k] (by decide)
  have b3 := bel_bd 1024 T.seed [j, T.frame, k] (by decide)
  generalize bel 1024 T.seed [i, T.frame, k] = q1 at *
  generalize bel 1024 T.seed [j, T.frame, k] = q2 at *
  generalize crx T.cols T.rows T.players T.window T.reg = x at *
  generalize cry T.cols T.rows T.players T.window T.reg = y at *
  clear h
  go_enter Tryz.func104, Tryz.ntmps104
  go_upto_region 1 with fail
  refine plan_region' (S := (fun w' => (∀ b o, b < (w).heap.size → w'.cell? ⟨b, o, none⟩ = (w).cell? ⟨b, o, none⟩) ∧ (∀ b o, b < (w).heap.size → w'.frozen? ⟨b, o, none⟩ = (w).frozen? ⟨b, o, none⟩) ∧ Below (w).heap.size (w) w')) [(0, true), (1, true), (2, true), (3, true), (4, true), (5, true), (6, true), (7, true), (8, false), (9, true), (10, true), (11, true), (12, true), (13, true)] (by kernel_rfl) (by kernel_rfl) (fun _ _ d _ _ h => by cases d <;> exact h) (keepW0 _) (fun hS => ?_)
  simp only [picked, List.getElem?_cons_succ, List.getElem?_cons_zero]
  iterate 8
   refine row_free (v := ?_) (by rfl) ?_ ?_; rotate_left 1; focus (intro w hSw; (try dsimp only at hSw); go_simp; (try with_reducible rfl))
   (try simp only [Act.put, tA, tB, tC])
  refine row_call (by rfl) (fun K hK => ?_)
  go_simp
  (refine (HC.out _).mono ?_; rintro e w1 ⟨rfl, hb1⟩)
  (try go_wp2_with fail)
  refine hK.out _ _ ?_ (fun hS' => ?_)
  · (try dsimp only); first | exact keepW (by assumption) (by assumption) | exact keepB (by assumption) (by assumption) | exact keepA (by assumption) | assumption
  clear hS hK K
  have hS := hS'
  clear hS'
  iterate 5
   (try simp only [Act.put, tA, tB, tC])
   refine row_free (v := ?_) (by rfl) ?_ ?_; rotate_left 1; focus (intro w hSw; (try dsimp only at hSw); go_simp; (try with_reducible rfl))
  (try simp only [Act.put, tA, tB, tC])
  refine row_done ?_
  have HS := Lib.hid hS.2.2
  clear hS hb1 c0 c1 c2 c3 c4 c5
  go_wp2_with fail
  refine (H1.out _ HS.out).mono ?_
  rintro e w2 ⟨rfl, hb2⟩
  replace HS := Lib.hid (nextW HS.out hb2)
  clear hb2
  go_wp2_with fail
  refine (H2.out _ HS.out).mono ?_
  rintro e w3 ⟨rfl, hb3⟩
  replace HS := Lib.hid (nextW HS.out hb3)
  clear hb3
  go_wp2
  go_ret2
  exact ⟨rfl, HS.out⟩

set_option maxHeartbeats 2000000 in
theorem emit_any {B b : Nat} {w : World} {T : Trn} {L : List Ent} {O : List Crs} (h : Turn B w b T L O) (hn : O.length ≤ 1000000) (c : Crs) :
    Calls Tryz.prog 103 #[.pointer (some ⟨b, 0, none⟩), .agg #[.int .i64 c.kind, .int .i64 c.src, .int .i64 c.dst, .int .i64 c.frame, .int .i64 c.e.id, .int .i64 c.e.kind, .int .i64 c.e.x, .int .i64 c.e.y, .int .i64 c.e.vx, .int .i64 c.e.vy, .int .i64 c.e.health, .int .i64 c.e.age, .int .i64 c.e.owner, .int .i64 c.x, .int .i64 c.y]] w fun z w' => z = .returned (.tuple #[]) ∧ (∃ vo, Turn B w' b ⟨T.cols, T.rows, T.players, T.window, T.seed, T.reg, T.frame, T.list, T.made, vo⟩ L (O ++ [⟨c.kind, T.reg, c.dst, T.frame, c.e, c.x, c.y⟩])) ∧ Kept B w w' ∧ Spare b T.out.ownBlock w w' := by
  have H := Lib.hid h
  have hlt := h.blk.lt
  have hB := h.size
  obtain ⟨-, -, -, -, -, c5, c6, -⟩ := h.box
  clear h
  go_enter Tryz.func103, Tryz.ntmps103
  go_upto_region 1 with fail
  refine plan_region' (S := (fun w' => (∀ b o, b < (w).heap.size → w'.cell? ⟨b, o, none⟩ = (w).cell? ⟨b, o, none⟩) ∧ (∀ b o, b < (w).heap.size → w'.frozen? ⟨b, o, none⟩ = (w).frozen? ⟨b, o, none⟩) ∧ Below (w).heap.size (w) w')) [(0, true), (1, true), (2, true), (3, true), (4, true), (5, true), (6, true), (7, true), (8, true), (9, false), (10, true), (11, false)] (by kernel_rfl) (by kernel_rfl) (fun _ _ d _ _ h => by cases d <;> exact h) (keepOf ((Below.refl _ _).alloc (Nat.le_refl _) _).drew) (fun hS => ?_)
  simp only [picked, List.getElem?_cons_succ, List.getElem?_cons_zero]
  iterate 9
   refine row_free (v := ?_) (by rfl) ?_ ?_; rotate_left 1; focus (intro w hSw; (try dsimp only at hSw); go_simp; (try with_reducible rfl))
   (try simp only [Act.put, tA, tB, tC])
  refine row_call (by rfl) (fun K hK => ?_)
  go_simp
  (skip)
  (try go_wp2_with fail)
  refine hK.out _ _ ?_ (fun hS' => ?_)
  · (try dsimp only); exact keepOf ((Below.refl _ _).alloc (Nat.le_refl _) _).drew
  clear hS hK K
  have hS := hS'
  clear hS'
  (try simp only [Act.put, tA, tB, tC])
  refine row_free (v := ?_) (by rfl) ?_ ?_; rotate_left 1; focus (intro w hSw; (try dsimp only at hSw); go_simp; (try with_reducible rfl))
  (try simp only [Act.put, tA, tB, tC])
  refine row_call (by rfl) (fun K hK => ?_)
  go_simp
  (skip)
  (try go_wp2_with fail)
  refine hK.out _ _ ?_ (fun hS' => ?_)
  · (try dsimp only); exact keepOf ((Below.refl _ _).alloc (Nat.le_refl _) _).drew
  clear hS hK K
  have hS := hS'
  clear hS'
  (try simp only [Act.put, tA, tB, tC])
  refine row_done ?_
  clear hS c5 c6
  obtain ⟨c', hc'⟩ : ∃ c' : Crs, c' = ⟨c.kind, T.reg, c.dst, T.frame, c.e, c.x, c.y⟩ := ⟨_, rfl⟩
  have HX := Lib.hid (show CrsBox (w.alloc (.cells (crsC c').toArray 50)).drew w.heap.size c' from (CrsBox.n1 w c' 50 rfl).drew)
  have HY := Lib.hid (show Turn B (w.alloc (.cells (crsC c').toArray 50)).drew b T L O from (H.out.alloc _).drew)
  have HZ := Lib.hid (show Kept B w (w.alloc (.cells (crsC c').toArray 50)).drew from ((Kept.refl _ _).alloc _).drew)
  have HP := Lib.hid (show Spare b T.out.ownBlock w (w.alloc (.cells (crsC c').toArray 50)).drew from ((Spare.refl _ _ _).alloc _).drew)
  have HO := Lib.hid (show some w.heap.size ≠ T.out.ownBlock from fun hh => by have := (H.out.out.lt _ hh.symm).2; omega)
  rw [hc'] at HX HY HZ HP
  simp only [crsC] at HX HY HZ HP
  generalize hW : World.drew _ = W at *
  rw [← hc'] at HX
  have Hc := Lib.hid hc'
  have hne : b ≠ w.heap.size := Nat.ne_of_lt hlt
  have hgW : w.heap.size < W.heap.size := HX.out.has
  clear hW H hc'
  obtain ⟨d0, d1, d2, d3, d4, d5, d6, d7, d8, d9, d10, d11, d12, d13, d14, -⟩ := HX.out
  have c9 := HY.out.box.c9
  have f9 := HY.out.box.f9
  have hbW := HY.out.blk.lt
  have HOB := Lib.hid (own_ne HY.out.out HY.out.blk (by decide))
  go_upto_region 2 with fail
  refine tail_region (S := (fun w' => (∀ o, w'.cell? ⟨b, o, none⟩ = W.cell? ⟨b, o, none⟩) ∧ (∀ o, w'.cell? ⟨w.heap.size, o, none⟩ = W.cell? ⟨w.heap.size, o, none⟩))) 10 (.free 0 (.free 1 (.free 2 (.free 3 (.free 4 (.free 5 (.one 6 (.one 7 (.free 8 (.free 9 .tail)))))))))) (by kernel_rfl) (by kernel_rfl) (fun _ _ d _ _ h => by cases d <;> exact h) (⟨fun _ => rfl, fun _ => rfl⟩) (fun hS => ?_)
  simp only [writtenT, List.drop_succ_cons, List.drop_zero, List.getElem?_cons_succ, List.getElem?_cons_zero]
  iterate 6
   refine rz_free (v := ?_) (by rfl) ?_ ?_; rotate_left 1; focus (intro w hSw; (try dsimp only at hSw); go_simp; (try with_reducible rfl))
   (try simp only [Act.put, tA, tB, tC])
  refine rz_call (by rfl) (fun K hK => ?_)
  go_simp
  (skip)
  (try go_wp2_with fail)
  refine hK.out _ _ ?_ (fun hS' => ?_)
  · (try dsimp only); first | exact ⟨fun o => (World.cell?_of_block (hg5.block b (by simp; omega) HOB.out)).trans (hS.1 o), fun o => (World.cell?_of_block (hg5.block w.heap.size (by simp; omega) HO.out)).trans (hS.2 o)⟩ | exact ⟨fun o => (World.cell?_alloc_lt _ _ _ hbW).trans (hS.1 o), fun o => (World.cell?_alloc_lt _ _ _ hgW).trans (hS.2 o)⟩
  clear hS hK K
  have hS := hS'
  clear hS'
  (try simp only [Act.put, tA, tB, tC])
  refine rz_call (by rfl) (fun K hK => ?_)
  (refine app_Crs (.tmp 18) (.tmp 20) (by rfl) B T.out O (by rfl) ((HY.out.drew.alloc _).out) _ [c'] (by rfl) (one_Crs _ c' _ 1 (by first | rfl | simp) (by omega)) (by simp; omega) (HY.out.drew.alloc _).size ?_; intro v' w5 ho5 hb5 hg5)
  simp only [Act.put, tA, tB, tC]
  refine hK.out _ _ ?_ (fun hS' => ?_)
  · (try dsimp only); first | exact ⟨fun o => (World.cell?_of_block (hg5.block b (by simp; omega) HOB.out)).trans (hS.1 o), fun o => (World.cell?_of_block (hg5.block w.heap.size (by simp; omega) HO.out)).trans (hS.2 o)⟩ | exact ⟨fun o => (World.cell?_alloc_lt _ _ _ hbW).trans (hS.1 o), fun o => (World.cell?_alloc_lt _ _ _ hgW).trans (hS.2 o)⟩
  clear hS hK K
  have hS := hS'
  clear hS'
  iterate 2
   (try simp only [Act.put, tA, tB, tC])
   refine rz_free (v := ?_) (by rfl) ?_ ?_; rotate_left 1; focus (intro w hSw; (try dsimp only at hSw); go_simp; (try with_reducible rfl))
  (try simp only [Act.put, tA, tB, tC])
  refine rz_done ?_
  obtain ⟨A5, n5, rfl, -⟩ := owned_sl ho5
  have k9 : w5.cell? ⟨b, 9, none⟩ = some T.out := (hS.1 9).trans c9
  have l9 : w5.frozen? ⟨b, 9, none⟩ = false := (World.frozen?_of_block (hg5.block b (by simp; omega) HOB.out)).trans (World.frozen?_alloc_old _ _ _ (by simp only; exact Nat.ne_of_lt hbW) |>.trans f9)
  have HF := Lib.hid ((HY.out.drew.alloc _).pushO hg5 ho5)
  have HG := Lib.hid (((HZ.out.drew.alloc _).grown hg5 (fun p hp _ => (HY.out.drew.alloc _).mineO p hp)).grown (grown_set w5 b 9 (.slice A5 (O ++ [c']).length n5)) (fun p hp _ => by cases hp; exact ⟨HY.out.le, _, _, (HY.out.drew.alloc _).blk.kept hg5 HOB.out, .inr (.inr rfl)⟩))
  have HQ := Lib.hid (((HP.out.drew.alloc _).grown hg5 (fun p hp => .inr hp.symm)).grown (grown_set w5 b 9 (.slice A5 (O ++ [c']).length n5)) (fun p hp => .inl (Option.some.inj hp).symm))
  generalize (O ++ [c']).length = n6 at *
  clear hS ho5 hb5 hg5 c9 f9 d0 d1 d2 d3 d4 d5 d6 d7 d8 d9 d10 d11 d12 d13 d14
  go_wp2
  (try simp only [Exit.inBlock, Exit.then])
  refine bodyPost_end (results_none rfl _ _ _) rfl ?_
  rw [← Hc.out]
  exact ⟨rfl, ⟨_, HF.out⟩, HG.out, HQ.out⟩

end Go.Proofs.YtfpofegfbinalaaGreat.Fx
