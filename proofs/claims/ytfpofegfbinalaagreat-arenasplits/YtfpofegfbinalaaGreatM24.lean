/- The turn's call act: a player does its input. The turn's call steer: each player does its input. -/
import Derived.Test.YtfpofegfbinalaaGreatM19
import Derived.Test.YtfpofegfbinalaaGreatM04
import Derived.Test.YtfpofegfbinalaaGreatM03
import Derived.Test.YtfpofegfbinalaaGreatM22
import Derived.Test.YtfpofegfbinalaaGreatM23
import Derived.Test.YtfpofegfbinalaaGreatM16
import Derived.Deep.DeepCutAuto
import Derived.Test.YtfpofegfbinalaaGreatM02
namespace Go.Proofs.YtfpofegfbinalaaGreat.Fx
open Go.ChangeShapes Go.WideShapes Go.ChangeAt Go.RowKit
set_option linter.unusedVariables false
set_option maxRecDepth 100000

theorem rise_at {l : List Ent} (hr : Rise l) {i j : Nat} {x y : Ent} (hi : l[i]? = some x) (hj : l[j]? = some y) (h : x.id = y.id) : i = j := by
  induction l generalizing i j with
  | nil => simp at hi
  | cons e r ih =>
    obtain ⟨h1, h2⟩ := List.pairwise_cons.1 hr
    cases i with
    | zero =>
      cases j with
      | zero => rfl
      | succ j =>
        simp only [List.getElem?_cons_zero, Option.some.injEq, List.getElem?_cons_succ] at hi hj
        subst hi
        have := h1 y (List.mem_of_getElem? hj)
        omega
    | succ i =>
      cases j with
      | zero =>
        simp only [List.getElem?_cons_zero, Option.some.injEq, List.getElem?_cons_succ] at hi hj
        subst hj
        have := h1 x (List.mem_of_getElem? hi)
        omega
      | succ j =>
        simp only [List.getElem?_cons_succ] at hi hj
        rw [ih h2 hi hj]

theorem set_turn {l : List Ent} (hr : Rise l) {k : Nat} {e : Ent} (h : l[k]? = some e) (z : Ent) : l.set k z = turn l e.id z := by
  apply List.ext_getElem?
  intro i
  unfold turn
  rw [List.getElem?_set, List.getElem?_map]
  by_cases hi : k = i
  · subst hi
    rw [if_pos rfl, if_pos (List.getElem?_eq_some_iff.1 h).1, h]
    simp
  · rw [if_neg hi]
    cases hx : l[i]? with
    | none => rfl
    | some x =>
      rw [Option.map_some, if_neg]
      intro hh
      exact hi (rise_at hr h hx hh.symm)

/-- What becomes of the list, and of the count, where a player does its input. -/
def act1 (R r f : Int) (L : List Ent) (m id : Int) (e : Ent) (i : Inp) : List Ent × Int :=
  if steerB e i.dx i.dy i.fire = true then
    if roomB L m = true then (put (turn L id (steerE e i.dx i.dy i.fire)) (shootE (steerE e i.dx i.dy i.fire) i.dx i.dy (newId R r f m)), m + 1)
    else (turn L id (young (steerE e i.dx i.dy i.fire)), m)
  else (turn L id (steerE e i.dx i.dy i.fire), m)

theorem steer1_act {R r f : Int} {inp : Int → Inp} {L : List Ent} {m id : Int} {e : Ent} (h : ofId L id = some e) : steer1 R r f inp (L, m) id = act1 R r f L m id e (inp id) := by
  unfold steer1 act1
  rw [h]

theorem turn_len (l : List Ent) (id : Int) (z : Ent) : (turn l id z).length = l.length := by simp [turn]

theorem zentd (w : World) (t : TypeId) : EntBox (w.alloc (.cells #[.int .i64 0, .int .i64 0, .int .i64 0, .int .i64 0, .int .i64 0, .int .i64 0, .int .i64 0, .int .i64 0, .int .i64 0] t)).drew w.heap.size e0 := (EntBox.n1 w e0 t rfl).drew

set_option maxHeartbeats 4000000 in
theorem act_any {B b : Nat} {w : World} {T : Trn} {L : List Ent} {O : List Crs} (h : Turn B w b T L O) (hr : Rise L) (hn : L.length ≤ 300) (hf : 0 ≤ T.frame ∧ T.frame ≤ 10000) (hg : 0 ≤ T.reg ∧ T.reg ≤ 16) (hm : 0 ≤ T.made ∧ T.made ≤ 8)
    (e : Ent) (he : e ∈ L) (hag : e.age ≤ 9223372036854775807) (i : Inp) :
    Calls Tryz.prog 96 #[.pointer (some ⟨b, 0, none⟩), .int .i64 e.id, .agg #[.int .i64 i.dx, .int .i64 i.dy, .bool i.fire]] w fun z w' => z = .returned (.tuple #[]) ∧
      (∃ vl, Turn B w' b ⟨T.cols, T.rows, T.players, T.window, T.seed, T.reg, T.frame, vl, (act1 (regs T.cols T.rows T.players T.window) T.reg T.frame L T.made e.id e i).2, T.out⟩ (act1 (regs T.cols T.rows T.players T.window) T.reg T.frame L T.made e.id e i).1 O) ∧ Kept B w w' := by
  obtain ⟨k, x, hfd, hkx, hxi⟩ := fnd_yes he
  obtain rfl : x = e := rise_one hr (List.mem_of_getElem? hkx) he hxi
  have hkl : k < L.length := (List.getElem?_eq_some_iff.1 hkx).1
  have Hset := Lib.hid (fun z => set_turn hr hkx z)
  have Hkx := Lib.hid hkx
  have HY := Lib.hid (h.alloc (.cells #[.int .i64 i.dx, .int .i64 i.dy, .bool i.fire] 71))
  have HI := Lib.hid (InpBox.n1 w i 71 rfl)
  have HIB := Lib.hid (show ∃ cur, Blk (w.alloc (.cells #[.int .i64 i.dx, .int .i64 i.dy, .bool i.fire] 71)) w.heap.size 71 cur from ⟨_, heap_alloc_new w _⟩)
  have HZ := Lib.hid (show Kept B w (w.alloc (.cells #[.int .i64 i.dx, .int .i64 i.dy, .bool i.fire] 71)) from (Kept.refl _ _).alloc _)
  have HF := Lib.hid (fun w1 hv => hfd ▸ find_any T.list L x.id w1 hv (by omega))
  have HS := Lib.hid (fun w => steer_any x i.dx i.dy i.fire w hag)
  have HA := Lib.hid (show act1 (regs T.cols T.rows T.players T.window) T.reg T.frame L T.made x.id x i = (if steerB x i.dx i.dy i.fire = true then
    if roomB L T.made = true then (put (turn L x.id (steerE x i.dx i.dy i.fire)) (shootE (steerE x i.dx i.dy i.fire) i.dx i.dy (newId (regs T.cols T.rows T.players T.window) T.reg T.frame T.made)), T.made + 1)
    else (turn L x.id (young (steerE x i.dx i.dy i.fire)), T.made)
  else (turn L x.id (steerE x i.dx i.dy i.fire), T.made)) from rfl)
  generalize act1 (regs T.cols T.rows T.players T.window) T.reg T.frame L T.made x.id x i = AC at *
  generalize steerB x i.dx i.dy i.fire = fb at *
  generalize steerE x i.dx i.dy i.fire = z at *
  clear h hr he hxi hkx hfd
  go_enter Tryz.func96, Tryz.ntmps96
  go_upto_region 1 with fail
  generalize hW : World.alloc _ _ = W at *
  generalize hgi : w.heap.size = gi at *
  clear hW hgi
  have c7 := HY.out.box.c7
  go_wp2_with fail
  refine (HF.out _ HY.out.sl).mono ?_
  rintro q w1 ⟨rfl, hb1⟩
  replace HZ := Lib.hid (HZ.out.below hb1)
  replace HY := Lib.hid (HY.out.nx hb1)
  replace HI := Lib.hid (HI.out.nx hb1)
  replace HIB := Lib.hid (HIB.out.imp fun cur h => h.below hb1 h.lt)
  clear hb1 c7 HF
  obtain ⟨g, cap, hTl, hBg, hgw, -, hcs, -⟩ := own_at_Ent HY.out.list Hkx.out
  have HTl := Lib.hid hTl
  have c7 := HY.out.box.c7
  rw [hTl] at c7
  simp only [Nat.zero_add] at hcs
  obtain ⟨x0, x1, x2, x3, x4, x5, x6, x7, x8⟩ := hcs
  obtain ⟨i0, i1, i2, -⟩ := HI.out
  have hgi := HI.out.has
  have hbw := HY.out.blk.lt
  clear hTl
  go_upto_region 2 with fail
  go_cut [7, 8] (fun s7 s8 wx => ∃ blk, s7 = .pointer (some ⟨blk, 0, none⟩) ∧ s8 = .bool fb ∧ w1.heap.size ≤ blk ∧ EntBox wx blk z ∧ Below w1.heap.size w1 wx)
  case first =>
    refine tree_region (S := (fun w' => (∀ b o, b < (w1).heap.size → w'.cell? ⟨b, o, none⟩ = (w1).cell? ⟨b, o, none⟩) ∧ (∀ b o, b < (w1).heap.size → w'.frozen? ⟨b, o, none⟩ = (w1).frozen? ⟨b, o, none⟩) ∧ Below (w1).heap.size (w1) w')) (.free 0 (.free 1 (.free 2 (.free 3 (.free 4 (.free 5 (.free 6 (.free 7 (.two 8 (.free 9 (.free 10 (.free 11 (.one 12 (.one 13 (.free 14 .done)))))) 12 (.one 8 (.free 9 (.free 10 (.free 11 (.one 13 (.free 14 .done))))))))))))))) (by kernel_rfl) (by kernel_rfl) (fun _ _ d _ _ h => by cases d <;> exact h) (keepW0 _) (fun hS => ?_)
    simp only [written, List.getElem?_cons_succ, List.getElem?_cons_zero]
    iterate 8
     refine rw_free (v := ?_) (by rfl) ?_ ?_; rotate_left 1; focus (intro w hSw; (try dsimp only at hSw); go_simp; (try with_reducible rfl))
     (try simp only [Act.put, tA, tB, tC])
    refine rw_two ?_ ?_
    · skip
      refine rw_call (by rfl) (fun K hK => ?_)
      go_simp
      (refine (HS.out _).mono ?_; rintro q w5 ⟨rfl, hb5⟩)
      (try go_wp2_with fail)
      refine hK.out _ _ ?_ (fun hS' => ?_)
      · (try dsimp only); first | exact keepW (by assumption) (by assumption) | exact keepB (by assumption) (by assumption) | exact keepA (by assumption) | assumption
      clear hS hK K
      have hS := hS'
      clear hS'
      iterate 3
       (try simp only [Act.put, tA, tB, tC])
       refine rw_free (v := ?_) (by rfl) ?_ ?_; rotate_left 1; focus (intro w hSw; (try dsimp only at hSw); go_simp; (try with_reducible rfl))
      (try simp only [Act.put, tA, tB, tC])
      refine rw_call (by rfl) (fun K hK => ?_)
      go_simp
      (skip)
      (try go_wp2_with fail)
      refine hK.out _ _ ?_ (fun hS' => ?_)
      · (try dsimp only); first | exact keepW (by assumption) (by assumption) | exact keepB (by assumption) (by assumption) | exact keepA (by assumption) | assumption
      clear hS hK K
      have hS := hS'
      clear hS'
      (try simp only [Act.put, tA, tB, tC])
      first | (with_reducible have hs := (zentd _ _).nx hb5; have Hs := Lib.hid hs; obtain ⟨n0, n1, n2, n3, n4, n5, n6, n7, n8, m0, m1, m2, m3, m4, m5, m6, m7, m8⟩ := hs) | skip
      refine rw_call (by rfl) (fun K hK => ?_)
      go_simp
      (skip)
      (try go_wp2_with fail)
      refine hK.out _ _ ?_ (fun hS' => ?_)
      · (try dsimp only); first | (have _h := Hs.out; exact keepOf (EntBox.bel hS.2.2 z (by first | exact Nat.le_refl _ | simp) rfl)) | exact keepOf ((nextW (Below.refl _ _).drew hb5).alloc (nextW (Below.refl _ _).drew hb5).size _)
      clear hS hK K
      have hS := hS'
      clear hS'
      (try simp only [Act.put, tA, tB, tC])
      refine rw_free (v := ?_) (by rfl) ?_ ?_; rotate_left 1; focus (intro w hSw; (try dsimp only at hSw); go_simp; (try with_reducible rfl))
      (try simp only [Act.put, tA, tB, tC])
      refine rw_done ?_
      (try clear n0 n1 n2 n3 n4 n5 n6 n7 n8 m0 m1 m2 m3 m4 m5 m6 m7 m8)
      go_wp2_with fail
      go_meet
      exact ⟨_, rfl, rfl, (by first | exact Nat.le_refl _ | exact (nextW (Below.refl _ _).drew hb5).size), (by first | (have _h := Hs.out; exact _h.put z) | exact EntBox.n1 _ _ _ rfl), hS.2.2⟩
    · skip
      refine rw_call (by rfl) (fun K hK => ?_)
      go_simp
      (skip)
      (try go_wp2_with fail)
      refine hK.out _ _ ?_ (fun hS' => ?_)
      · (try dsimp only); first | exact keepW (by assumption) (by assumption) | exact keepB (by assumption) (by assumption) | exact keepA (by assumption) | assumption
      clear hS hK K
      have hS := hS'
      clear hS'
      (try simp only [Act.put, tA, tB, tC])
      refine rw_call (by rfl) (fun K hK => ?_)
      go_simp
      (refine (HS.out _).mono ?_; rintro q w5 ⟨rfl, hb5⟩)
      (try go_wp2_with fail)
      refine hK.out _ _ ?_ (fun hS' => ?_)
      · (try dsimp only); first | exact keepW (by assumption) (by assumption) | exact keepB (by assumption) (by assumption) | exact keepA (by assumption) | assumption
      clear hS hK K
      have hS := hS'
      clear hS'
      iterate 3
       (try simp only [Act.put, tA, tB, tC])
       refine rw_free (v := ?_) (by rfl) ?_ ?_; rotate_left 1; focus (intro w hSw; (try dsimp only at hSw); go_simp; (try with_reducible rfl))
      (try simp only [Act.put, tA, tB, tC])
      first | (with_reducible have hs := (zentd _ _).nx hb5; have Hs := Lib.hid hs; obtain ⟨n0, n1, n2, n3, n4, n5, n6, n7, n8, m0, m1, m2, m3, m4, m5, m6, m7, m8⟩ := hs) | skip
      refine rw_call (by rfl) (fun K hK => ?_)
      go_simp
      (skip)
      (try go_wp2_with fail)
      refine hK.out _ _ ?_ (fun hS' => ?_)
      · (try dsimp only); first | (have _h := Hs.out; exact keepOf (EntBox.bel hS.2.2 z (by first | exact Nat.le_refl _ | simp) rfl)) | exact keepOf ((nextW (Below.refl _ _).drew hb5).alloc (nextW (Below.refl _ _).drew hb5).size _)
      clear hS hK K
      have hS := hS'
      clear hS'
      (try simp only [Act.put, tA, tB, tC])
      refine rw_free (v := ?_) (by rfl) ?_ ?_; rotate_left 1; focus (intro w hSw; (try dsimp only at hSw); go_simp; (try with_reducible rfl))
      (try simp only [Act.put, tA, tB, tC])
      refine rw_done ?_
      (try clear n0 n1 n2 n3 n4 n5 n6 n7 n8 m0 m1 m2 m3 m4 m5 m6 m7 m8)
      go_wp2_with fail
      go_meet
      exact ⟨_, rfl, rfl, (by first | exact Nat.le_refl _ | exact (nextW (Below.refl _ _).drew hb5).size), (by first | (have _h := Hs.out; exact _h.put z) | exact EntBox.n1 _ _ _ rfl), hS.2.2⟩
  case rest =>
    obtain ⟨be, rfl, rfl, hbe, hez, hb⟩ := hcut
    have HN := Lib.hid (HY.out.newer hbe)
    have HZ1 := HZ
    have hgi' : gi < w1.heap.size := hgi
    have hgig : gi ≠ g := fun e => by
      obtain ⟨cur, hblk⟩ := HIB.out
      have := own_ne HY.out.list hblk (by decide)
      rw [HTl.out] at this
      exact this (by rw [e]; rfl)
    replace HI := Lib.hid (HI.out.nx hb)
    replace HZ := Lib.hid (HZ.out.below hb)
    replace HY := Lib.hid (HY.out.nx hb)
    have Be := Lib.hid hez
    have hBe : B ≤ be := by have := HY.out.le; omega
    have hgb : g ≠ be := by omega
    have hwe : w.heap.size ≤ be := by have := HZ1.out.size; omega
    have hib : gi ≠ be := by omega
    have HM := Lib.hid (fun w1 (h : Turn B w1 b T L O) => room_any h (by omega))
    clear hb hez HS x0 x1 x2 x3 x4 x5 x6 x7 x8 i0 i1 i2 c7 hgw hgi hbw hbe hgi' HIB
    generalize hrm : roomB L T.made = rm at *
    have Hrm := Lib.hid hrm
    clear hrm
    cases fb with
    | false =>
      have HAC := Lib.hid (show AC = (turn L x.id z, T.made) from HA.out)
      clear HA HM
      obtain ⟨W3, rfl⟩ : ∃ W3, W3 = wc := ⟨_, rfl⟩
      obtain ⟨gg, cc, hTl, -, -, -, hcs, hfz⟩ := own_at_Ent HY.out.list Hkx.out
      have c7 := HY.out.box.c7
      rw [HTl.out] at c7 hTl
      cases hTl
      simp only [Nat.zero_add] at hcs
      obtain ⟨x0, x1, x2, x3, x4, x5, x6, x7, x8⟩ := hcs
      obtain ⟨y0, y1, y2, y3, y4, y5, y6, y7, y8, -⟩ := Be.out
      have hbw := HY.out.blk.lt
      have hew := Be.out.has
      go_upto_region 5 with fail
      refine tail_region (S := (fun w' => (∀ b o, b < (W3).heap.size → w'.cell? ⟨b, o, none⟩ = (W3).cell? ⟨b, o, none⟩) ∧ (∀ b o, b < (W3).heap.size → w'.frozen? ⟨b, o, none⟩ = (W3).frozen? ⟨b, o, none⟩) ∧ Below (W3).heap.size (W3) w')) 7 (.free 0 (.free 1 (.free 2 (.free 3 (.free 4 (.free 5 (.free 6 .tail))))))) (by kernel_rfl) (by kernel_rfl) (fun _ _ d _ _ h => by cases d <;> exact h) (keepW0 _) (fun hS => ?_)
      simp only [writtenT, List.drop_succ_cons, List.drop_zero, List.getElem?_cons_succ, List.getElem?_cons_zero]
      iterate 7
       refine rz_free (v := ?_) (by rfl) ?_ ?_; rotate_left 1; focus (intro w hSw; (try dsimp only at hSw); go_simp; (try with_reducible rfl))
       (try simp only [Act.put, tA, tB, tC])
      refine rz_done ?_
      clear hS y0 y1 y2 y3 y4 y5 y6 y7 y8 c7
      go_upto_region 6 with fail
      generalize hW : World.setCell _ _ _ = W4 at *
      obtain ⟨hl4, hg4⟩ := own_store_Ent (by have := HY.out.list; rw [HTl.out] at this; exact this) k hkl z hW
      rw [Hset.out] at hl4
      replace HZ := Lib.hid (HZ.out.grown (row := some g) hg4 (fun p hp _ => HY.out.mineL p (by rw [HTl.out]; exact hp)))
      replace HI := Lib.hid (show InpBox W4 gi i from InpBox.of (fun q => World.cell?_of_block (hg4.block gi HI.out.has (fun e => hgig (Option.some.inj e)))) (fun q => World.frozen?_of_block (hg4.block gi HI.out.has (fun e => hgig (Option.some.inj e)))) HI.out)
      replace Be := Lib.hid (show EntBox W4 be z from EntBox.of (fun q => World.cell?_of_block (hg4.block be Be.out.has (fun e => hgb (Option.some.inj e).symm))) (fun q => World.frozen?_of_block (hg4.block be Be.out.has (fun e => hgb (Option.some.inj e).symm))) Be.out)
      replace HY := Lib.hid (show Turn B W4 b T (turn L x.id z) O from HY.out.putL (by rw [HTl.out]; exact hg4) (by rw [HTl.out, turn_len]; exact hl4))
      clear hW hl4 hg4 x0 x1 x2 x3 x4 x5 x6 x7 x8 hfz hbw hew
      replace HZ := Lib.hid HZ.out.drew
      replace HI := Lib.hid HI.out.drew
      replace Be := Lib.hid Be.out.drew
      replace HY := Lib.hid HY.out.drew
      generalize W4.drew = W5 at *
      clear W4
      go_wp2
      (try simp only [Exit.inBlock, Exit.then])
      refine bodyPost_end (results_none rfl _ _ _) rfl ?_
      exact ⟨rfl, ⟨T.list, by rw [HAC.out]; exact HY.out⟩, HZ.out⟩
    | true =>
      go_wp2_with fail
      refine (HM.out _ HY.out).mono ?_
      rintro q w2 ⟨rfl, hb⟩
      replace HZ := Lib.hid (HZ.out.below hb)
      replace HY := Lib.hid (HY.out.nx hb)
      replace Be := Lib.hid (Be.out.nx hb)
      replace HI := Lib.hid (HI.out.nx hb)
      clear hb HM
      cases rm with
      | false =>
        have HAC := Lib.hid (show AC = (turn L x.id (young z), T.made) from HA.out)
        clear HA
        have e7 := Be.out.c7
        have f7 := Be.out.f7
        go_upto_region 5 with fail
        generalize hW : World.setCell _ _ _ = W3 at *
        have hgr := hW ▸ grown_set w2 be 7 (.int .i64 0)
        replace HZ := Lib.hid (HZ.out.new hgr hwe)
        replace HY := Lib.hid (HY.out.far hgr HN.out)
        replace HI := Lib.hid (show InpBox W3 gi i from hW ▸ HI.out.far (Ne.symm hib) _ _)
        replace Be := Lib.hid (show EntBox W3 be (young z) from hW ▸ Be.out.set7 0)
        clear hW hgr e7 f7
        obtain ⟨gg, cc, hTl, -, -, -, hcs, hfz⟩ := own_at_Ent HY.out.list Hkx.out
        have c7 := HY.out.box.c7
        rw [HTl.out] at c7 hTl
        cases hTl
        simp only [Nat.zero_add] at hcs
        obtain ⟨x0, x1, x2, x3, x4, x5, x6, x7, x8⟩ := hcs
        obtain ⟨y0, y1, y2, y3, y4, y5, y6, y7, y8, -⟩ := Be.out
        have hbw := HY.out.blk.lt
        have hew := Be.out.has
        go_upto_region 5 with fail
        refine tail_region (S := (fun w' => (∀ b o, b < (W3).heap.size → w'.cell? ⟨b, o, none⟩ = (W3).cell? ⟨b, o, none⟩) ∧ (∀ b o, b < (W3).heap.size → w'.frozen? ⟨b, o, none⟩ = (W3).frozen? ⟨b, o, none⟩) ∧ Below (W3).heap.size (W3) w')) 7 (.free 0 (.free 1 (.free 2 (.free 3 (.free 4 (.free 5 (.free 6 .tail))))))) (by kernel_rfl) (by kernel_rfl) (fun _ _ d _ _ h => by cases d <;> exact h) (keepW0 _) (fun hS => ?_)
        simp only [writtenT, List.drop_succ_cons, List.drop_zero, List.getElem?_cons_succ, List.getElem?_cons_zero]
        iterate 7
         refine rz_free (v := ?_) (by rfl) ?_ ?_; rotate_left 1; focus (intro w hSw; (try dsimp only at hSw); go_simp; (try with_reducible rfl))
         (try simp only [Act.put, tA, tB, tC])
        refine rz_done ?_
        clear hS y0 y1 y2 y3 y4 y5 y6 y7 y8 c7
        go_upto_region 6 with fail
        generalize hW : World.setCell _ _ _ = W4 at *
        obtain ⟨hl4, hg4⟩ := own_store_Ent (by have := HY.out.list; rw [HTl.out] at this; exact this) k hkl (young z) hW
        rw [Hset.out] at hl4
        replace HZ := Lib.hid (HZ.out.grown (row := some g) hg4 (fun p hp _ => HY.out.mineL p (by rw [HTl.out]; exact hp)))
        replace HI := Lib.hid (show InpBox W4 gi i from InpBox.of (fun q => World.cell?_of_block (hg4.block gi HI.out.has (fun e => hgig (Option.some.inj e)))) (fun q => World.frozen?_of_block (hg4.block gi HI.out.has (fun e => hgig (Option.some.inj e)))) HI.out)
        replace Be := Lib.hid (show EntBox W4 be (young z) from EntBox.of (fun q => World.cell?_of_block (hg4.block be Be.out.has (fun e => hgb (Option.some.inj e).symm))) (fun q => World.frozen?_of_block (hg4.block be Be.out.has (fun e => hgb (Option.some.inj e).symm))) Be.out)
        replace HY := Lib.hid (show Turn B W4 b T (turn L x.id (young z)) O from HY.out.putL (by rw [HTl.out]; exact hg4) (by rw [HTl.out, turn_len]; exact hl4))
        clear hW hl4 hg4 x0 x1 x2 x3 x4 x5 x6 x7 x8 hfz hbw hew
        replace HZ := Lib.hid HZ.out.drew
        replace HI := Lib.hid HI.out.drew
        replace Be := Lib.hid Be.out.drew
        replace HY := Lib.hid HY.out.drew
        generalize W4.drew = W5 at *
        clear W4
        go_wp2
        (try simp only [Exit.inBlock, Exit.then])
        refine bodyPost_end (results_none rfl _ _ _) rfl ?_
        exact ⟨rfl, ⟨T.list, by rw [HAC.out]; exact HY.out⟩, HZ.out⟩
      | true =>
        have HAC := Lib.hid (show AC = (put (turn L x.id z) (shootE z i.dx i.dy (newId (regs T.cols T.rows T.players T.window) T.reg T.frame T.made)), T.made + 1) from HA.out)
        clear HA
        obtain ⟨W3, rfl⟩ : ∃ W3, W3 = w2 := ⟨_, rfl⟩
        obtain ⟨gg, cc, hTl, -, -, -, hcs, hfz⟩ := own_at_Ent HY.out.list Hkx.out
        have c7 := HY.out.box.c7
        rw [HTl.out] at c7 hTl
        cases hTl
        simp only [Nat.zero_add] at hcs
        obtain ⟨x0, x1, x2, x3, x4, x5, x6, x7, x8⟩ := hcs
        obtain ⟨y0, y1, y2, y3, y4, y5, y6, y7, y8, -⟩ := Be.out
        have hbw := HY.out.blk.lt
        have hew := Be.out.has
        go_upto_region 5 with fail
        refine tail_region (S := (fun w' => (∀ b o, b < (W3).heap.size → w'.cell? ⟨b, o, none⟩ = (W3).cell? ⟨b, o, none⟩) ∧ (∀ b o, b < (W3).heap.size → w'.frozen? ⟨b, o, none⟩ = (W3).frozen? ⟨b, o, none⟩) ∧ Below (W3).heap.size (W3) w')) 7 (.free 0 (.free 1 (.free 2 (.free 3 (.free 4 (.free 5 (.free 6 .tail))))))) (by kernel_rfl) (by kernel_rfl) (fun _ _ d _ _ h => by cases d <;> exact h) (keepW0 _) (fun hS => ?_)
        simp only [writtenT, List.drop_succ_cons, List.drop_zero, List.getElem?_cons_succ, List.getElem?_cons_zero]
        iterate 7
         refine rz_free (v := ?_) (by rfl) ?_ ?_; rotate_left 1; focus (intro w hSw; (try dsimp only at hSw); go_simp; (try with_reducible rfl))
         (try simp only [Act.put, tA, tB, tC])
        refine rz_done ?_
        clear hS y0 y1 y2 y3 y4 y5 y6 y7 y8 c7
        go_upto_region 6 with fail
        generalize hW : World.setCell _ _ _ = W4 at *
        obtain ⟨hl4, hg4⟩ := own_store_Ent (by have := HY.out.list; rw [HTl.out] at this; exact this) k hkl z hW
        rw [Hset.out] at hl4
        replace HZ := Lib.hid (HZ.out.grown (row := some g) hg4 (fun p hp _ => HY.out.mineL p (by rw [HTl.out]; exact hp)))
        replace HI := Lib.hid (show InpBox W4 gi i from InpBox.of (fun q => World.cell?_of_block (hg4.block gi HI.out.has (fun e => hgig (Option.some.inj e)))) (fun q => World.frozen?_of_block (hg4.block gi HI.out.has (fun e => hgig (Option.some.inj e)))) HI.out)
        replace Be := Lib.hid (show EntBox W4 be z from EntBox.of (fun q => World.cell?_of_block (hg4.block be Be.out.has (fun e => hgb (Option.some.inj e).symm))) (fun q => World.frozen?_of_block (hg4.block be Be.out.has (fun e => hgb (Option.some.inj e).symm))) Be.out)
        replace HY := Lib.hid (show Turn B W4 b T (turn L x.id z) O from HY.out.putL (by rw [HTl.out]; exact hg4) (by rw [HTl.out, turn_len]; exact hl4))
        clear hW hl4 hg4 x0 x1 x2 x3 x4 x5 x6 x7 x8 hfz hbw hew
        replace HZ := Lib.hid HZ.out.drew
        replace HI := Lib.hid HI.out.drew
        replace Be := Lib.hid Be.out.drew
        replace HY := Lib.hid HY.out.drew
        generalize W4.drew = W5 at *
        clear W4
        have HNu := Lib.hid (fun w1 (h : Turn B w1 b T (turn L x.id z) O) => number_any h hf hg hm)
        have HSh := Lib.hid (fun n w => shoot_any z i.dx i.dy i.fire n w)
        have HAd := Lib.hid (fun y w1 (h : Turn B w1 b T (turn L x.id z) O) => tadd_any h (by rw [turn_len]; omega) (by omega) y)
        generalize newId (regs T.cols T.rows T.players T.window) T.reg T.frame T.made = id at *
        obtain ⟨y0, y1, y2, y3, y4, y5, y6, y7, y8, -⟩ := Be.out
        obtain ⟨i0, i1, i2, -⟩ := HI.out
        have hew := Be.out.has
        have hiw := HI.out.has
        go_upto_region 7 with fail
        refine tail_region (S := (fun w' => (∀ b o, b < (W5).heap.size → w'.cell? ⟨b, o, none⟩ = (W5).cell? ⟨b, o, none⟩) ∧ (∀ b o, b < (W5).heap.size → w'.frozen? ⟨b, o, none⟩ = (W5).frozen? ⟨b, o, none⟩) ∧ Below (W5).heap.size (W5) w')) 6 (.free 0 (.free 1 (.free 2 (.free 3 (.one 4 (.one 5 .tail)))))) (by kernel_rfl) (by kernel_rfl) (fun _ _ d _ _ h => by cases d <;> exact h) (keepW0 _) (fun hS => ?_)
        simp only [writtenT, List.drop_succ_cons, List.drop_zero, List.getElem?_cons_succ, List.getElem?_cons_zero]
        iterate 4
         refine rz_free (v := ?_) (by rfl) ?_ ?_; rotate_left 1; focus (intro w hSw; (try dsimp only at hSw); go_simp; (try with_reducible rfl))
         (try simp only [Act.put, tA, tB, tC])
        refine rz_call (by rfl) (fun K hK => ?_)
        go_simp
        (refine (HNu.out _ HY.out.drew).mono ?_; rintro q w6 ⟨rfl, hb6⟩)
        (try go_wp2_with fail)
        refine hK.out _ _ ?_ (fun hS' => ?_)
        · (try dsimp only); first | exact keepW (by assumption) (by assumption) | exact keepB (by assumption) (by assumption) | exact keepA (by assumption) | assumption
        clear hS hK K
        have hS := hS'
        clear hS'
        (try simp only [Act.put, tA, tB, tC])
        refine rz_call (by rfl) (fun K hK => ?_)
        go_simp
        (refine (HSh.out _ _).mono ?_; rintro q w7 ⟨rfl, hb7⟩)
        (try go_wp2_with fail)
        refine hK.out _ _ ?_ (fun hS' => ?_)
        · (try dsimp only); first | exact keepW (by assumption) (by assumption) | exact keepB (by assumption) (by assumption) | exact keepA (by assumption) | assumption
        clear hS hK K
        have hS := hS'
        clear hS'
        (try simp only [Act.put, tA, tB, tC])
        refine rz_done ?_
        replace HZ := Lib.hid (HZ.out.below hS.2.2)
        replace HY := Lib.hid (HY.out.nx hS.2.2)
        clear hS hb6 hb7 y0 y1 y2 y3 y4 y5 y6 y7 y8 i0 i1 i2 hew hiw Be HI HNu HSh
        go_wp2_with fail
        refine (HAd.out _ _ HY.out).mono ?_
        rintro q w8 ⟨rfl, ⟨vl, ht⟩, hg8⟩
        replace HZ := Lib.hid (HZ.out.grown hg8 (fun p hp _ => by cases hp; exact HY.out.mine))
        have HT := Lib.hid ht
        clear ht hg8
        go_wp2
        (try simp only [Exit.inBlock, Exit.then])
        refine bodyPost_end (results_none rfl _ _ _) rfl ?_
        exact ⟨rfl, ⟨vl, by rw [HAC.out]; exact HT.out⟩, HZ.out⟩

end Go.Proofs.YtfpofegfbinalaaGreat.Fx
namespace Go.Proofs.YtfpofegfbinalaaGreat.Fx
open Go.ChangeShapes Go.WideShapes Go.ChangeAt Go.RowKit
set_option linter.unusedVariables false
set_option maxRecDepth 100000

theorem len_things (l : List Ent) : (l.length : Int) = things l + (pids l).length := by
  induction l with
  | nil => rfl
  | cons e r ih =>
    rw [things_cons, pids_cons]
    split <;> simp only [List.length_cons] <;> omega

theorem take_gi (l : List Int) {k : Nat} (h : k < l.length) : l.take (k + 1) = l.take k ++ [gi l k] := by
  rw [List.take_succ_eq_append_getElem h]
  simp [gi, List.getD_eq_getElem?_getD, List.getElem?_eq_getElem h]

theorem gi_mem (l : List Int) {k : Nat} (h : k < l.length) : gi l k ∈ l := by
  have : gi l k = l[k] := by simp [gi, List.getD_eq_getElem?_getD, List.getElem?_eq_getElem h]
  rw [this]
  exact List.getElem_mem h

/-- The players' steps so far. -/
def stK (R r f : Int) (inp : Int → Inp) (L : List Ent) (k : Nat) : List Ent × Int := ((pids L).take k).foldl (steer1 R r f inp) (L, 0)

theorem stK_ok {a b p n r f : Int} {inp : Int → Inp} {L : List Ent} (h : Okl a b p n L) (hh : Here a b p n r L) (ht : things L ≤ 24) (hf : 0 ≤ f ∧ f ≤ 10000) (hr : 0 ≤ r ∧ r ≤ 16) (k : Nat) : St1 a b p n r (pids L) (stK (regs a b p n) r f inp L k) := by
  unfold stK
  have key : ∀ (ids : List Int) (st : List Ent × Int), (∀ i ∈ ids, i ∈ pids L) → St1 a b p n r (pids L) st → St1 a b p n r (pids L) (ids.foldl (steer1 (regs a b p n) r f inp) st) := by
    intro ids
    induction ids with
    | nil => exact fun st _ h => h
    | cons i t ih => exact fun st hi hst => ih _ (fun x hx => hi x (by simp [hx])) (steer1_ok hst hf hr i (hi i (by simp)))
  exact key _ _ (fun i hi => List.mem_of_mem_take hi) ⟨h, hh, ht, ⟨Int.le_refl _, by omega⟩, rfl⟩

theorem stK_succ {R r f : Int} {inp : Int → Inp} {L : List Ent} {k : Nat} (h : k < (pids L).length) : stK R r f inp L (k + 1) = steer1 R r f inp (stK R r f inp L k) (gi (pids L) k) := by
  unfold stK
  rw [take_gi _ h, List.foldl_append]
  rfl

set_option maxHeartbeats 4000000 in
theorem tsteer_any {B b : Nat} {w : World} {T : Trn} {L : List Ent} {O : List Crs} (h : Turn B w b T L O) (hok : Okl T.cols T.rows T.players T.window L) (hhere : Here T.cols T.rows T.players T.window T.reg L) (hth : things L ≤ 24) (hm : T.made = 0) (hn : L.length ≤ 200) (hp : T.players ≤ 1000)
    (hf : 0 ≤ T.frame ∧ T.frame ≤ 10000) (hg : 0 ≤ T.reg ∧ T.reg ≤ 16) (v : Value) (ins : List Inp) (hin : ∀ w1, Below B w w1 → IsSl inpC w1 v ins) (hil : (ins.length : Int) = T.players) (inp : Int → Inp) (hinp : ∀ (k : Nat) x, ins[k]? = some x → inp (k + 1) = x) :
    Calls Tryz.prog 54 #[.pointer (some ⟨b, 0, none⟩), v] w fun z w' => z = .returned (.tuple #[]) ∧
      (∃ vl, Turn B w' b ⟨T.cols, T.rows, T.players, T.window, T.seed, T.reg, T.frame, vl, (steers (regs T.cols T.rows T.players T.window) T.reg T.frame inp L (pids L)).2, T.out⟩ (steers (regs T.cols T.rows T.players T.window) T.reg T.frame inp L (pids L)).1 O) ∧ Kept B w w' := by
  have HP := Lib.hid (fun w1 hv => players_any T.list L w1 hv (by omega))
  have HOK := Lib.hid (fun k => stK_ok (inp := inp) hok hhere hth hf hg k)
  have HSU := Lib.hid (fun k h => stK_succ (R := regs T.cols T.rows T.players T.window) (r := T.reg) (f := T.frame) (inp := inp) (L := L) (k := k) h)
  have HEND := Lib.hid (show steers (regs T.cols T.rows T.players T.window) T.reg T.frame inp L (pids L) = stK (regs T.cols T.rows T.players T.window) T.reg T.frame inp L (pids L).length from by unfold steers stK; rw [List.take_length])
  have HPL := Lib.hid (pids_le L)
  have HY := Lib.hid h
  have c7 := h.box.c7
  have Hin := Lib.hid hin
  have Hinp := Lib.hid hinp
  obtain ⟨A, c, rfl, -⟩ := hin w (Below.refl _ _)
  have hsz := h.size
  have Hm := Lib.hid hm
  obtain ⟨N, hN⟩ : ∃ N, ins.length = N := ⟨_, rfl⟩
  have HN := Lib.hid hN
  rw [hN] at hil ⊢
  have Hil := Lib.hid hil
  clear h hin hinp hok hhere hm hN hil
  go_enter Tryz.func54, Tryz.ntmps54
  go_wp2_with fail
  refine (HP.out _ HY.out.sl).mono ?_
  rintro q w1 ⟨v', rfl, ho1, hb1⟩
  have HZ1 := Lib.hid (Kept.of_below B hb1)
  have HY1 := Lib.hid (HY.out.nx hb1)
  have Ho1 := Lib.hid ho1
  obtain ⟨A1, d1, rfl, -⟩ := owned_ints ho1
  clear ho1 hb1 c7 HP
  obtain ⟨n, hnn⟩ : ∃ n, (pids L).length = n := ⟨_, rfl⟩
  have Hn := Lib.hid hnn
  rw [hnn] at Ho1 HEND HPL ⊢
  clear hnn
  have HY0 := Lib.hid (show Turn B w1 b ⟨T.cols, T.rows, T.players, T.window, T.seed, T.reg, T.frame, T.list, (stK (regs T.cols T.rows T.players T.window) T.reg T.frame inp L 0).2, T.out⟩ (stK (regs T.cols T.rows T.players T.window) T.reg T.frame inp L 0).1 O from by
    have e : stK (regs T.cols T.rows T.players T.window) T.reg T.frame inp L 0 = (L, T.made) := by rw [Hm.out]; rfl
    rw [e]; exact HY1.out)
  clear HY1 HY
  have hnb : n ≤ 200 := by have := HPL.out; omega
  go_wp2_with fail
  go_loopw [12] (fun i wr => ∃ k : Nat, k ≤ n ∧ i = .int .i64 k ∧ (∃ vl, Turn B wr b ⟨T.cols, T.rows, T.players, T.window, T.seed, T.reg, T.frame, vl, (stK (regs T.cols T.rows T.players T.window) T.reg T.frame inp L k).2, T.out⟩ (stK (regs T.cols T.rows T.players T.window) T.reg T.frame inp L k).1 O) ∧ wr.ownsRow w.heap.size 3 1 (.slice A1 n d1) n ((pids L).map (Value.int .i64)) ∧ Kept B w wr) (fun i _ => n - (intOf i).toNat)
  case atStart => exact ⟨0, Nat.zero_le _, rfl, ⟨_, HY0.out⟩, Ho1.out, HZ1.out⟩
  case round =>
    obtain ⟨k, hk, rfl, ⟨vl, ht⟩, ho, hz⟩ := hrel
    have HT := Lib.hid ht
    have HO := Lib.hid ho
    have HZ := Lib.hid hz
    clear ht ho hz HY0 HZ1 Ho1
    by_cases hlt : k < n
    · have Hst := Lib.hid (HOK.out k)
      have HS := Lib.hid (HSU.out k (by have := Hn.out; omega))
      have Hmem := Lib.hid (gi_mem (pids L) (k := k) (by have := Hn.out; omega))
      obtain ⟨A2, d2, hA2, hl2, hat2⟩ := owned_ints HO.out
      cases hA2
      obtain ⟨b2, off2, rfl, hc2⟩ := hat2 (by omega)
      have hck := hc2 k hlt
      clear hc2 hat2 hl2
      generalize stK (regs T.cols T.rows T.players T.window) T.reg T.frame inp L k = st at *
      generalize gi (pids L) k = id at *
      obtain ⟨e, he, hek, hei⟩ := pids_mem.1 (show id ∈ pids st.1 by rw [Hst.out.ids]; exact Hmem.out)
      have hbd := player_bd (Hst.out.ok.right e he) hek
      have hid1 : 1 ≤ id ∧ id ≤ N := by have := Hil.out; omega
      obtain ⟨j, hj⟩ : ∃ j : Nat, id = (j : Int) + 1 := ⟨(id - 1).toNat, by omega⟩
      have hjN : j < N := by omega
      obtain ⟨x, hx⟩ := getE ins j N HN.out hjN
      have hix := Hinp.out j x hx
      obtain ⟨b3, off3, hA3, hc3⟩ := elem_Inp (Hin.out _ (HZ.out.old hsz)).at hx
      cases hA3
      obtain ⟨y0, y1, y2⟩ := hc3
      have HA := Lib.hid (show Calls Tryz.prog 96 #[.pointer (some ⟨b, 0, none⟩), .int .i64 ((j : Int) + 1), .agg #[.int .i64 x.dx, .int .i64 x.dy, .bool x.fire]] wr fun z w' => z = .returned (.tuple #[]) ∧ (∃ vl, Turn B w' b ⟨T.cols, T.rows, T.players, T.window, T.seed, T.reg, T.frame, vl, (steer1 (regs T.cols T.rows T.players T.window) T.reg T.frame inp st id).2, T.out⟩ (steer1 (regs T.cols T.rows T.players T.window) T.reg T.frame inp st id).1 O) ∧ Kept B wr w' from by
        have h1 := act_any HT.out Hst.out.ok.rise (by have h1 := len_things st.1; have h2 := Hst.out.few; have h3 := Hst.out.ids; have h4 := Hn.out; rw [h3] at h1; omega) hf hg Hst.out.made e he (by omega) x
        have h2 : steer1 (regs T.cols T.rows T.players T.window) T.reg T.frame inp st id = act1 (regs T.cols T.rows T.players T.window) T.reg T.frame st.1 st.2 id e x := by
          rw [← hix, ← hj]
          exact steer1_act (by rw [← hei]; exact ofId_mem Hst.out.ok.rise he)
        rw [h2, ← hj, ← hei]
        exact h1)
      rw [← HS.out] at HA
      clear hbd he hek hei e hix Hst Hmem hx HS
      subst hj
      have hwj : wrap64 (j : Int) = (j : Int) := IntWalk.wrap64_in _ (by have := Hil.out; omega)
      go_wp2_with fail
      refine HA.out.mono ?_
      rintro q w5 ⟨rfl, ⟨vl5, ht5⟩, hz5⟩
      have HT5 := Lib.hid ht5
      have HZ5 := Lib.hid (HZ.out.trans hz5)
      have HO5 := Lib.hid (hz5.row HO.out (by decide) (by decide) (by decide))
      clear ht5 hz5 HA y0 y1 y2 hck HT HZ HO
      go_wp2
      go_roundw
      case rel => exact ⟨k + 1, by omega, by go_num, ⟨vl5, HT5.out⟩, HO5.out, HZ5.out⟩
      case measure => simp [intOf]; omega
    · obtain rfl : k = n := by omega
      rw [← HEND.out] at HT
      go_wp2
      (try simp only [Exit.inBlock, Exit.then])
      refine bodyPost_end (results_none rfl _ _ _) rfl ?_
      exact ⟨rfl, ⟨vl, HT.out⟩, HZ.out⟩

end Go.Proofs.YtfpofegfbinalaaGreat.Fx
