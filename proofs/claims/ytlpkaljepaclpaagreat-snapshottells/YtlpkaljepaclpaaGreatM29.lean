/- Package snapshot's reader: what message answers where it is none. -/
import Derived.Test.YtlpkaljepaclpaaGreatM26
namespace Go.Proofs.YtlpkaljepaclpaaGreat.Fx
open Go.ChangeShapes Go.WideShapes Go.ChangeAt Go.RowKit
set_option linter.unusedVariables false
set_option maxRecDepth 100000

set_option maxHeartbeats 8000000 in
theorem smessage_3 (b g : Nat) (r : Rd) (w : World) (h : SrAt w b g r false) (hf : r.fine) (h1 : ¬ r.num 0 = 1) (h2 : ¬ r.num 0 = 2) :
    Calls Tryz.prog 74 #[.pointer (some ⟨b, 0, none⟩)] w fun z w' => z = .returned (.agg #[.int .i64 r.crs.1.kind, .int .i64 r.crs.1.src, .int .i64 r.crs.1.dst, .int .i64 r.crs.1.frame, .int .i64 r.crs.1.e.id, .int .i64 r.crs.1.e.kind, .int .i64 r.crs.1.e.x, .int .i64 r.crs.1.e.y, .int .i64 r.crs.1.e.vx, .int .i64 r.crs.1.e.vy, .int .i64 r.crs.1.e.health, .int .i64 r.crs.1.e.age, .int .i64 r.crs.1.e.owner, .int .i64 r.crs.1.x, .int .i64 r.crs.1.y]) ∧ Sr w' b g r.crs.2 ∧ Kp b g w w' := by
  have HS := Lib.hid h
  have HI := Lib.hid (rint_nx b g r hf)
  have HJ := Lib.hid (rint_nx b g (r.nx 4) (hf.nx 4))
  have HEn := Lib.hid (fun w h => sentity_any b g (r.nx 4) w h (hf.nx 4))
  have HE := Lib.hid (show r.crs = if r.num 0 = 1 then (⟨r.num 0, r.num 1, r.num 2, r.num 3, (r.nx 4).ent.1, 0, 0⟩, (r.nx 4).ent.2)
    else if r.num 0 = 2 then (⟨r.num 0, r.num 1, r.num 2, r.num 3, e0, (r.nx 4).num 0, (r.nx 4).num 1⟩, (r.nx 4).nx 2)
    else (⟨r.num 0, r.num 1, r.num 2, r.num 3, e0, 0, 0⟩, (r.nx 4).bad) from rfl)
  have hbl := h.lt
  have hgb := h.ne
  generalize r.crs = RE at *
  have Hkh1 := Lib.hid h1
  have Hkh2 := Lib.hid h2
  clear h h1 h2
  go_enter Tryz.func74, Tryz.ntmps74
  go_upto_region 1 with fail
  generalize hW : World.alloc _ _ = W
  have BR := Lib.hid (show CrsBox W w.heap.size ⟨0, 0, 0, 0, e0, 0, 0⟩ from by rw [← hW]; exact CrsBox.n1 _ ⟨0, 0, 0, 0, e0, 0, 0⟩ _ rfl)
  have HB := Lib.hid (show Below w.heap.size w W from by rw [← hW]; exact (Below.refl _ _).alloc (Nat.le_refl _) _)
  have hWs : w.heap.size < W.heap.size := by rw [← hW]; simp
  clear hW
  have HSW := Lib.hid (HS.out.bel HB.out)
  have hp := HSW.out.p
  go_cut [3] (fun s3 wx => ∃ gx, s3 = .pointer (some ⟨gx, 0, none⟩) ∧ Mid b g gx ⟨r.num 0, r.num 1, r.num 2, r.num 3, e0, 0, 0⟩ (r.nx 4) W wx)
  case first =>
    have hbW : b < W.heap.size := by omega
    refine tail_region (S := (fun w' => w'.cell? ⟨b, 0, none⟩ = some (.pointer (some ⟨g, 0, none⟩)))) 22 (.free 0 (.free 1 (.free 2 (.free 3 (.free 5 (.free 6 (.free 7 (.free 8 (.free 10 (.free 11 (.free 12 (.free 13 (.free 15 (.free 16 (.free 17 (.free 18 (.two 4 (.two 9 (.two 14 (.two 19 (.free 20 (.one 21 .tail)) 21 (.one 19 (.free 20 .tail))) 21 (.one 14 (.one 19 (.free 20 .tail)))) 21 (.one 9 (.one 14 (.one 19 (.free 20 .tail))))) 21 (.one 4 (.one 9 (.one 14 (.one 19 (.free 20 .tail)))))))))))))))))))))) (by kernel_rfl) (by kernel_rfl) (fun _ _ d _ _ h => by cases d <;> exact h) (hp) (fun hS => ?_)
    simp only [writtenT, List.drop_succ_cons, List.drop_zero, List.getElem?_cons_succ, List.getElem?_cons_zero]
    iterate 16
     refine rz_free (v := ?_) (by rfl) ?_ ?_; rotate_left 1; focus (intro w hSw; (try dsimp only at hSw); go_simp; (try with_reducible rfl))
     (try simp only [Act.put, tA, tB, tC])
    refine rz_two ?_ ?_
    · skip
      refine rz_call (by rfl) (fun K hK => ?_)
      go_simp
      (refine (HI.out 0 1 rfl _ (by first | exact HSW.out.rd.bel (Below.refl _ _).drew | exact HSW.out.rd.bel (((Below.refl _ _).alloc (Nat.le_refl _) _).drew))).mono ?_; rintro e w1 ⟨rfl, h1, hg1⟩)
      (try go_wp2_with fail)
      refine hK.out _ _ ?_ (fun hS' => ?_)
      · (try dsimp only); first | exact grown_cell hg4 (by simpa using Nat.ne_of_gt HSW.out.ne) hS | exact grown_cell hg3 (by simpa using Nat.ne_of_gt HSW.out.ne) hS | exact grown_cell hg2 (by simpa using Nat.ne_of_gt HSW.out.ne) hS | exact grown_cell hg1 (by simpa using Nat.ne_of_gt HSW.out.ne) hS
      clear hS hK K
      have hS := hS'
      clear hS'
      (try simp only [Act.put, tA, tB, tC])
      refine rz_two ?_ ?_
      · skip
        refine rz_call (by rfl) (fun K hK => ?_)
        go_simp
        (refine (HI.out 1 2 rfl _ (by first | exact h1 | exact RdAt.bel (h1) ((Below.refl _ _).alloc (Nat.le_refl _) _))).mono ?_; rintro e w2 ⟨rfl, h2, hg2⟩)
        (try go_wp2_with fail)
        refine hK.out _ _ ?_ (fun hS' => ?_)
        · (try dsimp only); first | exact grown_cell hg4 (by simpa using Nat.ne_of_gt HSW.out.ne) hS | exact grown_cell hg3 (by simpa using Nat.ne_of_gt HSW.out.ne) hS | exact grown_cell hg2 (by simpa using Nat.ne_of_gt HSW.out.ne) hS | exact grown_cell hg1 (by simpa using Nat.ne_of_gt HSW.out.ne) hS
        clear hS hK K
        have hS := hS'
        clear hS'
        (try simp only [Act.put, tA, tB, tC])
        refine rz_two ?_ ?_
        · skip
          refine rz_call (by rfl) (fun K hK => ?_)
          go_simp
          (refine (HI.out 2 3 rfl _ (by first | exact h2 | exact RdAt.bel (h2) ((Below.refl _ _).alloc (Nat.le_refl _) _))).mono ?_; rintro e w3 ⟨rfl, h3, hg3⟩)
          (try go_wp2_with fail)
          refine hK.out _ _ ?_ (fun hS' => ?_)
          · (try dsimp only); first | exact grown_cell hg4 (by simpa using Nat.ne_of_gt HSW.out.ne) hS | exact grown_cell hg3 (by simpa using Nat.ne_of_gt HSW.out.ne) hS | exact grown_cell hg2 (by simpa using Nat.ne_of_gt HSW.out.ne) hS | exact grown_cell hg1 (by simpa using Nat.ne_of_gt HSW.out.ne) hS
          clear hS hK K
          have hS := hS'
          clear hS'
          (try simp only [Act.put, tA, tB, tC])
          refine rz_two ?_ ?_
          · skip
            refine rz_call (by rfl) (fun K hK => ?_)
            go_simp
            (refine (HI.out 3 4 rfl _ (by first | exact h3 | exact RdAt.bel (h3) ((Below.refl _ _).alloc (Nat.le_refl _) _))).mono ?_; rintro e w4 ⟨rfl, h4, hg4⟩)
            (try go_wp2_with fail)
            refine hK.out _ _ ?_ (fun hS' => ?_)
            · (try dsimp only); first | exact grown_cell hg4 (by simpa using Nat.ne_of_gt HSW.out.ne) hS | exact grown_cell hg3 (by simpa using Nat.ne_of_gt HSW.out.ne) hS | exact grown_cell hg2 (by simpa using Nat.ne_of_gt HSW.out.ne) hS | exact grown_cell hg1 (by simpa using Nat.ne_of_gt HSW.out.ne) hS
            clear hS hK K
            have hS := hS'
            clear hS'
            (try simp only [Act.put, tA, tB, tC])
            refine rz_free (v := ?_) (by rfl) ?_ ?_; rotate_left 1; focus (intro w hSw; (try dsimp only at hSw); go_simp; (try with_reducible rfl))
            (try simp only [Act.put, tA, tB, tC])
            refine rz_call (by rfl) (fun K hK => ?_)
            go_simp
            (skip)
            (try go_wp2_with fail)
            refine hK.out _ _ ?_ (fun hS' => ?_)
            · (try dsimp only); first | (rw [World.cell?_alloc_lt _ _ _ (World.block_lt_of_cell? _ _ hS)]; exact hS) | exact ((((Below.refl _ W).alloc (Nat.le_refl _) _).drew).cell (p := ⟨b, 0, none⟩) hbW).trans hp
            clear hS hK K
            have hS := hS'
            clear hS'
            (try simp only [Act.put, tA, tB, tC])
            refine rz_done ?_
            have MD := Lib.hid (show Mid b g _ ⟨0, 0, 0, 0, e0, 0, 0⟩ (r.nx 4) W _ from by first | exact (((((Mid.new 50 HSW.out (Kp.refl _ _ _)).bel (Below.refl _ _).drew).go hbW h1 hg1).go hbW h2 hg2).go hbW h3 hg3).go hbW h4 hg4 | exact (((Mid.new 50 ((HSW.out.bel (Below.refl _ _).drew).rdd hg1 h1) ((Kp.of_below (Below.refl _ _).drew).trans (Kp.of_g hg1))).go hbW h2 hg2).go hbW h3 hg3).go hbW h4 hg4 | exact ((Mid.new 50 (((HSW.out.bel (Below.refl _ _).drew).rdd hg1 h1).rdd hg2 h2) (((Kp.of_below (Below.refl _ _).drew).trans (Kp.of_g hg1)).trans (Kp.of_g hg2))).go hbW h3 hg3).go hbW h4 hg4 | exact (Mid.new 50 ((((HSW.out.bel (Below.refl _ _).drew).rdd hg1 h1).rdd hg2 h2).rdd hg3 h3) ((((Kp.of_below (Below.refl _ _).drew).trans (Kp.of_g hg1)).trans (Kp.of_g hg2)).trans (Kp.of_g hg3))).go hbW h4 hg4 | exact Mid.new 50 (((((HSW.out.bel (Below.refl _ _).drew).rdd hg1 h1).rdd hg2 h2).rdd hg3 h3).rdd hg4 h4) (((((Kp.of_below (Below.refl _ _).drew).trans (Kp.of_g hg1)).trans (Kp.of_g hg2)).trans (Kp.of_g hg3)).trans (Kp.of_g hg4)))
            (try generalize World.alloc _ _ = W9 at *)
            obtain ⟨MX, MS, MK, ML⟩ := MD.out
            have hgl := MX.has
            obtain ⟨c0, c1, c2, c3, c4, c5, c6, c7, c8, c9, c10, c11, c12, c13, c14, f0, f1, f2, f3, f4, f5, f6, f7, f8, f9, f10, f11, f12, f13, f14⟩ := MX
            clear MS MK
            go_wp2_with fail
            go_meet
            refine ⟨_, rfl, ?_⟩
            exact MD.out.put hbW ⟨r.num 0, r.num 1, r.num 2, r.num 3, e0, 0, 0⟩
          · skip
            refine rz_call (by rfl) (fun K hK => ?_)
            go_simp
            (skip)
            (try go_wp2_with fail)
            refine hK.out _ _ ?_ (fun hS' => ?_)
            · (try dsimp only); first | (rw [World.cell?_alloc_lt _ _ _ (World.block_lt_of_cell? _ _ hS)]; exact hS) | exact ((((Below.refl _ W).alloc (Nat.le_refl _) _).drew).cell (p := ⟨b, 0, none⟩) hbW).trans hp
            clear hS hK K
            have hS := hS'
            clear hS'
            (try simp only [Act.put, tA, tB, tC])
            refine rz_call (by rfl) (fun K hK => ?_)
            go_simp
            (refine (HI.out 3 4 rfl _ (by first | exact h3 | exact RdAt.bel (h3) ((Below.refl _ _).alloc (Nat.le_refl _) _))).mono ?_; rintro e w4 ⟨rfl, h4, hg4⟩)
            (try go_wp2_with fail)
            refine hK.out _ _ ?_ (fun hS' => ?_)
            · (try dsimp only); first | exact grown_cell hg4 (by simpa using Nat.ne_of_gt HSW.out.ne) hS | exact grown_cell hg3 (by simpa using Nat.ne_of_gt HSW.out.ne) hS | exact grown_cell hg2 (by simpa using Nat.ne_of_gt HSW.out.ne) hS | exact grown_cell hg1 (by simpa using Nat.ne_of_gt HSW.out.ne) hS
            clear hS hK K
            have hS := hS'
            clear hS'
            (try simp only [Act.put, tA, tB, tC])
            refine rz_free (v := ?_) (by rfl) ?_ ?_; rotate_left 1; focus (intro w hSw; (try dsimp only at hSw); go_simp; (try with_reducible rfl))
            (try simp only [Act.put, tA, tB, tC])
            refine rz_done ?_
            have MD := Lib.hid (show Mid b g _ ⟨0, 0, 0, 0, e0, 0, 0⟩ (r.nx 4) W _ from by first | exact (((((Mid.new 50 HSW.out (Kp.refl _ _ _)).bel (Below.refl _ _).drew).go hbW h1 hg1).go hbW h2 hg2).go hbW h3 hg3).go hbW h4 hg4 | exact (((Mid.new 50 ((HSW.out.bel (Below.refl _ _).drew).rdd hg1 h1) ((Kp.of_below (Below.refl _ _).drew).trans (Kp.of_g hg1))).go hbW h2 hg2).go hbW h3 hg3).go hbW h4 hg4 | exact ((Mid.new 50 (((HSW.out.bel (Below.refl _ _).drew).rdd hg1 h1).rdd hg2 h2) (((Kp.of_below (Below.refl _ _).drew).trans (Kp.of_g hg1)).trans (Kp.of_g hg2))).go hbW h3 hg3).go hbW h4 hg4 | exact (Mid.new 50 ((((HSW.out.bel (Below.refl _ _).drew).rdd hg1 h1).rdd hg2 h2).rdd hg3 h3) ((((Kp.of_below (Below.refl _ _).drew).trans (Kp.of_g hg1)).trans (Kp.of_g hg2)).trans (Kp.of_g hg3))).go hbW h4 hg4 | exact Mid.new 50 (((((HSW.out.bel (Below.refl _ _).drew).rdd hg1 h1).rdd hg2 h2).rdd hg3 h3).rdd hg4 h4) (((((Kp.of_below (Below.refl _ _).drew).trans (Kp.of_g hg1)).trans (Kp.of_g hg2)).trans (Kp.of_g hg3)).trans (Kp.of_g hg4)))
            (try generalize World.alloc _ _ = W9 at *)
            obtain ⟨MX, MS, MK, ML⟩ := MD.out
            have hgl := MX.has
            obtain ⟨c0, c1, c2, c3, c4, c5, c6, c7, c8, c9, c10, c11, c12, c13, c14, f0, f1, f2, f3, f4, f5, f6, f7, f8, f9, f10, f11, f12, f13, f14⟩ := MX
            clear MS MK
            go_wp2_with fail
            go_meet
            refine ⟨_, rfl, ?_⟩
            exact MD.out.put hbW ⟨r.num 0, r.num 1, r.num 2, r.num 3, e0, 0, 0⟩
        · skip
          refine rz_call (by rfl) (fun K hK => ?_)
          go_simp
          (skip)
          (try go_wp2_with fail)
          refine hK.out _ _ ?_ (fun hS' => ?_)
          · (try dsimp only); first | (rw [World.cell?_alloc_lt _ _ _ (World.block_lt_of_cell? _ _ hS)]; exact hS) | exact ((((Below.refl _ W).alloc (Nat.le_refl _) _).drew).cell (p := ⟨b, 0, none⟩) hbW).trans hp
          clear hS hK K
          have hS := hS'
          clear hS'
          (try simp only [Act.put, tA, tB, tC])
          refine rz_call (by rfl) (fun K hK => ?_)
          go_simp
          (refine (HI.out 2 3 rfl _ (by first | exact h2 | exact RdAt.bel (h2) ((Below.refl _ _).alloc (Nat.le_refl _) _))).mono ?_; rintro e w3 ⟨rfl, h3, hg3⟩)
          (try go_wp2_with fail)
          refine hK.out _ _ ?_ (fun hS' => ?_)
          · (try dsimp only); first | exact grown_cell hg4 (by simpa using Nat.ne_of_gt HSW.out.ne) hS | exact grown_cell hg3 (by simpa using Nat.ne_of_gt HSW.out.ne) hS | exact grown_cell hg2 (by simpa using Nat.ne_of_gt HSW.out.ne) hS | exact grown_cell hg1 (by simpa using Nat.ne_of_gt HSW.out.ne) hS
          clear hS hK K
          have hS := hS'
          clear hS'
          (try simp only [Act.put, tA, tB, tC])
          refine rz_call (by rfl) (fun K hK => ?_)
          go_simp
          (refine (HI.out 3 4 rfl _ (by first | exact h3 | exact RdAt.bel (h3) ((Below.refl _ _).alloc (Nat.le_refl _) _))).mono ?_; rintro e w4 ⟨rfl, h4, hg4⟩)
          (try go_wp2_with fail)
          refine hK.out _ _ ?_ (fun hS' => ?_)
          · (try dsimp only); first | exact grown_cell hg4 (by simpa using Nat.ne_of_gt HSW.out.ne) hS | exact grown_cell hg3 (by simpa using Nat.ne_of_gt HSW.out.ne) hS | exact grown_cell hg2 (by simpa using Nat.ne_of_gt HSW.out.ne) hS | exact grown_cell hg1 (by simpa using Nat.ne_of_gt HSW.out.ne) hS
          clear hS hK K
          have hS := hS'
          clear hS'
          (try simp only [Act.put, tA, tB, tC])
          refine rz_free (v := ?_) (by rfl) ?_ ?_; rotate_left 1; focus (intro w hSw; (try dsimp only at hSw); go_simp; (try with_reducible rfl))
          (try simp only [Act.put, tA, tB, tC])
          refine rz_done ?_
          have MD := Lib.hid (show Mid b g _ ⟨0, 0, 0, 0, e0, 0, 0⟩ (r.nx 4) W _ from by first | exact (((((Mid.new 50 HSW.out (Kp.refl _ _ _)).bel (Below.refl _ _).drew).go hbW h1 hg1).go hbW h2 hg2).go hbW h3 hg3).go hbW h4 hg4 | exact (((Mid.new 50 ((HSW.out.bel (Below.refl _ _).drew).rdd hg1 h1) ((Kp.of_below (Below.refl _ _).drew).trans (Kp.of_g hg1))).go hbW h2 hg2).go hbW h3 hg3).go hbW h4 hg4 | exact ((Mid.new 50 (((HSW.out.bel (Below.refl _ _).drew).rdd hg1 h1).rdd hg2 h2) (((Kp.of_below (Below.refl _ _).drew).trans (Kp.of_g hg1)).trans (Kp.of_g hg2))).go hbW h3 hg3).go hbW h4 hg4 | exact (Mid.new 50 ((((HSW.out.bel (Below.refl _ _).drew).rdd hg1 h1).rdd hg2 h2).rdd hg3 h3) ((((Kp.of_below (Below.refl _ _).drew).trans (Kp.of_g hg1)).trans (Kp.of_g hg2)).trans (Kp.of_g hg3))).go hbW h4 hg4 | exact Mid.new 50 (((((HSW.out.bel (Below.refl _ _).drew).rdd hg1 h1).rdd hg2 h2).rdd hg3 h3).rdd hg4 h4) (((((Kp.of_below (Below.refl _ _).drew).trans (Kp.of_g hg1)).trans (Kp.of_g hg2)).trans (Kp.of_g hg3)).trans (Kp.of_g hg4)))
          (try generalize World.alloc _ _ = W9 at *)
          obtain ⟨MX, MS, MK, ML⟩ := MD.out
          have hgl := MX.has
          obtain ⟨c0, c1, c2, c3, c4, c5, c6, c7, c8, c9, c10, c11, c12, c13, c14, f0, f1, f2, f3, f4, f5, f6, f7, f8, f9, f10, f11, f12, f13, f14⟩ := MX
          clear MS MK
          go_wp2_with fail
          go_meet
          refine ⟨_, rfl, ?_⟩
          exact MD.out.put hbW ⟨r.num 0, r.num 1, r.num 2, r.num 3, e0, 0, 0⟩
      · skip
        refine rz_call (by rfl) (fun K hK => ?_)
        go_simp
        (skip)
        (try go_wp2_with fail)
        refine hK.out _ _ ?_ (fun hS' => ?_)
        · (try dsimp only); first | (rw [World.cell?_alloc_lt _ _ _ (World.block_lt_of_cell? _ _ hS)]; exact hS) | exact ((((Below.refl _ W).alloc (Nat.le_refl _) _).drew).cell (p := ⟨b, 0, none⟩) hbW).trans hp
        clear hS hK K
        have hS := hS'
        clear hS'
        (try simp only [Act.put, tA, tB, tC])
        refine rz_call (by rfl) (fun K hK => ?_)
        go_simp
        (refine (HI.out 1 2 rfl _ (by first | exact h1 | exact RdAt.bel (h1) ((Below.refl _ _).alloc (Nat.le_refl _) _))).mono ?_; rintro e w2 ⟨rfl, h2, hg2⟩)
        (try go_wp2_with fail)
        refine hK.out _ _ ?_ (fun hS' => ?_)
        · (try dsimp only); first | exact grown_cell hg4 (by simpa using Nat.ne_of_gt HSW.out.ne) hS | exact grown_cell hg3 (by simpa using Nat.ne_of_gt HSW.out.ne) hS | exact grown_cell hg2 (by simpa using Nat.ne_of_gt HSW.out.ne) hS | exact grown_cell hg1 (by simpa using Nat.ne_of_gt HSW.out.ne) hS
        clear hS hK K
        have hS := hS'
        clear hS'
        (try simp only [Act.put, tA, tB, tC])
        refine rz_call (by rfl) (fun K hK => ?_)
        go_simp
        (refine (HI.out 2 3 rfl _ (by first | exact h2 | exact RdAt.bel (h2) ((Below.refl _ _).alloc (Nat.le_refl _) _))).mono ?_; rintro e w3 ⟨rfl, h3, hg3⟩)
        (try go_wp2_with fail)
        refine hK.out _ _ ?_ (fun hS' => ?_)
        · (try dsimp only); first | exact grown_cell hg4 (by simpa using Nat.ne_of_gt HSW.out.ne) hS | exact grown_cell hg3 (by simpa using Nat.ne_of_gt HSW.out.ne) hS | exact grown_cell hg2 (by simpa using Nat.ne_of_gt HSW.out.ne) hS | exact grown_cell hg1 (by simpa using Nat.ne_of_gt HSW.out.ne) hS
        clear hS hK K
        have hS := hS'
        clear hS'
        (try simp only [Act.put, tA, tB, tC])
        refine rz_call (by rfl) (fun K hK => ?_)
        go_simp
        (refine (HI.out 3 4 rfl _ (by first | exact h3 | exact RdAt.bel (h3) ((Below.refl _ _).alloc (Nat.le_refl _) _))).mono ?_; rintro e w4 ⟨rfl, h4, hg4⟩)
        (try go_wp2_with fail)
        refine hK.out _ _ ?_ (fun hS' => ?_)
        · (try dsimp only); first | exact grown_cell hg4 (by simpa using Nat.ne_of_gt HSW.out.ne) hS | exact grown_cell hg3 (by simpa using Nat.ne_of_gt HSW.out.ne) hS | exact grown_cell hg2 (by simpa using Nat.ne_of_gt HSW.out.ne) hS | exact grown_cell hg1 (by simpa using Nat.ne_of_gt HSW.out.ne) hS
        clear hS hK K
        have hS := hS'
        clear hS'
        (try simp only [Act.put, tA, tB, tC])
        refine rz_free (v := ?_) (by rfl) ?_ ?_; rotate_left 1; focus (intro w hSw; (try dsimp only at hSw); go_simp; (try with_reducible rfl))
        (try simp only [Act.put, tA, tB, tC])
        refine rz_done ?_
        have MD := Lib.hid (show Mid b g _ ⟨0, 0, 0, 0, e0, 0, 0⟩ (r.nx 4) W _ from by first | exact (((((Mid.new 50 HSW.out (Kp.refl _ _ _)).bel (Below.refl _ _).drew).go hbW h1 hg1).go hbW h2 hg2).go hbW h3 hg3).go hbW h4 hg4 | exact (((Mid.new 50 ((HSW.out.bel (Below.refl _ _).drew).rdd hg1 h1) ((Kp.of_below (Below.refl _ _).drew).trans (Kp.of_g hg1))).go hbW h2 hg2).go hbW h3 hg3).go hbW h4 hg4 | exact ((Mid.new 50 (((HSW.out.bel (Below.refl _ _).drew).rdd hg1 h1).rdd hg2 h2) (((Kp.of_below (Below.refl _ _).drew).trans (Kp.of_g hg1)).trans (Kp.of_g hg2))).go hbW h3 hg3).go hbW h4 hg4 | exact (Mid.new 50 ((((HSW.out.bel (Below.refl _ _).drew).rdd hg1 h1).rdd hg2 h2).rdd hg3 h3) ((((Kp.of_below (Below.refl _ _).drew).trans (Kp.of_g hg1)).trans (Kp.of_g hg2)).trans (Kp.of_g hg3))).go hbW h4 hg4 | exact Mid.new 50 (((((HSW.out.bel (Below.refl _ _).drew).rdd hg1 h1).rdd hg2 h2).rdd hg3 h3).rdd hg4 h4) (((((Kp.of_below (Below.refl _ _).drew).trans (Kp.of_g hg1)).trans (Kp.of_g hg2)).trans (Kp.of_g hg3)).trans (Kp.of_g hg4)))
        (try generalize World.alloc _ _ = W9 at *)
        obtain ⟨MX, MS, MK, ML⟩ := MD.out
        have hgl := MX.has
        obtain ⟨c0, c1, c2, c3, c4, c5, c6, c7, c8, c9, c10, c11, c12, c13, c14, f0, f1, f2, f3, f4, f5, f6, f7, f8, f9, f10, f11, f12, f13, f14⟩ := MX
        clear MS MK
        go_wp2_with fail
        go_meet
        refine ⟨_, rfl, ?_⟩
        exact MD.out.put hbW ⟨r.num 0, r.num 1, r.num 2, r.num 3, e0, 0, 0⟩
    · skip
      refine rz_call (by rfl) (fun K hK => ?_)
      go_simp
      (skip)
      (try go_wp2_with fail)
      refine hK.out _ _ ?_ (fun hS' => ?_)
      · (try dsimp only); first | (rw [World.cell?_alloc_lt _ _ _ (World.block_lt_of_cell? _ _ hS)]; exact hS) | exact ((((Below.refl _ W).alloc (Nat.le_refl _) _).drew).cell (p := ⟨b, 0, none⟩) hbW).trans hp
      clear hS hK K
      have hS := hS'
      clear hS'
      (try simp only [Act.put, tA, tB, tC])
      refine rz_call (by rfl) (fun K hK => ?_)
      go_simp
      (refine (HI.out 0 1 rfl _ (by first | exact HSW.out.rd.bel (Below.refl _ _).drew | exact HSW.out.rd.bel (((Below.refl _ _).alloc (Nat.le_refl _) _).drew))).mono ?_; rintro e w1 ⟨rfl, h1, hg1⟩)
      (try go_wp2_with fail)
      refine hK.out _ _ ?_ (fun hS' => ?_)
      · (try dsimp only); first | exact grown_cell hg4 (by simpa using Nat.ne_of_gt HSW.out.ne) hS | exact grown_cell hg3 (by simpa using Nat.ne_of_gt HSW.out.ne) hS | exact grown_cell hg2 (by simpa using Nat.ne_of_gt HSW.out.ne) hS | exact grown_cell hg1 (by simpa using Nat.ne_of_gt HSW.out.ne) hS
      clear hS hK K
      have hS := hS'
      clear hS'
      (try simp only [Act.put, tA, tB, tC])
      refine rz_call (by rfl) (fun K hK => ?_)
      go_simp
      (refine (HI.out 1 2 rfl _ (by first | exact h1 | exact RdAt.bel (h1) ((Below.refl _ _).alloc (Nat.le_refl _) _))).mono ?_; rintro e w2 ⟨rfl, h2, hg2⟩)
      (try go_wp2_with fail)
      refine hK.out _ _ ?_ (fun hS' => ?_)
      · (try dsimp only); first | exact grown_cell hg4 (by simpa using Nat.ne_of_gt HSW.out.ne) hS | exact grown_cell hg3 (by simpa using Nat.ne_of_gt HSW.out.ne) hS | exact grown_cell hg2 (by simpa using Nat.ne_of_gt HSW.out.ne) hS | exact grown_cell hg1 (by simpa using Nat.ne_of_gt HSW.out.ne) hS
      clear hS hK K
      have hS := hS'
      clear hS'
      (try simp only [Act.put, tA, tB, tC])
      refine rz_call (by rfl) (fun K hK => ?_)
      go_simp
      (refine (HI.out 2 3 rfl _ (by first | exact h2 | exact RdAt.bel (h2) ((Below.refl _ _).alloc (Nat.le_refl _) _))).mono ?_; rintro e w3 ⟨rfl, h3, hg3⟩)
      (try go_wp2_with fail)
      refine hK.out _ _ ?_ (fun hS' => ?_)
      · (try dsimp only); first | exact grown_cell hg4 (by simpa using Nat.ne_of_gt HSW.out.ne) hS | exact grown_cell hg3 (by simpa using Nat.ne_of_gt HSW.out.ne) hS | exact grown_cell hg2 (by simpa using Nat.ne_of_gt HSW.out.ne) hS | exact grown_cell hg1 (by simpa using Nat.ne_of_gt HSW.out.ne) hS
      clear hS hK K
      have hS := hS'
      clear hS'
      (try simp only [Act.put, tA, tB, tC])
      refine rz_call (by rfl) (fun K hK => ?_)
      go_simp
      (refine (HI.out 3 4 rfl _ (by first | exact h3 | exact RdAt.bel (h3) ((Below.refl _ _).alloc (Nat.le_refl _) _))).mono ?_; rintro e w4 ⟨rfl, h4, hg4⟩)
      (try go_wp2_with fail)
      refine hK.out _ _ ?_ (fun hS' => ?_)
      · (try dsimp only); first | exact grown_cell hg4 (by simpa using Nat.ne_of_gt HSW.out.ne) hS | exact grown_cell hg3 (by simpa using Nat.ne_of_gt HSW.out.ne) hS | exact grown_cell hg2 (by simpa using Nat.ne_of_gt HSW.out.ne) hS | exact grown_cell hg1 (by simpa using Nat.ne_of_gt HSW.out.ne) hS
      clear hS hK K
      have hS := hS'
      clear hS'
      (try simp only [Act.put, tA, tB, tC])
      refine rz_free (v := ?_) (by rfl) ?_ ?_; rotate_left 1; focus (intro w hSw; (try dsimp only at hSw); go_simp; (try with_reducible rfl))
      (try simp only [Act.put, tA, tB, tC])
      refine rz_done ?_
      have MD := Lib.hid (show Mid b g _ ⟨0, 0, 0, 0, e0, 0, 0⟩ (r.nx 4) W _ from by first | exact (((((Mid.new 50 HSW.out (Kp.refl _ _ _)).bel (Below.refl _ _).drew).go hbW h1 hg1).go hbW h2 hg2).go hbW h3 hg3).go hbW h4 hg4 | exact (((Mid.new 50 ((HSW.out.bel (Below.refl _ _).drew).rdd hg1 h1) ((Kp.of_below (Below.refl _ _).drew).trans (Kp.of_g hg1))).go hbW h2 hg2).go hbW h3 hg3).go hbW h4 hg4 | exact ((Mid.new 50 (((HSW.out.bel (Below.refl _ _).drew).rdd hg1 h1).rdd hg2 h2) (((Kp.of_below (Below.refl _ _).drew).trans (Kp.of_g hg1)).trans (Kp.of_g hg2))).go hbW h3 hg3).go hbW h4 hg4 | exact (Mid.new 50 ((((HSW.out.bel (Below.refl _ _).drew).rdd hg1 h1).rdd hg2 h2).rdd hg3 h3) ((((Kp.of_below (Below.refl _ _).drew).trans (Kp.of_g hg1)).trans (Kp.of_g hg2)).trans (Kp.of_g hg3))).go hbW h4 hg4 | exact Mid.new 50 (((((HSW.out.bel (Below.refl _ _).drew).rdd hg1 h1).rdd hg2 h2).rdd hg3 h3).rdd hg4 h4) (((((Kp.of_below (Below.refl _ _).drew).trans (Kp.of_g hg1)).trans (Kp.of_g hg2)).trans (Kp.of_g hg3)).trans (Kp.of_g hg4)))
      (try generalize World.alloc _ _ = W9 at *)
      obtain ⟨MX, MS, MK, ML⟩ := MD.out
      have hgl := MX.has
      obtain ⟨c0, c1, c2, c3, c4, c5, c6, c7, c8, c9, c10, c11, c12, c13, c14, f0, f1, f2, f3, f4, f5, f6, f7, f8, f9, f10, f11, f12, f13, f14⟩ := MX
      clear MS MK
      go_wp2_with fail
      go_meet
      refine ⟨_, rfl, ?_⟩
      exact MD.out.put hbW ⟨r.num 0, r.num 1, r.num 2, r.num 3, e0, 0, 0⟩
  case rest =>
    obtain ⟨gx, rfl, hm⟩ := hcut
    have MD := Lib.hid hm
    obtain ⟨MX, MS, MK, ML⟩ := hm
    have hgx := MX.has
    have BX := Lib.hid MX
    have hz1 : w.heap.size ≠ b := by omega
    have hz2 : w.heap.size ≠ g := by omega
    have BRc := Lib.hid (BR.out.kp MK hz1 hz2)
    have hrx := BRc.out.has
    have HK0 := Lib.hid (Kp.of_below HB.out |>.trans MK)
    clear MX MS MK BR HSW hp HI HS
    generalize r.num 0 = n0 at *
    have h1 := Hkh1.out
    have h2 := Hkh2.out
    generalize r.num 1 = n1 at *
    generalize r.num 2 = n2 at *
    generalize r.num 3 = n3 at *
    generalize hr4 : r.nx 4 = r4 at *
    obtain ⟨c0, -⟩ := BX.out
    have hgb1 : gx ≠ b := by omega
    have hgb2 : gx ≠ g := by omega
    have hgr2 : gx ≠ w.heap.size := by omega
    have hgr3 : w.heap.size ≠ gx := by omega
    rw [if_neg h1] at HE
    have d1 : (n0 == 1) = false := by simpa using h1
    clear h1
    rw [if_neg h2] at HE
    have d2 : (n0 == 2) = false := by simpa using h2
    clear h2 HEn c0
    have hS5 := MD.out.2.1
    have HS5 := Lib.hid hS5
    have hbl5 := hS5.lt
    have b1 := hS5.q
    have bf := hS5.f
    obtain ⟨c0, c1, c2, c3, c4, c5, c6, c7, c8, c9, c10, c11, c12, c13, c14, f0, f1, f2, f3, f4, f5, f6, f7, f8, f9, f10, f11, f12, f13, f14⟩ := BX.out
    obtain ⟨d0, d1, d2, d3, d4, d5, d6, d7, d8, d9, d10, d11, d12, d13, d14, q0, q1, q2, q3, q4, q5, q6, q7, q8, q9, q10, q11, q12, q13, q14⟩ := BRc.out
    clear hS5
    generalize hgr : w.heap.size = gr at *
    go_wp2
    refine bodyPost_ret (v := .agg #[.int .i64 (⟨n0, n1, n2, n3, e0, 0, 0⟩ : Crs).kind, .int .i64 (⟨n0, n1, n2, n3, e0, 0, 0⟩ : Crs).src, .int .i64 (⟨n0, n1, n2, n3, e0, 0, 0⟩ : Crs).dst, .int .i64 (⟨n0, n1, n2, n3, e0, 0, 0⟩ : Crs).frame, .int .i64 (⟨n0, n1, n2, n3, e0, 0, 0⟩ : Crs).e.id, .int .i64 (⟨n0, n1, n2, n3, e0, 0, 0⟩ : Crs).e.kind, .int .i64 (⟨n0, n1, n2, n3, e0, 0, 0⟩ : Crs).e.x, .int .i64 (⟨n0, n1, n2, n3, e0, 0, 0⟩ : Crs).e.y, .int .i64 (⟨n0, n1, n2, n3, e0, 0, 0⟩ : Crs).e.vx, .int .i64 (⟨n0, n1, n2, n3, e0, 0, 0⟩ : Crs).e.vy, .int .i64 (⟨n0, n1, n2, n3, e0, 0, 0⟩ : Crs).e.health, .int .i64 (⟨n0, n1, n2, n3, e0, 0, 0⟩ : Crs).e.age, .int .i64 (⟨n0, n1, n2, n3, e0, 0, 0⟩ : Crs).e.owner, .int .i64 (⟨n0, n1, n2, n3, e0, 0, 0⟩ : Crs).x, .int .i64 (⟨n0, n1, n2, n3, e0, 0, 0⟩ : Crs).y]) (by simp [results, Tryz.results74, go_sem, d0, d1, d2, d3, d4, d5, d6, d7, d8, d9, d10, d11, d12, d13, d14]) rfl ⟨by rw [HE.out], ?_, ?_⟩
    · rw [HE.out]
      refine .inr ⟨r4, ?_, rfl⟩
      iterate 15 (refine SrAt.far ?_ (by omega) (by omega) _ _)
      exact HS5.out.strange
    · iterate 15 (refine Kp.set ?_ (by omega))
      exact Kp.set2 HK0.out

end Go.Proofs.YtlpkaljepaclpaaGreat.Fx
