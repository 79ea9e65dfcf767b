/- Which messages are right: the document's answer (joustref05.Cross). -/
import Derived.Test.YtlpkaljepaclpaaGreatM10
namespace Go.Proofs.YtlpkaljepaclpaaGreat.Fx
open Go.ChangeShapes Go.WideShapes Go.ChangeAt Go.RowKit
set_option linter.unusedVariables false
set_option maxRecDepth 100000

set_option maxHeartbeats 4000000 in
theorem rcross_any (a b p n s : Int) (c : Crs) (w : World) :
    Calls Tryz.prog 70 #[.agg #[.int .i64 a, .int .i64 b, .int .i64 p, .int .i64 n, .int .u64 s], .agg #[.int .i64 c.kind, .int .i64 c.src, .int .i64 c.dst, .int .i64 c.frame, .int .i64 c.e.id, .int .i64 c.e.kind, .int .i64 c.e.x, .int .i64 c.e.y, .int .i64 c.e.vx, .int .i64 c.e.vy, .int .i64 c.e.health, .int .i64 c.e.age, .int .i64 c.e.owner, .int .i64 c.x, .int .i64 c.y]] w fun e w' => e = .returned (.bool (crightB a b p n c)) ∧ Below w.heap.size w w' := by
  have HS0 := Lib.hid (fun w => is_any a b p n s c.src w)
  have HN := Lib.hid (fun w => rnear_any a b p n s c.src w)
  have HNl := Lib.hid (show (nr a b p n c.src).length ≤ 1000000 from by
    unfold nr
    split
    · rename_i h
      obtain ⟨-, -, -, ha, ha4, hb, hb4, -⟩ := hasB_rt h
      have := nrTo_len a c.src (a * b).toNat
      have := mul_le4 ha ha4 hb hb4
      omega
    · simp)
  have HI := Lib.hid (fun A k l w hl => in_any A (nr a b p n c.src).length k l c.dst w hl HNl.out)
  have HF := Lib.hid (fun w => rwithin_any c.frame 0 9999 w)
  have HR := Lib.hid (fun w => rright_any a b p n s c.e w)
  have HO := Lib.hid (fun w => rof_any a b p n s c.e.x c.e.y w)
  have HIn := Lib.hid (fun w => rinside_any a b p n s c.x c.y w)
  have HB := Lib.hid (show crightB a b p n c = (inB (nr a b p n c.src) c.dst && (wi c.frame 0 9999 && (if c.kind = 1 then handB a b p n c else if c.kind = 2 then blastB a b p n c else false))) from rfl)
  have HHd := Lib.hid (show handB a b p n c = (decide (¬ c.dst = c.src) && (decide (c.x = 0) && (decide (c.y = 0) && (erightB a b p n c.e && decide (ofr a b p n c.e.x c.e.y = c.dst))))) from rfl)
  have HBl := Lib.hid (show blastB a b p n c = (ins a b p n c.x c.y && eqEnt c.e e0) from rfl)
  have HE := Lib.hid (show eqEnt c.e e0 = eqEnt c.e ⟨0, 0, 0, 0, 0, 0, 0, 0, 0⟩ from rfl)
  have hqe := fun W : World => eql_Ent c.e ⟨0, 0, 0, 0, 0, 0, 0, 0, 0⟩ W
  rw [← HE.out] at hqe
  have Hh := Lib.hid (show inB (nr a b p n c.src) c.dst = true → hasB a b p n c.src = true from nr_has)
  generalize crightB a b p n c = r at *
  generalize handB a b p n c = hd at *
  generalize blastB a b p n c = bl at *
  generalize erightB a b p n c.e = er at *
  generalize ofr a b p n c.e.x c.e.y = o at *
  generalize ins a b p n c.x c.y = iN at *
  generalize eqEnt c.e e0 = ee at *
  generalize nr a b p n c.src = l at *
  generalize hasB a b p n c.src = hs at *
  generalize wi c.frame 0 9999 = fr at *
  go_enter Tryz.func70, Tryz.ntmps70
  go_upto_region 1 with fail
  generalize hW : (w.alloc _).alloc _ = W0
  have g0 : W0.cell? ⟨w.heap.size, 0, none⟩ = some (.int .i64 a) := by rw [← hW, World.cell?_alloc_lt _ _ _ (by simp), cell_box _ _ _ _ _ rfl]; rfl
  have g1 : W0.cell? ⟨w.heap.size, 1, none⟩ = some (.int .i64 b) := by rw [← hW, World.cell?_alloc_lt _ _ _ (by simp), cell_box _ _ _ _ _ rfl]; rfl
  have g2 : W0.cell? ⟨w.heap.size, 2, none⟩ = some (.int .i64 p) := by rw [← hW, World.cell?_alloc_lt _ _ _ (by simp), cell_box _ _ _ _ _ rfl]; rfl
  have g3 : W0.cell? ⟨w.heap.size, 3, none⟩ = some (.int .i64 n) := by rw [← hW, World.cell?_alloc_lt _ _ _ (by simp), cell_box _ _ _ _ _ rfl]; rfl
  have g4 : W0.cell? ⟨w.heap.size, 4, none⟩ = some (.int .u64 s) := by rw [← hW, World.cell?_alloc_lt _ _ _ (by simp), cell_box _ _ _ _ _ rfl]; rfl
  have y0 : W0.cell? ⟨w.heap.size + 1, 0, none⟩ = some (.int .i64 c.kind) := by rw [← hW, cell_box _ _ _ _ _ (by simp)]; rfl
  have y1 : W0.cell? ⟨w.heap.size + 1, 1, none⟩ = some (.int .i64 c.src) := by rw [← hW, cell_box _ _ _ _ _ (by simp)]; rfl
  have y2 : W0.cell? ⟨w.heap.size + 1, 2, none⟩ = some (.int .i64 c.dst) := by rw [← hW, cell_box _ _ _ _ _ (by simp)]; rfl
  have y3 : W0.cell? ⟨w.heap.size + 1, 3, none⟩ = some (.int .i64 c.frame) := by rw [← hW, cell_box _ _ _ _ _ (by simp)]; rfl
  have y4 : W0.cell? ⟨w.heap.size + 1, 4, none⟩ = some (.int .i64 c.e.id) := by rw [← hW, cell_box _ _ _ _ _ (by simp)]; rfl
  have y5 : W0.cell? ⟨w.heap.size + 1, 5, none⟩ = some (.int .i64 c.e.kind) := by rw [← hW, cell_box _ _ _ _ _ (by simp)]; rfl
  have y6 : W0.cell? ⟨w.heap.size + 1, 6, none⟩ = some (.int .i64 c.e.x) := by rw [← hW, cell_box _ _ _ _ _ (by simp)]; rfl
  have y7 : W0.cell? ⟨w.heap.size + 1, 7, none⟩ = some (.int .i64 c.e.y) := by rw [← hW, cell_box _ _ _ _ _ (by simp)]; rfl
  have y8 : W0.cell? ⟨w.heap.size + 1, 8, none⟩ = some (.int .i64 c.e.vx) := by rw [← hW, cell_box _ _ _ _ _ (by simp)]; rfl
  have y9 : W0.cell? ⟨w.heap.size + 1, 9, none⟩ = some (.int .i64 c.e.vy) := by rw [← hW, cell_box _ _ _ _ _ (by simp)]; rfl
  have y10 : W0.cell? ⟨w.heap.size + 1, 10, none⟩ = some (.int .i64 c.e.health) := by rw [← hW, cell_box _ _ _ _ _ (by simp)]; rfl
  have y11 : W0.cell? ⟨w.heap.size + 1, 11, none⟩ = some (.int .i64 c.e.age) := by rw [← hW, cell_box _ _ _ _ _ (by simp)]; rfl
  have y12 : W0.cell? ⟨w.heap.size + 1, 12, none⟩ = some (.int .i64 c.e.owner) := by rw [← hW, cell_box _ _ _ _ _ (by simp)]; rfl
  have y13 : W0.cell? ⟨w.heap.size + 1, 13, none⟩ = some (.int .i64 c.x) := by rw [← hW, cell_box _ _ _ _ _ (by simp)]; rfl
  have y14 : W0.cell? ⟨w.heap.size + 1, 14, none⟩ = some (.int .i64 c.y) := by rw [← hW, cell_box _ _ _ _ _ (by simp)]; rfl
  have hz0 : w.heap.size < W0.heap.size := by rw [← hW]; simp; omega
  have hz1 : w.heap.size + 1 < W0.heap.size := by rw [← hW]; simp
  have HW := Lib.hid (show Below w.heap.size w W0 from by rw [← hW]; exact ((Below.refl _ _).alloc (Nat.le_refl _) _).alloc (by simp) _)
  clear hW
  cases hs
  · have Hq := Lib.hid (show inB l c.dst = false from by cases h : inB l c.dst; rfl; have := Hh.out h; simp at this)
    refine plan_region' (S := (fun w' => (∀ b o, b < (W0).heap.size → w'.cell? ⟨b, o, none⟩ = (W0).cell? ⟨b, o, none⟩) ∧ (∀ b o, b < (W0).heap.size → w'.frozen? ⟨b, o, none⟩ = (W0).frozen? ⟨b, o, none⟩) ∧ Below (W0).heap.size (W0) w')) [(0, true), (1, true), (2, true), (3, false), (4, true), (5, true), (6, true), (7, true), (8, true), (10, true), (11, true), (9, false), (12, false), (13, true), (14, true), (15, true), (16, true), (17, true), (18, false), (19, true), (20, true)] (by kernel_rfl) (by kernel_rfl) (fun _ _ d _ _ h => by cases d <;> exact h) (keepW0 _) (fun hS => ?_)
    simp only [picked, List.getElem?_cons_succ, List.getElem?_cons_zero]
    iterate 3
     refine row_free (v := ?_) (by rfl) ?_ ?_; rotate_left 1; focus (intro w hSw; (try dsimp only at hSw); go_simp; (try with_reducible rfl))
     (try simp only [Act.put, tA, tB, tC])
    refine row_call (by rfl) (fun K hK => ?_)
    go_simp
    (refine (HS0.out _).mono ?_; rintro e w3 ⟨rfl, hb3⟩)
    (try go_wp2_with fail)
    refine hK.out _ _ ?_ (fun hS' => ?_)
    · (try dsimp only); first | exact keepW (by assumption) (by assumption) | exact keepB (by assumption) (by assumption) | exact keepA (by assumption) | assumption
    clear hS hK K
    have hS := hS'
    clear hS'
    iterate 2
     (try simp only [Act.put, tA, tB, tC])
     refine row_free (v := ?_) (by rfl) ?_ ?_; rotate_left 1; focus (intro w hSw; (try dsimp only at hSw); go_simp; (try with_reducible rfl))
    iterate 5
     (try simp only [Act.put, tA, tB, tC])
     refine row_off (by rfl) ?_
    iterate 2
     (try simp only [Act.put, tA, tB, tC])
     refine row_off' (by rfl) hS ?_
    (try simp only [Act.put, tA, tB, tC])
    refine row_off (by rfl) ?_
    iterate 2
     (try simp only [Act.put, tA, tB, tC])
     refine row_free (v := ?_) (by rfl) ?_ ?_; rotate_left 1; focus (intro w hSw; (try dsimp only at hSw); go_simp; (try with_reducible rfl))
    iterate 2
     (try simp only [Act.put, tA, tB, tC])
     refine row_off (by rfl) ?_
    (try simp only [Act.put, tA, tB, tC])
    refine row_off' (by rfl) hS ?_
    (try simp only [Act.put, tA, tB, tC])
    refine row_off (by rfl) ?_
    (try simp only [Act.put, tA, tB, tC])
    refine row_free (v := ?_) (by rfl) ?_ ?_; rotate_left 1; focus (intro w hSw; (try dsimp only at hSw); go_simp; (try with_reducible rfl))
    (try simp only [Act.put, tA, tB, tC])
    refine row_done ?_
    go_wp2
    go_ret
    exact ⟨ret_bool (by rw [HB.out, Hq.out]; simp), nextW HW.out hS.2.2⟩
  · cases hq : inB l c.dst
    · have Hq := Lib.hid hq
      clear hq
      refine plan_region' (S := (fun w' => (∀ b o, b < (W0).heap.size → w'.cell? ⟨b, o, none⟩ = (W0).cell? ⟨b, o, none⟩) ∧ (∀ b o, b < (W0).heap.size → w'.frozen? ⟨b, o, none⟩ = (W0).frozen? ⟨b, o, none⟩) ∧ Below (W0).heap.size (W0) w')) [(0, true), (1, true), (2, true), (3, false), (4, true), (5, true), (6, true), (7, true), (8, true), (10, true), (11, true), (9, false), (12, false), (13, true), (14, true), (15, true), (16, true), (17, true), (18, false), (19, true), (20, true)] (by kernel_rfl) (by kernel_rfl) (fun _ _ d _ _ h => by cases d <;> exact h) (keepW0 _) (fun hS => ?_)
      simp only [picked, List.getElem?_cons_succ, List.getElem?_cons_zero]
      iterate 3
       refine row_free (v := ?_) (by rfl) ?_ ?_; rotate_left 1; focus (intro w hSw; (try dsimp only at hSw); go_simp; (try with_reducible rfl))
       (try simp only [Act.put, tA, tB, tC])
      refine row_call (by rfl) (fun K hK => ?_)
      go_simp
      (refine (HS0.out _).mono ?_; rintro e w3 ⟨rfl, hb3⟩)
      (try go_wp2_with fail)
      refine hK.out _ _ ?_ (fun hS' => ?_)
      · (try dsimp only); first | exact keepW (by assumption) (by assumption) | exact keepB (by assumption) (by assumption) | exact keepA (by assumption) | assumption
      clear hS hK K
      have hS := hS'
      clear hS'
      iterate 7
       (try simp only [Act.put, tA, tB, tC])
       refine row_free (v := ?_) (by rfl) ?_ ?_; rotate_left 1; focus (intro w hSw; (try dsimp only at hSw); go_simp; (try with_reducible rfl))
      (try simp only [Act.put, tA, tB, tC])
      refine row_call (by rfl) (fun K hK => ?_)
      go_simp
      (refine (HN.out _).mono ?_; rintro e w4 ⟨A4, k4, rfl, hI4, hb4⟩)
      (try go_wp2_with fail)
      refine hK.out _ _ ?_ (fun hS' => ?_)
      · (try dsimp only); first | exact keepW (by assumption) (by assumption) | exact keepB (by assumption) (by assumption) | exact keepA (by assumption) | assumption
      clear hS hK K
      have hS := hS'
      clear hS'
      (try simp only [Act.put, tA, tB, tC])
      refine row_call (by rfl) (fun K hK => ?_)
      go_simp
      (refine (HI.out A4 k4 l _ hI4).mono ?_; rw [Hq.out]; rintro e w5 ⟨rfl, rfl⟩)
      (try go_wp2_with fail)
      refine hK.out _ _ ?_ (fun hS' => ?_)
      · (try dsimp only); first | exact keepW (by assumption) (by assumption) | exact keepB (by assumption) (by assumption) | exact keepA (by assumption) | assumption
      clear hS hK K
      have hS := hS'
      clear hS'
      iterate 3
       (try simp only [Act.put, tA, tB, tC])
       refine row_free (v := ?_) (by rfl) ?_ ?_; rotate_left 1; focus (intro w hSw; (try dsimp only at hSw); go_simp; (try with_reducible rfl))
      iterate 2
       (try simp only [Act.put, tA, tB, tC])
       refine row_off (by rfl) ?_
      (try simp only [Act.put, tA, tB, tC])
      refine row_off' (by rfl) hS ?_
      (try simp only [Act.put, tA, tB, tC])
      refine row_off (by rfl) ?_
      (try simp only [Act.put, tA, tB, tC])
      refine row_free (v := ?_) (by rfl) ?_ ?_; rotate_left 1; focus (intro w hSw; (try dsimp only at hSw); go_simp; (try with_reducible rfl))
      (try simp only [Act.put, tA, tB, tC])
      refine row_done ?_
      go_wp2
      go_ret
      exact ⟨ret_bool (by rw [HB.out, Hq.out]; simp), nextW HW.out hS.2.2⟩
    · have Hq := Lib.hid hq
      clear hq
      cases fr
      · skip
        refine plan_region' (S := (fun w' => (∀ b o, b < (W0).heap.size → w'.cell? ⟨b, o, none⟩ = (W0).cell? ⟨b, o, none⟩) ∧ (∀ b o, b < (W0).heap.size → w'.frozen? ⟨b, o, none⟩ = (W0).frozen? ⟨b, o, none⟩) ∧ Below (W0).heap.size (W0) w')) [(0, true), (1, true), (2, true), (3, false), (4, true), (5, true), (6, true), (7, true), (8, true), (10, true), (11, true), (9, false), (12, false), (13, true), (14, true), (15, true), (16, true), (17, true), (18, false), (19, true), (20, true)] (by kernel_rfl) (by kernel_rfl) (fun _ _ d _ _ h => by cases d <;> exact h) (keepW0 _) (fun hS => ?_)
        simp only [picked, List.getElem?_cons_succ, List.getElem?_cons_zero]
        iterate 3
         refine row_free (v := ?_) (by rfl) ?_ ?_; rotate_left 1; focus (intro w hSw; (try dsimp only at hSw); go_simp; (try with_reducible rfl))
         (try simp only [Act.put, tA, tB, tC])
        refine row_call (by rfl) (fun K hK => ?_)
        go_simp
        (refine (HS0.out _).mono ?_; rintro e w3 ⟨rfl, hb3⟩)
        (try go_wp2_with fail)
        refine hK.out _ _ ?_ (fun hS' => ?_)
        · (try dsimp only); first | exact keepW (by assumption) (by assumption) | exact keepB (by assumption) (by assumption) | exact keepA (by assumption) | assumption
        clear hS hK K
        have hS := hS'
        clear hS'
        iterate 7
         (try simp only [Act.put, tA, tB, tC])
         refine row_free (v := ?_) (by rfl) ?_ ?_; rotate_left 1; focus (intro w hSw; (try dsimp only at hSw); go_simp; (try with_reducible rfl))
        (try simp only [Act.put, tA, tB, tC])
        refine row_call (by rfl) (fun K hK => ?_)
        go_simp
        (refine (HN.out _).mono ?_; rintro e w4 ⟨A4, k4, rfl, hI4, hb4⟩)
        (try go_wp2_with fail)
        refine hK.out _ _ ?_ (fun hS' => ?_)
        · (try dsimp only); first | exact keepW (by assumption) (by assumption) | exact keepB (by assumption) (by assumption) | exact keepA (by assumption) | assumption
        clear hS hK K
        have hS := hS'
        clear hS'
        (try simp only [Act.put, tA, tB, tC])
        refine row_call (by rfl) (fun K hK => ?_)
        go_simp
        (refine (HI.out A4 k4 l _ hI4).mono ?_; rw [Hq.out]; rintro e w5 ⟨rfl, rfl⟩)
        (try go_wp2_with fail)
        refine hK.out _ _ ?_ (fun hS' => ?_)
        · (try dsimp only); first | exact keepW (by assumption) (by assumption) | exact keepB (by assumption) (by assumption) | exact keepA (by assumption) | assumption
        clear hS hK K
        have hS := hS'
        clear hS'
        iterate 5
         (try simp only [Act.put, tA, tB, tC])
         refine row_free (v := ?_) (by rfl) ?_ ?_; rotate_left 1; focus (intro w hSw; (try dsimp only at hSw); go_simp; (try with_reducible rfl))
        (try simp only [Act.put, tA, tB, tC])
        refine row_call (by rfl) (fun K hK => ?_)
        go_simp
        (refine (HF.out _).mono ?_; rintro e w6 ⟨rfl, rfl⟩)
        (try go_wp2_with fail)
        refine hK.out _ _ ?_ (fun hS' => ?_)
        · (try dsimp only); first | exact keepW (by assumption) (by assumption) | exact keepB (by assumption) (by assumption) | exact keepA (by assumption) | assumption
        clear hS hK K
        have hS := hS'
        clear hS'
        iterate 2
         (try simp only [Act.put, tA, tB, tC])
         refine row_free (v := ?_) (by rfl) ?_ ?_; rotate_left 1; focus (intro w hSw; (try dsimp only at hSw); go_simp; (try with_reducible rfl))
        (try simp only [Act.put, tA, tB, tC])
        refine row_done ?_
        go_wp2
        go_ret
        exact ⟨ret_bool (by rw [HB.out]; simp), nextW HW.out hS.2.2⟩
      · skip
        refine plan_region' (S := (fun w' => (∀ b o, b < (W0).heap.size → w'.cell? ⟨b, o, none⟩ = (W0).cell? ⟨b, o, none⟩) ∧ (∀ b o, b < (W0).heap.size → w'.frozen? ⟨b, o, none⟩ = (W0).frozen? ⟨b, o, none⟩) ∧ Below (W0).heap.size (W0) w')) [(0, true), (1, true), (2, true), (3, false), (4, true), (5, true), (6, true), (7, true), (8, true), (10, true), (11, true), (9, false), (12, false), (13, true), (14, true), (15, true), (16, true), (17, true), (18, false), (19, true), (20, true)] (by kernel_rfl) (by kernel_rfl) (fun _ _ d _ _ h => by cases d <;> exact h) (keepW0 _) (fun hS => ?_)
        simp only [picked, List.getElem?_cons_succ, List.getElem?_cons_zero]
        iterate 3
         refine row_free (v := ?_) (by rfl) ?_ ?_; rotate_left 1; focus (intro w hSw; (try dsimp only at hSw); go_simp; (try with_reducible rfl))
         (try simp only [Act.put, tA, tB, tC])
        refine row_call (by rfl) (fun K hK => ?_)
        go_simp
        (refine (HS0.out _).mono ?_; rintro e w3 ⟨rfl, hb3⟩)
        (try go_wp2_with fail)
        refine hK.out _ _ ?_ (fun hS' => ?_)
        · (try dsimp only); first | exact keepW (by assumption) (by assumption) | exact keepB (by assumption) (by assumption) | exact keepA (by assumption) | assumption
        clear hS hK K
        have hS := hS'
        clear hS'
        iterate 7
         (try simp only [Act.put, tA, tB, tC])
         refine row_free (v := ?_) (by rfl) ?_ ?_; rotate_left 1; focus (intro w hSw; (try dsimp only at hSw); go_simp; (try with_reducible rfl))
        (try simp only [Act.put, tA, tB, tC])
        refine row_call (by rfl) (fun K hK => ?_)
        go_simp
        (refine (HN.out _).mono ?_; rintro e w4 ⟨A4, k4, rfl, hI4, hb4⟩)
        (try go_wp2_with fail)
        refine hK.out _ _ ?_ (fun hS' => ?_)
        · (try dsimp only); first | exact keepW (by assumption) (by assumption) | exact keepB (by assumption) (by assumption) | exact keepA (by assumption) | assumption
        clear hS hK K
        have hS := hS'
        clear hS'
        (try simp only [Act.put, tA, tB, tC])
        refine row_call (by rfl) (fun K hK => ?_)
        go_simp
        (refine (HI.out A4 k4 l _ hI4).mono ?_; rw [Hq.out]; rintro e w5 ⟨rfl, rfl⟩)
        (try go_wp2_with fail)
        refine hK.out _ _ ?_ (fun hS' => ?_)
        · (try dsimp only); first | exact keepW (by assumption) (by assumption) | exact keepB (by assumption) (by assumption) | exact keepA (by assumption) | assumption
        clear hS hK K
        have hS := hS'
        clear hS'
        iterate 5
         (try simp only [Act.put, tA, tB, tC])
         refine row_free (v := ?_) (by rfl) ?_ ?_; rotate_left 1; focus (intro w hSw; (try dsimp only at hSw); go_simp; (try with_reducible rfl))
        (try simp only [Act.put, tA, tB, tC])
        refine row_call (by rfl) (fun K hK => ?_)
        go_simp
        (refine (HF.out _).mono ?_; rintro e w6 ⟨rfl, rfl⟩)
        (try go_wp2_with fail)
        refine hK.out _ _ ?_ (fun hS' => ?_)
        · (try dsimp only); first | exact keepW (by assumption) (by assumption) | exact keepB (by assumption) (by assumption) | exact keepA (by assumption) | assumption
        clear hS hK K
        have hS := hS'
        clear hS'
        iterate 2
         (try simp only [Act.put, tA, tB, tC])
         refine row_free (v := ?_) (by rfl) ?_ ?_; rotate_left 1; focus (intro w hSw; (try dsimp only at hSw); go_simp; (try with_reducible rfl))
        (try simp only [Act.put, tA, tB, tC])
        refine row_done ?_
        have HBw := Lib.hid (nextW HW.out hS.2.2)
        have hcw : ∀ b o, b < W0.heap.size → w4.cell? ⟨b, o, none⟩ = W0.cell? ⟨b, o, none⟩ := hS.1
        have hz4 : W0.heap.size ≤ w4.heap.size := hS.2.2.size
        replace g0 := (hcw w.heap.size 0 hz0).trans g0
        replace g1 := (hcw w.heap.size 1 hz0).trans g1
        replace g2 := (hcw w.heap.size 2 hz0).trans g2
        replace g3 := (hcw w.heap.size 3 hz0).trans g3
        replace g4 := (hcw w.heap.size 4 hz0).trans g4
        replace y0 := (hcw (w.heap.size + 1) 0 hz1).trans y0
        replace y1 := (hcw (w.heap.size + 1) 1 hz1).trans y1
        replace y2 := (hcw (w.heap.size + 1) 2 hz1).trans y2
        replace y3 := (hcw (w.heap.size + 1) 3 hz1).trans y3
        replace y4 := (hcw (w.heap.size + 1) 4 hz1).trans y4
        replace y5 := (hcw (w.heap.size + 1) 5 hz1).trans y5
        replace y6 := (hcw (w.heap.size + 1) 6 hz1).trans y6
        replace y7 := (hcw (w.heap.size + 1) 7 hz1).trans y7
        replace y8 := (hcw (w.heap.size + 1) 8 hz1).trans y8
        replace y9 := (hcw (w.heap.size + 1) 9 hz1).trans y9
        replace y10 := (hcw (w.heap.size + 1) 10 hz1).trans y10
        replace y11 := (hcw (w.heap.size + 1) 11 hz1).trans y11
        replace y12 := (hcw (w.heap.size + 1) 12 hz1).trans y12
        replace y13 := (hcw (w.heap.size + 1) 13 hz1).trans y13
        replace y14 := (hcw (w.heap.size + 1) 14 hz1).trans y14
        replace hz0 : w.heap.size < w4.heap.size := by omega
        replace hz1 : w.heap.size + 1 < w4.heap.size := by omega
        clear hcw hS hz4
        rw [Hq.out, Bool.true_and, Bool.true_and] at HB
        by_cases k1 : c.kind = 1
        · rw [if_pos k1] at HB
          go_upto_region 5 with fail
          cases er
          · skip
            refine plan_region' (S := (fun w' => (∀ b o, b < (w4).heap.size → w'.cell? ⟨b, o, none⟩ = (w4).cell? ⟨b, o, none⟩) ∧ (∀ b o, b < (w4).heap.size → w'.frozen? ⟨b, o, none⟩ = (w4).frozen? ⟨b, o, none⟩) ∧ Below (w4).heap.size (w4) w')) [(0, true), (1, true), (2, true), (3, false), (4, true), (5, true), (6, true), (7, true), (8, true), (9, true), (10, true), (11, true), (13, true), (14, true), (12, false), (15, true), (16, true), (17, true), (18, true), (19, true), (20, true), (21, true), (22, true), (23, true), (24, true), (25, true), (26, true), (27, true), (28, true), (29, true), (30, true), (31, true), (32, true), (33, true), (34, true)] (by kernel_rfl) (by kernel_rfl) (fun _ _ d _ _ h => by cases d <;> exact h) (keepW0 _) (fun hS => ?_)
            simp only [picked, List.getElem?_cons_succ, List.getElem?_cons_zero]
            iterate 3
             refine row_free (v := ?_) (by rfl) ?_ ?_; rotate_left 1; focus (intro w hSw; (try dsimp only at hSw); go_simp; (try with_reducible rfl))
             (try simp only [Act.put, tA, tB, tC])
            refine row_call (by rfl) (fun K hK => ?_)
            go_simp
            (refine (HR.out _).mono ?_; rintro e w7 ⟨rfl, hb7⟩)
            (try go_wp2_with fail)
            refine hK.out _ _ ?_ (fun hS' => ?_)
            · (try dsimp only); first | exact keepW (by assumption) (by assumption) | exact keepB (by assumption) (by assumption) | exact keepA (by assumption) | assumption
            clear hS hK K
            have hS := hS'
            clear hS'
            (try simp only [Act.put, tA, tB, tC])
            refine row_free (v := ?_) (by rfl) ?_ ?_; rotate_left 1; focus (intro w hSw; (try dsimp only at hSw); go_simp; (try with_reducible rfl))
            iterate 9
             (try simp only [Act.put, tA, tB, tC])
             refine row_off (by rfl) ?_
            (try simp only [Act.put, tA, tB, tC])
            refine row_off' (by rfl) hS ?_
            (try simp only [Act.put, tA, tB, tC])
            refine row_off (by rfl) ?_
            iterate 2
             (try simp only [Act.put, tA, tB, tC])
             refine row_free (v := ?_) (by rfl) ?_ ?_; rotate_left 1; focus (intro w hSw; (try dsimp only at hSw); go_simp; (try with_reducible rfl))
            iterate 3
             (try simp only [Act.put, tA, tB, tC])
             refine row_off (by rfl) ?_
            iterate 2
             (try simp only [Act.put, tA, tB, tC])
             refine row_free (v := ?_) (by rfl) ?_ ?_; rotate_left 1; focus (intro w hSw; (try dsimp only at hSw); go_simp; (try with_reducible rfl))
            iterate 3
             (try simp only [Act.put, tA, tB, tC])
             refine row_off (by rfl) ?_
            iterate 2
             (try simp only [Act.put, tA, tB, tC])
             refine row_free (v := ?_) (by rfl) ?_ ?_; rotate_left 1; focus (intro w hSw; (try dsimp only at hSw); go_simp; (try with_reducible rfl))
            iterate 5
             (try simp only [Act.put, tA, tB, tC])
             refine row_off (by rfl) ?_
            iterate 2
             (try simp only [Act.put, tA, tB, tC])
             refine row_free (v := ?_) (by rfl) ?_ ?_; rotate_left 1; focus (intro w hSw; (try dsimp only at hSw); go_simp; (try with_reducible rfl))
            (try simp only [Act.put, tA, tB, tC])
            refine row_done ?_
            go_wp2
            go_ret
            exact ⟨ret_bool (by rw [HB.out, HHd.out]; simp []), nextW HBw.out hS.2.2⟩
          · by_cases h4 : o = c.dst
            · have d4 : (o == c.dst) = true := by simpa using h4
              have H4 := Lib.hid h4
              clear h4
              by_cases h2 : c.x = 0
              · have d2 : (c.x == 0) = true := by simpa using h2
                have H2 := Lib.hid h2
                clear h2
                by_cases h3 : c.y = 0
                · have d3 : (c.y == 0) = true := by simpa using h3
                  have H3 := Lib.hid h3
                  clear h3
                  by_cases h1 : c.dst = c.src
                  · have d1 : (c.dst != c.src) = false := by simpa using h1
                    have H1 := Lib.hid h1
                    clear h1
                    refine plan_region' (S := (fun w' => (∀ b o, b < (w4).heap.size → w'.cell? ⟨b, o, none⟩ = (w4).cell? ⟨b, o, none⟩) ∧ (∀ b o, b < (w4).heap.size → w'.frozen? ⟨b, o, none⟩ = (w4).frozen? ⟨b, o, none⟩) ∧ Below (w4).heap.size (w4) w')) [(0, true), (1, true), (2, true), (3, false), (4, true), (5, true), (6, true), (7, true), (8, true), (9, true), (10, true), (11, true), (13, true), (14, true), (12, false), (15, true), (16, true), (17, true), (18, true), (19, true), (20, true), (21, true), (22, true), (23, true), (24, true), (25, true), (26, true), (27, true), (28, true), (29, true), (30, true), (31, true), (32, true), (33, true), (34, true)] (by kernel_rfl) (by kernel_rfl) (fun _ _ d _ _ h => by cases d <;> exact h) (keepW0 _) (fun hS => ?_)
                    simp only [picked, List.getElem?_cons_succ, List.getElem?_cons_zero]
                    iterate 3
                     refine row_free (v := ?_) (by rfl) ?_ ?_; rotate_left 1; focus (intro w hSw; (try dsimp only at hSw); go_simp; (try with_reducible rfl))
                     (try simp only [Act.put, tA, tB, tC])
                    refine row_call (by rfl) (fun K hK => ?_)
                    go_simp
                    (refine (HR.out _).mono ?_; rintro e w7 ⟨rfl, hb7⟩)
                    (try go_wp2_with fail)
                    refine hK.out _ _ ?_ (fun hS' => ?_)
                    · (try dsimp only); first | exact keepW (by assumption) (by assumption) | exact keepB (by assumption) (by assumption) | exact keepA (by assumption) | assumption
                    clear hS hK K
                    have hS := hS'
                    clear hS'
                    iterate 10
                     (try simp only [Act.put, tA, tB, tC])
                     refine row_free (v := ?_) (by rfl) ?_ ?_; rotate_left 1; focus (intro w hSw; (try dsimp only at hSw); go_simp; (try with_reducible rfl))
                    (try simp only [Act.put, tA, tB, tC])
                    refine row_call (by rfl) (fun K hK => ?_)
                    go_simp
                    (refine (HO.out _).mono ?_; rintro e w8 ⟨rfl, hb8⟩)
                    (try go_wp2_with fail)
                    refine hK.out _ _ ?_ (fun hS' => ?_)
                    · (try dsimp only); first | exact keepW (by assumption) (by assumption) | exact keepB (by assumption) (by assumption) | exact keepA (by assumption) | assumption
                    clear hS hK K
                    have hS := hS'
                    clear hS'
                    iterate 20
                     (try simp only [Act.put, tA, tB, tC])
                     refine row_free (v := ?_) (by rfl) ?_ ?_; rotate_left 1; focus (intro w hSw; (try dsimp only at hSw); go_simp; (try with_reducible rfl))
                    (try simp only [Act.put, tA, tB, tC])
                    refine row_done ?_
                    go_wp2
                    go_ret
                    exact ⟨ret_bool (by rw [HB.out, HHd.out]; simp [H1.out]), nextW HBw.out hS.2.2⟩
                  · have d1 : (c.dst != c.src) = true := by simpa using h1
                    have H1 := Lib.hid h1
                    clear h1
                    refine plan_region' (S := (fun w' => (∀ b o, b < (w4).heap.size → w'.cell? ⟨b, o, none⟩ = (w4).cell? ⟨b, o, none⟩) ∧ (∀ b o, b < (w4).heap.size → w'.frozen? ⟨b, o, none⟩ = (w4).frozen? ⟨b, o, none⟩) ∧ Below (w4).heap.size (w4) w')) [(0, true), (1, true), (2, true), (3, false), (4, true), (5, true), (6, true), (7, true), (8, true), (9, true), (10, true), (11, true), (13, true), (14, true), (12, false), (15, true), (16, true), (17, true), (18, true), (19, true), (20, true), (21, true), (22, true), (23, true), (24, true), (25, true), (26, true), (27, true), (28, true), (29, true), (30, true), (31, true), (32, true), (33, true), (34, true)] (by kernel_rfl) (by kernel_rfl) (fun _ _ d _ _ h => by cases d <;> exact h) (keepW0 _) (fun hS => ?_)
                    simp only [picked, List.getElem?_cons_succ, List.getElem?_cons_zero]
                    iterate 3
                     refine row_free (v := ?_) (by rfl) ?_ ?_; rotate_left 1; focus (intro w hSw; (try dsimp only at hSw); go_simp; (try with_reducible rfl))
                     (try simp only [Act.put, tA, tB, tC])
                    refine row_call (by rfl) (fun K hK => ?_)
                    go_simp
                    (refine (HR.out _).mono ?_; rintro e w7 ⟨rfl, hb7⟩)
                    (try go_wp2_with fail)
                    refine hK.out _ _ ?_ (fun hS' => ?_)
                    · (try dsimp only); first | exact keepW (by assumption) (by assumption) | exact keepB (by assumption) (by assumption) | exact keepA (by assumption) | assumption
                    clear hS hK K
                    have hS := hS'
                    clear hS'
                    iterate 10
                     (try simp only [Act.put, tA, tB, tC])
                     refine row_free (v := ?_) (by rfl) ?_ ?_; rotate_left 1; focus (intro w hSw; (try dsimp only at hSw); go_simp; (try with_reducible rfl))
                    (try simp only [Act.put, tA, tB, tC])
                    refine row_call (by rfl) (fun K hK => ?_)
                    go_simp
                    (refine (HO.out _).mono ?_; rintro e w8 ⟨rfl, hb8⟩)
                    (try go_wp2_with fail)
                    refine hK.out _ _ ?_ (fun hS' => ?_)
                    · (try dsimp only); first | exact keepW (by assumption) (by assumption) | exact keepB (by assumption) (by assumption) | exact keepA (by assumption) | assumption
                    clear hS hK K
                    have hS := hS'
                    clear hS'
                    iterate 20
                     (try simp only [Act.put, tA, tB, tC])
                     refine row_free (v := ?_) (by rfl) ?_ ?_; rotate_left 1; focus (intro w hSw; (try dsimp only at hSw); go_simp; (try with_reducible rfl))
                    (try simp only [Act.put, tA, tB, tC])
                    refine row_done ?_
                    go_wp2
                    go_ret
                    exact ⟨ret_bool (by rw [HB.out, HHd.out]; simp [H1.out, H2.out, H3.out, H4.out]), nextW HBw.out hS.2.2⟩
                · have d3 : (c.y == 0) = false := by simpa using h3
                  have H3 := Lib.hid h3
                  clear h3
                  refine plan_region' (S := (fun w' => (∀ b o, b < (w4).heap.size → w'.cell? ⟨b, o, none⟩ = (w4).cell? ⟨b, o, none⟩) ∧ (∀ b o, b < (w4).heap.size → w'.frozen? ⟨b, o, none⟩ = (w4).frozen? ⟨b, o, none⟩) ∧ Below (w4).heap.size (w4) w')) [(0, true), (1, true), (2, true), (3, false), (4, true), (5, true), (6, true), (7, true), (8, true), (9, true), (10, true), (11, true), (13, true), (14, true), (12, false), (15, true), (16, true), (17, true), (18, true), (19, true), (20, true), (21, true), (22, true), (23, true), (24, true), (25, true), (26, true), (27, true), (28, true), (29, true), (30, true), (31, true), (32, true), (33, true), (34, true)] (by kernel_rfl) (by kernel_rfl) (fun _ _ d _ _ h => by cases d <;> exact h) (keepW0 _) (fun hS => ?_)
                  simp only [picked, List.getElem?_cons_succ, List.getElem?_cons_zero]
                  iterate 3
                   refine row_free (v := ?_) (by rfl) ?_ ?_; rotate_left 1; focus (intro w hSw; (try dsimp only at hSw); go_simp; (try with_reducible rfl))
                   (try simp only [Act.put, tA, tB, tC])
                  refine row_call (by rfl) (fun K hK => ?_)
                  go_simp
                  (refine (HR.out _).mono ?_; rintro e w7 ⟨rfl, hb7⟩)
                  (try go_wp2_with fail)
                  refine hK.out _ _ ?_ (fun hS' => ?_)
                  · (try dsimp only); first | exact keepW (by assumption) (by assumption) | exact keepB (by assumption) (by assumption) | exact keepA (by assumption) | assumption
                  clear hS hK K
                  have hS := hS'
                  clear hS'
                  iterate 10
                   (try simp only [Act.put, tA, tB, tC])
                   refine row_free (v := ?_) (by rfl) ?_ ?_; rotate_left 1; focus (intro w hSw; (try dsimp only at hSw); go_simp; (try with_reducible rfl))
                  (try simp only [Act.put, tA, tB, tC])
                  refine row_call (by rfl) (fun K hK => ?_)
                  go_simp
                  (refine (HO.out _).mono ?_; rintro e w8 ⟨rfl, hb8⟩)
                  (try go_wp2_with fail)
                  refine hK.out _ _ ?_ (fun hS' => ?_)
                  · (try dsimp only); first | exact keepW (by assumption) (by assumption) | exact keepB (by assumption) (by assumption) | exact keepA (by assumption) | assumption
                  clear hS hK K
                  have hS := hS'
                  clear hS'
                  iterate 13
                   (try simp only [Act.put, tA, tB, tC])
                   refine row_free (v := ?_) (by rfl) ?_ ?_; rotate_left 1; focus (intro w hSw; (try dsimp only at hSw); go_simp; (try with_reducible rfl))
                  iterate 5
                   (try simp only [Act.put, tA, tB, tC])
                   refine row_off (by rfl) ?_
                  iterate 2
                   (try simp only [Act.put, tA, tB, tC])
                   refine row_free (v := ?_) (by rfl) ?_ ?_; rotate_left 1; focus (intro w hSw; (try dsimp only at hSw); go_simp; (try with_reducible rfl))
                  (try simp only [Act.put, tA, tB, tC])
                  refine row_done ?_
                  go_wp2
                  go_ret
                  exact ⟨ret_bool (by rw [HB.out, HHd.out]; simp [H3.out]), nextW HBw.out hS.2.2⟩
              · have d2 : (c.x == 0) = false := by simpa using h2
                have H2 := Lib.hid h2
                clear h2
                refine plan_region' (S := (fun w' => (∀ b o, b < (w4).heap.size → w'.cell? ⟨b, o, none⟩ = (w4).cell? ⟨b, o, none⟩) ∧ (∀ b o, b < (w4).heap.size → w'.frozen? ⟨b, o, none⟩ = (w4).frozen? ⟨b, o, none⟩) ∧ Below (w4).heap.size (w4) w')) [(0, true), (1, true), (2, true), (3, false), (4, true), (5, true), (6, true), (7, true), (8, true), (9, true), (10, true), (11, true), (13, true), (14, true), (12, false), (15, true), (16, true), (17, true), (18, true), (19, true), (20, true), (21, true), (22, true), (23, true), (24, true), (25, true), (26, true), (27, true), (28, true), (29, true), (30, true), (31, true), (32, true), (33, true), (34, true)] (by kernel_rfl) (by kernel_rfl) (fun _ _ d _ _ h => by cases d <;> exact h) (keepW0 _) (fun hS => ?_)
                simp only [picked, List.getElem?_cons_succ, List.getElem?_cons_zero]
                iterate 3
                 refine row_free (v := ?_) (by rfl) ?_ ?_; rotate_left 1; focus (intro w hSw; (try dsimp only at hSw); go_simp; (try with_reducible rfl))
                 (try simp only [Act.put, tA, tB, tC])
                refine row_call (by rfl) (fun K hK => ?_)
                go_simp
                (refine (HR.out _).mono ?_; rintro e w7 ⟨rfl, hb7⟩)
                (try go_wp2_with fail)
                refine hK.out _ _ ?_ (fun hS' => ?_)
                · (try dsimp only); first | exact keepW (by assumption) (by assumption) | exact keepB (by assumption) (by assumption) | exact keepA (by assumption) | assumption
                clear hS hK K
                have hS := hS'
                clear hS'
                iterate 10
                 (try simp only [Act.put, tA, tB, tC])
                 refine row_free (v := ?_) (by rfl) ?_ ?_; rotate_left 1; focus (intro w hSw; (try dsimp only at hSw); go_simp; (try with_reducible rfl))
                (try simp only [Act.put, tA, tB, tC])
                refine row_call (by rfl) (fun K hK => ?_)
                go_simp
                (refine (HO.out _).mono ?_; rintro e w8 ⟨rfl, hb8⟩)
                (try go_wp2_with fail)
                refine hK.out _ _ ?_ (fun hS' => ?_)
                · (try dsimp only); first | exact keepW (by assumption) (by assumption) | exact keepB (by assumption) (by assumption) | exact keepA (by assumption) | assumption
                clear hS hK K
                have hS := hS'
                clear hS'
                iterate 8
                 (try simp only [Act.put, tA, tB, tC])
                 refine row_free (v := ?_) (by rfl) ?_ ?_; rotate_left 1; focus (intro w hSw; (try dsimp only at hSw); go_simp; (try with_reducible rfl))
                iterate 3
                 (try simp only [Act.put, tA, tB, tC])
                 refine row_off (by rfl) ?_
                iterate 2
                 (try simp only [Act.put, tA, tB, tC])
                 refine row_free (v := ?_) (by rfl) ?_ ?_; rotate_left 1; focus (intro w hSw; (try dsimp only at hSw); go_simp; (try with_reducible rfl))
                iterate 5
                 (try simp only [Act.put, tA, tB, tC])
                 refine row_off (by rfl) ?_
                iterate 2
                 (try simp only [Act.put, tA, tB, tC])
                 refine row_free (v := ?_) (by rfl) ?_ ?_; rotate_left 1; focus (intro w hSw; (try dsimp only at hSw); go_simp; (try with_reducible rfl))
                (try simp only [Act.put, tA, tB, tC])
                refine row_done ?_
                go_wp2
                go_ret
                exact ⟨ret_bool (by rw [HB.out, HHd.out]; simp [H2.out]), nextW HBw.out hS.2.2⟩
            · have d4 : (o == c.dst) = false := by simpa using h4
              have H4 := Lib.hid h4
              clear h4
              refine plan_region' (S := (fun w' => (∀ b o, b < (w4).heap.size → w'.cell? ⟨b, o, none⟩ = (w4).cell? ⟨b, o, none⟩) ∧ (∀ b o, b < (w4).heap.size → w'.frozen? ⟨b, o, none⟩ = (w4).frozen? ⟨b, o, none⟩) ∧ Below (w4).heap.size (w4) w')) [(0, true), (1, true), (2, true), (3, false), (4, true), (5, true), (6, true), (7, true), (8, true), (9, true), (10, true), (11, true), (13, true), (14, true), (12, false), (15, true), (16, true), (17, true), (18, true), (19, true), (20, true), (21, true), (22, true), (23, true), (24, true), (25, true), (26, true), (27, true), (28, true), (29, true), (30, true), (31, true), (32, true), (33, true), (34, true)] (by kernel_rfl) (by kernel_rfl) (fun _ _ d _ _ h => by cases d <;> exact h) (keepW0 _) (fun hS => ?_)
              simp only [picked, List.getElem?_cons_succ, List.getElem?_cons_zero]
              iterate 3
               refine row_free (v := ?_) (by rfl) ?_ ?_; rotate_left 1; focus (intro w hSw; (try dsimp only at hSw); go_simp; (try with_reducible rfl))
               (try simp only [Act.put, tA, tB, tC])
              refine row_call (by rfl) (fun K hK => ?_)
              go_simp
              (refine (HR.out _).mono ?_; rintro e w7 ⟨rfl, hb7⟩)
              (try go_wp2_with fail)
              refine hK.out _ _ ?_ (fun hS' => ?_)
              · (try dsimp only); first | exact keepW (by assumption) (by assumption) | exact keepB (by assumption) (by assumption) | exact keepA (by assumption) | assumption
              clear hS hK K
              have hS := hS'
              clear hS'
              iterate 10
               (try simp only [Act.put, tA, tB, tC])
               refine row_free (v := ?_) (by rfl) ?_ ?_; rotate_left 1; focus (intro w hSw; (try dsimp only at hSw); go_simp; (try with_reducible rfl))
              (try simp only [Act.put, tA, tB, tC])
              refine row_call (by rfl) (fun K hK => ?_)
              go_simp
              (refine (HO.out _).mono ?_; rintro e w8 ⟨rfl, hb8⟩)
              (try go_wp2_with fail)
              refine hK.out _ _ ?_ (fun hS' => ?_)
              · (try dsimp only); first | exact keepW (by assumption) (by assumption) | exact keepB (by assumption) (by assumption) | exact keepA (by assumption) | assumption
              clear hS hK K
              have hS := hS'
              clear hS'
              iterate 3
               (try simp only [Act.put, tA, tB, tC])
               refine row_free (v := ?_) (by rfl) ?_ ?_; rotate_left 1; focus (intro w hSw; (try dsimp only at hSw); go_simp; (try with_reducible rfl))
              iterate 3
               (try simp only [Act.put, tA, tB, tC])
               refine row_off (by rfl) ?_
              iterate 2
               (try simp only [Act.put, tA, tB, tC])
               refine row_free (v := ?_) (by rfl) ?_ ?_; rotate_left 1; focus (intro w hSw; (try dsimp only at hSw); go_simp; (try with_reducible rfl))
              iterate 3
               (try simp only [Act.put, tA, tB, tC])
               refine row_off (by rfl) ?_
              iterate 2
               (try simp only [Act.put, tA, tB, tC])
               refine row_free (v := ?_) (by rfl) ?_ ?_; rotate_left 1; focus (intro w hSw; (try dsimp only at hSw); go_simp; (try with_reducible rfl))
              iterate 5
               (try simp only [Act.put, tA, tB, tC])
               refine row_off (by rfl) ?_
              iterate 2
               (try simp only [Act.put, tA, tB, tC])
               refine row_free (v := ?_) (by rfl) ?_ ?_; rotate_left 1; focus (intro w hSw; (try dsimp only at hSw); go_simp; (try with_reducible rfl))
              (try simp only [Act.put, tA, tB, tC])
              refine row_done ?_
              go_wp2
              go_ret
              exact ⟨ret_bool (by rw [HB.out, HHd.out]; simp [H4.out]), nextW HBw.out hS.2.2⟩
        · rw [if_neg k1] at HB
          by_cases k2 : c.kind = 2
          · rw [if_pos k2] at HB
            go_wp2_with fail
            refine (HIn.out _).mono ?_
            rintro e w7 ⟨rfl, hb7⟩
            have Hb7 := Lib.hid (nextW HBw.out hb7)
            replace y0 := (hb7.cell (p := ⟨w.heap.size + 1, 0, none⟩) hz1).trans y0
            replace y1 := (hb7.cell (p := ⟨w.heap.size + 1, 1, none⟩) hz1).trans y1
            replace y2 := (hb7.cell (p := ⟨w.heap.size + 1, 2, none⟩) hz1).trans y2
            replace y3 := (hb7.cell (p := ⟨w.heap.size + 1, 3, none⟩) hz1).trans y3
            replace y4 := (hb7.cell (p := ⟨w.heap.size + 1, 4, none⟩) hz1).trans y4
            replace y5 := (hb7.cell (p := ⟨w.heap.size + 1, 5, none⟩) hz1).trans y5
            replace y6 := (hb7.cell (p := ⟨w.heap.size + 1, 6, none⟩) hz1).trans y6
            replace y7 := (hb7.cell (p := ⟨w.heap.size + 1, 7, none⟩) hz1).trans y7
            replace y8 := (hb7.cell (p := ⟨w.heap.size + 1, 8, none⟩) hz1).trans y8
            replace y9 := (hb7.cell (p := ⟨w.heap.size + 1, 9, none⟩) hz1).trans y9
            replace y10 := (hb7.cell (p := ⟨w.heap.size + 1, 10, none⟩) hz1).trans y10
            replace y11 := (hb7.cell (p := ⟨w.heap.size + 1, 11, none⟩) hz1).trans y11
            replace y12 := (hb7.cell (p := ⟨w.heap.size + 1, 12, none⟩) hz1).trans y12
            replace y13 := (hb7.cell (p := ⟨w.heap.size + 1, 13, none⟩) hz1).trans y13
            replace y14 := (hb7.cell (p := ⟨w.heap.size + 1, 14, none⟩) hz1).trans y14
            clear hb7
            cases iN
            · go_wp2
              go_ret
              exact ⟨ret_bool (by rw [HB.out, HBl.out]; simp), Hb7.out⟩
            · go_wp2
              go_ret
              exact ⟨ret_bool (by rw [HB.out, HBl.out]; simp), Hb7.out⟩
          · rw [if_neg k2] at HB
            go_wp2
            go_ret
            exact ⟨by rw [HB.out]; rfl, HBw.out⟩

end Go.Proofs.YtlpkaljepaclpaaGreat.Fx
