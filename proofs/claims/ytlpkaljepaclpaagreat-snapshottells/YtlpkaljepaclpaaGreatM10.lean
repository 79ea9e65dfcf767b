/- Which messages are right: package cross's answer and the document's are one. -/
import Derived.Test.YtlpkaljepaclpaaGreatM03
import Derived.Test.YtlpkaljepaclpaaGreatM04
import Derived.Test.YtlpkaljepaclpaaGreatM06
import Derived.Test.YtlpkaljepaclpaaGreatM07
import Derived.Test.YtlpkaljepaclpaaGreatM09
namespace Go.Proofs.YtlpkaljepaclpaaGreat.Fx
open Go.ChangeShapes Go.WideShapes Go.ChangeAt Go.RowKit
set_option linter.unusedVariables false
set_option maxRecDepth 100000

def e0 : Ent := ⟨0, 0, 0, 0, 0, 0, 0, 0, 0⟩

/-- A message that hands one over. -/
def handB (a b p n : Int) (c : Crs) : Bool := decide (¬ c.dst = c.src) && (decide (c.x = 0) && (decide (c.y = 0) && (erightB a b p n c.e && decide (ofr a b p n c.e.x c.e.y = c.dst))))

/-- A blast. -/
def blastB (a b p n : Int) (c : Crs) : Bool := ins a b p n c.x c.y && eqEnt c.e e0

/-- May a message go? -/
def crightB (a b p n : Int) (c : Crs) : Bool :=
  inB (nr a b p n c.src) c.dst && (wi c.frame 0 9999 && (if c.kind = 1 then handB a b p n c else if c.kind = 2 then blastB a b p n c else false))

theorem nr_has {a b p n r y : Int} (h : inB (nr a b p n r) y = true) : hasB a b p n r = true := by
  unfold nr inB at h
  by_cases hh : hasB a b p n r = true
  · exact hh
  · rw [if_neg hh] at h; simp at h

set_option maxHeartbeats 1000000 in
theorem rightBlast_any (a b p n s : Int) (c : Crs) (w : World) :
    Calls Tryz.prog 193 #[.agg #[.int .i64 a, .int .i64 b, .int .i64 p, .int .i64 n, .int .u64 s], .agg #[.int .i64 c.kind, .int .i64 c.src, .int .i64 c.dst, .int .i64 c.frame, .int .i64 c.e.id, .int .i64 c.e.kind, .int .i64 c.e.x, .int .i64 c.e.y, .int .i64 c.e.vx, .int .i64 c.e.vy, .int .i64 c.e.health, .int .i64 c.e.age, .int .i64 c.e.owner, .int .i64 c.x, .int .i64 c.y]] w fun e w' => e = .returned (.bool (blastB a b p n c)) ∧ Below w.heap.size w w' := by
  have HI := Lib.hid (fun w => inside_any a b p n s c.x c.y w)
  have HB := Lib.hid (show blastB a b p n c = (ins a b p n c.x c.y && eqEnt c.e e0) from rfl)
  have HE := Lib.hid (show eqEnt c.e e0 = eqEnt c.e ⟨0, 0, 0, 0, 0, 0, 0, 0, 0⟩ from rfl)
  have hq := fun W : World => eql_Ent c.e ⟨0, 0, 0, 0, 0, 0, 0, 0, 0⟩ W
  rw [← HE.out] at hq
  generalize blastB a b p n c = r at *
  generalize ins a b p n c.x c.y = i at *
  generalize eqEnt c.e e0 = q at *
  go_enter Tryz.func193, Tryz.ntmps193
  go_wp2_with fail
  refine (HI.out _).mono ?_
  rintro e w1 ⟨rfl, hb⟩
  obtain ⟨hc, hf⟩ := bcell hb
  have Hb := Lib.hid (unbox (unbox hb))
  have y0 : w1.cell? ⟨w.heap.size + 1, 0, none⟩ = some (.int .i64 c.kind) := by rw [hc _ _ (by simp)]; simp
  have y1 : w1.cell? ⟨w.heap.size + 1, 1, none⟩ = some (.int .i64 c.src) := by rw [hc _ _ (by simp)]; simp
  have y2 : w1.cell? ⟨w.heap.size + 1, 2, none⟩ = some (.int .i64 c.dst) := by rw [hc _ _ (by simp)]; simp
  have y3 : w1.cell? ⟨w.heap.size + 1, 3, none⟩ = some (.int .i64 c.frame) := by rw [hc _ _ (by simp)]; simp
  have y4 : w1.cell? ⟨w.heap.size + 1, 4, none⟩ = some (.int .i64 c.e.id) := by rw [hc _ _ (by simp)]; simp
  have y5 : w1.cell? ⟨w.heap.size + 1, 5, none⟩ = some (.int .i64 c.e.kind) := by rw [hc _ _ (by simp)]; simp
  have y6 : w1.cell? ⟨w.heap.size + 1, 6, none⟩ = some (.int .i64 c.e.x) := by rw [hc _ _ (by simp)]; simp
  have y7 : w1.cell? ⟨w.heap.size + 1, 7, none⟩ = some (.int .i64 c.e.y) := by rw [hc _ _ (by simp)]; simp
  have y8 : w1.cell? ⟨w.heap.size + 1, 8, none⟩ = some (.int .i64 c.e.vx) := by rw [hc _ _ (by simp)]; simp
  have y9 : w1.cell? ⟨w.heap.size + 1, 9, none⟩ = some (.int .i64 c.e.vy) := by rw [hc _ _ (by simp)]; simp
  have y10 : w1.cell? ⟨w.heap.size + 1, 10, none⟩ = some (.int .i64 c.e.health) := by rw [hc _ _ (by simp)]; simp
  have y11 : w1.cell? ⟨w.heap.size + 1, 11, none⟩ = some (.int .i64 c.e.age) := by rw [hc _ _ (by simp)]; simp
  have y12 : w1.cell? ⟨w.heap.size + 1, 12, none⟩ = some (.int .i64 c.e.owner) := by rw [hc _ _ (by simp)]; simp
  have y13 : w1.cell? ⟨w.heap.size + 1, 13, none⟩ = some (.int .i64 c.x) := by rw [hc _ _ (by simp)]; simp
  have y14 : w1.cell? ⟨w.heap.size + 1, 14, none⟩ = some (.int .i64 c.y) := by rw [hc _ _ (by simp)]; simp
  clear hb hc hf
  cases i
  · go_wp2
    go_ret
    exact ⟨ret_bool (by rw [HB.out]; simp), Hb.out⟩
  · go_wp2
    go_ret
    exact ⟨ret_bool (by rw [HB.out]; simp), Hb.out⟩

theorem cell_box (w : World) (cs : Array Value) (t b i : Nat) (hb : b = w.heap.size) : (w.alloc (.cells cs t)).cell? ⟨b, i, none⟩ = cs[i]? := by
  subst hb; exact World.cell?_alloc_new _ _ _ _

set_option maxHeartbeats 4000000 in
theorem rightHandoff_any (a b p n s : Int) (c : Crs) (w : World) :
    Calls Tryz.prog 192 #[.agg #[.int .i64 a, .int .i64 b, .int .i64 p, .int .i64 n, .int .u64 s], .agg #[.int .i64 c.kind, .int .i64 c.src, .int .i64 c.dst, .int .i64 c.frame, .int .i64 c.e.id, .int .i64 c.e.kind, .int .i64 c.e.x, .int .i64 c.e.y, .int .i64 c.e.vx, .int .i64 c.e.vy, .int .i64 c.e.health, .int .i64 c.e.age, .int .i64 c.e.owner, .int .i64 c.x, .int .i64 c.y]] w fun e w' => e = .returned (.bool (handB a b p n c)) ∧ Below w.heap.size w w' := by
  have HR := Lib.hid (fun w => eright_any a b p n s c.e w)
  have HO := Lib.hid (fun w => of_any a b p n s c.e.x c.e.y w)
  have HB := Lib.hid (show handB a b p n c = (decide (¬ c.dst = c.src) && (decide (c.x = 0) && (decide (c.y = 0) && (erightB a b p n c.e && decide (ofr a b p n c.e.x c.e.y = c.dst))))) from rfl)
  generalize handB a b p n c = r at *
  generalize erightB a b p n c.e = q at *
  generalize ofr a b p n c.e.x c.e.y = o at *
  go_enter Tryz.func192, Tryz.ntmps192
  go_upto_region 2 with fail
  generalize hW : ((w.alloc _).alloc _).alloc _ = W0
  have g0 : W0.cell? ⟨w.heap.size, 0, none⟩ = some (.int .i64 a) := by rw [← hW, World.cell?_alloc_lt _ _ _ (by simp; omega), World.cell?_alloc_lt _ _ _ (by simp), cell_box _ _ _ _ _ rfl]; rfl
  have g1 : W0.cell? ⟨w.heap.size, 1, none⟩ = some (.int .i64 b) := by rw [← hW, World.cell?_alloc_lt _ _ _ (by simp; omega), World.cell?_alloc_lt _ _ _ (by simp), cell_box _ _ _ _ _ rfl]; rfl
  have g2 : W0.cell? ⟨w.heap.size, 2, none⟩ = some (.int .i64 p) := by rw [← hW, World.cell?_alloc_lt _ _ _ (by simp; omega), World.cell?_alloc_lt _ _ _ (by simp), cell_box _ _ _ _ _ rfl]; rfl
  have g3 : W0.cell? ⟨w.heap.size, 3, none⟩ = some (.int .i64 n) := by rw [← hW, World.cell?_alloc_lt _ _ _ (by simp; omega), World.cell?_alloc_lt _ _ _ (by simp), cell_box _ _ _ _ _ rfl]; rfl
  have g4 : W0.cell? ⟨w.heap.size, 4, none⟩ = some (.int .u64 s) := by rw [← hW, World.cell?_alloc_lt _ _ _ (by simp; omega), World.cell?_alloc_lt _ _ _ (by simp), cell_box _ _ _ _ _ rfl]; rfl
  have y0 : W0.cell? ⟨w.heap.size + 1, 0, none⟩ = some (.int .i64 c.kind) := by rw [← hW, World.cell?_alloc_lt _ _ _ (by simp), cell_box _ _ _ _ _ (by simp)]; rfl
  have y1 : W0.cell? ⟨w.heap.size + 1, 1, none⟩ = some (.int .i64 c.src) := by rw [← hW, World.cell?_alloc_lt _ _ _ (by simp), cell_box _ _ _ _ _ (by simp)]; rfl
  have y2 : W0.cell? ⟨w.heap.size + 1, 2, none⟩ = some (.int .i64 c.dst) := by rw [← hW, World.cell?_alloc_lt _ _ _ (by simp), cell_box _ _ _ _ _ (by simp)]; rfl
  have y3 : W0.cell? ⟨w.heap.size + 1, 3, none⟩ = some (.int .i64 c.frame) := by rw [← hW, World.cell?_alloc_lt _ _ _ (by simp), cell_box _ _ _ _ _ (by simp)]; rfl
  have y4 : W0.cell? ⟨w.heap.size + 1, 4, none⟩ = some (.int .i64 c.e.id) := by rw [← hW, World.cell?_alloc_lt _ _ _ (by simp), cell_box _ _ _ _ _ (by simp)]; rfl
  have y5 : W0.cell? ⟨w.heap.size + 1, 5, none⟩ = some (.int .i64 c.e.kind) := by rw [← hW, World.cell?_alloc_lt _ _ _ (by simp), cell_box _ _ _ _ _ (by simp)]; rfl
  have y6 : W0.cell? ⟨w.heap.size + 1, 6, none⟩ = some (.int .i64 c.e.x) := by rw [← hW, World.cell?_alloc_lt _ _ _ (by simp), cell_box _ _ _ _ _ (by simp)]; rfl
  have y7 : W0.cell? ⟨w.heap.size + 1, 7, none⟩ = some (.int .i64 c.e.y) := by rw [← hW, World.cell?_alloc_lt _ _ _ (by simp), cell_box _ _ _ _ _ (by simp)]; rfl
  have y8 : W0.cell? ⟨w.heap.size + 1, 8, none⟩ = some (.int .i64 c.e.vx) := by rw [← hW, World.cell?_alloc_lt _ _ _ (by simp), cell_box _ _ _ _ _ (by simp)]; rfl
  have y9 : W0.cell? ⟨w.heap.size + 1, 9, none⟩ = some (.int .i64 c.e.vy) := by rw [← hW, World.cell?_alloc_lt _ _ _ (by simp), cell_box _ _ _ _ _ (by simp)]; rfl
  have y10 : W0.cell? ⟨w.heap.size + 1, 10, none⟩ = some (.int .i64 c.e.health) := by rw [← hW, World.cell?_alloc_lt _ _ _ (by simp), cell_box _ _ _ _ _ (by simp)]; rfl
  have y11 : W0.cell? ⟨w.heap.size + 1, 11, none⟩ = some (.int .i64 c.e.age) := by rw [← hW, World.cell?_alloc_lt _ _ _ (by simp), cell_box _ _ _ _ _ (by simp)]; rfl
  have y12 : W0.cell? ⟨w.heap.size + 1, 12, none⟩ = some (.int .i64 c.e.owner) := by rw [← hW, World.cell?_alloc_lt _ _ _ (by simp), cell_box _ _ _ _ _ (by simp)]; rfl
  have y13 : W0.cell? ⟨w.heap.size + 1, 13, none⟩ = some (.int .i64 c.x) := by rw [← hW, World.cell?_alloc_lt _ _ _ (by simp), cell_box _ _ _ _ _ (by simp)]; rfl
  have y14 : W0.cell? ⟨w.heap.size + 1, 14, none⟩ = some (.int .i64 c.y) := by rw [← hW, World.cell?_alloc_lt _ _ _ (by simp), cell_box _ _ _ _ _ (by simp)]; rfl
  have z0 : W0.cell? ⟨w.heap.size + 1 + 1, 0, none⟩ = some (.int .i64 c.e.id) := by rw [← hW, cell_box _ _ _ _ _ (by simp)]; rfl
  have z1 : W0.cell? ⟨w.heap.size + 1 + 1, 1, none⟩ = some (.int .i64 c.e.kind) := by rw [← hW, cell_box _ _ _ _ _ (by simp)]; rfl
  have z2 : W0.cell? ⟨w.heap.size + 1 + 1, 2, none⟩ = some (.int .i64 c.e.x) := by rw [← hW, cell_box _ _ _ _ _ (by simp)]; rfl
  have z3 : W0.cell? ⟨w.heap.size + 1 + 1, 3, none⟩ = some (.int .i64 c.e.y) := by rw [← hW, cell_box _ _ _ _ _ (by simp)]; rfl
  have z4 : W0.cell? ⟨w.heap.size + 1 + 1, 4, none⟩ = some (.int .i64 c.e.vx) := by rw [← hW, cell_box _ _ _ _ _ (by simp)]; rfl
  have z5 : W0.cell? ⟨w.heap.size + 1 + 1, 5, none⟩ = some (.int .i64 c.e.vy) := by rw [← hW, cell_box _ _ _ _ _ (by simp)]; rfl
  have z6 : W0.cell? ⟨w.heap.size + 1 + 1, 6, none⟩ = some (.int .i64 c.e.health) := by rw [← hW, cell_box _ _ _ _ _ (by simp)]; rfl
  have z7 : W0.cell? ⟨w.heap.size + 1 + 1, 7, none⟩ = some (.int .i64 c.e.age) := by rw [← hW, cell_box _ _ _ _ _ (by simp)]; rfl
  have z8 : W0.cell? ⟨w.heap.size + 1 + 1, 8, none⟩ = some (.int .i64 c.e.owner) := by rw [← hW, cell_box _ _ _ _ _ (by simp)]; rfl
  have hz0 : w.heap.size < W0.heap.size := by rw [← hW]; simp; omega
  have hz1 : w.heap.size + 1 < W0.heap.size := by rw [← hW]; simp
  have hz2 : w.heap.size + 1 + 1 < W0.heap.size := by rw [← hW]; simp
  have HW := Lib.hid (show Below w.heap.size w W0 from by rw [← hW]; exact (((Below.refl _ _).alloc (Nat.le_refl _) _).alloc (by simp) _).alloc (by simp; omega) _)
  clear hW
  by_cases h1 : c.dst = c.src
  · have d1 : (c.dst != c.src) = false := by simpa using h1
    have H1 := Lib.hid h1
    clear h1
    refine plan_region' (S := (fun w' => (∀ b o, b < (W0).heap.size → w'.cell? ⟨b, o, none⟩ = (W0).cell? ⟨b, o, none⟩) ∧ (∀ b o, b < (W0).heap.size → w'.frozen? ⟨b, o, none⟩ = (W0).frozen? ⟨b, o, none⟩) ∧ Below (W0).heap.size (W0) w')) [(0, true), (1, true), (2, true), (3, true), (4, true), (5, true), (6, true), (7, true), (8, true), (9, true), (10, true), (11, true), (12, true), (13, true), (14, true), (15, true), (16, true), (17, true), (18, false), (19, true), (20, true), (21, true), (22, true), (23, true), (24, true), (25, true), (27, true), (28, true), (26, false), (29, true), (30, true), (31, true)] (by kernel_rfl) (by kernel_rfl) (fun _ _ d _ _ h => by cases d <;> exact h) (keepW0 _) (fun hS => ?_)
    simp only [picked, List.getElem?_cons_succ, List.getElem?_cons_zero]
    iterate 6
     refine row_free (v := ?_) (by rfl) ?_ ?_; rotate_left 1; focus (intro w hSw; (try dsimp only at hSw); go_simp; (try with_reducible rfl))
     (try simp only [Act.put, tA, tB, tC])
    iterate 3
     refine row_off (by rfl) ?_
     (try simp only [Act.put, tA, tB, tC])
    iterate 2
     refine row_free (v := ?_) (by rfl) ?_ ?_; rotate_left 1; focus (intro w hSw; (try dsimp only at hSw); go_simp; (try with_reducible rfl))
     (try simp only [Act.put, tA, tB, tC])
    iterate 3
     refine row_off (by rfl) ?_
     (try simp only [Act.put, tA, tB, tC])
    iterate 2
     refine row_free (v := ?_) (by rfl) ?_ ?_; rotate_left 1; focus (intro w hSw; (try dsimp only at hSw); go_simp; (try with_reducible rfl))
     (try simp only [Act.put, tA, tB, tC])
    iterate 2
     refine row_off (by rfl) ?_
     (try simp only [Act.put, tA, tB, tC])
    refine row_off' (by rfl) hS ?_
    iterate 2
     (try simp only [Act.put, tA, tB, tC])
     refine row_free (v := ?_) (by rfl) ?_ ?_; rotate_left 1; focus (intro w hSw; (try dsimp only at hSw); go_simp; (try with_reducible rfl))
    iterate 7
     (try simp only [Act.put, tA, tB, tC])
     refine row_off (by rfl) ?_
    (try simp only [Act.put, tA, tB, tC])
    refine row_off' (by rfl) hS ?_
    (try simp only [Act.put, tA, tB, tC])
    refine row_off (by rfl) ?_
    iterate 2
     (try simp only [Act.put, tA, tB, tC])
     refine row_free (v := ?_) (by rfl) ?_ ?_; rotate_left 1; focus (intro w hSw; (try dsimp only at hSw); go_simp; (try with_reducible rfl))
    (try simp only [Act.put, tA, tB, tC])
    refine row_done ?_
    go_wp2
    go_ret
    exact ⟨ret_bool (by rw [HB.out]; simp [H1.out]), nextW HW.out hS.2.2⟩
  · have d1 : (c.dst != c.src) = true := by simpa using h1
    have H1 := Lib.hid h1
    clear h1
    by_cases h2 : c.x = 0
    · have d2 : (c.x == 0) = true := by simpa using h2
      have H2 := Lib.hid h2
      clear h2
      by_cases h3 : c.y = 0
      · have d3 : (c.y == 0) = true := by simpa using h3
        have H3 := Lib.hid h3
        clear h3
        cases q
        · skip
          refine plan_region' (S := (fun w' => (∀ b o, b < (W0).heap.size → w'.cell? ⟨b, o, none⟩ = (W0).cell? ⟨b, o, none⟩) ∧ (∀ b o, b < (W0).heap.size → w'.frozen? ⟨b, o, none⟩ = (W0).frozen? ⟨b, o, none⟩) ∧ Below (W0).heap.size (W0) w')) [(0, true), (1, true), (2, true), (3, true), (4, true), (5, true), (6, true), (7, true), (8, true), (9, true), (10, true), (11, true), (12, true), (13, true), (14, true), (15, true), (16, true), (17, true), (18, false), (19, true), (20, true), (21, true), (22, true), (23, true), (24, true), (25, true), (27, true), (28, true), (26, false), (29, true), (30, true), (31, true)] (by kernel_rfl) (by kernel_rfl) (fun _ _ d _ _ h => by cases d <;> exact h) (keepW0 _) (fun hS => ?_)
          simp only [picked, List.getElem?_cons_succ, List.getElem?_cons_zero]
          iterate 18
           refine row_free (v := ?_) (by rfl) ?_ ?_; rotate_left 1; focus (intro w hSw; (try dsimp only at hSw); go_simp; (try with_reducible rfl))
           (try simp only [Act.put, tA, tB, tC])
          refine row_call (by rfl) (fun K hK => ?_)
          go_simp
          (refine (HR.out _).mono ?_; rintro e w4 ⟨rfl, hb4⟩)
          (try go_wp2_with fail)
          refine hK.out _ _ ?_ (fun hS' => ?_)
          · (try dsimp only); first | exact keepW (by assumption) (by assumption) | exact keepB (by assumption) (by assumption) | exact keepA (by assumption) | assumption
          clear hS hK K
          have hS := hS'
          clear hS'
          iterate 2
           (try simp only [Act.put, tA, tB, tC])
           refine row_free (v := ?_) (by rfl) ?_ ?_; rotate_left 1; focus (intro w hSw; (try dsimp only at hSw); go_simp; (try with_reducible rfl))
          iterate 7
           (try simp only [Act.put, tA, tB, tC])
           refine row_off (by rfl) ?_
          (try simp only [Act.put, tA, tB, tC])
          refine row_off' (by rfl) hS ?_
          (try simp only [Act.put, tA, tB, tC])
          refine row_off (by rfl) ?_
          iterate 2
           (try simp only [Act.put, tA, tB, tC])
           refine row_free (v := ?_) (by rfl) ?_ ?_; rotate_left 1; focus (intro w hSw; (try dsimp only at hSw); go_simp; (try with_reducible rfl))
          (try simp only [Act.put, tA, tB, tC])
          refine row_done ?_
          go_wp2
          go_ret
          exact ⟨ret_bool (by rw [HB.out]; simp []), nextW HW.out hS.2.2⟩
        · by_cases h4 : o = c.dst
          · have d4 : (o == c.dst) = true := by simpa using h4
            have H4 := Lib.hid h4
            clear h4
            refine plan_region' (S := (fun w' => (∀ b o, b < (W0).heap.size → w'.cell? ⟨b, o, none⟩ = (W0).cell? ⟨b, o, none⟩) ∧ (∀ b o, b < (W0).heap.size → w'.frozen? ⟨b, o, none⟩ = (W0).frozen? ⟨b, o, none⟩) ∧ Below (W0).heap.size (W0) w')) [(0, true), (1, true), (2, true), (3, true), (4, true), (5, true), (6, true), (7, true), (8, true), (9, true), (10, true), (11, true), (12, true), (13, true), (14, true), (15, true), (16, true), (17, true), (18, false), (19, true), (20, true), (21, true), (22, true), (23, true), (24, true), (25, true), (27, true), (28, true), (26, false), (29, true), (30, true), (31, true)] (by kernel_rfl) (by kernel_rfl) (fun _ _ d _ _ h => by cases d <;> exact h) (keepW0 _) (fun hS => ?_)
            simp only [picked, List.getElem?_cons_succ, List.getElem?_cons_zero]
            iterate 18
             refine row_free (v := ?_) (by rfl) ?_ ?_; rotate_left 1; focus (intro w hSw; (try dsimp only at hSw); go_simp; (try with_reducible rfl))
             (try simp only [Act.put, tA, tB, tC])
            refine row_call (by rfl) (fun K hK => ?_)
            go_simp
            (refine (HR.out _).mono ?_; rintro e w4 ⟨rfl, hb4⟩)
            (try go_wp2_with fail)
            refine hK.out _ _ ?_ (fun hS' => ?_)
            · (try dsimp only); first | exact keepW (by assumption) (by assumption) | exact keepB (by assumption) (by assumption) | exact keepA (by assumption) | assumption
            clear hS hK K
            have hS := hS'
            clear hS'
            iterate 9
             (try simp only [Act.put, tA, tB, tC])
             refine row_free (v := ?_) (by rfl) ?_ ?_; rotate_left 1; focus (intro w hSw; (try dsimp only at hSw); go_simp; (try with_reducible rfl))
            (try simp only [Act.put, tA, tB, tC])
            refine row_call (by rfl) (fun K hK => ?_)
            go_simp
            (refine (HO.out _).mono ?_; rintro e w4 ⟨rfl, hb4⟩)
            (try go_wp2_with fail)
            refine hK.out _ _ ?_ (fun hS' => ?_)
            · (try dsimp only); first | exact keepW (by assumption) (by assumption) | exact keepB (by assumption) (by assumption) | exact keepA (by assumption) | assumption
            clear hS hK K
            have hS := hS'
            clear hS'
            iterate 3
             (try simp only [Act.put, tA, tB, tC])
             refine row_free (v := ?_) (by rfl) ?_ ?_; rotate_left 1; focus (intro w hSw; (try dsimp only at hSw); go_simp; (try with_reducible rfl))
            (try simp only [Act.put, tA, tB, tC])
            refine row_done ?_
            go_wp2
            go_ret
            exact ⟨ret_bool (by rw [HB.out]; simp [H1.out, H2.out, H3.out, H4.out]), nextW HW.out hS.2.2⟩
          · have d4 : (o == c.dst) = false := by simpa using h4
            have H4 := Lib.hid h4
            clear h4
            refine plan_region' (S := (fun w' => (∀ b o, b < (W0).heap.size → w'.cell? ⟨b, o, none⟩ = (W0).cell? ⟨b, o, none⟩) ∧ (∀ b o, b < (W0).heap.size → w'.frozen? ⟨b, o, none⟩ = (W0).frozen? ⟨b, o, none⟩) ∧ Below (W0).heap.size (W0) w')) [(0, true), (1, true), (2, true), (3, true), (4, true), (5, true), (6, true), (7, true), (8, true), (9, true), (10, true), (11, true), (12, true), (13, true), (14, true), (15, true), (16, true), (17, true), (18, false), (19, true), (20, true), (21, true), (22, true), (23, true), (24, true), (25, true), (27, true), (28, true), (26, false), (29, true), (30, true), (31, true)] (by kernel_rfl) (by kernel_rfl) (fun _ _ d _ _ h => by cases d <;> exact h) (keepW0 _) (fun hS => ?_)
            simp only [picked, List.getElem?_cons_succ, List.getElem?_cons_zero]
            iterate 18
             refine row_free (v := ?_) (by rfl) ?_ ?_; rotate_left 1; focus (intro w hSw; (try dsimp only at hSw); go_simp; (try with_reducible rfl))
             (try simp only [Act.put, tA, tB, tC])
            refine row_call (by rfl) (fun K hK => ?_)
            go_simp
            (refine (HR.out _).mono ?_; rintro e w4 ⟨rfl, hb4⟩)
            (try go_wp2_with fail)
            refine hK.out _ _ ?_ (fun hS' => ?_)
            · (try dsimp only); first | exact keepW (by assumption) (by assumption) | exact keepB (by assumption) (by assumption) | exact keepA (by assumption) | assumption
            clear hS hK K
            have hS := hS'
            clear hS'
            iterate 9
             (try simp only [Act.put, tA, tB, tC])
             refine row_free (v := ?_) (by rfl) ?_ ?_; rotate_left 1; focus (intro w hSw; (try dsimp only at hSw); go_simp; (try with_reducible rfl))
            (try simp only [Act.put, tA, tB, tC])
            refine row_call (by rfl) (fun K hK => ?_)
            go_simp
            (refine (HO.out _).mono ?_; rintro e w4 ⟨rfl, hb4⟩)
            (try go_wp2_with fail)
            refine hK.out _ _ ?_ (fun hS' => ?_)
            · (try dsimp only); first | exact keepW (by assumption) (by assumption) | exact keepB (by assumption) (by assumption) | exact keepA (by assumption) | assumption
            clear hS hK K
            have hS := hS'
            clear hS'
            iterate 3
             (try simp only [Act.put, tA, tB, tC])
             refine row_free (v := ?_) (by rfl) ?_ ?_; rotate_left 1; focus (intro w hSw; (try dsimp only at hSw); go_simp; (try with_reducible rfl))
            (try simp only [Act.put, tA, tB, tC])
            refine row_done ?_
            go_wp2
            go_ret
            exact ⟨ret_bool (by rw [HB.out]; simp [H4.out]), nextW HW.out hS.2.2⟩
      · have d3 : (c.y == 0) = false := by simpa using h3
        have H3 := Lib.hid h3
        clear h3
        refine plan_region' (S := (fun w' => (∀ b o, b < (W0).heap.size → w'.cell? ⟨b, o, none⟩ = (W0).cell? ⟨b, o, none⟩) ∧ (∀ b o, b < (W0).heap.size → w'.frozen? ⟨b, o, none⟩ = (W0).frozen? ⟨b, o, none⟩) ∧ Below (W0).heap.size (W0) w')) [(0, true), (1, true), (2, true), (3, true), (4, true), (5, true), (6, true), (7, true), (8, true), (9, true), (10, true), (11, true), (12, true), (13, true), (14, true), (15, true), (16, true), (17, true), (18, false), (19, true), (20, true), (21, true), (22, true), (23, true), (24, true), (25, true), (27, true), (28, true), (26, false), (29, true), (30, true), (31, true)] (by kernel_rfl) (by kernel_rfl) (fun _ _ d _ _ h => by cases d <;> exact h) (keepW0 _) (fun hS => ?_)
        simp only [picked, List.getElem?_cons_succ, List.getElem?_cons_zero]
        iterate 16
         refine row_free (v := ?_) (by rfl) ?_ ?_; rotate_left 1; focus (intro w hSw; (try dsimp only at hSw); go_simp; (try with_reducible rfl))
         (try simp only [Act.put, tA, tB, tC])
        iterate 2
         refine row_off (by rfl) ?_
         (try simp only [Act.put, tA, tB, tC])
        refine row_off' (by rfl) hS ?_
        iterate 2
         (try simp only [Act.put, tA, tB, tC])
         refine row_free (v := ?_) (by rfl) ?_ ?_; rotate_left 1; focus (intro w hSw; (try dsimp only at hSw); go_simp; (try with_reducible rfl))
        iterate 7
         (try simp only [Act.put, tA, tB, tC])
         refine row_off (by rfl) ?_
        (try simp only [Act.put, tA, tB, tC])
        refine row_off' (by rfl) hS ?_
        (try simp only [Act.put, tA, tB, tC])
        refine row_off (by rfl) ?_
        iterate 2
         (try simp only [Act.put, tA, tB, tC])
         refine row_free (v := ?_) (by rfl) ?_ ?_; rotate_left 1; focus (intro w hSw; (try dsimp only at hSw); go_simp; (try with_reducible rfl))
        (try simp only [Act.put, tA, tB, tC])
        refine row_done ?_
        go_wp2
        go_ret
        exact ⟨ret_bool (by rw [HB.out]; simp [H3.out]), nextW HW.out hS.2.2⟩
    · have d2 : (c.x == 0) = false := by simpa using h2
      have H2 := Lib.hid h2
      clear h2
      refine plan_region' (S := (fun w' => (∀ b o, b < (W0).heap.size → w'.cell? ⟨b, o, none⟩ = (W0).cell? ⟨b, o, none⟩) ∧ (∀ b o, b < (W0).heap.size → w'.frozen? ⟨b, o, none⟩ = (W0).frozen? ⟨b, o, none⟩) ∧ Below (W0).heap.size (W0) w')) [(0, true), (1, true), (2, true), (3, true), (4, true), (5, true), (6, true), (7, true), (8, true), (9, true), (10, true), (11, true), (12, true), (13, true), (14, true), (15, true), (16, true), (17, true), (18, false), (19, true), (20, true), (21, true), (22, true), (23, true), (24, true), (25, true), (27, true), (28, true), (26, false), (29, true), (30, true), (31, true)] (by kernel_rfl) (by kernel_rfl) (fun _ _ d _ _ h => by cases d <;> exact h) (keepW0 _) (fun hS => ?_)
      simp only [picked, List.getElem?_cons_succ, List.getElem?_cons_zero]
      iterate 11
       refine row_free (v := ?_) (by rfl) ?_ ?_; rotate_left 1; focus (intro w hSw; (try dsimp only at hSw); go_simp; (try with_reducible rfl))
       (try simp only [Act.put, tA, tB, tC])
      iterate 3
       refine row_off (by rfl) ?_
       (try simp only [Act.put, tA, tB, tC])
      iterate 2
       refine row_free (v := ?_) (by rfl) ?_ ?_; rotate_left 1; focus (intro w hSw; (try dsimp only at hSw); go_simp; (try with_reducible rfl))
       (try simp only [Act.put, tA, tB, tC])
      iterate 2
       refine row_off (by rfl) ?_
       (try simp only [Act.put, tA, tB, tC])
      refine row_off' (by rfl) hS ?_
      iterate 2
       (try simp only [Act.put, tA, tB, tC])
       refine row_free (v := ?_) (by rfl) ?_ ?_; rotate_left 1; focus (intro w hSw; (try dsimp only at hSw); go_simp; (try with_reducible rfl))
      iterate 7
       (try simp only [Act.put, tA, tB, tC])
       refine row_off (by rfl) ?_
      (try simp only [Act.put, tA, tB, tC])
      refine row_off' (by rfl) hS ?_
      (try simp only [Act.put, tA, tB, tC])
      refine row_off (by rfl) ?_
      iterate 2
       (try simp only [Act.put, tA, tB, tC])
       refine row_free (v := ?_) (by rfl) ?_ ?_; rotate_left 1; focus (intro w hSw; (try dsimp only at hSw); go_simp; (try with_reducible rfl))
      (try simp only [Act.put, tA, tB, tC])
      refine row_done ?_
      go_wp2
      go_ret
      exact ⟨ret_bool (by rw [HB.out]; simp [H2.out]), nextW HW.out hS.2.2⟩

set_option maxHeartbeats 4000000 in
theorem cright_any (a b p n s : Int) (c : Crs) (w : World) :
    Calls Tryz.prog 128 #[.agg #[.int .i64 a, .int .i64 b, .int .i64 p, .int .i64 n, .int .u64 s], .agg #[.int .i64 c.kind, .int .i64 c.src, .int .i64 c.dst, .int .i64 c.frame, .int .i64 c.e.id, .int .i64 c.e.kind, .int .i64 c.e.x, .int .i64 c.e.y, .int .i64 c.e.vx, .int .i64 c.e.vy, .int .i64 c.e.health, .int .i64 c.e.age, .int .i64 c.e.owner, .int .i64 c.x, .int .i64 c.y]] w fun e w' => e = .returned (.bool (crightB a b p n c)) ∧ Below w.heap.size w w' := by
  have HN := Lib.hid (fun w => near_any a b p n s c.src w)
  have HNl := Lib.hid (show (nr a b p n c.src).length ≤ 1000000 from by
    unfold nr
    split
    · rename_i h
      obtain ⟨-, -, -, ha, ha4, hb, hb4, -⟩ := hasB_rt h
      have := nrTo_len a c.src (a * b).toNat
      have := mul_le4 ha ha4 hb hb4
      omega
    · simp)
  have HC := Lib.hid (fun A k l w hl => contains_any A (nr a b p n c.src).length k l c.dst w hl HNl.out)
  have HH := Lib.hid (fun w => rightHandoff_any a b p n s c w)
  have HBl := Lib.hid (fun w => rightBlast_any a b p n s c w)
  have HB := Lib.hid (show crightB a b p n c = (inB (nr a b p n c.src) c.dst && (wi c.frame 0 9999 && (if c.kind = 1 then handB a b p n c else if c.kind = 2 then blastB a b p n c else false))) from rfl)
  generalize crightB a b p n c = r at *
  generalize handB a b p n c = q1 at *
  generalize blastB a b p n c = q2 at *
  generalize nr a b p n c.src = l at *
  go_enter Tryz.func128, Tryz.ntmps128
  go_upto_region 1 with fail
  generalize hW : (w.alloc _).alloc _ = W0
  have g0 : W0.cell? ⟨w.heap.size, 0, none⟩ = some (.int .i64 a) := by rw [← hW, World.cell?_alloc_lt _ _ _ (by simp), cell_box _ _ _ _ _ rfl]; rfl
  have g1 : W0.cell? ⟨w.heap.size, 1, none⟩ = some (.int .i64 b) := by rw [← hW, World.cell?_alloc_lt _ _ _ (by simp), cell_box _ _ _ _ _ rfl]; rfl
  have g2 : W0.cell? ⟨w.heap.size, 2, none⟩ = some (.int .i64 p) := by rw [← hW, World.cell?_alloc_lt _ _ _ (by simp), cell_box _ _ _ _ _ rfl]; rfl
  have g3 : W0.cell? ⟨w.heap.size, 3, none⟩ = some (.int .i64 n) := by rw [← hW, World.cell?_alloc_lt _ _ _ (by simp), cell_box _ _ _ _ _ rfl]; rfl
  have g4 : W0.cell? ⟨w.heap.size, 4, none⟩ = some (.int .u64 s) := by rw [← hW, World.cell?_alloc_lt _ _ _ (by simp), cell_box _ _ _ _ _ rfl]; rfl
  have y0 : W0.cell? ⟨w.heap.size + 1, 0, none⟩ = some (.int .i64 c.kind) := by rw [← hW, cell_box _ _ _ _ _ (by simp)]; rfl
  have y1 : W0.cell? ⟨w.heap.size + 1, 1, none⟩ = some (.int .i64 c.src) := by rw [← hW, cell_box _ _ _ _ _ (by simp)]; rfl
  have y2 : W0.cell? ⟨w.heap.size + 1, 2, none⟩ = some (.int .i64 c.dst) := by rw [← hW, cell_box _ _ _ _ _ (by simp)]; rfl
  have y3 : W0.cell? ⟨w.heap.size + 1, 3, none⟩ = some (.int .i64 c.frame) := by rw [← hW, cell_box _ _ _ _ _ (by simp)]; rfl
  have y4 : W0.cell? ⟨w.heap.size + 1, 4, none⟩ = some (.int .i64 c.e.id) := by rw [← hW, cell_box _ _ _ _ _ (by simp)]; rfl
  have y5 : W0.cell? ⟨w.heap.size + 1, 5, none⟩ = some (.int .i64 c.e.kind) := by rw [← hW, cell_box _ _ _ _ _ (by simp)]; rfl
  have y6 : W0.cell? ⟨w.heap.size + 1, 6, none⟩ = some (.int .i64 c.e.x) := by rw [← hW, cell_box _ _ _ _ _ (by simp)]; rfl
  have y7 : W0.cell? ⟨w.heap.size + 1, 7, none⟩ = some (.int .i64 c.e.y) := by rw [← hW, cell_box _ _ _ _ _ (by simp)]; rfl
  have y8 : W0.cell? ⟨w.heap.size + 1, 8, none⟩ = some (.int .i64 c.e.vx) := by rw [← hW, cell_box _ _ _ _ _ (by simp)]; rfl
  have y9 : W0.cell? ⟨w.heap.size + 1, 9, none⟩ = some (.int .i64 c.e.vy) := by rw [← hW, cell_box _ _ _ _ _ (by simp)]; rfl
  have y10 : W0.cell? ⟨w.heap.size + 1, 10, none⟩ = some (.int .i64 c.e.health) := by rw [← hW, cell_box _ _ _ _ _ (by simp)]; rfl
  have y11 : W0.cell? ⟨w.heap.size + 1, 11, none⟩ = some (.int .i64 c.e.age) := by rw [← hW, cell_box _ _ _ _ _ (by simp)]; rfl
  have y12 : W0.cell? ⟨w.heap.size + 1, 12, none⟩ = some (.int .i64 c.e.owner) := by rw [← hW, cell_box _ _ _ _ _ (by simp)]; rfl
  have y13 : W0.cell? ⟨w.heap.size + 1, 13, none⟩ = some (.int .i64 c.x) := by rw [← hW, cell_box _ _ _ _ _ (by simp)]; rfl
  have y14 : W0.cell? ⟨w.heap.size + 1, 14, none⟩ = some (.int .i64 c.y) := by rw [← hW, cell_box _ _ _ _ _ (by simp)]; rfl
  have hz0 : w.heap.size < W0.heap.size := by rw [← hW]; simp; omega
  have hz1 : w.heap.size + 1 < W0.heap.size := by rw [← hW]; simp
  have HW := Lib.hid (show Below w.heap.size w W0 from by rw [← hW]; exact ((Below.refl _ _).alloc (Nat.le_refl _) _).alloc (by simp) _)
  clear hW
  cases hq : inB l c.dst
  · have Hq := Lib.hid hq
    clear hq
    refine plan_region' (S := (fun w' => (∀ b o, b < (W0).heap.size → w'.cell? ⟨b, o, none⟩ = (W0).cell? ⟨b, o, none⟩) ∧ (∀ b o, b < (W0).heap.size → w'.frozen? ⟨b, o, none⟩ = (W0).frozen? ⟨b, o, none⟩) ∧ Below (W0).heap.size (W0) w')) [(0, true), (1, true), (2, true), (4, true), (5, true), (3, false), (6, false), (7, true), (8, true), (9, true), (10, true), (11, true), (12, true), (13, true), (14, true), (15, true), (16, true), (17, true)] (by kernel_rfl) (by kernel_rfl) (fun _ _ d _ _ h => by cases d <;> exact h) (keepW0 _) (fun hS => ?_)
    simp only [picked, List.getElem?_cons_succ, List.getElem?_cons_zero]
    iterate 5
     refine row_free (v := ?_) (by rfl) ?_ ?_; rotate_left 1; focus (intro w hSw; (try dsimp only at hSw); go_simp; (try with_reducible rfl))
     (try simp only [Act.put, tA, tB, tC])
    refine row_call (by rfl) (fun K hK => ?_)
    go_simp
    (refine (HN.out _).mono ?_; rintro e w4 ⟨A4, k4, rfl, hI4, hb4⟩)
    (try go_wp2_with fail)
    refine hK.out _ _ ?_ (fun hS' => ?_)
    · (try dsimp only); first | exact keepW (by assumption) (by assumption) | exact keepB (by assumption) (by assumption) | exact keepA (by assumption) | assumption
    clear hS hK K
    have hS := hS'
    clear hS'
    (try simp only [Act.put, tA, tB, tC])
    refine row_call (by rfl) (fun K hK => ?_)
    go_simp
    (refine (HC.out A4 k4 l _ hI4).mono ?_; rw [Hq.out]; rintro e w5 ⟨rfl, rfl⟩)
    (try go_wp2_with fail)
    refine hK.out _ _ ?_ (fun hS' => ?_)
    · (try dsimp only); first | exact keepW (by assumption) (by assumption) | exact keepB (by assumption) (by assumption) | exact keepA (by assumption) | assumption
    clear hS hK K
    have hS := hS'
    clear hS'
    iterate 2
     (try simp only [Act.put, tA, tB, tC])
     refine row_free (v := ?_) (by rfl) ?_ ?_; rotate_left 1; focus (intro w hSw; (try dsimp only at hSw); go_simp; (try with_reducible rfl))
    iterate 3
     (try simp only [Act.put, tA, tB, tC])
     refine row_off (by rfl) ?_
    iterate 2
     (try simp only [Act.put, tA, tB, tC])
     refine row_free (v := ?_) (by rfl) ?_ ?_; rotate_left 1; focus (intro w hSw; (try dsimp only at hSw); go_simp; (try with_reducible rfl))
    iterate 3
     (try simp only [Act.put, tA, tB, tC])
     refine row_off (by rfl) ?_
    (try simp only [Act.put, tA, tB, tC])
    refine row_free (v := ?_) (by rfl) ?_ ?_; rotate_left 1; focus (intro w hSw; (try dsimp only at hSw); go_simp; (try with_reducible rfl))
    (try simp only [Act.put, tA, tB, tC])
    refine row_done ?_
    go_wp2
    go_ret
    exact ⟨ret_bool (by rw [HB.out, Hq.out]; simp), nextW HW.out hS.2.2⟩
  · have Hq := Lib.hid hq
    clear hq
    by_cases f1 : c.frame < 0
    · have d1 : decide (c.frame < 0) = true := decide_eq_true f1
      have Hf := Lib.hid (show wi c.frame 0 9999 = false from decide_eq_false (by omega))
      refine plan_region' (S := (fun w' => (∀ b o, b < (W0).heap.size → w'.cell? ⟨b, o, none⟩ = (W0).cell? ⟨b, o, none⟩) ∧ (∀ b o, b < (W0).heap.size → w'.frozen? ⟨b, o, none⟩ = (W0).frozen? ⟨b, o, none⟩) ∧ Below (W0).heap.size (W0) w')) [(0, true), (1, true), (2, true), (4, true), (5, true), (3, false), (6, false), (7, true), (8, true), (9, true), (10, true), (11, true), (12, true), (13, true), (14, true), (15, true), (16, true), (17, true)] (by kernel_rfl) (by kernel_rfl) (fun _ _ d _ _ h => by cases d <;> exact h) (keepW0 _) (fun hS => ?_)
      simp only [picked, List.getElem?_cons_succ, List.getElem?_cons_zero]
      iterate 5
       refine row_free (v := ?_) (by rfl) ?_ ?_; rotate_left 1; focus (intro w hSw; (try dsimp only at hSw); go_simp; (try with_reducible rfl))
       (try simp only [Act.put, tA, tB, tC])
      refine row_call (by rfl) (fun K hK => ?_)
      go_simp
      (refine (HN.out _).mono ?_; rintro e w4 ⟨A4, k4, rfl, hI4, hb4⟩)
      (try go_wp2_with fail)
      refine hK.out _ _ ?_ (fun hS' => ?_)
      · (try dsimp only); first | exact keepW (by assumption) (by assumption) | exact keepB (by assumption) (by assumption) | exact keepA (by assumption) | assumption
      clear hS hK K
      have hS := hS'
      clear hS'
      (try simp only [Act.put, tA, tB, tC])
      refine row_call (by rfl) (fun K hK => ?_)
      go_simp
      (refine (HC.out A4 k4 l _ hI4).mono ?_; rw [Hq.out]; rintro e w5 ⟨rfl, rfl⟩)
      (try go_wp2_with fail)
      refine hK.out _ _ ?_ (fun hS' => ?_)
      · (try dsimp only); first | exact keepW (by assumption) (by assumption) | exact keepB (by assumption) (by assumption) | exact keepA (by assumption) | assumption
      clear hS hK K
      have hS := hS'
      clear hS'
      iterate 7
       (try simp only [Act.put, tA, tB, tC])
       refine row_free (v := ?_) (by rfl) ?_ ?_; rotate_left 1; focus (intro w hSw; (try dsimp only at hSw); go_simp; (try with_reducible rfl))
      iterate 3
       (try simp only [Act.put, tA, tB, tC])
       refine row_off (by rfl) ?_
      (try simp only [Act.put, tA, tB, tC])
      refine row_free (v := ?_) (by rfl) ?_ ?_; rotate_left 1; focus (intro w hSw; (try dsimp only at hSw); go_simp; (try with_reducible rfl))
      (try simp only [Act.put, tA, tB, tC])
      refine row_done ?_
      go_wp2
      go_ret
      exact ⟨ret_bool (by rw [HB.out, Hf.out]; simp), nextW HW.out hS.2.2⟩
    · have d1 : decide (c.frame < 0) = false := decide_eq_false f1
      by_cases f2 : 10000 ≤ c.frame
      · have d2 : decide (10000 ≤ c.frame) = true := decide_eq_true f2
        have Hf := Lib.hid (show wi c.frame 0 9999 = false from decide_eq_false (by omega))
        refine plan_region' (S := (fun w' => (∀ b o, b < (W0).heap.size → w'.cell? ⟨b, o, none⟩ = (W0).cell? ⟨b, o, none⟩) ∧ (∀ b o, b < (W0).heap.size → w'.frozen? ⟨b, o, none⟩ = (W0).frozen? ⟨b, o, none⟩) ∧ Below (W0).heap.size (W0) w')) [(0, true), (1, true), (2, true), (4, true), (5, true), (3, false), (6, false), (7, true), (8, true), (9, true), (10, true), (11, true), (12, true), (13, true), (14, true), (15, true), (16, true), (17, true)] (by kernel_rfl) (by kernel_rfl) (fun _ _ d _ _ h => by cases d <;> exact h) (keepW0 _) (fun hS => ?_)
        simp only [picked, List.getElem?_cons_succ, List.getElem?_cons_zero]
        iterate 5
         refine row_free (v := ?_) (by rfl) ?_ ?_; rotate_left 1; focus (intro w hSw; (try dsimp only at hSw); go_simp; (try with_reducible rfl))
         (try simp only [Act.put, tA, tB, tC])
        refine row_call (by rfl) (fun K hK => ?_)
        go_simp
        (refine (HN.out _).mono ?_; rintro e w4 ⟨A4, k4, rfl, hI4, hb4⟩)
        (try go_wp2_with fail)
        refine hK.out _ _ ?_ (fun hS' => ?_)
        · (try dsimp only); first | exact keepW (by assumption) (by assumption) | exact keepB (by assumption) (by assumption) | exact keepA (by assumption) | assumption
        clear hS hK K
        have hS := hS'
        clear hS'
        (try simp only [Act.put, tA, tB, tC])
        refine row_call (by rfl) (fun K hK => ?_)
        go_simp
        (refine (HC.out A4 k4 l _ hI4).mono ?_; rw [Hq.out]; rintro e w5 ⟨rfl, rfl⟩)
        (try go_wp2_with fail)
        refine hK.out _ _ ?_ (fun hS' => ?_)
        · (try dsimp only); first | exact keepW (by assumption) (by assumption) | exact keepB (by assumption) (by assumption) | exact keepA (by assumption) | assumption
        clear hS hK K
        have hS := hS'
        clear hS'
        iterate 11
         (try simp only [Act.put, tA, tB, tC])
         refine row_free (v := ?_) (by rfl) ?_ ?_; rotate_left 1; focus (intro w hSw; (try dsimp only at hSw); go_simp; (try with_reducible rfl))
        (try simp only [Act.put, tA, tB, tC])
        refine row_done ?_
        go_wp2
        go_ret
        exact ⟨ret_bool (by rw [HB.out, Hf.out]; simp), nextW HW.out hS.2.2⟩
      · have d2 : decide (10000 ≤ c.frame) = false := decide_eq_false f2
        have Hf := Lib.hid (show wi c.frame 0 9999 = true from decide_eq_true (by omega))
        refine plan_region' (S := (fun w' => (∀ b o, b < (W0).heap.size → w'.cell? ⟨b, o, none⟩ = (W0).cell? ⟨b, o, none⟩) ∧ (∀ b o, b < (W0).heap.size → w'.frozen? ⟨b, o, none⟩ = (W0).frozen? ⟨b, o, none⟩) ∧ Below (W0).heap.size (W0) w')) [(0, true), (1, true), (2, true), (4, true), (5, true), (3, false), (6, false), (7, true), (8, true), (9, true), (10, true), (11, true), (12, true), (13, true), (14, true), (15, true), (16, true), (17, true)] (by kernel_rfl) (by kernel_rfl) (fun _ _ d _ _ h => by cases d <;> exact h) (keepW0 _) (fun hS => ?_)
        simp only [picked, List.getElem?_cons_succ, List.getElem?_cons_zero]
        iterate 5
         refine row_free (v := ?_) (by rfl) ?_ ?_; rotate_left 1; focus (intro w hSw; (try dsimp only at hSw); go_simp; (try with_reducible rfl))
         (try simp only [Act.put, tA, tB, tC])
        refine row_call (by rfl) (fun K hK => ?_)
        go_simp
        (refine (HN.out _).mono ?_; rintro e w4 ⟨A4, k4, rfl, hI4, hb4⟩)
        (try go_wp2_with fail)
        refine hK.out _ _ ?_ (fun hS' => ?_)
        · (try dsimp only); first | exact keepW (by assumption) (by assumption) | exact keepB (by assumption) (by assumption) | exact keepA (by assumption) | assumption
        clear hS hK K
        have hS := hS'
        clear hS'
        (try simp only [Act.put, tA, tB, tC])
        refine row_call (by rfl) (fun K hK => ?_)
        go_simp
        (refine (HC.out A4 k4 l _ hI4).mono ?_; rw [Hq.out]; rintro e w5 ⟨rfl, rfl⟩)
        (try go_wp2_with fail)
        refine hK.out _ _ ?_ (fun hS' => ?_)
        · (try dsimp only); first | exact keepW (by assumption) (by assumption) | exact keepB (by assumption) (by assumption) | exact keepA (by assumption) | assumption
        clear hS hK K
        have hS := hS'
        clear hS'
        iterate 11
         (try simp only [Act.put, tA, tB, tC])
         refine row_free (v := ?_) (by rfl) ?_ ?_; rotate_left 1; focus (intro w hSw; (try dsimp only at hSw); go_simp; (try with_reducible rfl))
        (try simp only [Act.put, tA, tB, tC])
        refine row_done ?_
        have HBw := Lib.hid (nextW HW.out hS.2.2)
        have hcw : ∀ b o, b < W0.heap.size → w4.cell? ⟨b, o, none⟩ = W0.cell? ⟨b, o, none⟩ := hS.1
        replace g0 := (hcw w.heap.size 0 hz0).trans g0
        replace g1 := (hcw w.heap.size 1 hz0).trans g1
        replace g2 := (hcw w.heap.size 2 hz0).trans g2
        replace g3 := (hcw w.heap.size 3 hz0).trans g3
        replace g4 := (hcw w.heap.size 4 hz0).trans g4
        replace y0 := (hcw (w.heap.size + 1) 0 hz1).trans y0
        replace y1 := (hcw (w.heap.size + 1) 1 hz1).trans y1
        replace y2 := (hcw (w.heap.size + 1) 2 hz1).trans y2
        replace y3 := (hcw (w.heap.size + 1) 3 hz1).trans y3
        replace y4 := (hcw (w.heap.size + 1) 4 hz1).trans y4
        replace y5 := (hcw (w.heap.size + 1) 5 hz1).trans y5
        replace y6 := (hcw (w.heap.size + 1) 6 hz1).trans y6
        replace y7 := (hcw (w.heap.size + 1) 7 hz1).trans y7
        replace y8 := (hcw (w.heap.size + 1) 8 hz1).trans y8
        replace y9 := (hcw (w.heap.size + 1) 9 hz1).trans y9
        replace y10 := (hcw (w.heap.size + 1) 10 hz1).trans y10
        replace y11 := (hcw (w.heap.size + 1) 11 hz1).trans y11
        replace y12 := (hcw (w.heap.size + 1) 12 hz1).trans y12
        replace y13 := (hcw (w.heap.size + 1) 13 hz1).trans y13
        replace y14 := (hcw (w.heap.size + 1) 14 hz1).trans y14
        clear hcw hS
        rw [Hq.out, Hf.out, Bool.true_and, Bool.true_and] at HB
        by_cases k1 : c.kind = 1
        · rw [if_pos k1] at HB
          have hrq := HB.out
          subst hrq
          simp only [k1] at HH
          go_wp2_with fail
          refine (HH.out _).mono ?_
          rintro e w6 ⟨rfl, hb6⟩
          have Hb6 := Lib.hid (nextW HBw.out hb6)
          clear hb6
          go_wp2
          go_ret
          exact ⟨rfl, Hb6.out⟩
        · rw [if_neg k1] at HB
          by_cases k2 : c.kind = 2
          · rw [if_pos k2] at HB
            have hrq := HB.out
            subst hrq
            simp only [k2] at HBl
            go_wp2_with fail
            refine (HBl.out _).mono ?_
            rintro e w6 ⟨rfl, hb6⟩
            have Hb6 := Lib.hid (nextW HBw.out hb6)
            clear hb6
            go_wp2
            go_ret
            exact ⟨rfl, Hb6.out⟩
          · rw [if_neg k2] at HB
            go_wp2
            go_ret
            exact ⟨by rw [HB.out]; rfl, HBw.out⟩

end Go.Proofs.YtlpkaljepaclpaaGreat.Fx
