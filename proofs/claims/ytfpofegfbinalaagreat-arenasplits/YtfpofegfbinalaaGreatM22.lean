/- Package moving's Steer and the document's: what they return, for every input; old memory stays. -/
import Derived.Test.YtfpofegfbinalaaGreatM20
namespace Go.Proofs.YtfpofegfbinalaaGreat.Fx
open Go.ChangeShapes Go.WideShapes Go.ChangeAt Go.RowKit
set_option linter.unusedVariables false
set_option maxRecDepth 100000

set_option maxHeartbeats 2000000 in
theorem steer_any (y : Ent) (dx dy : Int) (f : Bool) (w : World) (ha : y.age ≤ 9223372036854775807) :
    Calls Tryz.prog 142 #[.agg #[.int .i64 y.id, .int .i64 y.kind, .int .i64 y.x, .int .i64 y.y, .int .i64 y.vx, .int .i64 y.vy, .int .i64 y.health, .int .i64 y.age, .int .i64 y.owner], .agg #[.int .i64 dx, .int .i64 dy, .bool f]] w fun e w' => e = .returned (.tuple #[.agg #[.int .i64 (steerE y dx dy f).id, .int .i64 (steerE y dx dy f).kind, .int .i64 (steerE y dx dy f).x, .int .i64 (steerE y dx dy f).y, .int .i64 (steerE y dx dy f).vx, .int .i64 (steerE y dx dy f).vy, .int .i64 (steerE y dx dy f).health, .int .i64 (steerE y dx dy f).age, .int .i64 (steerE y dx dy f).owner], .bool (steerB y dx dy f)]) ∧ Below w.heap.size w w' := by
  have HT := Lib.hid (fun w => right_in dx dy f w)
  have HO := Lib.hid (fun h => steer_off (y := y) (dx := dx) (dy := dy) f h)
  obtain ⟨i0, kd, x0, y0, vx, vy, he, ag, ow⟩ := y
  have HK := Lib.hid (fun w => cooler_any ag w ha)
  dsimp only at *
  by_cases hk : kd = 1
  · subst hk
    by_cases hi : irt dx dy = true
    · rw [hi] at HT
      have hb2 := irt_bd hi
      by_cases hf : f = true ∧ ag = 0
      · obtain ⟨rfl, rfl⟩ := hf
        obtain ⟨e1, e2⟩ := steer_yes i0 x0 y0 vx vy he ow dx dy hi
        rw [e1, e2]
        dsimp only
        clear e1 e2 HO hi
        go_enter Tryz.func142, Tryz.ntmps142
        go_upto_region 1 with fail
        generalize hW : World.alloc (World.alloc (World.alloc w _) _) _ = W0
        have c0 : (W0).cell? ⟨w.heap.size, 0, none⟩ = some (.int .i64 i0) := by rw [← hW, bx0]; rfl
        have c1 : (W0).cell? ⟨w.heap.size, 1, none⟩ = some (.int .i64 1) := by rw [← hW, bx0]; rfl
        have c2 : (W0).cell? ⟨w.heap.size, 2, none⟩ = some (.int .i64 x0) := by rw [← hW, bx0]; rfl
        have c3 : (W0).cell? ⟨w.heap.size, 3, none⟩ = some (.int .i64 y0) := by rw [← hW, bx0]; rfl
        have c4 : (W0).cell? ⟨w.heap.size, 4, none⟩ = some (.int .i64 vx) := by rw [← hW, bx0]; rfl
        have c5 : (W0).cell? ⟨w.heap.size, 5, none⟩ = some (.int .i64 vy) := by rw [← hW, bx0]; rfl
        have c6 : (W0).cell? ⟨w.heap.size, 6, none⟩ = some (.int .i64 he) := by rw [← hW, bx0]; rfl
        have c7 : (W0).cell? ⟨w.heap.size, 7, none⟩ = some (.int .i64 0) := by rw [← hW, bx0]; rfl
        have c8 : (W0).cell? ⟨w.heap.size, 8, none⟩ = some (.int .i64 ow) := by rw [← hW, bx0]; rfl
        have d0 : (W0).cell? ⟨w.heap.size + 1, 0, none⟩ = some (.int .i64 dx) := by rw [← hW, bx1]; rfl
        have d1 : (W0).cell? ⟨w.heap.size + 1, 1, none⟩ = some (.int .i64 dy) := by rw [← hW, bx1]; rfl
        have d2 : (W0).cell? ⟨w.heap.size + 1, 2, none⟩ = some (.bool true) := by rw [← hW, bx1]; rfl
        have r0 : (W0).cell? ⟨w.heap.size + 1 + 1, 0, none⟩ = some (.int .i64 0) := by rw [← hW, bx2]; rfl
        have r1 : (W0).cell? ⟨w.heap.size + 1 + 1, 1, none⟩ = some (.int .i64 0) := by rw [← hW, bx2]; rfl
        have r2 : (W0).cell? ⟨w.heap.size + 1 + 1, 2, none⟩ = some (.int .i64 0) := by rw [← hW, bx2]; rfl
        have r3 : (W0).cell? ⟨w.heap.size + 1 + 1, 3, none⟩ = some (.int .i64 0) := by rw [← hW, bx2]; rfl
        have r4 : (W0).cell? ⟨w.heap.size + 1 + 1, 4, none⟩ = some (.int .i64 0) := by rw [← hW, bx2]; rfl
        have r5 : (W0).cell? ⟨w.heap.size + 1 + 1, 5, none⟩ = some (.int .i64 0) := by rw [← hW, bx2]; rfl
        have r6 : (W0).cell? ⟨w.heap.size + 1 + 1, 6, none⟩ = some (.int .i64 0) := by rw [← hW, bx2]; rfl
        have r7 : (W0).cell? ⟨w.heap.size + 1 + 1, 7, none⟩ = some (.int .i64 0) := by rw [← hW, bx2]; rfl
        have r8 : (W0).cell? ⟨w.heap.size + 1 + 1, 8, none⟩ = some (.int .i64 0) := by rw [← hW, bx2]; rfl
        have fc0 : (W0).frozen? ⟨w.heap.size, 0, none⟩ = false := by rw [← hW]; exact bxf _ _ _ _ _ _ _ _ _ (by omega)
        have fc1 : (W0).frozen? ⟨w.heap.size, 1, none⟩ = false := by rw [← hW]; exact bxf _ _ _ _ _ _ _ _ _ (by omega)
        have fc2 : (W0).frozen? ⟨w.heap.size, 2, none⟩ = false := by rw [← hW]; exact bxf _ _ _ _ _ _ _ _ _ (by omega)
        have fc3 : (W0).frozen? ⟨w.heap.size, 3, none⟩ = false := by rw [← hW]; exact bxf _ _ _ _ _ _ _ _ _ (by omega)
        have fc4 : (W0).frozen? ⟨w.heap.size, 4, none⟩ = false := by rw [← hW]; exact bxf _ _ _ _ _ _ _ _ _ (by omega)
        have fc5 : (W0).frozen? ⟨w.heap.size, 5, none⟩ = false := by rw [← hW]; exact bxf _ _ _ _ _ _ _ _ _ (by omega)
        have fc6 : (W0).frozen? ⟨w.heap.size, 6, none⟩ = false := by rw [← hW]; exact bxf _ _ _ _ _ _ _ _ _ (by omega)
        have fc7 : (W0).frozen? ⟨w.heap.size, 7, none⟩ = false := by rw [← hW]; exact bxf _ _ _ _ _ _ _ _ _ (by omega)
        have fc8 : (W0).frozen? ⟨w.heap.size, 8, none⟩ = false := by rw [← hW]; exact bxf _ _ _ _ _ _ _ _ _ (by omega)
        have fr0 : (W0).frozen? ⟨w.heap.size + 1 + 1, 0, none⟩ = false := by rw [← hW]; exact bxf _ _ _ _ _ _ _ _ _ (by omega)
        have fr1 : (W0).frozen? ⟨w.heap.size + 1 + 1, 1, none⟩ = false := by rw [← hW]; exact bxf _ _ _ _ _ _ _ _ _ (by omega)
        have fr2 : (W0).frozen? ⟨w.heap.size + 1 + 1, 2, none⟩ = false := by rw [← hW]; exact bxf _ _ _ _ _ _ _ _ _ (by omega)
        have fr3 : (W0).frozen? ⟨w.heap.size + 1 + 1, 3, none⟩ = false := by rw [← hW]; exact bxf _ _ _ _ _ _ _ _ _ (by omega)
        have fr4 : (W0).frozen? ⟨w.heap.size + 1 + 1, 4, none⟩ = false := by rw [← hW]; exact bxf _ _ _ _ _ _ _ _ _ (by omega)
        have fr5 : (W0).frozen? ⟨w.heap.size + 1 + 1, 5, none⟩ = false := by rw [← hW]; exact bxf _ _ _ _ _ _ _ _ _ (by omega)
        have fr6 : (W0).frozen? ⟨w.heap.size + 1 + 1, 6, none⟩ = false := by rw [← hW]; exact bxf _ _ _ _ _ _ _ _ _ (by omega)
        have fr7 : (W0).frozen? ⟨w.heap.size + 1 + 1, 7, none⟩ = false := by rw [← hW]; exact bxf _ _ _ _ _ _ _ _ _ (by omega)
        have fr8 : (W0).frozen? ⟨w.heap.size + 1 + 1, 8, none⟩ = false := by rw [← hW]; exact bxf _ _ _ _ _ _ _ _ _ (by omega)
        have hz : w.heap.size + 1 + 1 < W0.heap.size := by rw [← hW]; simp
        have HB := Lib.hid (show Below w.heap.size w W0 from by rw [← hW]; exact bal3 _ _ _ _)
        clear hW
        go_wp2_with fail
        refine (HT.out _).mono ?_
        rintro e w1 ⟨rfl, hb⟩
        obtain ⟨hcc, hcf⟩ := bcell hb
        have C0 : (w1).cell? ⟨w.heap.size, 0, none⟩ = some (.int .i64 i0) := by rw [hcc _ _ (by omega)]; assumption
        have C1 : (w1).cell? ⟨w.heap.size, 1, none⟩ = some (.int .i64 1) := by rw [hcc _ _ (by omega)]; assumption
        have C2 : (w1).cell? ⟨w.heap.size, 2, none⟩ = some (.int .i64 x0) := by rw [hcc _ _ (by omega)]; assumption
        have C3 : (w1).cell? ⟨w.heap.size, 3, none⟩ = some (.int .i64 y0) := by rw [hcc _ _ (by omega)]; assumption
        have C4 : (w1).cell? ⟨w.heap.size, 4, none⟩ = some (.int .i64 vx) := by rw [hcc _ _ (by omega)]; assumption
        have C5 : (w1).cell? ⟨w.heap.size, 5, none⟩ = some (.int .i64 vy) := by rw [hcc _ _ (by omega)]; assumption
        have C6 : (w1).cell? ⟨w.heap.size, 6, none⟩ = some (.int .i64 he) := by rw [hcc _ _ (by omega)]; assumption
        have C7 : (w1).cell? ⟨w.heap.size, 7, none⟩ = some (.int .i64 0) := by rw [hcc _ _ (by omega)]; assumption
        have C8 : (w1).cell? ⟨w.heap.size, 8, none⟩ = some (.int .i64 ow) := by rw [hcc _ _ (by omega)]; assumption
        have D0 : (w1).cell? ⟨w.heap.size + 1, 0, none⟩ = some (.int .i64 dx) := by rw [hcc _ _ (by omega)]; assumption
        have D1 : (w1).cell? ⟨w.heap.size + 1, 1, none⟩ = some (.int .i64 dy) := by rw [hcc _ _ (by omega)]; assumption
        have D2 : (w1).cell? ⟨w.heap.size + 1, 2, none⟩ = some (.bool true) := by rw [hcc _ _ (by omega)]; assumption
        have R0 : (w1).cell? ⟨w.heap.size + 1 + 1, 0, none⟩ = some (.int .i64 0) := by rw [hcc _ _ (by omega)]; assumption
        have R1 : (w1).cell? ⟨w.heap.size + 1 + 1, 1, none⟩ = some (.int .i64 0) := by rw [hcc _ _ (by omega)]; assumption
        have R2 : (w1).cell? ⟨w.heap.size + 1 + 1, 2, none⟩ = some (.int .i64 0) := by rw [hcc _ _ (by omega)]; assumption
        have R3 : (w1).cell? ⟨w.heap.size + 1 + 1, 3, none⟩ = some (.int .i64 0) := by rw [hcc _ _ (by omega)]; assumption
        have R4 : (w1).cell? ⟨w.heap.size + 1 + 1, 4, none⟩ = some (.int .i64 0) := by rw [hcc _ _ (by omega)]; assumption
        have R5 : (w1).cell? ⟨w.heap.size + 1 + 1, 5, none⟩ = some (.int .i64 0) := by rw [hcc _ _ (by omega)]; assumption
        have R6 : (w1).cell? ⟨w.heap.size + 1 + 1, 6, none⟩ = some (.int .i64 0) := by rw [hcc _ _ (by omega)]; assumption
        have R7 : (w1).cell? ⟨w.heap.size + 1 + 1, 7, none⟩ = some (.int .i64 0) := by rw [hcc _ _ (by omega)]; assumption
        have R8 : (w1).cell? ⟨w.heap.size + 1 + 1, 8, none⟩ = some (.int .i64 0) := by rw [hcc _ _ (by omega)]; assumption
        have Fc0 : (w1).frozen? ⟨w.heap.size, 0, none⟩ = false := by rw [hcf _ _ (by omega)]; assumption
        have Fc1 : (w1).frozen? ⟨w.heap.size, 1, none⟩ = false := by rw [hcf _ _ (by omega)]; assumption
        have Fc2 : (w1).frozen? ⟨w.heap.size, 2, none⟩ = false := by rw [hcf _ _ (by omega)]; assumption
        have Fc3 : (w1).frozen? ⟨w.heap.size, 3, none⟩ = false := by rw [hcf _ _ (by omega)]; assumption
        have Fc4 : (w1).frozen? ⟨w.heap.size, 4, none⟩ = false := by rw [hcf _ _ (by omega)]; assumption
        have Fc5 : (w1).frozen? ⟨w.heap.size, 5, none⟩ = false := by rw [hcf _ _ (by omega)]; assumption
        have Fc6 : (w1).frozen? ⟨w.heap.size, 6, none⟩ = false := by rw [hcf _ _ (by omega)]; assumption
        have Fc7 : (w1).frozen? ⟨w.heap.size, 7, none⟩ = false := by rw [hcf _ _ (by omega)]; assumption
        have Fc8 : (w1).frozen? ⟨w.heap.size, 8, none⟩ = false := by rw [hcf _ _ (by omega)]; assumption
        have Fr0 : (w1).frozen? ⟨w.heap.size + 1 + 1, 0, none⟩ = false := by rw [hcf _ _ (by omega)]; assumption
        have Fr1 : (w1).frozen? ⟨w.heap.size + 1 + 1, 1, none⟩ = false := by rw [hcf _ _ (by omega)]; assumption
        have Fr2 : (w1).frozen? ⟨w.heap.size + 1 + 1, 2, none⟩ = false := by rw [hcf _ _ (by omega)]; assumption
        have Fr3 : (w1).frozen? ⟨w.heap.size + 1 + 1, 3, none⟩ = false := by rw [hcf _ _ (by omega)]; assumption
        have Fr4 : (w1).frozen? ⟨w.heap.size + 1 + 1, 4, none⟩ = false := by rw [hcf _ _ (by omega)]; assumption
        have Fr5 : (w1).frozen? ⟨w.heap.size + 1 + 1, 5, none⟩ = false := by rw [hcf _ _ (by omega)]; assumption
        have Fr6 : (w1).frozen? ⟨w.heap.size + 1 + 1, 6, none⟩ = false := by rw [hcf _ _ (by omega)]; assumption
        have Fr7 : (w1).frozen? ⟨w.heap.size + 1 + 1, 7, none⟩ = false := by rw [hcf _ _ (by omega)]; assumption
        have Fr8 : (w1).frozen? ⟨w.heap.size + 1 + 1, 8, none⟩ = false := by rw [hcf _ _ (by omega)]; assumption
        have hz1 : w.heap.size + 1 + 1 < w1.heap.size := Nat.lt_of_lt_of_le hz hb.size
        replace HB := Lib.hid (nextW HB.out hb)
        clear hb hcc hcf hz c0 c1 c2 c3 c4 c5 c6 c7 c8 d0 d1 d2 r0 r1 r2 r3 r4 r5 r6 r7 r8 fc0 fc1 fc2 fc3 fc4 fc5 fc6 fc7 fc8 fr0 fr1 fr2 fr3 fr4 fr5 fr6 fr7 fr8
        go_wp2
        go_region
        generalize hW : World.drew _ = W2
        have c0 : (W2).cell? ⟨w.heap.size, 0, none⟩ = some (.int .i64 i0) := by rw [← hW]; simp [go_sem, C0]
        have c1 : (W2).cell? ⟨w.heap.size, 1, none⟩ = some (.int .i64 1) := by rw [← hW]; simp [go_sem, C1]
        have c2 : (W2).cell? ⟨w.heap.size, 2, none⟩ = some (.int .i64 x0) := by rw [← hW]; simp [go_sem, C2]
        have c3 : (W2).cell? ⟨w.heap.size, 3, none⟩ = some (.int .i64 y0) := by rw [← hW]; simp [go_sem, C3]
        have c4 : (W2).cell? ⟨w.heap.size, 4, none⟩ = some (.int .i64 (dx * 32)) := by rw [← hW]; simp [go_sem, C4]
        have c5 : (W2).cell? ⟨w.heap.size, 5, none⟩ = some (.int .i64 (dy * 32)) := by rw [← hW]; simp [go_sem, C5]
        have c6 : (W2).cell? ⟨w.heap.size, 6, none⟩ = some (.int .i64 he) := by rw [← hW]; simp [go_sem, C6]
        have c7 : (W2).cell? ⟨w.heap.size, 7, none⟩ = some (.int .i64 0) := by rw [← hW]; simp [go_sem, C7]
        have c8 : (W2).cell? ⟨w.heap.size, 8, none⟩ = some (.int .i64 ow) := by rw [← hW]; simp [go_sem, C8]
        have d0 : (W2).cell? ⟨w.heap.size + 1, 0, none⟩ = some (.int .i64 dx) := by rw [← hW]; simp [go_sem, D0]
        have d1 : (W2).cell? ⟨w.heap.size + 1, 1, none⟩ = some (.int .i64 dy) := by rw [← hW]; simp [go_sem, D1]
        have d2 : (W2).cell? ⟨w.heap.size + 1, 2, none⟩ = some (.bool true) := by rw [← hW]; simp [go_sem, D2]
        have r0 : (W2).cell? ⟨w.heap.size + 1 + 1, 0, none⟩ = some (.int .i64 0) := by rw [← hW]; simp [go_sem, R0]
        have r1 : (W2).cell? ⟨w.heap.size + 1 + 1, 1, none⟩ = some (.int .i64 0) := by rw [← hW]; simp [go_sem, R1]
        have r2 : (W2).cell? ⟨w.heap.size + 1 + 1, 2, none⟩ = some (.int .i64 0) := by rw [← hW]; simp [go_sem, R2]
        have r3 : (W2).cell? ⟨w.heap.size + 1 + 1, 3, none⟩ = some (.int .i64 0) := by rw [← hW]; simp [go_sem, R3]
        have r4 : (W2).cell? ⟨w.heap.size + 1 + 1, 4, none⟩ = some (.int .i64 0) := by rw [← hW]; simp [go_sem, R4]
        have r5 : (W2).cell? ⟨w.heap.size + 1 + 1, 5, none⟩ = some (.int .i64 0) := by rw [← hW]; simp [go_sem, R5]
        have r6 : (W2).cell? ⟨w.heap.size + 1 + 1, 6, none⟩ = some (.int .i64 0) := by rw [← hW]; simp [go_sem, R6]
        have r7 : (W2).cell? ⟨w.heap.size + 1 + 1, 7, none⟩ = some (.int .i64 0) := by rw [← hW]; simp [go_sem, R7]
        have r8 : (W2).cell? ⟨w.heap.size + 1 + 1, 8, none⟩ = some (.int .i64 0) := by rw [← hW]; simp [go_sem, R8]
        have fc7 : (W2).frozen? ⟨w.heap.size, 7, none⟩ = false := by rw [← hW]; simp [Fc7]
        have fr0 : (W2).frozen? ⟨w.heap.size + 1 + 1, 0, none⟩ = false := by rw [← hW]; simp [Fr0]
        have fr1 : (W2).frozen? ⟨w.heap.size + 1 + 1, 1, none⟩ = false := by rw [← hW]; simp [Fr1]
        have fr2 : (W2).frozen? ⟨w.heap.size + 1 + 1, 2, none⟩ = false := by rw [← hW]; simp [Fr2]
        have fr3 : (W2).frozen? ⟨w.heap.size + 1 + 1, 3, none⟩ = false := by rw [← hW]; simp [Fr3]
        have fr4 : (W2).frozen? ⟨w.heap.size + 1 + 1, 4, none⟩ = false := by rw [← hW]; simp [Fr4]
        have fr5 : (W2).frozen? ⟨w.heap.size + 1 + 1, 5, none⟩ = false := by rw [← hW]; simp [Fr5]
        have fr6 : (W2).frozen? ⟨w.heap.size + 1 + 1, 6, none⟩ = false := by rw [← hW]; simp [Fr6]
        have fr7 : (W2).frozen? ⟨w.heap.size + 1 + 1, 7, none⟩ = false := by rw [← hW]; simp [Fr7]
        have fr8 : (W2).frozen? ⟨w.heap.size + 1 + 1, 8, none⟩ = false := by rw [← hW]; simp [Fr8]
        replace HB := Lib.hid (show Below w.heap.size w W2 from by rw [← hW]; exact (bset (bset HB.out (by omega)) (by omega)).drew)
        clear hW hz1 C0 C1 C2 C3 C4 C5 C6 C7 C8 D0 D1 D2 R0 R1 R2 R3 R4 R5 R6 R7 R8 Fc0 Fc1 Fc2 Fc3 Fc4 Fc5 Fc6 Fc7 Fc8 Fr0 Fr1 Fr2 Fr3 Fr4 Fr5 Fr6 Fr7 Fr8
        go_wp2
        refine bodyPost_ret (v := .tuple #[.agg #[.int .i64 i0, .int .i64 1, .int .i64 x0, .int .i64 y0, .int .i64 (dx * 32), .int .i64 (dy * 32), .int .i64 he, .int .i64 6, .int .i64 ow], .bool true]) (by simp [results, Tryz.results142, go_sem, *]) rfl ⟨rfl, ?_⟩
        iterate 10 (refine bset ?_ (by omega))
        exact HB.out
      · obtain ⟨e1, e2⟩ := steer_no i0 x0 y0 vx vy he ag ow dx dy f hi hf
        rw [e1, e2]
        dsimp only
        clear e1 e2 HO hi
        have hmx : 0 ≤ max 1 ag - 1 ∧ max 1 ag - 1 ≤ 9223372036854775806 := by omega
        go_enter Tryz.func142, Tryz.ntmps142
        go_upto_region 1 with fail
        generalize hW : World.alloc (World.alloc (World.alloc w _) _) _ = W0
        have c0 : (W0).cell? ⟨w.heap.size, 0, none⟩ = some (.int .i64 i0) := by rw [← hW, bx0]; rfl
        have c1 : (W0).cell? ⟨w.heap.size, 1, none⟩ = some (.int .i64 1) := by rw [← hW, bx0]; rfl
        have c2 : (W0).cell? ⟨w.heap.size, 2, none⟩ = some (.int .i64 x0) := by rw [← hW, bx0]; rfl
        have c3 : (W0).cell? ⟨w.heap.size, 3, none⟩ = some (.int .i64 y0) := by rw [← hW, bx0]; rfl
        have c4 : (W0).cell? ⟨w.heap.size, 4, none⟩ = some (.int .i64 vx) := by rw [← hW, bx0]; rfl
        have c5 : (W0).cell? ⟨w.heap.size, 5, none⟩ = some (.int .i64 vy) := by rw [← hW, bx0]; rfl
        have c6 : (W0).cell? ⟨w.heap.size, 6, none⟩ = some (.int .i64 he) := by rw [← hW, bx0]; rfl
        have c7 : (W0).cell? ⟨w.heap.size, 7, none⟩ = some (.int .i64 ag) := by rw [← hW, bx0]; rfl
        have c8 : (W0).cell? ⟨w.heap.size, 8, none⟩ = some (.int .i64 ow) := by rw [← hW, bx0]; rfl
        have d0 : (W0).cell? ⟨w.heap.size + 1, 0, none⟩ = some (.int .i64 dx) := by rw [← hW, bx1]; rfl
        have d1 : (W0).cell? ⟨w.heap.size + 1, 1, none⟩ = some (.int .i64 dy) := by rw [← hW, bx1]; rfl
        have d2 : (W0).cell? ⟨w.heap.size + 1, 2, none⟩ = some (.bool f) := by rw [← hW, bx1]; rfl
        have r0 : (W0).cell? ⟨w.heap.size + 1 + 1, 0, none⟩ = some (.int .i64 0) := by rw [← hW, bx2]; rfl
        have r1 : (W0).cell? ⟨w.heap.size + 1 + 1, 1, none⟩ = some (.int .i64 0) := by rw [← hW, bx2]; rfl
        have r2 : (W0).cell? ⟨w.heap.size + 1 + 1, 2, none⟩ = some (.int .i64 0) := by rw [← hW, bx2]; rfl
        have r3 : (W0).cell? ⟨w.heap.size + 1 + 1, 3, none⟩ = some (.int .i64 0) := by rw [← hW, bx2]; rfl
        have r4 : (W0).cell? ⟨w.heap.size + 1 + 1, 4, none⟩ = some (.int .i64 0) := by rw [← hW, bx2]; rfl
        have r5 : (W0).cell? ⟨w.heap.size + 1 + 1, 5, none⟩ = some (.int .i64 0) := by rw [← hW, bx2]; rfl
        have r6 : (W0).cell? ⟨w.heap.size + 1 + 1, 6, none⟩ = some (.int .i64 0) := by rw [← hW, bx2]; rfl
        have r7 : (W0).cell? ⟨w.heap.size + 1 + 1, 7, none⟩ = some (.int .i64 0) := by rw [← hW, bx2]; rfl
        have r8 : (W0).cell? ⟨w.heap.size + 1 + 1, 8, none⟩ = some (.int .i64 0) := by rw [← hW, bx2]; rfl
        have fc0 : (W0).frozen? ⟨w.heap.size, 0, none⟩ = false := by rw [← hW]; exact bxf _ _ _ _ _ _ _ _ _ (by omega)
        have fc1 : (W0).frozen? ⟨w.heap.size, 1, none⟩ = false := by rw [← hW]; exact bxf _ _ _ _ _ _ _ _ _ (by omega)
        have fc2 : (W0).frozen? ⟨w.heap.size, 2, none⟩ = false := by rw [← hW]; exact bxf _ _ _ _ _ _ _ _ _ (by omega)
        have fc3 : (W0).frozen? ⟨w.heap.size, 3, none⟩ = false := by rw [← hW]; exact bxf _ _ _ _ _ _ _ _ _ (by omega)
        have fc4 : (W0).frozen? ⟨w.heap.size, 4, none⟩ = false := by rw [← hW]; exact bxf _ _ _ _ _ _ _ _ _ (by omega)
        have fc5 : (W0).frozen? ⟨w.heap.size, 5, none⟩ = false := by rw [← hW]; exact bxf _ _ _ _ _ _ _ _ _ (by omega)
        have fc6 : (W0).frozen? ⟨w.heap.size, 6, none⟩ = false := by rw [← hW]; exact bxf _ _ _ _ _ _ _ _ _ (by omega)
        have fc7 : (W0).frozen? ⟨w.heap.size, 7, none⟩ = false := by rw [← hW]; exact bxf _ _ _ _ _ _ _ _ _ (by omega)
        have fc8 : (W0).frozen? ⟨w.heap.size, 8, none⟩ = false := by rw [← hW]; exact bxf _ _ _ _ _ _ _ _ _ (by omega)
        have fr0 : (W0).frozen? ⟨w.heap.size + 1 + 1, 0, none⟩ = false := by rw [← hW]; exact bxf _ _ _ _ _ _ _ _ _ (by omega)
        have fr1 : (W0).frozen? ⟨w.heap.size + 1 + 1, 1, none⟩ = false := by rw [← hW]; exact bxf _ _ _ _ _ _ _ _ _ (by omega)
        have fr2 : (W0).frozen? ⟨w.heap.size + 1 + 1, 2, none⟩ = false := by rw [← hW]; exact bxf _ _ _ _ _ _ _ _ _ (by omega)
        have fr3 : (W0).frozen? ⟨w.heap.size + 1 + 1, 3, none⟩ = false := by rw [← hW]; exact bxf _ _ _ _ _ _ _ _ _ (by omega)
        have fr4 : (W0).frozen? ⟨w.heap.size + 1 + 1, 4, none⟩ = false := by rw [← hW]; exact bxf _ _ _ _ _ _ _ _ _ (by omega)
        have fr5 : (W0).frozen? ⟨w.heap.size + 1 + 1, 5, none⟩ = false := by rw [← hW]; exact bxf _ _ _ _ _ _ _ _ _ (by omega)
        have fr6 : (W0).frozen? ⟨w.heap.size + 1 + 1, 6, none⟩ = false := by rw [← hW]; exact bxf _ _ _ _ _ _ _ _ _ (by omega)
        have fr7 : (W0).frozen? ⟨w.heap.size + 1 + 1, 7, none⟩ = false := by rw [← hW]; exact bxf _ _ _ _ _ _ _ _ _ (by omega)
        have fr8 : (W0).frozen? ⟨w.heap.size + 1 + 1, 8, none⟩ = false := by rw [← hW]; exact bxf _ _ _ _ _ _ _ _ _ (by omega)
        have hz : w.heap.size + 1 + 1 < W0.heap.size := by rw [← hW]; simp
        have HB := Lib.hid (show Below w.heap.size w W0 from by rw [← hW]; exact bal3 _ _ _ _)
        clear hW
        go_wp2_with fail
        refine (HT.out _).mono ?_
        rintro e w1 ⟨rfl, hb⟩
        obtain ⟨hcc, hcf⟩ := bcell hb
        have C0 : (w1).cell? ⟨w.heap.size, 0, none⟩ = some (.int .i64 i0) := by rw [hcc _ _ (by omega)]; assumption
        have C1 : (w1).cell? ⟨w.heap.size, 1, none⟩ = some (.int .i64 1) := by rw [hcc _ _ (by omega)]; assumption
        have C2 : (w1).cell? ⟨w.heap.size, 2, none⟩ = some (.int .i64 x0) := by rw [hcc _ _ (by omega)]; assumption
        have C3 : (w1).cell? ⟨w.heap.size, 3, none⟩ = some (.int .i64 y0) := by rw [hcc _ _ (by omega)]; assumption
        have C4 : (w1).cell? ⟨w.heap.size, 4, none⟩ = some (.int .i64 vx) := by rw [hcc _ _ (by omega)]; assumption
        have C5 : (w1).cell? ⟨w.heap.size, 5, none⟩ = some (.int .i64 vy) := by rw [hcc _ _ (by omega)]; assumption
        have C6 : (w1).cell? ⟨w.heap.size, 6, none⟩ = some (.int .i64 he) := by rw [hcc _ _ (by omega)]; assumption
        have C7 : (w1).cell? ⟨w.heap.size, 7, none⟩ = some (.int .i64 ag) := by rw [hcc _ _ (by omega)]; assumption
        have C8 : (w1).cell? ⟨w.heap.size, 8, none⟩ = some (.int .i64 ow) := by rw [hcc _ _ (by omega)]; assumption
        have D0 : (w1).cell? ⟨w.heap.size + 1, 0, none⟩ = some (.int .i64 dx) := by rw [hcc _ _ (by omega)]; assumption
        have D1 : (w1).cell? ⟨w.heap.size + 1, 1, none⟩ = some (.int .i64 dy) := by rw [hcc _ _ (by omega)]; assumption
        have D2 : (w1).cell? ⟨w.heap.size + 1, 2, none⟩ = some (.bool f) := by rw [hcc _ _ (by omega)]; assumption
        have R0 : (w1).cell? ⟨w.heap.size + 1 + 1, 0, none⟩ = some (.int .i64 0) := by rw [hcc _ _ (by omega)]; assumption
        have R1 : (w1).cell? ⟨w.heap.size + 1 + 1, 1, none⟩ = some (.int .i64 0) := by rw [hcc _ _ (by omega)]; assumption
        have R2 : (w1).cell? ⟨w.heap.size + 1 + 1, 2, none⟩ = some (.int .i64 0) := by rw [hcc _ _ (by omega)]; assumption
        have R3 : (w1).cell? ⟨w.heap.size + 1 + 1, 3, none⟩ = some (.int .i64 0) := by rw [hcc _ _ (by omega)]; assumption
        have R4 : (w1).cell? ⟨w.heap.size + 1 + 1, 4, none⟩ = some (.int .i64 0) := by rw [hcc _ _ (by omega)]; assumption
        have R5 : (w1).cell? ⟨w.heap.size + 1 + 1, 5, none⟩ = some (.int .i64 0) := by rw [hcc _ _ (by omega)]; assumption
        have R6 : (w1).cell? ⟨w.heap.size + 1 + 1, 6, none⟩ = some (.int .i64 0) := by rw [hcc _ _ (by omega)]; assumption
        have R7 : (w1).cell? ⟨w.heap.size + 1 + 1, 7, none⟩ = some (.int .i64 0) := by rw [hcc _ _ (by omega)]; assumption
        have R8 : (w1).cell? ⟨w.heap.size + 1 + 1, 8, none⟩ = some (.int .i64 0) := by rw [hcc _ _ (by omega)]; assumption
        have Fc0 : (w1).frozen? ⟨w.heap.size, 0, none⟩ = false := by rw [hcf _ _ (by omega)]; assumption
        have Fc1 : (w1).frozen? ⟨w.heap.size, 1, none⟩ = false := by rw [hcf _ _ (by omega)]; assumption
        have Fc2 : (w1).frozen? ⟨w.heap.size, 2, none⟩ = false := by rw [hcf _ _ (by omega)]; assumption
        have Fc3 : (w1).frozen? ⟨w.heap.size, 3, none⟩ = false := by rw [hcf _ _ (by omega)]; assumption
        have Fc4 : (w1).frozen? ⟨w.heap.size, 4, none⟩ = false := by rw [hcf _ _ (by omega)]; assumption
        have Fc5 : (w1).frozen? ⟨w.heap.size, 5, none⟩ = false := by rw [hcf _ _ (by omega)]; assumption
        have Fc6 : (w1).frozen? ⟨w.heap.size, 6, none⟩ = false := by rw [hcf _ _ (by omega)]; assumption
        have Fc7 : (w1).frozen? ⟨w.heap.size, 7, none⟩ = false := by rw [hcf _ _ (by omega)]; assumption
        have Fc8 : (w1).frozen? ⟨w.heap.size, 8, none⟩ = false := by rw [hcf _ _ (by omega)]; assumption
        have Fr0 : (w1).frozen? ⟨w.heap.size + 1 + 1, 0, none⟩ = false := by rw [hcf _ _ (by omega)]; assumption
        have Fr1 : (w1).frozen? ⟨w.heap.size + 1 + 1, 1, none⟩ = false := by rw [hcf _ _ (by omega)]; assumption
        have Fr2 : (w1).frozen? ⟨w.heap.size + 1 + 1, 2, none⟩ = false := by rw [hcf _ _ (by omega)]; assumption
        have Fr3 : (w1).frozen? ⟨w.heap.size + 1 + 1, 3, none⟩ = false := by rw [hcf _ _ (by omega)]; assumption
        have Fr4 : (w1).frozen? ⟨w.heap.size + 1 + 1, 4, none⟩ = false := by rw [hcf _ _ (by omega)]; assumption
        have Fr5 : (w1).frozen? ⟨w.heap.size + 1 + 1, 5, none⟩ = false := by rw [hcf _ _ (by omega)]; assumption
        have Fr6 : (w1).frozen? ⟨w.heap.size + 1 + 1, 6, none⟩ = false := by rw [hcf _ _ (by omega)]; assumption
        have Fr7 : (w1).frozen? ⟨w.heap.size + 1 + 1, 7, none⟩ = false := by rw [hcf _ _ (by omega)]; assumption
        have Fr8 : (w1).frozen? ⟨w.heap.size + 1 + 1, 8, none⟩ = false := by rw [hcf _ _ (by omega)]; assumption
        have hz1 : w.heap.size + 1 + 1 < w1.heap.size := Nat.lt_of_lt_of_le hz hb.size
        replace HB := Lib.hid (nextW HB.out hb)
        clear hb hcc hcf hz c0 c1 c2 c3 c4 c5 c6 c7 c8 d0 d1 d2 r0 r1 r2 r3 r4 r5 r6 r7 r8 fc0 fc1 fc2 fc3 fc4 fc5 fc6 fc7 fc8 fr0 fr1 fr2 fr3 fr4 fr5 fr6 fr7 fr8
        go_wp2
        go_region
        generalize hW : World.drew _ = W2
        have c0 : (W2).cell? ⟨w.heap.size, 0, none⟩ = some (.int .i64 i0) := by rw [← hW]; simp [go_sem, C0]
        have c1 : (W2).cell? ⟨w.heap.size, 1, none⟩ = some (.int .i64 1) := by rw [← hW]; simp [go_sem, C1]
        have c2 : (W2).cell? ⟨w.heap.size, 2, none⟩ = some (.int .i64 x0) := by rw [← hW]; simp [go_sem, C2]
        have c3 : (W2).cell? ⟨w.heap.size, 3, none⟩ = some (.int .i64 y0) := by rw [← hW]; simp [go_sem, C3]
        have c4 : (W2).cell? ⟨w.heap.size, 4, none⟩ = some (.int .i64 (dx * 32)) := by rw [← hW]; simp [go_sem, C4]
        have c5 : (W2).cell? ⟨w.heap.size, 5, none⟩ = some (.int .i64 (dy * 32)) := by rw [← hW]; simp [go_sem, C5]
        have c6 : (W2).cell? ⟨w.heap.size, 6, none⟩ = some (.int .i64 he) := by rw [← hW]; simp [go_sem, C6]
        have c7 : (W2).cell? ⟨w.heap.size, 7, none⟩ = some (.int .i64 ag) := by rw [← hW]; simp [go_sem, C7]
        have c8 : (W2).cell? ⟨w.heap.size, 8, none⟩ = some (.int .i64 ow) := by rw [← hW]; simp [go_sem, C8]
        have d0 : (W2).cell? ⟨w.heap.size + 1, 0, none⟩ = some (.int .i64 dx) := by rw [← hW]; simp [go_sem, D0]
        have d1 : (W2).cell? ⟨w.heap.size + 1, 1, none⟩ = some (.int .i64 dy) := by rw [← hW]; simp [go_sem, D1]
        have d2 : (W2).cell? ⟨w.heap.size + 1, 2, none⟩ = some (.bool f) := by rw [← hW]; simp [go_sem, D2]
        have r0 : (W2).cell? ⟨w.heap.size + 1 + 1, 0, none⟩ = some (.int .i64 0) := by rw [← hW]; simp [go_sem, R0]
        have r1 : (W2).cell? ⟨w.heap.size + 1 + 1, 1, none⟩ = some (.int .i64 0) := by rw [← hW]; simp [go_sem, R1]
        have r2 : (W2).cell? ⟨w.heap.size + 1 + 1, 2, none⟩ = some (.int .i64 0) := by rw [← hW]; simp [go_sem, R2]
        have r3 : (W2).cell? ⟨w.heap.size + 1 + 1, 3, none⟩ = some (.int .i64 0) := by rw [← hW]; simp [go_sem, R3]
        have r4 : (W2).cell? ⟨w.heap.size + 1 + 1, 4, none⟩ = some (.int .i64 0) := by rw [← hW]; simp [go_sem, R4]
        have r5 : (W2).cell? ⟨w.heap.size + 1 + 1, 5, none⟩ = some (.int .i64 0) := by rw [← hW]; simp [go_sem, R5]
        have r6 : (W2).cell? ⟨w.heap.size + 1 + 1, 6, none⟩ = some (.int .i64 0) := by rw [← hW]; simp [go_sem, R6]
        have r7 : (W2).cell? ⟨w.heap.size + 1 + 1, 7, none⟩ = some (.int .i64 0) := by rw [← hW]; simp [go_sem, R7]
        have r8 : (W2).cell? ⟨w.heap.size + 1 + 1, 8, none⟩ = some (.int .i64 0) := by rw [← hW]; simp [go_sem, R8]
        have fc7 : (W2).frozen? ⟨w.heap.size, 7, none⟩ = false := by rw [← hW]; simp [Fc7]
        have fr0 : (W2).frozen? ⟨w.heap.size + 1 + 1, 0, none⟩ = false := by rw [← hW]; simp [Fr0]
        have fr1 : (W2).frozen? ⟨w.heap.size + 1 + 1, 1, none⟩ = false := by rw [← hW]; simp [Fr1]
        have fr2 : (W2).frozen? ⟨w.heap.size + 1 + 1, 2, none⟩ = false := by rw [← hW]; simp [Fr2]
        have fr3 : (W2).frozen? ⟨w.heap.size + 1 + 1, 3, none⟩ = false := by rw [← hW]; simp [Fr3]
        have fr4 : (W2).frozen? ⟨w.heap.size + 1 + 1, 4, none⟩ = false := by rw [← hW]; simp [Fr4]
        have fr5 : (W2).frozen? ⟨w.heap.size + 1 + 1, 5, none⟩ = false := by rw [← hW]; simp [Fr5]
        have fr6 : (W2).frozen? ⟨w.heap.size + 1 + 1, 6, none⟩ = false := by rw [← hW]; simp [Fr6]
        have fr7 : (W2).frozen? ⟨w.heap.size + 1 + 1, 7, none⟩ = false := by rw [← hW]; simp [Fr7]
        have fr8 : (W2).frozen? ⟨w.heap.size + 1 + 1, 8, none⟩ = false := by rw [← hW]; simp [Fr8]
        replace HB := Lib.hid (show Below w.heap.size w W2 from by rw [← hW]; exact (bset (bset HB.out (by omega)) (by omega)).drew)
        clear hW hz1 C0 C1 C2 C3 C4 C5 C6 C7 C8 D0 D1 D2 R0 R1 R2 R3 R4 R5 R6 R7 R8 Fc0 Fc1 Fc2 Fc3 Fc4 Fc5 Fc6 Fc7 Fc8 Fr0 Fr1 Fr2 Fr3 Fr4 Fr5 Fr6 Fr7 Fr8
        rcases (show f = true ∨ f = false by cases f <;> simp) with hff | hff
        · obtain rfl : f = true := hff
          have ha0 : ¬ ag = 0 := fun h => hf ⟨rfl, h⟩
          have ha1 : (ag == 0) = false := by simpa using ha0
          clear hf
          go_wp2_with fail
          refine (HK.out _).mono ?_
          rintro e w' ⟨rfl, rfl⟩
          go_wp2
          refine bodyPost_ret (v := .tuple #[.agg #[.int .i64 i0, .int .i64 1, .int .i64 x0, .int .i64 y0, .int .i64 (dx * 32), .int .i64 (dy * 32), .int .i64 he, .int .i64 (max 1 ag - 1), .int .i64 ow], .bool false]) (by simp [results, Tryz.results142, go_sem, *]) rfl ⟨rfl, ?_⟩
          iterate 10 (refine bset ?_ (by omega))
          exact HB.out
        · obtain rfl : f = false := hff
          clear hf
          go_wp2_with fail
          refine (HK.out _).mono ?_
          rintro e w' ⟨rfl, rfl⟩
          go_wp2
          refine bodyPost_ret (v := .tuple #[.agg #[.int .i64 i0, .int .i64 1, .int .i64 x0, .int .i64 y0, .int .i64 (dx * 32), .int .i64 (dy * 32), .int .i64 he, .int .i64 (max 1 ag - 1), .int .i64 ow], .bool false]) (by simp [results, Tryz.results142, go_sem, *]) rfl ⟨rfl, ?_⟩
          iterate 10 (refine bset ?_ (by omega))
          exact HB.out
    · rw [Bool.not_eq_true] at hi
      obtain ⟨e1, e2⟩ := HO.out (fun h => by rw [h.2] at hi; cases hi)
      rw [hi] at HT
      rw [e1, e2]
      dsimp only
      clear e1 e2 HO
      go_enter Tryz.func142, Tryz.ntmps142
      go_upto_region 1 with fail
      generalize hW : World.alloc (World.alloc (World.alloc w _) _) _ = W0
      have c0 : (W0).cell? ⟨w.heap.size, 0, none⟩ = some (.int .i64 i0) := by rw [← hW, bx0]; rfl
      have c1 : (W0).cell? ⟨w.heap.size, 1, none⟩ = some (.int .i64 1) := by rw [← hW, bx0]; rfl
      have c2 : (W0).cell? ⟨w.heap.size, 2, none⟩ = some (.int .i64 x0) := by rw [← hW, bx0]; rfl
      have c3 : (W0).cell? ⟨w.heap.size, 3, none⟩ = some (.int .i64 y0) := by rw [← hW, bx0]; rfl
      have c4 : (W0).cell? ⟨w.heap.size, 4, none⟩ = some (.int .i64 vx) := by rw [← hW, bx0]; rfl
      have c5 : (W0).cell? ⟨w.heap.size, 5, none⟩ = some (.int .i64 vy) := by rw [← hW, bx0]; rfl
      have c6 : (W0).cell? ⟨w.heap.size, 6, none⟩ = some (.int .i64 he) := by rw [← hW, bx0]; rfl
      have c7 : (W0).cell? ⟨w.heap.size, 7, none⟩ = some (.int .i64 ag) := by rw [← hW, bx0]; rfl
      have c8 : (W0).cell? ⟨w.heap.size, 8, none⟩ = some (.int .i64 ow) := by rw [← hW, bx0]; rfl
      have d0 : (W0).cell? ⟨w.heap.size + 1, 0, none⟩ = some (.int .i64 dx) := by rw [← hW, bx1]; rfl
      have d1 : (W0).cell? ⟨w.heap.size + 1, 1, none⟩ = some (.int .i64 dy) := by rw [← hW, bx1]; rfl
      have d2 : (W0).cell? ⟨w.heap.size + 1, 2, none⟩ = some (.bool f) := by rw [← hW, bx1]; rfl
      have r0 : (W0).cell? ⟨w.heap.size + 1 + 1, 0, none⟩ = some (.int .i64 0) := by rw [← hW, bx2]; rfl
      have r1 : (W0).cell? ⟨w.heap.size + 1 + 1, 1, none⟩ = some (.int .i64 0) := by rw [← hW, bx2]; rfl
      have r2 : (W0).cell? ⟨w.heap.size + 1 + 1, 2, none⟩ = some (.int .i64 0) := by rw [← hW, bx2]; rfl
      have r3 : (W0).cell? ⟨w.heap.size + 1 + 1, 3, none⟩ = some (.int .i64 0) := by rw [← hW, bx2]; rfl
      have r4 : (W0).cell? ⟨w.heap.size + 1 + 1, 4, none⟩ = some (.int .i64 0) := by rw [← hW, bx2]; rfl
      have r5 : (W0).cell? ⟨w.heap.size + 1 + 1, 5, none⟩ = some (.int .i64 0) := by rw [← hW, bx2]; rfl
      have r6 : (W0).cell? ⟨w.heap.size + 1 + 1, 6, none⟩ = some (.int .i64 0) := by rw [← hW, bx2]; rfl
      have r7 : (W0).cell? ⟨w.heap.size + 1 + 1, 7, none⟩ = some (.int .i64 0) := by rw [← hW, bx2]; rfl
      have r8 : (W0).cell? ⟨w.heap.size + 1 + 1, 8, none⟩ = some (.int .i64 0) := by rw [← hW, bx2]; rfl
      have fc0 : (W0).frozen? ⟨w.heap.size, 0, none⟩ = false := by rw [← hW]; exact bxf _ _ _ _ _ _ _ _ _ (by omega)
      have fc1 : (W0).frozen? ⟨w.heap.size, 1, none⟩ = false := by rw [← hW]; exact bxf _ _ _ _ _ _ _ _ _ (by omega)
      have fc2 : (W0).frozen? ⟨w.heap.size, 2, none⟩ = false := by rw [← hW]; exact bxf _ _ _ _ _ _ _ _ _ (by omega)
      have fc3 : (W0).frozen? ⟨w.heap.size, 3, none⟩ = false := by rw [← hW]; exact bxf _ _ _ _ _ _ _ _ _ (by omega)
      have fc4 : (W0).frozen? ⟨w.heap.size, 4, none⟩ = false := by rw [← hW]; exact bxf _ _ _ _ _ _ _ _ _ (by omega)
      have fc5 : (W0).frozen? ⟨w.heap.size, 5, none⟩ = false := by rw [← hW]; exact bxf _ _ _ _ _ _ _ _ _ (by omega)
      have fc6 : (W0).frozen? ⟨w.heap.size, 6, none⟩ = false := by rw [← hW]; exact bxf _ _ _ _ _ _ _ _ _ (by omega)
      have fc7 : (W0).frozen? ⟨w.heap.size, 7, none⟩ = false := by rw [← hW]; exact bxf _ _ _ _ _ _ _ _ _ (by omega)
      have fc8 : (W0).frozen? ⟨w.heap.size, 8, none⟩ = false := by rw [← hW]; exact bxf _ _ _ _ _ _ _ _ _ (by omega)
      have fr0 : (W0).frozen? ⟨w.heap.size + 1 + 1, 0, none⟩ = false := by rw [← hW]; exact bxf _ _ _ _ _ _ _ _ _ (by omega)
      have fr1 : (W0).frozen? ⟨w.heap.size + 1 + 1, 1, none⟩ = false := by rw [← hW]; exact bxf _ _ _ _ _ _ _ _ _ (by omega)
      have fr2 : (W0).frozen? ⟨w.heap.size + 1 + 1, 2, none⟩ = false := by rw [← hW]; exact bxf _ _ _ _ _ _ _ _ _ (by omega)
      have fr3 : (W0).frozen? ⟨w.heap.size + 1 + 1, 3, none⟩ = false := by rw [← hW]; exact bxf _ _ _ _ _ _ _ _ _ (by omega)
      have fr4 : (W0).frozen? ⟨w.heap.size + 1 + 1, 4, none⟩ = false := by rw [← hW]; exact bxf _ _ _ _ _ _ _ _ _ (by omega)
      have fr5 : (W0).frozen? ⟨w.heap.size + 1 + 1, 5, none⟩ = false := by rw [← hW]; exact bxf _ _ _ _ _ _ _ _ _ (by omega)
      have fr6 : (W0).frozen? ⟨w.heap.size + 1 + 1, 6, none⟩ = false := by rw [← hW]; exact bxf _ _ _ _ _ _ _ _ _ (by omega)
      have fr7 : (W0).frozen? ⟨w.heap.size + 1 + 1, 7, none⟩ = false := by rw [← hW]; exact bxf _ _ _ _ _ _ _ _ _ (by omega)
      have fr8 : (W0).frozen? ⟨w.heap.size + 1 + 1, 8, none⟩ = false := by rw [← hW]; exact bxf _ _ _ _ _ _ _ _ _ (by omega)
      have hz : w.heap.size + 1 + 1 < W0.heap.size := by rw [← hW]; simp
      have HB := Lib.hid (show Below w.heap.size w W0 from by rw [← hW]; exact bal3 _ _ _ _)
      clear hW
      go_wp2_with fail
      refine (HT.out _).mono ?_
      rintro e w1 ⟨rfl, hb⟩
      obtain ⟨hcc, hcf⟩ := bcell hb
      have C0 : (w1).cell? ⟨w.heap.size, 0, none⟩ = some (.int .i64 i0) := by rw [hcc _ _ (by omega)]; assumption
      have C1 : (w1).cell? ⟨w.heap.size, 1, none⟩ = some (.int .i64 1) := by rw [hcc _ _ (by omega)]; assumption
      have C2 : (w1).cell? ⟨w.heap.size, 2, none⟩ = some (.int .i64 x0) := by rw [hcc _ _ (by omega)]; assumption
      have C3 : (w1).cell? ⟨w.heap.size, 3, none⟩ = some (.int .i64 y0) := by rw [hcc _ _ (by omega)]; assumption
      have C4 : (w1).cell? ⟨w.heap.size, 4, none⟩ = some (.int .i64 vx) := by rw [hcc _ _ (by omega)]; assumption
      have C5 : (w1).cell? ⟨w.heap.size, 5, none⟩ = some (.int .i64 vy) := by rw [hcc _ _ (by omega)]; assumption
      have C6 : (w1).cell? ⟨w.heap.size, 6, none⟩ = some (.int .i64 he) := by rw [hcc _ _ (by omega)]; assumption
      have C7 : (w1).cell? ⟨w.heap.size, 7, none⟩ = some (.int .i64 ag) := by rw [hcc _ _ (by omega)]; assumption
      have C8 : (w1).cell? ⟨w.heap.size, 8, none⟩ = some (.int .i64 ow) := by rw [hcc _ _ (by omega)]; assumption
      have D0 : (w1).cell? ⟨w.heap.size + 1, 0, none⟩ = some (.int .i64 dx) := by rw [hcc _ _ (by omega)]; assumption
      have D1 : (w1).cell? ⟨w.heap.size + 1, 1, none⟩ = some (.int .i64 dy) := by rw [hcc _ _ (by omega)]; assumption
      have D2 : (w1).cell? ⟨w.heap.size + 1, 2, none⟩ = some (.bool f) := by rw [hcc _ _ (by omega)]; assumption
      have R0 : (w1).cell? ⟨w.heap.size + 1 + 1, 0, none⟩ = some (.int .i64 0) := by rw [hcc _ _ (by omega)]; assumption
      have R1 : (w1).cell? ⟨w.heap.size + 1 + 1, 1, none⟩ = some (.int .i64 0) := by rw [hcc _ _ (by omega)]; assumption
      have R2 : (w1).cell? ⟨w.heap.size + 1 + 1, 2, none⟩ = some (.int .i64 0) := by rw [hcc _ _ (by omega)]; assumption
      have R3 : (w1).cell? ⟨w.heap.size + 1 + 1, 3, none⟩ = some (.int .i64 0) := by rw [hcc _ _ (by omega)]; assumption
      have R4 : (w1).cell? ⟨w.heap.size + 1 + 1, 4, none⟩ = some (.int .i64 0) := by rw [hcc _ _ (by omega)]; assumption
      have R5 : (w1).cell? ⟨w.heap.size + 1 + 1, 5, none⟩ = some (.int .i64 0) := by rw [hcc _ _ (by omega)]; assumption
      have R6 : (w1).cell? ⟨w.heap.size + 1 + 1, 6, none⟩ = some (.int .i64 0) := by rw [hcc _ _ (by omega)]; assumption
      have R7 : (w1).cell? ⟨w.heap.size + 1 + 1, 7, none⟩ = some (.int .i64 0) := by rw [hcc _ _ (by omega)]; assumption
      have R8 : (w1).cell? ⟨w.heap.size + 1 + 1, 8, none⟩ = some (.int .i64 0) := by rw [hcc _ _ (by omega)]; assumption
      have Fc0 : (w1).frozen? ⟨w.heap.size, 0, none⟩ = false := by rw [hcf _ _ (by omega)]; assumption
      have Fc1 : (w1).frozen? ⟨w.heap.size, 1, none⟩ = false := by rw [hcf _ _ (by omega)]; assumption
      have Fc2 : (w1).frozen? ⟨w.heap.size, 2, none⟩ = false := by rw [hcf _ _ (by omega)]; assumption
      have Fc3 : (w1).frozen? ⟨w.heap.size, 3, none⟩ = false := by rw [hcf _ _ (by omega)]; assumption
      have Fc4 : (w1).frozen? ⟨w.heap.size, 4, none⟩ = false := by rw [hcf _ _ (by omega)]; assumption
      have Fc5 : (w1).frozen? ⟨w.heap.size, 5, none⟩ = false := by rw [hcf _ _ (by omega)]; assumption
      have Fc6 : (w1).frozen? ⟨w.heap.size, 6, none⟩ = false := by rw [hcf _ _ (by omega)]; assumption
      have Fc7 : (w1).frozen? ⟨w.heap.size, 7, none⟩ = false := by rw [hcf _ _ (by omega)]; assumption
      have Fc8 : (w1).frozen? ⟨w.heap.size, 8, none⟩ = false := by rw [hcf _ _ (by omega)]; assumption
      have Fr0 : (w1).frozen? ⟨w.heap.size + 1 + 1, 0, none⟩ = false := by rw [hcf _ _ (by omega)]; assumption
      have Fr1 : (w1).frozen? ⟨w.heap.size + 1 + 1, 1, none⟩ = false := by rw [hcf _ _ (by omega)]; assumption
      have Fr2 : (w1).frozen? ⟨w.heap.size + 1 + 1, 2, none⟩ = false := by rw [hcf _ _ (by omega)]; assumption
      have Fr3 : (w1).frozen? ⟨w.heap.size + 1 + 1, 3, none⟩ = false := by rw [hcf _ _ (by omega)]; assumption
      have Fr4 : (w1).frozen? ⟨w.heap.size + 1 + 1, 4, none⟩ = false := by rw [hcf _ _ (by omega)]; assumption
      have Fr5 : (w1).frozen? ⟨w.heap.size + 1 + 1, 5, none⟩ = false := by rw [hcf _ _ (by omega)]; assumption
      have Fr6 : (w1).frozen? ⟨w.heap.size + 1 + 1, 6, none⟩ = false := by rw [hcf _ _ (by omega)]; assumption
      have Fr7 : (w1).frozen? ⟨w.heap.size + 1 + 1, 7, none⟩ = false := by rw [hcf _ _ (by omega)]; assumption
      have Fr8 : (w1).frozen? ⟨w.heap.size + 1 + 1, 8, none⟩ = false := by rw [hcf _ _ (by omega)]; assumption
      have hz1 : w.heap.size + 1 + 1 < w1.heap.size := Nat.lt_of_lt_of_le hz hb.size
      replace HB := Lib.hid (nextW HB.out hb)
      clear hb hcc hcf hz c0 c1 c2 c3 c4 c5 c6 c7 c8 d0 d1 d2 r0 r1 r2 r3 r4 r5 r6 r7 r8 fc0 fc1 fc2 fc3 fc4 fc5 fc6 fc7 fc8 fr0 fr1 fr2 fr3 fr4 fr5 fr6 fr7 fr8
      go_wp2
      refine bodyPost_ret (v := .tuple #[.agg #[.int .i64 i0, .int .i64 1, .int .i64 x0, .int .i64 y0, .int .i64 vx, .int .i64 vy, .int .i64 he, .int .i64 ag, .int .i64 ow], .bool false]) (by simp [results, Tryz.results142, go_sem, *]) rfl ⟨rfl, ?_⟩
      iterate 9 (refine bset ?_ (by omega))
      exact HB.out
  · obtain ⟨e1, e2⟩ := HO.out (fun h => hk h.1)
    rw [e1, e2]
    dsimp only
    clear e1 e2 HO
    have hk1 : (kd == 1) = false := by simpa using hk
    go_enter Tryz.func142, Tryz.ntmps142
    go_upto_region 1 with fail
    generalize hW : World.alloc (World.alloc (World.alloc w _) _) _ = W0
    have c0 : (W0).cell? ⟨w.heap.size, 0, none⟩ = some (.int .i64 i0) := by rw [← hW, bx0]; rfl
    have c1 : (W0).cell? ⟨w.heap.size, 1, none⟩ = some (.int .i64 kd) := by rw [← hW, bx0]; rfl
    have c2 : (W0).cell? ⟨w.heap.size, 2, none⟩ = some (.int .i64 x0) := by rw [← hW, bx0]; rfl
    have c3 : (W0).cell? ⟨w.heap.size, 3, none⟩ = some (.int .i64 y0) := by rw [← hW, bx0]; rfl
    have c4 : (W0).cell? ⟨w.heap.size, 4, none⟩ = some (.int .i64 vx) := by rw [← hW, bx0]; rfl
    have c5 : (W0).cell? ⟨w.heap.size, 5, none⟩ = some (.int .i64 vy) := by rw [← hW, bx0]; rfl
    have c6 : (W0).cell? ⟨w.heap.size, 6, none⟩ = some (.int .i64 he) := by rw [← hW, bx0]; rfl
    have c7 : (W0).cell? ⟨w.heap.size, 7, none⟩ = some (.int .i64 ag) := by rw [← hW, bx0]; rfl
    have c8 : (W0).cell? ⟨w.heap.size, 8, none⟩ = some (.int .i64 ow) := by rw [← hW, bx0]; rfl
    have d0 : (W0).cell? ⟨w.heap.size + 1, 0, none⟩ = some (.int .i64 dx) := by rw [← hW, bx1]; rfl
    have d1 : (W0).cell? ⟨w.heap.size + 1, 1, none⟩ = some (.int .i64 dy) := by rw [← hW, bx1]; rfl
    have d2 : (W0).cell? ⟨w.heap.size + 1, 2, none⟩ = some (.bool f) := by rw [← hW, bx1]; rfl
    have r0 : (W0).cell? ⟨w.heap.size + 1 + 1, 0, none⟩ = some (.int .i64 0) := by rw [← hW, bx2]; rfl
    have r1 : (W0).cell? ⟨w.heap.size + 1 + 1, 1, none⟩ = some (.int .i64 0) := by rw [← hW, bx2]; rfl
    have r2 : (W0).cell? ⟨w.heap.size + 1 + 1, 2, none⟩ = some (.int .i64 0) := by rw [← hW, bx2]; rfl
    have r3 : (W0).cell? ⟨w.heap.size + 1 + 1, 3, none⟩ = some (.int .i64 0) := by rw [← hW, bx2]; rfl
    have r4 : (W0).cell? ⟨w.heap.size + 1 + 1, 4, none⟩ = some (.int .i64 0) := by rw [← hW, bx2]; rfl
    have r5 : (W0).cell? ⟨w.heap.size + 1 + 1, 5, none⟩ = some (.int .i64 0) := by rw [← hW, bx2]; rfl
    have r6 : (W0).cell? ⟨w.heap.size + 1 + 1, 6, none⟩ = some (.int .i64 0) := by rw [← hW, bx2]; rfl
    have r7 : (W0).cell? ⟨w.heap.size + 1 + 1, 7, none⟩ = some (.int .i64 0) := by rw [← hW, bx2]; rfl
    have r8 : (W0).cell? ⟨w.heap.size + 1 + 1, 8, none⟩ = some (.int .i64 0) := by rw [← hW, bx2]; rfl
    have fc0 : (W0).frozen? ⟨w.heap.size, 0, none⟩ = false := by rw [← hW]; exact bxf _ _ _ _ _ _ _ _ _ (by omega)
    have fc1 : (W0).frozen? ⟨w.heap.size, 1, none⟩ = false := by rw [← hW]; exact bxf _ _ _ _ _ _ _ _ _ (by omega)
    have fc2 : (W0).frozen? ⟨w.heap.size, 2, none⟩ = false := by rw [← hW]; exact bxf _ _ _ _ _ _ _ _ _ (by omega)
    have fc3 : (W0).frozen? ⟨w.heap.size, 3, none⟩ = false := by rw [← hW]; exact bxf _ _ _ _ _ _ _ _ _ (by omega)
    have fc4 : (W0).frozen? ⟨w.heap.size, 4, none⟩ = false := by rw [← hW]; exact bxf _ _ _ _ _ _ _ _ _ (by omega)
    have fc5 : (W0).frozen? ⟨w.heap.size, 5, none⟩ = false := by rw [← hW]; exact bxf _ _ _ _ _ _ _ _ _ (by omega)
    have fc6 : (W0).frozen? ⟨w.heap.size, 6, none⟩ = false := by rw [← hW]; exact bxf _ _ _ _ _ _ _ _ _ (by omega)
    have fc7 : (W0).frozen? ⟨w.heap.size, 7, none⟩ = false := by rw [← hW]; exact bxf _ _ _ _ _ _ _ _ _ (by omega)
    have fc8 : (W0).frozen? ⟨w.heap.size, 8, none⟩ = false := by rw [← hW]; exact bxf _ _ _ _ _ _ _ _ _ (by omega)
    have fr0 : (W0).frozen? ⟨w.heap.size + 1 + 1, 0, none⟩ = false := by rw [← hW]; exact bxf _ _ _ _ _ _ _ _ _ (by omega)
    have fr1 : (W0).frozen? ⟨w.heap.size + 1 + 1, 1, none⟩ = false := by rw [← hW]; exact bxf _ _ _ _ _ _ _ _ _ (by omega)
    have fr2 : (W0).frozen? ⟨w.heap.size + 1 + 1, 2, none⟩ = false := by rw [← hW]; exact bxf _ _ _ _ _ _ _ _ _ (by omega)
    have fr3 : (W0).frozen? ⟨w.heap.size + 1 + 1, 3, none⟩ = false := by rw [← hW]; exact bxf _ _ _ _ _ _ _ _ _ (by omega)
    have fr4 : (W0).frozen? ⟨w.heap.size + 1 + 1, 4, none⟩ = false := by rw [← hW]; exact bxf _ _ _ _ _ _ _ _ _ (by omega)
    have fr5 : (W0).frozen? ⟨w.heap.size + 1 + 1, 5, none⟩ = false := by rw [← hW]; exact bxf _ _ _ _ _ _ _ _ _ (by omega)
    have fr6 : (W0).frozen? ⟨w.heap.size + 1 + 1, 6, none⟩ = false := by rw [← hW]; exact bxf _ _ _ _ _ _ _ _ _ (by omega)
    have fr7 : (W0).frozen? ⟨w.heap.size + 1 + 1, 7, none⟩ = false := by rw [← hW]; exact bxf _ _ _ _ _ _ _ _ _ (by omega)
    have fr8 : (W0).frozen? ⟨w.heap.size + 1 + 1, 8, none⟩ = false := by rw [← hW]; exact bxf _ _ _ _ _ _ _ _ _ (by omega)
    have hz : w.heap.size + 1 + 1 < W0.heap.size := by rw [← hW]; simp
    have HB := Lib.hid (show Below w.heap.size w W0 from by rw [← hW]; exact bal3 _ _ _ _)
    clear hW
    go_wp2
    refine bodyPost_ret (v := .tuple #[.agg #[.int .i64 i0, .int .i64 kd, .int .i64 x0, .int .i64 y0, .int .i64 vx, .int .i64 vy, .int .i64 he, .int .i64 ag, .int .i64 ow], .bool false]) (by simp [results, Tryz.results142, go_sem, *]) rfl ⟨rfl, ?_⟩
    iterate 9 (refine bset ?_ (by omega))
    exact HB.out

set_option maxHeartbeats 2000000 in
theorem rsteer_any (y : Ent) (dx dy : Int) (f : Bool) (w : World) (ha : y.age ≤ 9223372036854775807) :
    Calls Tryz.prog 74 #[.agg #[.int .i64 y.id, .int .i64 y.kind, .int .i64 y.x, .int .i64 y.y, .int .i64 y.vx, .int .i64 y.vy, .int .i64 y.health, .int .i64 y.age, .int .i64 y.owner], .agg #[.int .i64 dx, .int .i64 dy, .bool f]] w fun e w' => e = .returned (.tuple #[.agg #[.int .i64 (steerE y dx dy f).id, .int .i64 (steerE y dx dy f).kind, .int .i64 (steerE y dx dy f).x, .int .i64 (steerE y dx dy f).y, .int .i64 (steerE y dx dy f).vx, .int .i64 (steerE y dx dy f).vy, .int .i64 (steerE y dx dy f).health, .int .i64 (steerE y dx dy f).age, .int .i64 (steerE y dx dy f).owner], .bool (steerB y dx dy f)]) ∧ Below w.heap.size w w' := by
  have HT := Lib.hid (fun w => rinput_in dx dy f w)
  have HO := Lib.hid (fun h => steer_off (y := y) (dx := dx) (dy := dy) f h)
  obtain ⟨i0, kd, x0, y0, vx, vy, he, ag, ow⟩ := y
  dsimp only at *
  by_cases hk : kd = 1
  · subst hk
    by_cases hi : irt dx dy = true
    · rw [hi] at HT
      have hb2 := irt_bd hi
      by_cases hf : f = true ∧ ag = 0
      · obtain ⟨rfl, rfl⟩ := hf
        obtain ⟨e1, e2⟩ := steer_yes i0 x0 y0 vx vy he ow dx dy hi
        rw [e1, e2]
        dsimp only
        clear e1 e2 HO hi
        go_enter Tryz.func74, Tryz.ntmps74
        go_upto_region 1 with fail
        generalize hW : World.alloc (World.alloc (World.alloc w _) _) _ = W0
        have c0 : (W0).cell? ⟨w.heap.size, 0, none⟩ = some (.int .i64 i0) := by rw [← hW, bx0]; rfl
        have c1 : (W0).cell? ⟨w.heap.size, 1, none⟩ = some (.int .i64 1) := by rw [← hW, bx0]; rfl
        have c2 : (W0).cell? ⟨w.heap.size, 2, none⟩ = some (.int .i64 x0) := by rw [← hW, bx0]; rfl
        have c3 : (W0).cell? ⟨w.heap.size, 3, none⟩ = some (.int .i64 y0) := by rw [← hW, bx0]; rfl
        have c4 : (W0).cell? ⟨w.heap.size, 4, none⟩ = some (.int .i64 vx) := by rw [← hW, bx0]; rfl
        have c5 : (W0).cell? ⟨w.heap.size, 5, none⟩ = some (.int .i64 vy) := by rw [← hW, bx0]; rfl
        have c6 : (W0).cell? ⟨w.heap.size, 6, none⟩ = some (.int .i64 he) := by rw [← hW, bx0]; rfl
        have c7 : (W0).cell? ⟨w.heap.size, 7, none⟩ = some (.int .i64 0) := by rw [← hW, bx0]; rfl
        have c8 : (W0).cell? ⟨w.heap.size, 8, none⟩ = some (.int .i64 ow) := by rw [← hW, bx0]; rfl
        have d0 : (W0).cell? ⟨w.heap.size + 1, 0, none⟩ = some (.int .i64 dx) := by rw [← hW, bx1]; rfl
        have d1 : (W0).cell? ⟨w.heap.size + 1, 1, none⟩ = some (.int .i64 dy) := by rw [← hW, bx1]; rfl
        have d2 : (W0).cell? ⟨w.heap.size + 1, 2, none⟩ = some (.bool true) := by rw [← hW, bx1]; rfl
        have r0 : (W0).cell? ⟨w.heap.size + 1 + 1, 0, none⟩ = some (.int .i64 0) := by rw [← hW, bx2]; rfl
        have r1 : (W0).cell? ⟨w.heap.size + 1 + 1, 1, none⟩ = some (.int .i64 0) := by rw [← hW, bx2]; rfl
        have r2 : (W0).cell? ⟨w.heap.size + 1 + 1, 2, none⟩ = some (.int .i64 0) := by rw [← hW, bx2]; rfl
        have r3 : (W0).cell? ⟨w.heap.size + 1 + 1, 3, none⟩ = some (.int .i64 0) := by rw [← hW, bx2]; rfl
        have r4 : (W0).cell? ⟨w.heap.size + 1 + 1, 4, none⟩ = some (.int .i64 0) := by rw [← hW, bx2]; rfl
        have r5 : (W0).cell? ⟨w.heap.size + 1 + 1, 5, none⟩ = some (.int .i64 0) := by rw [← hW, bx2]; rfl
        have r6 : (W0).cell? ⟨w.heap.size + 1 + 1, 6, none⟩ = some (.int .i64 0) := by rw [← hW, bx2]; rfl
        have r7 : (W0).cell? ⟨w.heap.size + 1 + 1, 7, none⟩ = some (.int .i64 0) := by rw [← hW, bx2]; rfl
        have r8 : (W0).cell? ⟨w.heap.size + 1 + 1, 8, none⟩ = some (.int .i64 0) := by rw [← hW, bx2]; rfl
        have fc0 : (W0).frozen? ⟨w.heap.size, 0, none⟩ = false := by rw [← hW]; exact bxf _ _ _ _ _ _ _ _ _ (by omega)
        have fc1 : (W0).frozen? ⟨w.heap.size, 1, none⟩ = false := by rw [← hW]; exact bxf _ _ _ _ _ _ _ _ _ (by omega)
        have fc2 : (W0).frozen? ⟨w.heap.size, 2, none⟩ = false := by rw [← hW]; exact bxf _ _ _ _ _ _ _ _ _ (by omega)
        have fc3 : (W0).frozen? ⟨w.heap.size, 3, none⟩ = false := by rw [← hW]; exact bxf _ _ _ _ _ _ _ _ _ (by omega)
        have fc4 : (W0).frozen? ⟨w.heap.size, 4, none⟩ = false := by rw [← hW]; exact bxf _ _ _ _ _ _ _ _ _ (by omega)
        have fc5 : (W0).frozen? ⟨w.heap.size, 5, none⟩ = false := by rw [← hW]; exact bxf _ _ _ _ _ _ _ _ _ (by omega)
        have fc6 : (W0).frozen? ⟨w.heap.size, 6, none⟩ = false := by rw [← hW]; exact bxf _ _ _ _ _ _ _ _ _ (by omega)
        have fc7 : (W0).frozen? ⟨w.heap.size, 7, none⟩ = false := by rw [← hW]; exact bxf _ _ _ _ _ _ _ _ _ (by omega)
        have fc8 : (W0).frozen? ⟨w.heap.size, 8, none⟩ = false := by rw [← hW]; exact bxf _ _ _ _ _ _ _ _ _ (by omega)
        have fr0 : (W0).frozen? ⟨w.heap.size + 1 + 1, 0, none⟩ = false := by rw [← hW]; exact bxf _ _ _ _ _ _ _ _ _ (by omega)
        have fr1 : (W0).frozen? ⟨w.heap.size + 1 + 1, 1, none⟩ = false := by rw [← hW]; exact bxf _ _ _ _ _ _ _ _ _ (by omega)
        have fr2 : (W0).frozen? ⟨w.heap.size + 1 + 1, 2, none⟩ = false := by rw [← hW]; exact bxf _ _ _ _ _ _ _ _ _ (by omega)
        have fr3 : (W0).frozen? ⟨w.heap.size + 1 + 1, 3, none⟩ = false := by rw [← hW]; exact bxf _ _ _ _ _ _ _ _ _ (by omega)
        have fr4 : (W0).frozen? ⟨w.heap.size + 1 + 1, 4, none⟩ = false := by rw [← hW]; exact bxf _ _ _ _ _ _ _ _ _ (by omega)
        have fr5 : (W0).frozen? ⟨w.heap.size + 1 + 1, 5, none⟩ = false := by rw [← hW]; exact bxf _ _ _ _ _ _ _ _ _ (by omega)
        have fr6 : (W0).frozen? ⟨w.heap.size + 1 + 1, 6, none⟩ = false := by rw [← hW]; exact bxf _ _ _ _ _ _ _ _ _ (by omega)
        have fr7 : (W0).frozen? ⟨w.heap.size + 1 + 1, 7, none⟩ = false := by rw [← hW]; exact bxf _ _ _ _ _ _ _ _ _ (by omega)
        have fr8 : (W0).frozen? ⟨w.heap.size + 1 + 1, 8, none⟩ = false := by rw [← hW]; exact bxf _ _ _ _ _ _ _ _ _ (by omega)
        have hz : w.heap.size + 1 + 1 < W0.heap.size := by rw [← hW]; simp
        have HB := Lib.hid (show Below w.heap.size w W0 from by rw [← hW]; exact bal3 _ _ _ _)
        clear hW
        go_wp2_with fail
        refine (HT.out _).mono ?_
        rintro e w1 ⟨rfl, hb⟩
        obtain ⟨hcc, hcf⟩ := bcell hb
        have C0 : (w1).cell? ⟨w.heap.size, 0, none⟩ = some (.int .i64 i0) := by rw [hcc _ _ (by omega)]; assumption
        have C1 : (w1).cell? ⟨w.heap.size, 1, none⟩ = some (.int .i64 1) := by rw [hcc _ _ (by omega)]; assumption
        have C2 : (w1).cell? ⟨w.heap.size, 2, none⟩ = some (.int .i64 x0) := by rw [hcc _ _ (by omega)]; assumption
        have C3 : (w1).cell? ⟨w.heap.size, 3, none⟩ = some (.int .i64 y0) := by rw [hcc _ _ (by omega)]; assumption
        have C4 : (w1).cell? ⟨w.heap.size, 4, none⟩ = some (.int .i64 vx) := by rw [hcc _ _ (by omega)]; assumption
        have C5 : (w1).cell? ⟨w.heap.size, 5, none⟩ = some (.int .i64 vy) := by rw [hcc _ _ (by omega)]; assumption
        have C6 : (w1).cell? ⟨w.heap.size, 6, none⟩ = some (.int .i64 he) := by rw [hcc _ _ (by omega)]; assumption
        have C7 : (w1).cell? ⟨w.heap.size, 7, none⟩ = some (.int .i64 0) := by rw [hcc _ _ (by omega)]; assumption
        have C8 : (w1).cell? ⟨w.heap.size, 8, none⟩ = some (.int .i64 ow) := by rw [hcc _ _ (by omega)]; assumption
        have D0 : (w1).cell? ⟨w.heap.size + 1, 0, none⟩ = some (.int .i64 dx) := by rw [hcc _ _ (by omega)]; assumption
        have D1 : (w1).cell? ⟨w.heap.size + 1, 1, none⟩ = some (.int .i64 dy) := by rw [hcc _ _ (by omega)]; assumption
        have D2 : (w1).cell? ⟨w.heap.size + 1, 2, none⟩ = some (.bool true) := by rw [hcc _ _ (by omega)]; assumption
        have R0 : (w1).cell? ⟨w.heap.size + 1 + 1, 0, none⟩ = some (.int .i64 0) := by rw [hcc _ _ (by omega)]; assumption
        have R1 : (w1).cell? ⟨w.heap.size + 1 + 1, 1, none⟩ = some (.int .i64 0) := by rw [hcc _ _ (by omega)]; assumption
        have R2 : (w1).cell? ⟨w.heap.size + 1 + 1, 2, none⟩ = some (.int .i64 0) := by rw [hcc _ _ (by omega)]; assumption
        have R3 : (w1).cell? ⟨w.heap.size + 1 + 1, 3, none⟩ = some (.int .i64 0) := by rw [hcc _ _ (by omega)]; assumption
        have R4 : (w1).cell? ⟨w.heap.size + 1 + 1, 4, none⟩ = some (.int .i64 0) := by rw [hcc _ _ (by omega)]; assumption
        have R5 : (w1).cell? ⟨w.heap.size + 1 + 1, 5, none⟩ = some (.int .i64 0) := by rw [hcc _ _ (by omega)]; assumption
        have R6 : (w1).cell? ⟨w.heap.size + 1 + 1, 6, none⟩ = some (.int .i64 0) := by rw [hcc _ _ (by omega)]; assumption
        have R7 : (w1).cell? ⟨w.heap.size + 1 + 1, 7, none⟩ = some (.int .i64 0) := by rw [hcc _ _ (by omega)]; assumption
        have R8 : (w1).cell? ⟨w.heap.size + 1 + 1, 8, none⟩ = some (.int .i64 0) := by rw [hcc _ _ (by omega)]; assumption
        have Fc0 : (w1).frozen? ⟨w.heap.size, 0, none⟩ = false := by rw [hcf _ _ (by omega)]; assumption
        have Fc1 : (w1).frozen? ⟨w.heap.size, 1, none⟩ = false := by rw [hcf _ _ (by omega)]; assumption
        have Fc2 : (w1).frozen? ⟨w.heap.size, 2, none⟩ = false := by rw [hcf _ _ (by omega)]; assumption
        have Fc3 : (w1).frozen? ⟨w.heap.size, 3, none⟩ = false := by rw [hcf _ _ (by omega)]; assumption
        have Fc4 : (w1).frozen? ⟨w.heap.size, 4, none⟩ = false := by rw [hcf _ _ (by omega)]; assumption
        have Fc5 : (w1).frozen? ⟨w.heap.size, 5, none⟩ = false := by rw [hcf _ _ (by omega)]; assumption
        have Fc6 : (w1).frozen? ⟨w.heap.size, 6, none⟩ = false := by rw [hcf _ _ (by omega)]; assumption
        have Fc7 : (w1).frozen? ⟨w.heap.size, 7, none⟩ = false := by rw [hcf _ _ (by omega)]; assumption
        have Fc8 : (w1).frozen? ⟨w.heap.size, 8, none⟩ = false := by rw [hcf _ _ (by omega)]; assumption
        have Fr0 : (w1).frozen? ⟨w.heap.size + 1 + 1, 0, none⟩ = false := by rw [hcf _ _ (by omega)]; assumption
        have Fr1 : (w1).frozen? ⟨w.heap.size + 1 + 1, 1, none⟩ = false := by rw [hcf _ _ (by omega)]; assumption
        have Fr2 : (w1).frozen? ⟨w.heap.size + 1 + 1, 2, none⟩ = false := by rw [hcf _ _ (by omega)]; assumption
        have Fr3 : (w1).frozen? ⟨w.heap.size + 1 + 1, 3, none⟩ = false := by rw [hcf _ _ (by omega)]; assumption
        have Fr4 : (w1).frozen? ⟨w.heap.size + 1 + 1, 4, none⟩ = false := by rw [hcf _ _ (by omega)]; assumption
        have Fr5 : (w1).frozen? ⟨w.heap.size + 1 + 1, 5, none⟩ = false := by rw [hcf _ _ (by omega)]; assumption
        have Fr6 : (w1).frozen? ⟨w.heap.size + 1 + 1, 6, none⟩ = false := by rw [hcf _ _ (by omega)]; assumption
        have Fr7 : (w1).frozen? ⟨w.heap.size + 1 + 1, 7, none⟩ = false := by rw [hcf _ _ (by omega)]; assumption
        have Fr8 : (w1).frozen? ⟨w.heap.size + 1 + 1, 8, none⟩ = false := by rw [hcf _ _ (by omega)]; assumption
        have hz1 : w.heap.size + 1 + 1 < w1.heap.size := Nat.lt_of_lt_of_le hz hb.size
        replace HB := Lib.hid (nextW HB.out hb)
        clear hb hcc hcf hz c0 c1 c2 c3 c4 c5 c6 c7 c8 d0 d1 d2 r0 r1 r2 r3 r4 r5 r6 r7 r8 fc0 fc1 fc2 fc3 fc4 fc5 fc6 fc7 fc8 fr0 fr1 fr2 fr3 fr4 fr5 fr6 fr7 fr8
        go_wp2
        go_region
        generalize hW : World.drew _ = W2
        have c0 : (W2).cell? ⟨w.heap.size, 0, none⟩ = some (.int .i64 i0) := by rw [← hW]; simp [go_sem, C0]
        have c1 : (W2).cell? ⟨w.heap.size, 1, none⟩ = some (.int .i64 1) := by rw [← hW]; simp [go_sem, C1]
        have c2 : (W2).cell? ⟨w.heap.size, 2, none⟩ = some (.int .i64 x0) := by rw [← hW]; simp [go_sem, C2]
        have c3 : (W2).cell? ⟨w.heap.size, 3, none⟩ = some (.int .i64 y0) := by rw [← hW]; simp [go_sem, C3]
        have c4 : (W2).cell? ⟨w.heap.size, 4, none⟩ = some (.int .i64 (dx * 32)) := by rw [← hW]; simp [go_sem, C4]
        have c5 : (W2).cell? ⟨w.heap.size, 5, none⟩ = some (.int .i64 (dy * 32)) := by rw [← hW]; simp [go_sem, C5]
        have c6 : (W2).cell? ⟨w.heap.size, 6, none⟩ = some (.int .i64 he) := by rw [← hW]; simp [go_sem, C6]
        have c7 : (W2).cell? ⟨w.heap.size, 7, none⟩ = some (.int .i64 0) := by rw [← hW]; simp [go_sem, C7]
        have c8 : (W2).cell? ⟨w.heap.size, 8, none⟩ = some (.int .i64 ow) := by rw [← hW]; simp [go_sem, C8]
        have d0 : (W2).cell? ⟨w.heap.size + 1, 0, none⟩ = some (.int .i64 dx) := by rw [← hW]; simp [go_sem, D0]
        have d1 : (W2).cell? ⟨w.heap.size + 1, 1, none⟩ = some (.int .i64 dy) := by rw [← hW]; simp [go_sem, D1]
        have d2 : (W2).cell? ⟨w.heap.size + 1, 2, none⟩ = some (.bool true) := by rw [← hW]; simp [go_sem, D2]
        have r0 : (W2).cell? ⟨w.heap.size + 1 + 1, 0, none⟩ = some (.int .i64 0) := by rw [← hW]; simp [go_sem, R0]
        have r1 : (W2).cell? ⟨w.heap.size + 1 + 1, 1, none⟩ = some (.int .i64 0) := by rw [← hW]; simp [go_sem, R1]
        have r2 : (W2).cell? ⟨w.heap.size + 1 + 1, 2, none⟩ = some (.int .i64 0) := by rw [← hW]; simp [go_sem, R2]
        have r3 : (W2).cell? ⟨w.heap.size + 1 + 1, 3, none⟩ = some (.int .i64 0) := by rw [← hW]; simp [go_sem, R3]
        have r4 : (W2).cell? ⟨w.heap.size + 1 + 1, 4, none⟩ = some (.int .i64 0) := by rw [← hW]; simp [go_sem, R4]
        have r5 : (W2).cell? ⟨w.heap.size + 1 + 1, 5, none⟩ = some (.int .i64 0) := by rw [← hW]; simp [go_sem, R5]
        have r6 : (W2).cell? ⟨w.heap.size + 1 + 1, 6, none⟩ = some (.int .i64 0) := by rw [← hW]; simp [go_sem, R6]
        have r7 : (W2).cell? ⟨w.heap.size + 1 + 1, 7, none⟩ = some (.int .i64 0) := by rw [← hW]; simp [go_sem, R7]
        have r8 : (W2).cell? ⟨w.heap.size + 1 + 1, 8, none⟩ = some (.int .i64 0) := by rw [← hW]; simp [go_sem, R8]
        have fc7 : (W2).frozen? ⟨w.heap.size, 7, none⟩ = false := by rw [← hW]; simp [Fc7]
        have fr0 : (W2).frozen? ⟨w.heap.size + 1 + 1, 0, none⟩ = false := by rw [← hW]; simp [Fr0]
        have fr1 : (W2).frozen? ⟨w.heap.size + 1 + 1, 1, none⟩ = false := by rw [← hW]; simp [Fr1]
        have fr2 : (W2).frozen? ⟨w.heap.size + 1 + 1, 2, none⟩ = false := by rw [← hW]; simp [Fr2]
        have fr3 : (W2).frozen? ⟨w.heap.size + 1 + 1, 3, none⟩ = false := by rw [← hW]; simp [Fr3]
        have fr4 : (W2).frozen? ⟨w.heap.size + 1 + 1, 4, none⟩ = false := by rw [← hW]; simp [Fr4]
        have fr5 : (W2).frozen? ⟨w.heap.size + 1 + 1, 5, none⟩ = false := by rw [← hW]; simp [Fr5]
        have fr6 : (W2).frozen? ⟨w.heap.size + 1 + 1, 6, none⟩ = false := by rw [← hW]; simp [Fr6]
        have fr7 : (W2).frozen? ⟨w.heap.size + 1 + 1, 7, none⟩ = false := by rw [← hW]; simp [Fr7]
        have fr8 : (W2).frozen? ⟨w.heap.size + 1 + 1, 8, none⟩ = false := by rw [← hW]; simp [Fr8]
        replace HB := Lib.hid (show Below w.heap.size w W2 from by rw [← hW]; exact (bset (bset HB.out (by omega)) (by omega)).drew)
        clear hW hz1 C0 C1 C2 C3 C4 C5 C6 C7 C8 D0 D1 D2 R0 R1 R2 R3 R4 R5 R6 R7 R8 Fc0 Fc1 Fc2 Fc3 Fc4 Fc5 Fc6 Fc7 Fc8 Fr0 Fr1 Fr2 Fr3 Fr4 Fr5 Fr6 Fr7 Fr8
        go_wp2
        refine bodyPost_ret (v := .tuple #[.agg #[.int .i64 i0, .int .i64 1, .int .i64 x0, .int .i64 y0, .int .i64 (dx * 32), .int .i64 (dy * 32), .int .i64 he, .int .i64 6, .int .i64 ow], .bool true]) (by simp [results, Tryz.results74, go_sem, *]) rfl ⟨rfl, ?_⟩
        iterate 10 (refine bset ?_ (by omega))
        exact HB.out
      · obtain ⟨e1, e2⟩ := steer_no i0 x0 y0 vx vy he ag ow dx dy f hi hf
        rw [e1, e2]
        dsimp only
        clear e1 e2 HO hi
        go_enter Tryz.func74, Tryz.ntmps74
        go_upto_region 1 with fail
        generalize hW : World.alloc (World.alloc (World.alloc w _) _) _ = W0
        have c0 : (W0).cell? ⟨w.heap.size, 0, none⟩ = some (.int .i64 i0) := by rw [← hW, bx0]; rfl
        have c1 : (W0).cell? ⟨w.heap.size, 1, none⟩ = some (.int .i64 1) := by rw [← hW, bx0]; rfl
        have c2 : (W0).cell? ⟨w.heap.size, 2, none⟩ = some (.int .i64 x0) := by rw [← hW, bx0]; rfl
        have c3 : (W0).cell? ⟨w.heap.size, 3, none⟩ = some (.int .i64 y0) := by rw [← hW, bx0]; rfl
        have c4 : (W0).cell? ⟨w.heap.size, 4, none⟩ = some (.int .i64 vx) := by rw [← hW, bx0]; rfl
        have c5 : (W0).cell? ⟨w.heap.size, 5, none⟩ = some (.int .i64 vy) := by rw [← hW, bx0]; rfl
        have c6 : (W0).cell? ⟨w.heap.size, 6, none⟩ = some (.int .i64 he) := by rw [← hW, bx0]; rfl
        have c7 : (W0).cell? ⟨w.heap.size, 7, none⟩ = some (.int .i64 ag) := by rw [← hW, bx0]; rfl
        have c8 : (W0).cell? ⟨w.heap.size, 8, none⟩ = some (.int .i64 ow) := by rw [← hW, bx0]; rfl
        have d0 : (W0).cell? ⟨w.heap.size + 1, 0, none⟩ = some (.int .i64 dx) := by rw [← hW, bx1]; rfl
        have d1 : (W0).cell? ⟨w.heap.size + 1, 1, none⟩ = some (.int .i64 dy) := by rw [← hW, bx1]; rfl
        have d2 : (W0).cell? ⟨w.heap.size + 1, 2, none⟩ = some (.bool f) := by rw [← hW, bx1]; rfl
        have r0 : (W0).cell? ⟨w.heap.size + 1 + 1, 0, none⟩ = some (.int .i64 0) := by rw [← hW, bx2]; rfl
        have r1 : (W0).cell? ⟨w.heap.size + 1 + 1, 1, none⟩ = some (.int .i64 0) := by rw [← hW, bx2]; rfl
        have r2 : (W0).cell? ⟨w.heap.size + 1 + 1, 2, none⟩ = some (.int .i64 0) := by rw [← hW, bx2]; rfl
        have r3 : (W0).cell? ⟨w.heap.size + 1 + 1, 3, none⟩ = some (.int .i64 0) := by rw [← hW, bx2]; rfl
        have r4 : (W0).cell? ⟨w.heap.size + 1 + 1, 4, none⟩ = some (.int .i64 0) := by rw [← hW, bx2]; rfl
        have r5 : (W0).cell? ⟨w.heap.size + 1 + 1, 5, none⟩ = some (.int .i64 0) := by rw [← hW, bx2]; rfl
        have r6 : (W0).cell? ⟨w.heap.size + 1 + 1, 6, none⟩ = some (.int .i64 0) := by rw [← hW, bx2]; rfl
        have r7 : (W0).cell? ⟨w.heap.size + 1 + 1, 7, none⟩ = some (.int .i64 0) := by rw [← hW, bx2]; rfl
        have r8 : (W0).cell? ⟨w.heap.size + 1 + 1, 8, none⟩ = some (.int .i64 0) := by rw [← hW, bx2]; rfl
        have fc0 : (W0).frozen? ⟨w.heap.size, 0, none⟩ = false := by rw [← hW]; exact bxf _ _ _ _ _ _ _ _ _ (by omega)
        have fc1 : (W0).frozen? ⟨w.heap.size, 1, none⟩ = false := by rw [← hW]; exact bxf _ _ _ _ _ _ _ _ _ (by omega)
        have fc2 : (W0).frozen? ⟨w.heap.size, 2, none⟩ = false := by rw [← hW]; exact bxf _ _ _ _ _ _ _ _ _ (by omega)
        have fc3 : (W0).frozen? ⟨w.heap.size, 3, none⟩ = false := by rw [← hW]; exact bxf _ _ _ _ _ _ _ _ _ (by omega)
        have fc4 : (W0).frozen? ⟨w.heap.size, 4, none⟩ = false := by rw [← hW]; exact bxf _ _ _ _ _ _ _ _ _ (by omega)
        have fc5 : (W0).frozen? ⟨w.heap.size, 5, none⟩ = false := by rw [← hW]; exact bxf _ _ _ _ _ _ _ _ _ (by omega)
        have fc6 : (W0).frozen? ⟨w.heap.size, 6, none⟩ = false := by rw [← hW]; exact bxf _ _ _ _ _ _ _ _ _ (by omega)
        have fc7 : (W0).frozen? ⟨w.heap.size, 7, none⟩ = false := by rw [← hW]; exact bxf _ _ _ _ _ _ _ _ _ (by omega)
        have fc8 : (W0).frozen? ⟨w.heap.size, 8, none⟩ = false := by rw [← hW]; exact bxf _ _ _ _ _ _ _ _ _ (by omega)
        have fr0 : (W0).frozen? ⟨w.heap.size + 1 + 1, 0, none⟩ = false := by rw [← hW]; exact bxf _ _ _ _ _ _ _ _ _ (by omega)
        have fr1 : (W0).frozen? ⟨w.heap.size + 1 + 1, 1, none⟩ = false := by rw [← hW]; exact bxf _ _ _ _ _ _ _ _ _ (by omega)
        have fr2 : (W0).frozen? ⟨w.heap.size + 1 + 1, 2, none⟩ = false := by rw [← hW]; exact bxf _ _ _ _ _ _ _ _ _ (by omega)
        have fr3 : (W0).frozen? ⟨w.heap.size + 1 + 1, 3, none⟩ = false := by rw [← hW]; exact bxf _ _ _ _ _ _ _ _ _ (by omega)
        have fr4 : (W0).frozen? ⟨w.heap.size + 1 + 1, 4, none⟩ = false := by rw [← hW]; exact bxf _ _ _ _ _ _ _ _ _ (by omega)
        have fr5 : (W0).frozen? ⟨w.heap.size + 1 + 1, 5, none⟩ = false := by rw [← hW]; exact bxf _ _ _ _ _ _ _ _ _ (by omega)
        have fr6 : (W0).frozen? ⟨w.heap.size + 1 + 1, 6, none⟩ = false := by rw [← hW]; exact bxf _ _ _ _ _ _ _ _ _ (by omega)
        have fr7 : (W0).frozen? ⟨w.heap.size + 1 + 1, 7, none⟩ = false := by rw [← hW]; exact bxf _ _ _ _ _ _ _ _ _ (by omega)
        have fr8 : (W0).frozen? ⟨w.heap.size + 1 + 1, 8, none⟩ = false := by rw [← hW]; exact bxf _ _ _ _ _ _ _ _ _ (by omega)
        have hz : w.heap.size + 1 + 1 < W0.heap.size := by rw [← hW]; simp
        have HB := Lib.hid (show Below w.heap.size w W0 from by rw [← hW]; exact bal3 _ _ _ _)
        clear hW
        go_wp2_with fail
        refine (HT.out _).mono ?_
        rintro e w1 ⟨rfl, hb⟩
        obtain ⟨hcc, hcf⟩ := bcell hb
        have C0 : (w1).cell? ⟨w.heap.size, 0, none⟩ = some (.int .i64 i0) := by rw [hcc _ _ (by omega)]; assumption
        have C1 : (w1).cell? ⟨w.heap.size, 1, none⟩ = some (.int .i64 1) := by rw [hcc _ _ (by omega)]; assumption
        have C2 : (w1).cell? ⟨w.heap.size, 2, none⟩ = some (.int .i64 x0) := by rw [hcc _ _ (by omega)]; assumption
        have C3 : (w1).cell? ⟨w.heap.size, 3, none⟩ = some (.int .i64 y0) := by rw [hcc _ _ (by omega)]; assumption
        have C4 : (w1).cell? ⟨w.heap.size, 4, none⟩ = some (.int .i64 vx) := by rw [hcc _ _ (by omega)]; assumption
        have C5 : (w1).cell? ⟨w.heap.size, 5, none⟩ = some (.int .i64 vy) := by rw [hcc _ _ (by omega)]; assumption
        have C6 : (w1).cell? ⟨w.heap.size, 6, none⟩ = some (.int .i64 he) := by rw [hcc _ _ (by omega)]; assumption
        have C7 : (w1).cell? ⟨w.heap.size, 7, none⟩ = some (.int .i64 ag) := by rw [hcc _ _ (by omega)]; assumption
        have C8 : (w1).cell? ⟨w.heap.size, 8, none⟩ = some (.int .i64 ow) := by rw [hcc _ _ (by omega)]; assumption
        have D0 : (w1).cell? ⟨w.heap.size + 1, 0, none⟩ = some (.int .i64 dx) := by rw [hcc _ _ (by omega)]; assumption
        have D1 : (w1).cell? ⟨w.heap.size + 1, 1, none⟩ = some (.int .i64 dy) := by rw [hcc _ _ (by omega)]; assumption
        have D2 : (w1).cell? ⟨w.heap.size + 1, 2, none⟩ = some (.bool f) := by rw [hcc _ _ (by omega)]; assumption
        have R0 : (w1).cell? ⟨w.heap.size + 1 + 1, 0, none⟩ = some (.int .i64 0) := by rw [hcc _ _ (by omega)]; assumption
        have R1 : (w1).cell? ⟨w.heap.size + 1 + 1, 1, none⟩ = some (.int .i64 0) := by rw [hcc _ _ (by omega)]; assumption
        have R2 : (w1).cell? ⟨w.heap.size + 1 + 1, 2, none⟩ = some (.int .i64 0) := by rw [hcc _ _ (by omega)]; assumption
        have R3 : (w1).cell? ⟨w.heap.size + 1 + 1, 3, none⟩ = some (.int .i64 0) := by rw [hcc _ _ (by omega)]; assumption
        have R4 : (w1).cell? ⟨w.heap.size + 1 + 1, 4, none⟩ = some (.int .i64 0) := by rw [hcc _ _ (by omega)]; assumption
        have R5 : (w1).cell? ⟨w.heap.size + 1 + 1, 5, none⟩ = some (.int .i64 0) := by rw [hcc _ _ (by omega)]; assumption
        have R6 : (w1).cell? ⟨w.heap.size + 1 + 1, 6, none⟩ = some (.int .i64 0) := by rw [hcc _ _ (by omega)]; assumption
        have R7 : (w1).cell? ⟨w.heap.size + 1 + 1, 7, none⟩ = some (.int .i64 0) := by rw [hcc _ _ (by omega)]; assumption
        have R8 : (w1).cell? ⟨w.heap.size + 1 + 1, 8, none⟩ = some (.int .i64 0) := by rw [hcc _ _ (by omega)]; assumption
        have Fc0 : (w1).frozen? ⟨w.heap.size, 0, none⟩ = false := by rw [hcf _ _ (by omega)]; assumption
        have Fc1 : (w1).frozen? ⟨w.heap.size, 1, none⟩ = false := by rw [hcf _ _ (by omega)]; assumption
        have Fc2 : (w1).frozen? ⟨w.heap.size, 2, none⟩ = false := by rw [hcf _ _ (by omega)]; assumption
        have Fc3 : (w1).frozen? ⟨w.heap.size, 3, none⟩ = false := by rw [hcf _ _ (by omega)]; assumption
        have Fc4 : (w1).frozen? ⟨w.heap.size, 4, none⟩ = false := by rw [hcf _ _ (by omega)]; assumption
        have Fc5 : (w1).frozen? ⟨w.heap.size, 5, none⟩ = false := by rw [hcf _ _ (by omega)]; assumption
        have Fc6 : (w1).frozen? ⟨w.heap.size, 6, none⟩ = false := by rw [hcf _ _ (by omega)]; assumption
        have Fc7 : (w1).frozen? ⟨w.heap.size, 7, none⟩ = false := by rw [hcf _ _ (by omega)]; assumption
        have Fc8 : (w1).frozen? ⟨w.heap.size, 8, none⟩ = false := by rw [hcf _ _ (by omega)]; assumption
        have Fr0 : (w1).frozen? ⟨w.heap.size + 1 + 1, 0, none⟩ = false := by rw [hcf _ _ (by omega)]; assumption
        have Fr1 : (w1).frozen? ⟨w.heap.size + 1 + 1, 1, none⟩ = false := by rw [hcf _ _ (by omega)]; assumption
        have Fr2 : (w1).frozen? ⟨w.heap.size + 1 + 1, 2, none⟩ = false := by rw [hcf _ _ (by omega)]; assumption
        have Fr3 : (w1).frozen? ⟨w.heap.size + 1 + 1, 3, none⟩ = false := by rw [hcf _ _ (by omega)]; assumption
        have Fr4 : (w1).frozen? ⟨w.heap.size + 1 + 1, 4, none⟩ = false := by rw [hcf _ _ (by omega)]; assumption
        have Fr5 : (w1).frozen? ⟨w.heap.size + 1 + 1, 5, none⟩ = false := by rw [hcf _ _ (by omega)]; assumption
        have Fr6 : (w1).frozen? ⟨w.heap.size + 1 + 1, 6, none⟩ = false := by rw [hcf _ _ (by omega)]; assumption
        have Fr7 : (w1).frozen? ⟨w.heap.size + 1 + 1, 7, none⟩ = false := by rw [hcf _ _ (by omega)]; assumption
        have Fr8 : (w1).frozen? ⟨w.heap.size + 1 + 1, 8, none⟩ = false := by rw [hcf _ _ (by omega)]; assumption
        have hz1 : w.heap.size + 1 + 1 < w1.heap.size := Nat.lt_of_lt_of_le hz hb.size
        replace HB := Lib.hid (nextW HB.out hb)
        clear hb hcc hcf hz c0 c1 c2 c3 c4 c5 c6 c7 c8 d0 d1 d2 r0 r1 r2 r3 r4 r5 r6 r7 r8 fc0 fc1 fc2 fc3 fc4 fc5 fc6 fc7 fc8 fr0 fr1 fr2 fr3 fr4 fr5 fr6 fr7 fr8
        go_wp2
        go_region
        generalize hW : World.drew _ = W2
        have c0 : (W2).cell? ⟨w.heap.size, 0, none⟩ = some (.int .i64 i0) := by rw [← hW]; simp [go_sem, C0]
        have c1 : (W2).cell? ⟨w.heap.size, 1, none⟩ = some (.int .i64 1) := by rw [← hW]; simp [go_sem, C1]
        have c2 : (W2).cell? ⟨w.heap.size, 2, none⟩ = some (.int .i64 x0) := by rw [← hW]; simp [go_sem, C2]
        have c3 : (W2).cell? ⟨w.heap.size, 3, none⟩ = some (.int .i64 y0) := by rw [← hW]; simp [go_sem, C3]
        have c4 : (W2).cell? ⟨w.heap.size, 4, none⟩ = some (.int .i64 (dx * 32)) := by rw [← hW]; simp [go_sem, C4]
        have c5 : (W2).cell? ⟨w.heap.size, 5, none⟩ = some (.int .i64 (dy * 32)) := by rw [← hW]; simp [go_sem, C5]
        have c6 : (W2).cell? ⟨w.heap.size, 6, none⟩ = some (.int .i64 he) := by rw [← hW]; simp [go_sem, C6]
        have c7 : (W2).cell? ⟨w.heap.size, 7, none⟩ = some (.int .i64 ag) := by rw [← hW]; simp [go_sem, C7]
        have c8 : (W2).cell? ⟨w.heap.size, 8, none⟩ = some (.int .i64 ow) := by rw [← hW]; simp [go_sem, C8]
        have d0 : (W2).cell? ⟨w.heap.size + 1, 0, none⟩ = some (.int .i64 dx) := by rw [← hW]; simp [go_sem, D0]
        have d1 : (W2).cell? ⟨w.heap.size + 1, 1, none⟩ = some (.int .i64 dy) := by rw [← hW]; simp [go_sem, D1]
        have d2 : (W2).cell? ⟨w.heap.size + 1, 2, none⟩ = some (.bool f) := by rw [← hW]; simp [go_sem, D2]
        have r0 : (W2).cell? ⟨w.heap.size + 1 + 1, 0, none⟩ = some (.int .i64 0) := by rw [← hW]; simp [go_sem, R0]
        have r1 : (W2).cell? ⟨w.heap.size + 1 + 1, 1, none⟩ = some (.int .i64 0) := by rw [← hW]; simp [go_sem, R1]
        have r2 : (W2).cell? ⟨w.heap.size + 1 + 1, 2, none⟩ = some (.int .i64 0) := by rw [← hW]; simp [go_sem, R2]
        have r3 : (W2).cell? ⟨w.heap.size + 1 + 1, 3, none⟩ = some (.int .i64 0) := by rw [← hW]; simp [go_sem, R3]
        have r4 : (W2).cell? ⟨w.heap.size + 1 + 1, 4, none⟩ = some (.int .i64 0) := by rw [← hW]; simp [go_sem, R4]
        have r5 : (W2).cell? ⟨w.heap.size + 1 + 1, 5, none⟩ = some (.int .i64 0) := by rw [← hW]; simp [go_sem, R5]
        have r6 : (W2).cell? ⟨w.heap.size + 1 + 1, 6, none⟩ = some (.int .i64 0) := by rw [← hW]; simp [go_sem, R6]
        have r7 : (W2).cell? ⟨w.heap.size + 1 + 1, 7, none⟩ = some (.int .i64 0) := by rw [← hW]; simp [go_sem, R7]
        have r8 : (W2).cell? ⟨w.heap.size + 1 + 1, 8, none⟩ = some (.int .i64 0) := by rw [← hW]; simp [go_sem, R8]
        have fc7 : (W2).frozen? ⟨w.heap.size, 7, none⟩ = false := by rw [← hW]; simp [Fc7]
        have fr0 : (W2).frozen? ⟨w.heap.size + 1 + 1, 0, none⟩ = false := by rw [← hW]; simp [Fr0]
        have fr1 : (W2).frozen? ⟨w.heap.size + 1 + 1, 1, none⟩ = false := by rw [← hW]; simp [Fr1]
        have fr2 : (W2).frozen? ⟨w.heap.size + 1 + 1, 2, none⟩ = false := by rw [← hW]; simp [Fr2]
        have fr3 : (W2).frozen? ⟨w.heap.size + 1 + 1, 3, none⟩ = false := by rw [← hW]; simp [Fr3]
        have fr4 : (W2).frozen? ⟨w.heap.size + 1 + 1, 4, none⟩ = false := by rw [← hW]; simp [Fr4]
        have fr5 : (W2).frozen? ⟨w.heap.size + 1 + 1, 5, none⟩ = false := by rw [← hW]; simp [Fr5]
        have fr6 : (W2).frozen? ⟨w.heap.size + 1 + 1, 6, none⟩ = false := by rw [← hW]; simp [Fr6]
        have fr7 : (W2).frozen? ⟨w.heap.size + 1 + 1, 7, none⟩ = false := by rw [← hW]; simp [Fr7]
        have fr8 : (W2).frozen? ⟨w.heap.size + 1 + 1, 8, none⟩ = false := by rw [← hW]; simp [Fr8]
        replace HB := Lib.hid (show Below w.heap.size w W2 from by rw [← hW]; exact (bset (bset HB.out (by omega)) (by omega)).drew)
        clear hW hz1 C0 C1 C2 C3 C4 C5 C6 C7 C8 D0 D1 D2 R0 R1 R2 R3 R4 R5 R6 R7 R8 Fc0 Fc1 Fc2 Fc3 Fc4 Fc5 Fc6 Fc7 Fc8 Fr0 Fr1 Fr2 Fr3 Fr4 Fr5 Fr6 Fr7 Fr8
        rcases (show f = true ∨ f = false by cases f <;> simp) with hff | hff
        · obtain rfl : f = true := hff
          have ha0 : ¬ ag = 0 := fun h => hf ⟨rfl, h⟩
          have ha1 : (ag == 0) = false := by simpa using ha0
          clear hf
          go_wp2
          refine bodyPost_ret (v := .tuple #[.agg #[.int .i64 i0, .int .i64 1, .int .i64 x0, .int .i64 y0, .int .i64 (dx * 32), .int .i64 (dy * 32), .int .i64 he, .int .i64 (max 1 ag - 1), .int .i64 ow], .bool false]) (by simp [results, Tryz.results74, go_sem, *]) rfl ⟨rfl, ?_⟩
          iterate 10 (refine bset ?_ (by omega))
          exact HB.out
        · obtain rfl : f = false := hff
          clear hf
          go_wp2
          refine bodyPost_ret (v := .tuple #[.agg #[.int .i64 i0, .int .i64 1, .int .i64 x0, .int .i64 y0, .int .i64 (dx * 32), .int .i64 (dy * 32), .int .i64 he, .int .i64 (max 1 ag - 1), .int .i64 ow], .bool false]) (by simp [results, Tryz.results74, go_sem, *]) rfl ⟨rfl, ?_⟩
          iterate 10 (refine bset ?_ (by omega))
          exact HB.out
    · rw [Bool.not_eq_true] at hi
      obtain ⟨e1, e2⟩ := HO.out (fun h => by rw [h.2] at hi; cases hi)
      rw [hi] at HT
      rw [e1, e2]
      dsimp only
      clear e1 e2 HO
      go_enter Tryz.func74, Tryz.ntmps74
      go_upto_region 1 with fail
      generalize hW : World.alloc (World.alloc (World.alloc w _) _) _ = W0
      have c0 : (W0).cell? ⟨w.heap.size, 0, none⟩ = some (.int .i64 i0) := by rw [← hW, bx0]; rfl
      have c1 : (W0).cell? ⟨w.heap.size, 1, none⟩ = some (.int .i64 1) := by rw [← hW, bx0]; rfl
      have c2 : (W0).cell? ⟨w.heap.size, 2, none⟩ = some (.int .i64 x0) := by rw [← hW, bx0]; rfl
      have c3 : (W0).cell? ⟨w.heap.size, 3, none⟩ = some (.int .i64 y0) := by rw [← hW, bx0]; rfl
      have c4 : (W0).cell? ⟨w.heap.size, 4, none⟩ = some (.int .i64 vx) := by rw [← hW, bx0]; rfl
      have c5 : (W0).cell? ⟨w.heap.size, 5, none⟩ = some (.int .i64 vy) := by rw [← hW, bx0]; rfl
      have c6 : (W0).cell? ⟨w.heap.size, 6, none⟩ = some (.int .i64 he) := by rw [← hW, bx0]; rfl
      have c7 : (W0).cell? ⟨w.heap.size, 7, none⟩ = some (.int .i64 ag) := by rw [← hW, bx0]; rfl
      have c8 : (W0).cell? ⟨w.heap.size, 8, none⟩ = some (.int .i64 ow) := by rw [← hW, bx0]; rfl
      have d0 : (W0).cell? ⟨w.heap.size + 1, 0, none⟩ = some (.int .i64 dx) := by rw [← hW, bx1]; rfl
      have d1 : (W0).cell? ⟨w.heap.size + 1, 1, none⟩ = some (.int .i64 dy) := by rw [← hW, bx1]; rfl
      have d2 : (W0).cell? ⟨w.heap.size + 1, 2, none⟩ = some (.bool f) := by rw [← hW, bx1]; rfl
      have r0 : (W0).cell? ⟨w.heap.size + 1 + 1, 0, none⟩ = some (.int .i64 0) := by rw [← hW, bx2]; rfl
      have r1 : (W0).cell? ⟨w.heap.size + 1 + 1, 1, none⟩ = some (.int .i64 0) := by rw [← hW, bx2]; rfl
      have r2 : (W0).cell? ⟨w.heap.size + 1 + 1, 2, none⟩ = some (.int .i64 0) := by rw [← hW, bx2]; rfl
      have r3 : (W0).cell? ⟨w.heap.size + 1 + 1, 3, none⟩ = some (.int .i64 0) := by rw [← hW, bx2]; rfl
      have r4 : (W0).cell? ⟨w.heap.size + 1 + 1, 4, none⟩ = some (.int .i64 0) := by rw [← hW, bx2]; rfl
      have r5 : (W0).cell? ⟨w.heap.size + 1 + 1, 5, none⟩ = some (.int .i64 0) := by rw [← hW, bx2]; rfl
      have r6 : (W0).cell? ⟨w.heap.size + 1 + 1, 6, none⟩ = some (.int .i64 0) := by rw [← hW, bx2]; rfl
      have r7 : (W0).cell? ⟨w.heap.size + 1 + 1, 7, none⟩ = some (.int .i64 0) := by rw [← hW, bx2]; rfl
      have r8 : (W0).cell? ⟨w.heap.size + 1 + 1, 8, none⟩ = some (.int .i64 0) := by rw [← hW, bx2]; rfl
      have fc0 : (W0).frozen? ⟨w.heap.size, 0, none⟩ = false := by rw [← hW]; exact bxf _ _ _ _ _ _ _ _ _ (by omega)
      have fc1 : (W0).frozen? ⟨w.heap.size, 1, none⟩ = false := by rw [← hW]; exact bxf _ _ _ _ _ _ _ _ _ (by omega)
      have fc2 : (W0).frozen? ⟨w.heap.size, 2, none⟩ = false := by rw [← hW]; exact bxf _ _ _ _ _ _ _ _ _ (by omega)
      have fc3 : (W0).frozen? ⟨w.heap.size, 3, none⟩ = false := by rw [← hW]; exact bxf _ _ _ _ _ _ _ _ _ (by omega)
      have fc4 : (W0).frozen? ⟨w.heap.size, 4, none⟩ = false := by rw [← hW]; exact bxf _ _ _ _ _ _ _ _ _ (by omega)
      have fc5 : (W0).frozen? ⟨w.heap.size, 5, none⟩ = false := by rw [← hW]; exact bxf _ _ _ _ _ _ _ _ _ (by omega)
      have fc6 : (W0).frozen? ⟨w.heap.size, 6, none⟩ = false := by rw [← hW]; exact bxf _ _ _ _ _ _ _ _ _ (by omega)
      have fc7 : (W0).frozen? ⟨w.heap.size, 7, none⟩ = false := by rw [← hW]; exact bxf _ _ _ _ _ _ _ _ _ (by omega)
      have fc8 : (W0).frozen? ⟨w.heap.size, 8, none⟩ = false := by rw [← hW]; exact bxf _ _ _ _ _ _ _ _ _ (by omega)
      have fr0 : (W0).frozen? ⟨w.heap.size + 1 + 1, 0, none⟩ = false := by rw [← hW]; exact bxf _ _ _ _ _ _ _ _ _ (by omega)
      have fr1 : (W0).frozen? ⟨w.heap.size + 1 + 1, 1, none⟩ = false := by rw [← hW]; exact bxf _ _ _ _ _ _ _ _ _ (by omega)
      have fr2 : (W0).frozen? ⟨w.heap.size + 1 + 1, 2, none⟩ = false := by rw [← hW]; exact bxf _ _ _ _ _ _ _ _ _ (by omega)
      have fr3 : (W0).frozen? ⟨w.heap.size + 1 + 1, 3, none⟩ = false := by rw [← hW]; exact bxf _ _ _ _ _ _ _ _ _ (by omega)
      have fr4 : (W0).frozen? ⟨w.heap.size + 1 + 1, 4, none⟩ = false := by rw [← hW]; exact bxf _ _ _ _ _ _ _ _ _ (by omega)
      have fr5 : (W0).frozen? ⟨w.heap.size + 1 + 1, 5, none⟩ = false := by rw [← hW]; exact bxf _ _ _ _ _ _ _ _ _ (by omega)
      have fr6 : (W0).frozen? ⟨w.heap.size + 1 + 1, 6, none⟩ = false := by rw [← hW]; exact bxf _ _ _ _ _ _ _ _ _ (by omega)
      have fr7 : (W0).frozen? ⟨w.heap.size + 1 + 1, 7, none⟩ = false := by rw [← hW]; exact bxf _ _ _ _ _ _ _ _ _ (by omega)
      have fr8 : (W0).frozen? ⟨w.heap.size + 1 + 1, 8, none⟩ = false := by rw [← hW]; exact bxf _ _ _ _ _ _ _ _ _ (by omega)
      have hz : w.heap.size + 1 + 1 < W0.heap.size := by rw [← hW]; simp
      have HB := Lib.hid (show Below w.heap.size w W0 from by rw [← hW]; exact bal3 _ _ _ _)
      clear hW
      go_wp2_with fail
      refine (HT.out _).mono ?_
      rintro e w1 ⟨rfl, hb⟩
      obtain ⟨hcc, hcf⟩ := bcell hb
      have C0 : (w1).cell? ⟨w.heap.size, 0, none⟩ = some (.int .i64 i0) := by rw [hcc _ _ (by omega)]; assumption
      have C1 : (w1).cell? ⟨w.heap.size, 1, none⟩ = some (.int .i64 1) := by rw [hcc _ _ (by omega)]; assumption
      have C2 : (w1).cell? ⟨w.heap.size, 2, none⟩ = some (.int .i64 x0) := by rw [hcc _ _ (by omega)]; assumption
      have C3 : (w1).cell? ⟨w.heap.size, 3, none⟩ = some (.int .i64 y0) := by rw [hcc _ _ (by omega)]; assumption
      have C4 : (w1).cell? ⟨w.heap.size, 4, none⟩ = some (.int .i64 vx) := by rw [hcc _ _ (by omega)]; assumption
      have C5 : (w1).cell? ⟨w.heap.size, 5, none⟩ = some (.int .i64 vy) := by rw [hcc _ _ (by omega)]; assumption
      have C6 : (w1).cell? ⟨w.heap.size, 6, none⟩ = some (.int .i64 he) := by rw [hcc _ _ (by omega)]; assumption
      have C7 : (w1).cell? ⟨w.heap.size, 7, none⟩ = some (.int .i64 ag) := by rw [hcc _ _ (by omega)]; assumption
      have C8 : (w1).cell? ⟨w.heap.size, 8, none⟩ = some (.int .i64 ow) := by rw [hcc _ _ (by omega)]; assumption
      have D0 : (w1).cell? ⟨w.heap.size + 1, 0, none⟩ = some (.int .i64 dx) := by rw [hcc _ _ (by omega)]; assumption
      have D1 : (w1).cell? ⟨w.heap.size + 1, 1, none⟩ = some (.int .i64 dy) := by rw [hcc _ _ (by omega)]; assumption
      have D2 : (w1).cell? ⟨w.heap.size + 1, 2, none⟩ = some (.bool f) := by rw [hcc _ _ (by omega)]; assumption
      have R0 : (w1).cell? ⟨w.heap.size + 1 + 1, 0, none⟩ = some (.int .i64 0) := by rw [hcc _ _ (by omega)]; assumption
      have R1 : (w1).cell? ⟨w.heap.size + 1 + 1, 1, none⟩ = some (.int .i64 0) := by rw [hcc _ _ (by omega)]; assumption
      have R2 : (w1).cell? ⟨w.heap.size + 1 + 1, 2, none⟩ = some (.int .i64 0) := by rw [hcc _ _ (by omega)]; assumption
      have R3 : (w1).cell? ⟨w.heap.size + 1 + 1, 3, none⟩ = some (.int .i64 0) := by rw [hcc _ _ (by omega)]; assumption
      have R4 : (w1).cell? ⟨w.heap.size + 1 + 1, 4, none⟩ = some (.int .i64 0) := by rw [hcc _ _ (by omega)]; assumption
      have R5 : (w1).cell? ⟨w.heap.size + 1 + 1, 5, none⟩ = some (.int .i64 0) := by rw [hcc _ _ (by omega)]; assumption
      have R6 : (w1).cell? ⟨w.heap.size + 1 + 1, 6, none⟩ = some (.int .i64 0) := by rw [hcc _ _ (by omega)]; assumption
      have R7 : (w1).cell? ⟨w.heap.size + 1 + 1, 7, none⟩ = some (.int .i64 0) := by rw [hcc _ _ (by omega)]; assumption
      have R8 : (w1).cell? ⟨w.heap.size + 1 + 1, 8, none⟩ = some (.int .i64 0) := by rw [hcc _ _ (by omega)]; assumption
      have Fc0 : (w1).frozen? ⟨w.heap.size, 0, none⟩ = false := by rw [hcf _ _ (by omega)]; assumption
      have Fc1 : (w1).frozen? ⟨w.heap.size, 1, none⟩ = false := by rw [hcf _ _ (by omega)]; assumption
      have Fc2 : (w1).frozen? ⟨w.heap.size, 2, none⟩ = false := by rw [hcf _ _ (by omega)]; assumption
      have Fc3 : (w1).frozen? ⟨w.heap.size, 3, none⟩ = false := by rw [hcf _ _ (by omega)]; assumption
      have Fc4 : (w1).frozen? ⟨w.heap.size, 4, none⟩ = false := by rw [hcf _ _ (by omega)]; assumption
      have Fc5 : (w1).frozen? ⟨w.heap.size, 5, none⟩ = false := by rw [hcf _ _ (by omega)]; assumption
      have Fc6 : (w1).frozen? ⟨w.heap.size, 6, none⟩ = false := by rw [hcf _ _ (by omega)]; assumption
      have Fc7 : (w1).frozen? ⟨w.heap.size, 7, none⟩ = false := by rw [hcf _ _ (by omega)]; assumption
      have Fc8 : (w1).frozen? ⟨w.heap.size, 8, none⟩ = false := by rw [hcf _ _ (by omega)]; assumption
      have Fr0 : (w1).frozen? ⟨w.heap.size + 1 + 1, 0, none⟩ = false := by rw [hcf _ _ (by omega)]; assumption
      have Fr1 : (w1).frozen? ⟨w.heap.size + 1 + 1, 1, none⟩ = false := by rw [hcf _ _ (by omega)]; assumption
      have Fr2 : (w1).frozen? ⟨w.heap.size + 1 + 1, 2, none⟩ = false := by rw [hcf _ _ (by omega)]; assumption
      have Fr3 : (w1).frozen? ⟨w.heap.size + 1 + 1, 3, none⟩ = false := by rw [hcf _ _ (by omega)]; assumption
      have Fr4 : (w1).frozen? ⟨w.heap.size + 1 + 1, 4, none⟩ = false := by rw [hcf _ _ (by omega)]; assumption
      have Fr5 : (w1).frozen? ⟨w.heap.size + 1 + 1, 5, none⟩ = false := by rw [hcf _ _ (by omega)]; assumption
      have Fr6 : (w1).frozen? ⟨w.heap.size + 1 + 1, 6, none⟩ = false := by rw [hcf _ _ (by omega)]; assumption
      have Fr7 : (w1).frozen? ⟨w.heap.size + 1 + 1, 7, none⟩ = false := by rw [hcf _ _ (by omega)]; assumption
      have Fr8 : (w1).frozen? ⟨w.heap.size + 1 + 1, 8, none⟩ = false := by rw [hcf _ _ (by omega)]; assumption
      have hz1 : w.heap.size + 1 + 1 < w1.heap.size := Nat.lt_of_lt_of_le hz hb.size
      replace HB := Lib.hid (nextW HB.out hb)
      clear hb hcc hcf hz c0 c1 c2 c3 c4 c5 c6 c7 c8 d0 d1 d2 r0 r1 r2 r3 r4 r5 r6 r7 r8 fc0 fc1 fc2 fc3 fc4 fc5 fc6 fc7 fc8 fr0 fr1 fr2 fr3 fr4 fr5 fr6 fr7 fr8
      go_wp2
      refine bodyPost_ret (v := .tuple #[.agg #[.int .i64 i0, .int .i64 1, .int .i64 x0, .int .i64 y0, .int .i64 vx, .int .i64 vy, .int .i64 he, .int .i64 ag, .int .i64 ow], .bool false]) (by simp [results, Tryz.results74, go_sem, *]) rfl ⟨rfl, ?_⟩
      iterate 9 (refine bset ?_ (by omega))
      exact HB.out
  · obtain ⟨e1, e2⟩ := HO.out (fun h => hk h.1)
    rw [e1, e2]
    dsimp only
    clear e1 e2 HO
    have hk1 : (kd == 1) = false := by simpa using hk
    go_enter Tryz.func74, Tryz.ntmps74
    go_upto_region 1 with fail
    generalize hW : World.alloc (World.alloc (World.alloc w _) _) _ = W0
    have c0 : (W0).cell? ⟨w.heap.size, 0, none⟩ = some (.int .i64 i0) := by rw [← hW, bx0]; rfl
    have c1 : (W0).cell? ⟨w.heap.size, 1, none⟩ = some (.int .i64 kd) := by rw [← hW, bx0]; rfl
    have c2 : (W0).cell? ⟨w.heap.size, 2, none⟩ = some (.int .i64 x0) := by rw [← hW, bx0]; rfl
    have c3 : (W0).cell? ⟨w.heap.size, 3, none⟩ = some (.int .i64 y0) := by rw [← hW, bx0]; rfl
    have c4 : (W0).cell? ⟨w.heap.size, 4, none⟩ = some (.int .i64 vx) := by rw [← hW, bx0]; rfl
    have c5 : (W0).cell? ⟨w.heap.size, 5, none⟩ = some (.int .i64 vy) := by rw [← hW, bx0]; rfl
    have c6 : (W0).cell? ⟨w.heap.size, 6, none⟩ = some (.int .i64 he) := by rw [← hW, bx0]; rfl
    have c7 : (W0).cell? ⟨w.heap.size, 7, none⟩ = some (.int .i64 ag) := by rw [← hW, bx0]; rfl
    have c8 : (W0).cell? ⟨w.heap.size, 8, none⟩ = some (.int .i64 ow) := by rw [← hW, bx0]; rfl
    have d0 : (W0).cell? ⟨w.heap.size + 1, 0, none⟩ = some (.int .i64 dx) := by rw [← hW, bx1]; rfl
    have d1 : (W0).cell? ⟨w.heap.size + 1, 1, none⟩ = some (.int .i64 dy) := by rw [← hW, bx1]; rfl
    have d2 : (W0).cell? ⟨w.heap.size + 1, 2, none⟩ = some (.bool f) := by rw [← hW, bx1]; rfl
    have r0 : (W0).cell? ⟨w.heap.size + 1 + 1, 0, none⟩ = some (.int .i64 0) := by rw [← hW, bx2]; rfl
    have r1 : (W0).cell? ⟨w.heap.size + 1 + 1, 1, none⟩ = some (.int .i64 0) := by rw [← hW, bx2]; rfl
    have r2 : (W0).cell? ⟨w.heap.size + 1 + 1, 2, none⟩ = some (.int .i64 0) := by rw [← hW, bx2]; rfl
    have r3 : (W0).cell? ⟨w.heap.size + 1 + 1, 3, none⟩ = some (.int .i64 0) := by rw [← hW, bx2]; rfl
    have r4 : (W0).cell? ⟨w.heap.size + 1 + 1, 4, none⟩ = some (.int .i64 0) := by rw [← hW, bx2]; rfl
    have r5 : (W0).cell? ⟨w.heap.size + 1 + 1, 5, none⟩ = some (.int .i64 0) := by rw [← hW, bx2]; rfl
    have r6 : (W0).cell? ⟨w.heap.size + 1 + 1, 6, none⟩ = some (.int .i64 0) := by rw [← hW, bx2]; rfl
    have r7 : (W0).cell? ⟨w.heap.size + 1 + 1, 7, none⟩ = some (.int .i64 0) := by rw [← hW, bx2]; rfl
    have r8 : (W0).cell? ⟨w.heap.size + 1 + 1, 8, none⟩ = some (.int .i64 0) := by rw [← hW, bx2]; rfl
    have fc0 : (W0).frozen? ⟨w.heap.size, 0, none⟩ = false := by rw [← hW]; exact bxf _ _ _ _ _ _ _ _ _ (by omega)
    have fc1 : (W0).frozen? ⟨w.heap.size, 1, none⟩ = false := by rw [← hW]; exact bxf _ _ _ _ _ _ _ _ _ (by omega)
    have fc2 : (W0).frozen? ⟨w.heap.size, 2, none⟩ = false := by rw [← hW]; exact bxf _ _ _ _ _ _ _ _ _ (by omega)
    have fc3 : (W0).frozen? ⟨w.heap.size, 3, none⟩ = false := by rw [← hW]; exact bxf _ _ _ _ _ _ _ _ _ (by omega)
    have fc4 : (W0).frozen? ⟨w.heap.size, 4, none⟩ = false := by rw [← hW]; exact bxf _ _ _ _ _ _ _ _ _ (by omega)
    have fc5 : (W0).frozen? ⟨w.heap.size, 5, none⟩ = false := by rw [← hW]; exact bxf _ _ _ _ _ _ _ _ _ (by omega)
    have fc6 : (W0).frozen? ⟨w.heap.size, 6, none⟩ = false := by rw [← hW]; exact bxf _ _ _ _ _ _ _ _ _ (by omega)
    have fc7 : (W0).frozen? ⟨w.heap.size, 7, none⟩ = false := by rw [← hW]; exact bxf _ _ _ _ _ _ _ _ _ (by omega)
    have fc8 : (W0).frozen? ⟨w.heap.size, 8, none⟩ = false := by rw [← hW]; exact bxf _ _ _ _ _ _ _ _ _ (by omega)
    have fr0 : (W0).frozen? ⟨w.heap.size + 1 + 1, 0, none⟩ = false := by rw [← hW]; exact bxf _ _ _ _ _ _ _ _ _ (by omega)
    have fr1 : (W0).frozen? ⟨w.heap.size + 1 + 1, 1, none⟩ = false := by rw [← hW]; exact bxf _ _ _ _ _ _ _ _ _ (by omega)
    have fr2 : (W0).frozen? ⟨w.heap.size + 1 + 1, 2, none⟩ = false := by rw [← hW]; exact bxf _ _ _ _ _ _ _ _ _ (by omega)
    have fr3 : (W0).frozen? ⟨w.heap.size + 1 + 1, 3, none⟩ = false := by rw [← hW]; exact bxf _ _ _ _ _ _ _ _ _ (by omega)
    have fr4 : (W0).frozen? ⟨w.heap.size + 1 + 1, 4, none⟩ = false := by rw [← hW]; exact bxf _ _ _ _ _ _ _ _ _ (by omega)
    have fr5 : (W0).frozen? ⟨w.heap.size + 1 + 1, 5, none⟩ = false := by rw [← hW]; exact bxf _ _ _ _ _ _ _ _ _ (by omega)
    have fr6 : (W0).frozen? ⟨w.heap.size + 1 + 1, 6, none⟩ = false := by rw [← hW]; exact bxf _ _ _ _ _ _ _ _ _ (by omega)
    have fr7 : (W0).frozen? ⟨w.heap.size + 1 + 1, 7, none⟩ = false := by rw [← hW]; exact bxf _ _ _ _ _ _ _ _ _ (by omega)
    have fr8 : (W0).frozen? ⟨w.heap.size + 1 + 1, 8, none⟩ = false := by rw [← hW]; exact bxf _ _ _ _ _ _ _ _ _ (by omega)
    have hz : w.heap.size + 1 + 1 < W0.heap.size := by rw [← hW]; simp
    have HB := Lib.hid (show Below w.heap.size w W0 from by rw [← hW]; exact bal3 _ _ _ _)
    clear hW
    go_wp2
    refine bodyPost_ret (v := .tuple #[.agg #[.int .i64 i0, .int .i64 kd, .int .i64 x0, .int .i64 y0, .int .i64 vx, .int .i64 vy, .int .i64 he, .int .i64 ag, .int .i64 ow], .bool false]) (by simp [results, Tryz.results74, go_sem, *]) rfl ⟨rfl, ?_⟩
    iterate 9 (refine bset ?_ (by omega))
    exact HB.out

end Go.Proofs.YtfpofegfbinalaaGreat.Fx
