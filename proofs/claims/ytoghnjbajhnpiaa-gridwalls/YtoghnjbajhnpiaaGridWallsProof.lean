/- joustlaw03.GridWalls returns true for every input; no conditions. -/
import Derived.Test.YtoghnjbajhnpiaaGrLaw
import Derived.Test.YtoghnjbajhnpiaaGSeq
import Derived.Lib.MinMax
import Derived.Deep.DeepCutAuto
import Derived.Test.YtoghnjbajhnpiaaRows
import Derived.WalkKit
import Derived.ProofKit
import Derived.OpenShut
import Derived.ShutString
import Derived.ChangeOld
import Derived.Below
namespace Go.Proofs.Ytoghnjbajhnpiaa.gridWalls
open Go.ChangeShapes Go.WideShapes Go.ChangeAt Go.RowKit
open Go.ChangeMaps (open_string shut_string)
set_option linter.unusedVariables false

theorem own : ownKnob Try.prog.godebug = none := by kernel_rfl
theorem laidOut : laidOutB Try.prog = true := by kernel_rfl

theorem open_T24 {H : Type} {enc : TypeId × Value → H} {W : World} {fuel : Nat} {cs : List Value} {x : DataW H × List MemPlace} (h : DataW.trod enc Try.prog W 0 (fun _ => true) true fuel 24 cs = some x) :
    ∃ (a0 : Int) (a1 : Int) (a2 : Int) (a3 : Int) (a4 : Int), cs = [.int .i64 a0, .int .i64 a1, .int .i64 a2, .int .i64 a3, .int .u64 a4] ∧ (Lit.int .i64 a0).wf = true ∧ (Lit.int .i64 a1).wf = true ∧ (Lit.int .i64 a2).wf = true ∧ (Lit.int .i64 a3).wf = true ∧ (Lit.int .u64 a4).wf = true := by
  obtain ⟨xs, n, -, -, hl, hxl, hg⟩ := DataW.trod_struct Try.underlying24 h
  have hl' : cs.length = 5 := hl.trans (by kernel_rfl)
  have c3 : Try.prog.cellsOf 3 = 1 := by kernel_rfl
  have c22 : Try.prog.cellsOf 22 = 1 := by kernel_rfl
  clear hl h
  match cs, hl' with
  | [z0, z1, z2, z3, z4], _ =>
    have g0 : DataW.trod enc Try.prog W 0 (fun _ => true) true n 3 (([z0, z1, z2, z3, z4].drop 0).take (Try.prog.cellsOf 3)) = xs[0]? := hg 0 _ rfl
    rw [c3, List.getElem?_eq_getElem (show 0 < xs.length by rw [hxl]; decide)] at g0
    have g1 : DataW.trod enc Try.prog W 0 (fun _ => true) true n 3 (([z0, z1, z2, z3, z4].drop 1).take (Try.prog.cellsOf 3)) = xs[1]? := hg 1 _ rfl
    rw [c3, List.getElem?_eq_getElem (show 1 < xs.length by rw [hxl]; decide)] at g1
    have g2 : DataW.trod enc Try.prog W 0 (fun _ => true) true n 3 (([z0, z1, z2, z3, z4].drop 2).take (Try.prog.cellsOf 3)) = xs[2]? := hg 2 _ rfl
    rw [c3, List.getElem?_eq_getElem (show 2 < xs.length by rw [hxl]; decide)] at g2
    have g3 : DataW.trod enc Try.prog W 0 (fun _ => true) true n 3 (([z0, z1, z2, z3, z4].drop 3).take (Try.prog.cellsOf 3)) = xs[3]? := hg 3 _ rfl
    rw [c3, List.getElem?_eq_getElem (show 3 < xs.length by rw [hxl]; decide)] at g3
    have g4 : DataW.trod enc Try.prog W 0 (fun _ => true) true n 22 (([z0, z1, z2, z3, z4].drop 4).take (Try.prog.cellsOf 22)) = xs[4]? := hg 4 _ rfl
    rw [c22, List.getElem?_eq_getElem (show 4 < xs.length by rw [hxl]; decide)] at g4
    obtain ⟨a0, e0, -, w0⟩ := DataW.trod_int (cs := [z0]) Try.underlying3 g0
    simp only [List.cons.injEq, and_true] at e0
    subst e0
    clear g0
    obtain ⟨a1, e1, -, w1⟩ := DataW.trod_int (cs := [z1]) Try.underlying3 g1
    simp only [List.cons.injEq, and_true] at e1
    subst e1
    clear g1
    obtain ⟨a2, e2, -, w2⟩ := DataW.trod_int (cs := [z2]) Try.underlying3 g2
    simp only [List.cons.injEq, and_true] at e2
    subst e2
    clear g2
    obtain ⟨a3, e3, -, w3⟩ := DataW.trod_int (cs := [z3]) Try.underlying3 g3
    simp only [List.cons.injEq, and_true] at e3
    subst e3
    clear g3
    obtain ⟨a4, e4, -, w4⟩ := DataW.trod_int (cs := [z4]) Try.underlying22 g4
    simp only [List.cons.injEq, and_true] at e4
    subst e4
    clear g4
    exact ⟨a0, a1, a2, a3, a4, rfl, w0, w1, w2, w3, w4⟩

open Fx
theorem corners {a b p n : Int} {N : Nat} (h : rt a b p n = true) (hN : a * b = N) (k : Nat) (hk : k < N) :
    crx a b p n k = (k : Int) % a * 1024 ∧ cry a b p n k = (k : Int) / a * 1024 ∧ ofr a b p n ((k : Int) % a * 1024) ((k : Int) / a * 1024) = k ∧
    ofr a b p n ((k : Int) % a * 1024 + 1024 - 1) ((k : Int) / a * 1024 + 1024 - 1) = k ∧ (k : Int) / a * 1024 / 1024 * a + (k : Int) % a * 1024 / 1024 = k ∧ (0 ≤ (k : Int) % a ∧ (k : Int) % a ≤ 3) ∧ (0 ≤ (k : Int) / a ∧ (k : Int) / a ≤ 3) := by
  have hh : hasB a b p n k = true := by
    unfold hasB regs
    rw [if_pos h, hN]
    exact decide_eq_true ⟨by omega, by omega⟩
  obtain ⟨-, h0, h1, ha, ha4, hb, hb4, m0, m3, d0, d3, h15⟩ := hasB_rt hh
  have hdm : (k : Int) / a * a + (k : Int) % a = k := by have := Int.mul_ediv_add_emod (k : Int) a; rw [Int.mul_comm] at this; exact this
  have hd : (k : Int) / a < b := Int.ediv_lt_of_lt_mul (by omega) (by rw [Int.mul_comm]; exact h1)
  have hmm : (k : Int) % a < a := Int.emod_lt_of_pos _ (by omega)
  refine ⟨by unfold crx; rw [if_pos hh], by unfold cry; rw [if_pos hh], ?_, ?_, ?_, ⟨m0, m3⟩, ⟨d0, d3⟩⟩
  · unfold ofr clamp
    rw [if_pos h]
    generalize (k : Int) % a = x at *
    generalize (k : Int) / a = y at *
    rw [if_neg (by omega), if_neg (by omega), if_neg (by omega), if_neg (by omega), show y * 1024 / 1024 = y by omega, show x * 1024 / 1024 = x by omega]
    exact hdm
  · unfold ofr clamp
    rw [if_pos h]
    generalize (k : Int) % a = x at *
    generalize (k : Int) / a = y at *
    rw [if_neg (by omega), if_neg (by omega), if_neg (by omega), if_neg (by omega), show (y * 1024 + 1024 - 1) / 1024 = y by omega, show (x * 1024 + 1024 - 1) / 1024 = x by omega]
    exact hdm
  · rw [show (k : Int) / a * 1024 / 1024 = (k : Int) / a by omega, show (k : Int) % a * 1024 / 1024 = (k : Int) % a by omega]
    exact hdm

set_option maxRecDepth 100000 in
set_option maxHeartbeats 4000000 in
theorem walk (a0_0 : Int) (a0_1 : Int) (a0_2 : Int) (a0_3 : Int) (a0_4 : Int) (a1 : Int) (a2 : Int) (w : World) (w0_0 : (Lit.int .i64 a0_0).wf = true) (w0_1 : (Lit.int .i64 a0_1).wf = true) (w0_2 : (Lit.int .i64 a0_2).wf = true) (w0_3 : (Lit.int .i64 a0_3).wf = true) (w0_4 : (Lit.int .u64 a0_4).wf = true) (w1 : (Lit.int .i64 a1).wf = true) (w2 : (Lit.int .i64 a2).wf = true) :
    Calls Try.prog 6 #[.agg #[.int .i64 a0_0, .int .i64 a0_1, .int .i64 a0_2, .int .i64 a0_3, .int .u64 a0_4], .int .i64 a1, .int .i64 a2] w fun e w' => e = .returned (.bool true) ∧ Below w.heap.size w w' := by
  have b1 := bounds_i64 w1
  have b2 := bounds_i64 w2
  clear w0_0 w0_1 w0_2 w0_3 w0_4 w1 w2
  go_enter Try.func6, Try.ntmps6
  go_wp2_with fail
  refine (config_any _ _ _ _ _ _).mono ?_
  rintro e w1 ⟨a, b, p, n, rfl, hsm, hb1⟩
  obtain ⟨hrt, ha3, hb3, hp4⟩ := hsm
  obtain ⟨hc1, hf1⟩ := bcell hb1
  have hz1 : w.heap.size < w1.heap.size := by have := hb1.size; simp at this; omega
  have Hb1 := Lib.hid hb1
  have HN := Lib.hid (fun w => new_yes a b p n a0_4 w hrt)
  have Hrt := Lib.hid hrt
  clear hb1 hrt
  go_wp2_with fail
  refine (HN.out _).mono ?_
  rintro e w2 ⟨rfl, hb2⟩
  have Hb2 := Lib.hid (show Below w.heap.size w w2 from ((((((unbox Hb1.out).setCell (Nat.le_refl _) _).setCell (Nat.le_refl _) _).setCell (Nat.le_refl _) _).setCell (Nat.le_refl _) _).setCell (Nat.le_refl _) _).trans (hb2.mono (by simp [World.setCell]; omega)))
  have k0 : w2.cell? ⟨w.heap.size, 0, none⟩ = some (.int .i64 a) := by
    rw [(bcell hb2).1 _ _ (by simp [World.setCell]; omega)]
    simp [go_sem, hc1]
  clear hb2 hc1 hf1 hz1 Hb1 HN
  have hz2 : w.heap.size < w2.heap.size := World.block_lt_of_cell? _ _ k0
  go_wp2_with fail
  refine (awake_any _).mono ?_
  rintro e w3 ⟨rfl, hbw3⟩
  obtain ⟨hcw3, hfw3⟩ := bcell hbw3
  have Hbw3 := Lib.hid hbw3
  clear hbw3
  have Hb3 := Lib.hid (show Below w.heap.size w w3 from Hb2.out.trans ((unbox Hbw3.out).mono Hb2.out.size))
  have hzw3 : w2.heap.size < w3.heap.size := by have := Hbw3.out.size; (try simp at this); omega
  obtain ⟨r1, r2, r3, r4, r5, r6, r7, r8⟩ := rt_bd Hrt.out
  have HW := Lib.hid (fun w => width_any a b p n a0_4 w)
  have HH := Lib.hid (fun w => height_any a b p n a0_4 w)
  have hwi : wid a b p n = a * 1024 := by unfold wid; rw [if_pos Hrt.out]
  have hhe : hei a b p n = b * 1024 := by unfold hei; rw [if_pos Hrt.out]
  rw [hwi] at HW
  rw [hhe] at HH
  have HWi := Lib.hid hwi
  have HHe := Lib.hid hhe
  clear hwi hhe
  have c0 : w3.cell? ⟨w2.heap.size, 0, none⟩ = some (.int .i64 a) := by rw [hcw3 _ _ (by simp)]; simp
  have c1 : w3.cell? ⟨w2.heap.size, 1, none⟩ = some (.int .i64 b) := by rw [hcw3 _ _ (by simp)]; simp
  have c2 : w3.cell? ⟨w2.heap.size, 2, none⟩ = some (.int .i64 p) := by rw [hcw3 _ _ (by simp)]; simp
  have c3 : w3.cell? ⟨w2.heap.size, 3, none⟩ = some (.int .i64 n) := by rw [hcw3 _ _ (by simp)]; simp
  have c4 : w3.cell? ⟨w2.heap.size, 4, none⟩ = some (.int .u64 a0_4) := by rw [hcw3 _ _ (by simp)]; simp
  have k3 : w3.cell? ⟨w.heap.size, 0, none⟩ = some (.int .i64 a) := by rw [hcw3 _ _ (by simp; omega), World.cell?_alloc_lt _ _ _ hz2]; exact k0
  clear hcw3 hfw3
  have e1 : IntKind.i64.wrap (a * 1024 - 1) = a * 1024 - 1 := IntWalk.i64_in _ (by omega)
  have f1 : IntKind.i64.wrap (b * 1024 - 1) = b * 1024 - 1 := IntWalk.i64_in _ (by omega)
  go_upto_region 5 with fail
  go_cut [9, 10] (fun s9 s10 wx => s9 = .int .i64 (max 0 (min a1 (a * 1024 - 1))) ∧ s10 = .int .i64 (max 0 (min a2 (b * 1024 - 1))) ∧ Below w3.heap.size w3 wx)
  case first =>
    refine plan_region' (S := (fun w' => w'.cell? ⟨w2.heap.size, 0, none⟩ = some (.int .i64 a) ∧ w'.cell? ⟨w2.heap.size, 1, none⟩ = some (.int .i64 b) ∧ w'.cell? ⟨w2.heap.size, 2, none⟩ = some (.int .i64 p) ∧ w'.cell? ⟨w2.heap.size, 3, none⟩ = some (.int .i64 n) ∧ w'.cell? ⟨w2.heap.size, 4, none⟩ = some (.int .u64 a0_4) ∧ Below w3.heap.size w3 w' ∧ w3.heap.size ≤ w'.heap.size)) [(0, true), (1, true), (6, true), (7, true), (2, false), (3, true), (4, true), (5, true), (8, false), (9, true), (10, true), (11, true), (12, true), (13, true)] (by kernel_rfl) (by kernel_rfl) (fun _ _ d _ _ h => by cases d <;> exact h) (⟨c0, c1, c2, c3, c4, (Below.refl _ _).drew, Nat.le_refl _⟩) (fun hS => ?_)
    simp only [picked, List.getElem?_cons_succ, List.getElem?_cons_zero, List.append_eq, List.cons_append, List.nil_append]
    refine row_free (v := ?_) (by rfl) ?_ ?_
    rotate_left 1
    focus (intro w hSw; (try dsimp only at hSw); go_simp; (try with_reducible rfl))
    (try simp only [Act.put, List.setIfInBounds_toArray, List.set_cons_zero, List.set_cons_succ])
    refine row_free (v := ?_) (by rfl) ?_ ?_
    rotate_left 1
    focus (intro w hSw; (try dsimp only at hSw); go_simp; (try with_reducible rfl))
    (try simp only [Act.put, List.setIfInBounds_toArray, List.set_cons_zero, List.set_cons_succ])
    refine row_free (v := ?_) (by rfl) ?_ ?_
    rotate_left 1
    focus (intro w hSw; (try dsimp only at hSw); go_simp; (try with_reducible rfl))
    (try simp only [Act.put, List.setIfInBounds_toArray, List.set_cons_zero, List.set_cons_succ])
    refine row_free (v := ?_) (by rfl) ?_ ?_
    rotate_left 1
    focus (intro w hSw; (try dsimp only at hSw); go_simp; (try with_reducible rfl))
    (try simp only [Act.put, List.setIfInBounds_toArray, List.set_cons_zero, List.set_cons_succ])
    refine row_call (by rfl) (fun K hK => ?_)
    go_simp
    (refine (HW.out _).mono ?_; rintro e w4 ⟨rfl, hb4⟩)
    (try go_wp2_with fail)
    refine hK.out _ _ ?_ (fun hS' => ?_)
    · (try dsimp only); exact keep5 (by assumption) (by assumption)
    clear hS hK K
    have hS := hS'
    clear hS'
    (try simp only [Act.put, List.setIfInBounds_toArray, List.set_cons_zero, List.set_cons_succ])
    refine row_free (v := ?_) (by rfl) ?_ ?_
    rotate_left 1
    focus (intro w hSw; (try dsimp only at hSw); go_simp; (try with_reducible rfl))
    (try simp only [Act.put, List.setIfInBounds_toArray, List.set_cons_zero, List.set_cons_succ])
    refine row_free (v := ?_) (by rfl) ?_ ?_
    rotate_left 1
    focus (intro w hSw; (try dsimp only at hSw); go_simp; (try with_reducible rfl))
    (try simp only [Act.put, List.setIfInBounds_toArray, List.set_cons_zero, List.set_cons_succ])
    refine row_free (v := ?_) (by rfl) ?_ ?_
    rotate_left 1
    focus (intro w hSw; (try dsimp only at hSw); go_simp; (try with_reducible rfl))
    (try simp only [Act.put, List.setIfInBounds_toArray, List.set_cons_zero, List.set_cons_succ])
    refine row_call (by rfl) (fun K hK => ?_)
    go_simp
    (refine (HH.out _).mono ?_; rintro e w4 ⟨rfl, hb4⟩)
    (try go_wp2_with fail)
    refine hK.out _ _ ?_ (fun hS' => ?_)
    · (try dsimp only); exact keep5 (by assumption) (by assumption)
    clear hS hK K
    have hS := hS'
    clear hS'
    (try simp only [Act.put, List.setIfInBounds_toArray, List.set_cons_zero, List.set_cons_succ])
    refine row_free (v := ?_) (by rfl) ?_ ?_
    rotate_left 1
    focus (intro w hSw; (try dsimp only at hSw); go_simp; (try with_reducible rfl))
    (try simp only [Act.put, List.setIfInBounds_toArray, List.set_cons_zero, List.set_cons_succ])
    refine row_free (v := ?_) (by rfl) ?_ ?_
    rotate_left 1
    focus (intro w hSw; (try dsimp only at hSw); go_simp; (try with_reducible rfl))
    (try simp only [Act.put, List.setIfInBounds_toArray, List.set_cons_zero, List.set_cons_succ])
    refine row_free (v := ?_) (by rfl) ?_ ?_
    rotate_left 1
    focus (intro w hSw; (try dsimp only at hSw); go_simp; (try with_reducible rfl))
    (try simp only [Act.put, List.setIfInBounds_toArray, List.set_cons_zero, List.set_cons_succ])
    refine row_free (v := ?_) (by rfl) ?_ ?_
    rotate_left 1
    focus (intro w hSw; (try dsimp only at hSw); go_simp; (try with_reducible rfl))
    (try simp only [Act.put, List.setIfInBounds_toArray, List.set_cons_zero, List.set_cons_succ])
    refine row_free (v := ?_) (by rfl) ?_ ?_
    rotate_left 1
    focus (intro w hSw; (try dsimp only at hSw); go_simp; (try with_reducible rfl))
    (try simp only [Act.put, List.setIfInBounds_toArray, List.set_cons_zero, List.set_cons_succ])
    refine row_done ?_
    go_wp2_with fail
    go_meet
    exact ⟨rfl, rfl, hS.2.2.2.2.2.1⟩
  case rest =>
    obtain ⟨rfl, rfl, hcut⟩ := hcut
    have Hb4 := Lib.hid (show Below w.heap.size w wc from Hb3.out.trans (hcut.mono Hb3.out.size))
    have hz4 : w3.heap.size ≤ wc.heap.size := hcut.size
    replace c0 := (hcut.cell (World.block_lt_of_cell? _ _ c0)).trans c0
    replace c1 := (hcut.cell (World.block_lt_of_cell? _ _ c1)).trans c1
    replace c2 := (hcut.cell (World.block_lt_of_cell? _ _ c2)).trans c2
    replace c3 := (hcut.cell (World.block_lt_of_cell? _ _ c3)).trans c3
    replace c4 := (hcut.cell (World.block_lt_of_cell? _ _ c4)).trans c4
    replace k3 := (hcut.cell (World.block_lt_of_cell? _ _ k3)).trans k3
    clear hcut k0 e1 f1
    have HO1 := Lib.hid (fun w => of_any a b p n a0_4 a1 a2 w)
    have HO2 := Lib.hid (fun w => of_any a b p n a0_4 (max 0 (min a1 (a * 1024 - 1))) (max 0 (min a2 (b * 1024 - 1))) w)
    have HI := Lib.hid (fun w => inside_any a b p n a0_4 a1 a2 w)
    have heq : ofr a b p n (max 0 (min a1 (a * 1024 - 1))) (max 0 (min a2 (b * 1024 - 1))) = ofr a b p n a1 a2 := by
      unfold ofr
      have h1 : clamp (max 0 (min a1 (a * 1024 - 1))) 0 (a * 1024 - 1) = clamp a1 0 (a * 1024 - 1) := by unfold clamp; omega
      have h2 : clamp (max 0 (min a2 (b * 1024 - 1))) 0 (b * 1024 - 1) = clamp a2 0 (b * 1024 - 1) := by unfold clamp; omega
      rw [h1, h2]
    have hins : ins a b p n a1 a2 = decide (a1 = max 0 (min a1 (a * 1024 - 1)) ∧ a2 = max 0 (min a2 (b * 1024 - 1))) := by
      unfold ins
      rw [HWi.out, HHe.out, decide_eq_decide]
      omega
    rw [heq] at HO2
    rw [hins] at HI
    clear heq hins
    have HO := Lib.hid (fun (x y : Int) (h : (x = a1 ∧ y = a2) ∨ (x = max 0 (min a1 (a * 1024 - 1)) ∧ y = max 0 (min a2 (b * 1024 - 1)))) => show ∀ w, Calls Try.prog 18 #[.agg #[.int .i64 a, .int .i64 b, .int .i64 p, .int .i64 n, .int .u64 a0_4], .int .i64 x, .int .i64 y] w fun e w' => e = .returned (.int .i64 (ofr a b p n a1 a2)) ∧ Below w.heap.size w w' from by
      rcases h with ⟨rfl, rfl⟩ | ⟨rfl, rfl⟩
      · exact HO1.out
      · exact HO2.out)
    clear HO1 HO2
    generalize ofr a b p n a1 a2 = r at *
    generalize max 0 (min a1 (a * 1024 - 1)) = cx at *
    generalize max 0 (min a2 (b * 1024 - 1)) = cy at *
    go_upto_region 6 with fail
    go_cut [62] (fun s62 wx => s62 = .bool false ∧ Below wc.heap.size wc wx)
    case first =>
      by_cases hx : a1 = cx
      · by_cases hy : a2 = cy
        · subst hx hy
          rw [show decide (a1 = a1 ∧ a2 = a2) = true from by simp] at HI
          refine plan_region' (S := (fun w' => w'.cell? ⟨w2.heap.size, 0, none⟩ = some (.int .i64 a) ∧ w'.cell? ⟨w2.heap.size, 1, none⟩ = some (.int .i64 b) ∧ w'.cell? ⟨w2.heap.size, 2, none⟩ = some (.int .i64 p) ∧ w'.cell? ⟨w2.heap.size, 3, none⟩ = some (.int .i64 n) ∧ w'.cell? ⟨w2.heap.size, 4, none⟩ = some (.int .u64 a0_4) ∧ Below wc.heap.size wc w' ∧ wc.heap.size ≤ w'.heap.size)) [(0, true), (1, true), (2, true), (4, true), (5, true), (6, true), (3, false), (7, false), (8, true), (9, true), (10, true), (11, true), (12, true), (14, true), (15, true), (16, true), (13, false), (17, true), (18, true), (19, true), (20, true), (21, true), (22, true), (23, true)] (by kernel_rfl) (by kernel_rfl) (fun _ _ d _ _ h => by cases d <;> exact h) (⟨c0, c1, c2, c3, c4, (Below.refl _ _).drew, Nat.le_refl _⟩) (fun hS => ?_)
          simp only [picked, List.getElem?_cons_succ, List.getElem?_cons_zero, List.append_eq, List.cons_append, List.nil_append]
          refine row_free (v := ?_) (by rfl) ?_ ?_
          rotate_left 1
          focus (intro w hSw; (try dsimp only at hSw); go_simp; (try with_reducible rfl))
          (try simp only [Act.put, List.setIfInBounds_toArray, List.set_cons_zero, List.set_cons_succ])
          refine row_free (v := ?_) (by rfl) ?_ ?_
          rotate_left 1
          focus (intro w hSw; (try dsimp only at hSw); go_simp; (try with_reducible rfl))
          (try simp only [Act.put, List.setIfInBounds_toArray, List.set_cons_zero, List.set_cons_succ])
          refine row_free (v := ?_) (by rfl) ?_ ?_
          rotate_left 1
          focus (intro w hSw; (try dsimp only at hSw); go_simp; (try with_reducible rfl))
          (try simp only [Act.put, List.setIfInBounds_toArray, List.set_cons_zero, List.set_cons_succ])
          refine row_free (v := ?_) (by rfl) ?_ ?_
          rotate_left 1
          focus (intro w hSw; (try dsimp only at hSw); go_simp; (try with_reducible rfl))
          (try simp only [Act.put, List.setIfInBounds_toArray, List.set_cons_zero, List.set_cons_succ])
          refine row_free (v := ?_) (by rfl) ?_ ?_
          rotate_left 1
          focus (intro w hSw; (try dsimp only at hSw); go_simp; (try with_reducible rfl))
          (try simp only [Act.put, List.setIfInBounds_toArray, List.set_cons_zero, List.set_cons_succ])
          refine row_free (v := ?_) (by rfl) ?_ ?_
          rotate_left 1
          focus (intro w hSw; (try dsimp only at hSw); go_simp; (try with_reducible rfl))
          (try simp only [Act.put, List.setIfInBounds_toArray, List.set_cons_zero, List.set_cons_succ])
          refine row_call (by rfl) (fun K hK => ?_)
          go_simp
          (refine (HO.out _ _ (by first | exact .inl ⟨rfl, rfl⟩ | exact .inr ⟨rfl, rfl⟩) _).mono ?_; rintro e w4 ⟨rfl, hb4⟩)
          (try go_wp2_with fail)
          refine hK.out _ _ ?_ (fun hS' => ?_)
          · (try dsimp only); exact keep5 (by assumption) (by assumption)
          clear hS hK K
          have hS := hS'
          clear hS'
          (try simp only [Act.put, List.setIfInBounds_toArray, List.set_cons_zero, List.set_cons_succ])
          refine row_call (by rfl) (fun K hK => ?_)
          go_simp
          (refine (HO.out _ _ (by first | exact .inl ⟨rfl, rfl⟩ | exact .inr ⟨rfl, rfl⟩) _).mono ?_; rintro e w4 ⟨rfl, hb4⟩)
          (try go_wp2_with fail)
          refine hK.out _ _ ?_ (fun hS' => ?_)
          · (try dsimp only); exact keep5 (by assumption) (by assumption)
          clear hS hK K
          have hS := hS'
          clear hS'
          (try simp only [Act.put, List.setIfInBounds_toArray, List.set_cons_zero, List.set_cons_succ])
          refine row_free (v := ?_) (by rfl) ?_ ?_
          rotate_left 1
          focus (intro w hSw; (try dsimp only at hSw); go_simp; (try with_reducible rfl))
          (try simp only [Act.put, List.setIfInBounds_toArray, List.set_cons_zero, List.set_cons_succ])
          refine row_free (v := ?_) (by rfl) ?_ ?_
          rotate_left 1
          focus (intro w hSw; (try dsimp only at hSw); go_simp; (try with_reducible rfl))
          (try simp only [Act.put, List.setIfInBounds_toArray, List.set_cons_zero, List.set_cons_succ])
          refine row_free (v := ?_) (by rfl) ?_ ?_
          rotate_left 1
          focus (intro w hSw; (try dsimp only at hSw); go_simp; (try with_reducible rfl))
          (try simp only [Act.put, List.setIfInBounds_toArray, List.set_cons_zero, List.set_cons_succ])
          refine row_free (v := ?_) (by rfl) ?_ ?_
          rotate_left 1
          focus (intro w hSw; (try dsimp only at hSw); go_simp; (try with_reducible rfl))
          (try simp only [Act.put, List.setIfInBounds_toArray, List.set_cons_zero, List.set_cons_succ])
          refine row_free (v := ?_) (by rfl) ?_ ?_
          rotate_left 1
          focus (intro w hSw; (try dsimp only at hSw); go_simp; (try with_reducible rfl))
          (try simp only [Act.put, List.setIfInBounds_toArray, List.set_cons_zero, List.set_cons_succ])
          refine row_free (v := ?_) (by rfl) ?_ ?_
          rotate_left 1
          focus (intro w hSw; (try dsimp only at hSw); go_simp; (try with_reducible rfl))
          (try simp only [Act.put, List.setIfInBounds_toArray, List.set_cons_zero, List.set_cons_succ])
          refine row_free (v := ?_) (by rfl) ?_ ?_
          rotate_left 1
          focus (intro w hSw; (try dsimp only at hSw); go_simp; (try with_reducible rfl))
          (try simp only [Act.put, List.setIfInBounds_toArray, List.set_cons_zero, List.set_cons_succ])
          refine row_free (v := ?_) (by rfl) ?_ ?_
          rotate_left 1
          focus (intro w hSw; (try dsimp only at hSw); go_simp; (try with_reducible rfl))
          (try simp only [Act.put, List.setIfInBounds_toArray, List.set_cons_zero, List.set_cons_succ])
          refine row_call (by rfl) (fun K hK => ?_)
          go_simp
          (refine (HI.out _).mono ?_; rintro e w4 ⟨rfl, hb4⟩)
          (try go_wp2_with fail)
          refine hK.out _ _ ?_ (fun hS' => ?_)
          · (try dsimp only); exact keep5 (by assumption) (by assumption)
          clear hS hK K
          have hS := hS'
          clear hS'
          (try simp only [Act.put, List.setIfInBounds_toArray, List.set_cons_zero, List.set_cons_succ])
          refine row_free (v := ?_) (by rfl) ?_ ?_
          rotate_left 1
          focus (intro w hSw; (try dsimp only at hSw); go_simp; (try with_reducible rfl))
          (try simp only [Act.put, List.setIfInBounds_toArray, List.set_cons_zero, List.set_cons_succ])
          refine row_free (v := ?_) (by rfl) ?_ ?_
          rotate_left 1
          focus (intro w hSw; (try dsimp only at hSw); go_simp; (try with_reducible rfl))
          (try simp only [Act.put, List.setIfInBounds_toArray, List.set_cons_zero, List.set_cons_succ])
          refine row_free (v := ?_) (by rfl) ?_ ?_
          rotate_left 1
          focus (intro w hSw; (try dsimp only at hSw); go_simp; (try with_reducible rfl))
          (try simp only [Act.put, List.setIfInBounds_toArray, List.set_cons_zero, List.set_cons_succ])
          refine row_free (v := ?_) (by rfl) ?_ ?_
          rotate_left 1
          focus (intro w hSw; (try dsimp only at hSw); go_simp; (try with_reducible rfl))
          (try simp only [Act.put, List.setIfInBounds_toArray, List.set_cons_zero, List.set_cons_succ])
          refine row_free (v := ?_) (by rfl) ?_ ?_
          rotate_left 1
          focus (intro w hSw; (try dsimp only at hSw); go_simp; (try with_reducible rfl))
          (try simp only [Act.put, List.setIfInBounds_toArray, List.set_cons_zero, List.set_cons_succ])
          refine row_free (v := ?_) (by rfl) ?_ ?_
          rotate_left 1
          focus (intro w hSw; (try dsimp only at hSw); go_simp; (try with_reducible rfl))
          (try simp only [Act.put, List.setIfInBounds_toArray, List.set_cons_zero, List.set_cons_succ])
          refine row_free (v := ?_) (by rfl) ?_ ?_
          rotate_left 1
          focus (intro w hSw; (try dsimp only at hSw); go_simp; (try with_reducible rfl))
          (try simp only [Act.put, List.setIfInBounds_toArray, List.set_cons_zero, List.set_cons_succ])
          refine row_done ?_
          go_wp2_with fail
          go_meet
          exact ⟨rfl, hS.2.2.2.2.2.1⟩
        · subst hx
          have hy' : (a2 == cy) = false := by simpa using hy
          rw [show decide (a1 = a1 ∧ a2 = cy) = false from by simp [hy]] at HI
          clear hy
          refine plan_region' (S := (fun w' => w'.cell? ⟨w2.heap.size, 0, none⟩ = some (.int .i64 a) ∧ w'.cell? ⟨w2.heap.size, 1, none⟩ = some (.int .i64 b) ∧ w'.cell? ⟨w2.heap.size, 2, none⟩ = some (.int .i64 p) ∧ w'.cell? ⟨w2.heap.size, 3, none⟩ = some (.int .i64 n) ∧ w'.cell? ⟨w2.heap.size, 4, none⟩ = some (.int .u64 a0_4) ∧ Below wc.heap.size wc w' ∧ wc.heap.size ≤ w'.heap.size)) [(0, true), (1, true), (2, true), (4, true), (5, true), (6, true), (3, false), (7, false), (8, true), (9, true), (10, true), (11, true), (12, true), (14, true), (15, true), (16, true), (13, false), (17, true), (18, true), (19, true), (20, true), (21, true), (22, true), (23, true)] (by kernel_rfl) (by kernel_rfl) (fun _ _ d _ _ h => by cases d <;> exact h) (⟨c0, c1, c2, c3, c4, (Below.refl _ _).drew, Nat.le_refl _⟩) (fun hS => ?_)
          simp only [picked, List.getElem?_cons_succ, List.getElem?_cons_zero, List.append_eq, List.cons_append, List.nil_append]
          refine row_free (v := ?_) (by rfl) ?_ ?_
          rotate_left 1
          focus (intro w hSw; (try dsimp only at hSw); go_simp; (try with_reducible rfl))
          (try simp only [Act.put, List.setIfInBounds_toArray, List.set_cons_zero, List.set_cons_succ])
          refine row_free (v := ?_) (by rfl) ?_ ?_
          rotate_left 1
          focus (intro w hSw; (try dsimp only at hSw); go_simp; (try with_reducible rfl))
          (try simp only [Act.put, List.setIfInBounds_toArray, List.set_cons_zero, List.set_cons_succ])
          refine row_free (v := ?_) (by rfl) ?_ ?_
          rotate_left 1
          focus (intro w hSw; (try dsimp only at hSw); go_simp; (try with_reducible rfl))
          (try simp only [Act.put, List.setIfInBounds_toArray, List.set_cons_zero, List.set_cons_succ])
          refine row_free (v := ?_) (by rfl) ?_ ?_
          rotate_left 1
          focus (intro w hSw; (try dsimp only at hSw); go_simp; (try with_reducible rfl))
          (try simp only [Act.put, List.setIfInBounds_toArray, List.set_cons_zero, List.set_cons_succ])
          refine row_free (v := ?_) (by rfl) ?_ ?_
          rotate_left 1
          focus (intro w hSw; (try dsimp only at hSw); go_simp; (try with_reducible rfl))
          (try simp only [Act.put, List.setIfInBounds_toArray, List.set_cons_zero, List.set_cons_succ])
          refine row_free (v := ?_) (by rfl) ?_ ?_
          rotate_left 1
          focus (intro w hSw; (try dsimp only at hSw); go_simp; (try with_reducible rfl))
          (try simp only [Act.put, List.setIfInBounds_toArray, List.set_cons_zero, List.set_cons_succ])
          refine row_call (by rfl) (fun K hK => ?_)
          go_simp
          (refine (HO.out _ _ (by first | exact .inl ⟨rfl, rfl⟩ | exact .inr ⟨rfl, rfl⟩) _).mono ?_; rintro e w4 ⟨rfl, hb4⟩)
          (try go_wp2_with fail)
          refine hK.out _ _ ?_ (fun hS' => ?_)
          · (try dsimp only); exact keep5 (by assumption) (by assumption)
          clear hS hK K
          have hS := hS'
          clear hS'
          (try simp only [Act.put, List.setIfInBounds_toArray, List.set_cons_zero, List.set_cons_succ])
          refine row_call (by rfl) (fun K hK => ?_)
          go_simp
          (refine (HO.out _ _ (by first | exact .inl ⟨rfl, rfl⟩ | exact .inr ⟨rfl, rfl⟩) _).mono ?_; rintro e w4 ⟨rfl, hb4⟩)
          (try go_wp2_with fail)
          refine hK.out _ _ ?_ (fun hS' => ?_)
          · (try dsimp only); exact keep5 (by assumption) (by assumption)
          clear hS hK K
          have hS := hS'
          clear hS'
          (try simp only [Act.put, List.setIfInBounds_toArray, List.set_cons_zero, List.set_cons_succ])
          refine row_free (v := ?_) (by rfl) ?_ ?_
          rotate_left 1
          focus (intro w hSw; (try dsimp only at hSw); go_simp; (try with_reducible rfl))
          (try simp only [Act.put, List.setIfInBounds_toArray, List.set_cons_zero, List.set_cons_succ])
          refine row_free (v := ?_) (by rfl) ?_ ?_
          rotate_left 1
          focus (intro w hSw; (try dsimp only at hSw); go_simp; (try with_reducible rfl))
          (try simp only [Act.put, List.setIfInBounds_toArray, List.set_cons_zero, List.set_cons_succ])
          refine row_free (v := ?_) (by rfl) ?_ ?_
          rotate_left 1
          focus (intro w hSw; (try dsimp only at hSw); go_simp; (try with_reducible rfl))
          (try simp only [Act.put, List.setIfInBounds_toArray, List.set_cons_zero, List.set_cons_succ])
          refine row_free (v := ?_) (by rfl) ?_ ?_
          rotate_left 1
          focus (intro w hSw; (try dsimp only at hSw); go_simp; (try with_reducible rfl))
          (try simp only [Act.put, List.setIfInBounds_toArray, List.set_cons_zero, List.set_cons_succ])
          refine row_free (v := ?_) (by rfl) ?_ ?_
          rotate_left 1
          focus (intro w hSw; (try dsimp only at hSw); go_simp; (try with_reducible rfl))
          (try simp only [Act.put, List.setIfInBounds_toArray, List.set_cons_zero, List.set_cons_succ])
          refine row_free (v := ?_) (by rfl) ?_ ?_
          rotate_left 1
          focus (intro w hSw; (try dsimp only at hSw); go_simp; (try with_reducible rfl))
          (try simp only [Act.put, List.setIfInBounds_toArray, List.set_cons_zero, List.set_cons_succ])
          refine row_free (v := ?_) (by rfl) ?_ ?_
          rotate_left 1
          focus (intro w hSw; (try dsimp only at hSw); go_simp; (try with_reducible rfl))
          (try simp only [Act.put, List.setIfInBounds_toArray, List.set_cons_zero, List.set_cons_succ])
          refine row_free (v := ?_) (by rfl) ?_ ?_
          rotate_left 1
          focus (intro w hSw; (try dsimp only at hSw); go_simp; (try with_reducible rfl))
          (try simp only [Act.put, List.setIfInBounds_toArray, List.set_cons_zero, List.set_cons_succ])
          refine row_call (by rfl) (fun K hK => ?_)
          go_simp
          (refine (HI.out _).mono ?_; rintro e w4 ⟨rfl, hb4⟩)
          (try go_wp2_with fail)
          refine hK.out _ _ ?_ (fun hS' => ?_)
          · (try dsimp only); exact keep5 (by assumption) (by assumption)
          clear hS hK K
          have hS := hS'
          clear hS'
          (try simp only [Act.put, List.setIfInBounds_toArray, List.set_cons_zero, List.set_cons_succ])
          refine row_free (v := ?_) (by rfl) ?_ ?_
          rotate_left 1
          focus (intro w hSw; (try dsimp only at hSw); go_simp; (try with_reducible rfl))
          (try simp only [Act.put, List.setIfInBounds_toArray, List.set_cons_zero, List.set_cons_succ])
          refine row_free (v := ?_) (by rfl) ?_ ?_
          rotate_left 1
          focus (intro w hSw; (try dsimp only at hSw); go_simp; (try with_reducible rfl))
          (try simp only [Act.put, List.setIfInBounds_toArray, List.set_cons_zero, List.set_cons_succ])
          refine row_free (v := ?_) (by rfl) ?_ ?_
          rotate_left 1
          focus (intro w hSw; (try dsimp only at hSw); go_simp; (try with_reducible rfl))
          (try simp only [Act.put, List.setIfInBounds_toArray, List.set_cons_zero, List.set_cons_succ])
          refine row_free (v := ?_) (by rfl) ?_ ?_
          rotate_left 1
          focus (intro w hSw; (try dsimp only at hSw); go_simp; (try with_reducible rfl))
          (try simp only [Act.put, List.setIfInBounds_toArray, List.set_cons_zero, List.set_cons_succ])
          refine row_free (v := ?_) (by rfl) ?_ ?_
          rotate_left 1
          focus (intro w hSw; (try dsimp only at hSw); go_simp; (try with_reducible rfl))
          (try simp only [Act.put, List.setIfInBounds_toArray, List.set_cons_zero, List.set_cons_succ])
          refine row_free (v := ?_) (by rfl) ?_ ?_
          rotate_left 1
          focus (intro w hSw; (try dsimp only at hSw); go_simp; (try with_reducible rfl))
          (try simp only [Act.put, List.setIfInBounds_toArray, List.set_cons_zero, List.set_cons_succ])
          refine row_free (v := ?_) (by rfl) ?_ ?_
          rotate_left 1
          focus (intro w hSw; (try dsimp only at hSw); go_simp; (try with_reducible rfl))
          (try simp only [Act.put, List.setIfInBounds_toArray, List.set_cons_zero, List.set_cons_succ])
          refine row_done ?_
          go_wp2_with fail
          go_meet
          exact ⟨rfl, hS.2.2.2.2.2.1⟩
      · have hx' : (a1 == cx) = false := by simpa using hx
        rw [show decide (a1 = cx ∧ a2 = cy) = false from by simp [hx]] at HI
        clear hx
        refine plan_region' (S := (fun w' => w'.cell? ⟨w2.heap.size, 0, none⟩ = some (.int .i64 a) ∧ w'.cell? ⟨w2.heap.size, 1, none⟩ = some (.int .i64 b) ∧ w'.cell? ⟨w2.heap.size, 2, none⟩ = some (.int .i64 p) ∧ w'.cell? ⟨w2.heap.size, 3, none⟩ = some (.int .i64 n) ∧ w'.cell? ⟨w2.heap.size, 4, none⟩ = some (.int .u64 a0_4) ∧ Below wc.heap.size wc w' ∧ wc.heap.size ≤ w'.heap.size)) [(0, true), (1, true), (2, true), (4, true), (5, true), (6, true), (3, false), (7, false), (8, true), (9, true), (10, true), (11, true), (12, true), (14, true), (15, true), (16, true), (13, false), (17, true), (18, true), (19, true), (20, true), (21, true), (22, true), (23, true)] (by kernel_rfl) (by kernel_rfl) (fun _ _ d _ _ h => by cases d <;> exact h) (⟨c0, c1, c2, c3, c4, (Below.refl _ _).drew, Nat.le_refl _⟩) (fun hS => ?_)
        simp only [picked, List.getElem?_cons_succ, List.getElem?_cons_zero, List.append_eq, List.cons_append, List.nil_append]
        refine row_free (v := ?_) (by rfl) ?_ ?_
        rotate_left 1
        focus (intro w hSw; (try dsimp only at hSw); go_simp; (try with_reducible rfl))
        (try simp only [Act.put, List.setIfInBounds_toArray, List.set_cons_zero, List.set_cons_succ])
        refine row_free (v := ?_) (by rfl) ?_ ?_
        rotate_left 1
        focus (intro w hSw; (try dsimp only at hSw); go_simp; (try with_reducible rfl))
        (try simp only [Act.put, List.setIfInBounds_toArray, List.set_cons_zero, List.set_cons_succ])
        refine row_free (v := ?_) (by rfl) ?_ ?_
        rotate_left 1
        focus (intro w hSw; (try dsimp only at hSw); go_simp; (try with_reducible rfl))
        (try simp only [Act.put, List.setIfInBounds_toArray, List.set_cons_zero, List.set_cons_succ])
        refine row_free (v := ?_) (by rfl) ?_ ?_
        rotate_left 1
        focus (intro w hSw; (try dsimp only at hSw); go_simp; (try with_reducible rfl))
        (try simp only [Act.put, List.setIfInBounds_toArray, List.set_cons_zero, List.set_cons_succ])
        refine row_free (v := ?_) (by rfl) ?_ ?_
        rotate_left 1
        focus (intro w hSw; (try dsimp only at hSw); go_simp; (try with_reducible rfl))
        (try simp only [Act.put, List.setIfInBounds_toArray, List.set_cons_zero, List.set_cons_succ])
        refine row_free (v := ?_) (by rfl) ?_ ?_
        rotate_left 1
        focus (intro w hSw; (try dsimp only at hSw); go_simp; (try with_reducible rfl))
        (try simp only [Act.put, List.setIfInBounds_toArray, List.set_cons_zero, List.set_cons_succ])
        refine row_call (by rfl) (fun K hK => ?_)
        go_simp
        (refine (HO.out _ _ (by first | exact .inl ⟨rfl, rfl⟩ | exact .inr ⟨rfl, rfl⟩) _).mono ?_; rintro e w4 ⟨rfl, hb4⟩)
        (try go_wp2_with fail)
        refine hK.out _ _ ?_ (fun hS' => ?_)
        · (try dsimp only); exact keep5 (by assumption) (by assumption)
        clear hS hK K
        have hS := hS'
        clear hS'
        (try simp only [Act.put, List.setIfInBounds_toArray, List.set_cons_zero, List.set_cons_succ])
        refine row_call (by rfl) (fun K hK => ?_)
        go_simp
        (refine (HO.out _ _ (by first | exact .inl ⟨rfl, rfl⟩ | exact .inr ⟨rfl, rfl⟩) _).mono ?_; rintro e w4 ⟨rfl, hb4⟩)
        (try go_wp2_with fail)
        refine hK.out _ _ ?_ (fun hS' => ?_)
        · (try dsimp only); exact keep5 (by assumption) (by assumption)
        clear hS hK K
        have hS := hS'
        clear hS'
        (try simp only [Act.put, List.setIfInBounds_toArray, List.set_cons_zero, List.set_cons_succ])
        refine row_free (v := ?_) (by rfl) ?_ ?_
        rotate_left 1
        focus (intro w hSw; (try dsimp only at hSw); go_simp; (try with_reducible rfl))
        (try simp only [Act.put, List.setIfInBounds_toArray, List.set_cons_zero, List.set_cons_succ])
        refine row_free (v := ?_) (by rfl) ?_ ?_
        rotate_left 1
        focus (intro w hSw; (try dsimp only at hSw); go_simp; (try with_reducible rfl))
        (try simp only [Act.put, List.setIfInBounds_toArray, List.set_cons_zero, List.set_cons_succ])
        refine row_free (v := ?_) (by rfl) ?_ ?_
        rotate_left 1
        focus (intro w hSw; (try dsimp only at hSw); go_simp; (try with_reducible rfl))
        (try simp only [Act.put, List.setIfInBounds_toArray, List.set_cons_zero, List.set_cons_succ])
        refine row_free (v := ?_) (by rfl) ?_ ?_
        rotate_left 1
        focus (intro w hSw; (try dsimp only at hSw); go_simp; (try with_reducible rfl))
        (try simp only [Act.put, List.setIfInBounds_toArray, List.set_cons_zero, List.set_cons_succ])
        refine row_free (v := ?_) (by rfl) ?_ ?_
        rotate_left 1
        focus (intro w hSw; (try dsimp only at hSw); go_simp; (try with_reducible rfl))
        (try simp only [Act.put, List.setIfInBounds_toArray, List.set_cons_zero, List.set_cons_succ])
        refine row_free (v := ?_) (by rfl) ?_ ?_
        rotate_left 1
        focus (intro w hSw; (try dsimp only at hSw); go_simp; (try with_reducible rfl))
        (try simp only [Act.put, List.setIfInBounds_toArray, List.set_cons_zero, List.set_cons_succ])
        refine row_free (v := ?_) (by rfl) ?_ ?_
        rotate_left 1
        focus (intro w hSw; (try dsimp only at hSw); go_simp; (try with_reducible rfl))
        (try simp only [Act.put, List.setIfInBounds_toArray, List.set_cons_zero, List.set_cons_succ])
        refine row_free (v := ?_) (by rfl) ?_ ?_
        rotate_left 1
        focus (intro w hSw; (try dsimp only at hSw); go_simp; (try with_reducible rfl))
        (try simp only [Act.put, List.setIfInBounds_toArray, List.set_cons_zero, List.set_cons_succ])
        refine row_call (by rfl) (fun K hK => ?_)
        go_simp
        (refine (HI.out _).mono ?_; rintro e w4 ⟨rfl, hb4⟩)
        (try go_wp2_with fail)
        refine hK.out _ _ ?_ (fun hS' => ?_)
        · (try dsimp only); exact keep5 (by assumption) (by assumption)
        clear hS hK K
        have hS := hS'
        clear hS'
        (try simp only [Act.put, List.setIfInBounds_toArray, List.set_cons_zero, List.set_cons_succ])
        refine row_free (v := ?_) (by rfl) ?_ ?_
        rotate_left 1
        focus (intro w hSw; (try dsimp only at hSw); go_simp; (try with_reducible rfl))
        (try simp only [Act.put, List.setIfInBounds_toArray, List.set_cons_zero, List.set_cons_succ])
        refine row_off (by rfl) ?_
        (try simp only [Act.put, List.setIfInBounds_toArray, List.set_cons_zero, List.set_cons_succ])
        refine row_off (by rfl) ?_
        (try simp only [Act.put, List.setIfInBounds_toArray, List.set_cons_zero, List.set_cons_succ])
        refine row_off (by rfl) ?_
        (try simp only [Act.put, List.setIfInBounds_toArray, List.set_cons_zero, List.set_cons_succ])
        refine row_free (v := ?_) (by rfl) ?_ ?_
        rotate_left 1
        focus (intro w hSw; (try dsimp only at hSw); go_simp; (try with_reducible rfl))
        (try simp only [Act.put, List.setIfInBounds_toArray, List.set_cons_zero, List.set_cons_succ])
        refine row_free (v := ?_) (by rfl) ?_ ?_
        rotate_left 1
        focus (intro w hSw; (try dsimp only at hSw); go_simp; (try with_reducible rfl))
        (try simp only [Act.put, List.setIfInBounds_toArray, List.set_cons_zero, List.set_cons_succ])
        refine row_free (v := ?_) (by rfl) ?_ ?_
        rotate_left 1
        focus (intro w hSw; (try dsimp only at hSw); go_simp; (try with_reducible rfl))
        (try simp only [Act.put, List.setIfInBounds_toArray, List.set_cons_zero, List.set_cons_succ])
        refine row_done ?_
        go_wp2_with fail
        go_meet
        exact ⟨rfl, hS.2.2.2.2.2.1⟩
    case rest =>
      obtain ⟨rfl, hcut⟩ := hcut
      have Hb5 := Lib.hid (Hb4.out.trans (hcut.mono Hb4.out.size))
      replace c0 := (hcut.cell (World.block_lt_of_cell? _ _ c0)).trans c0
      replace c1 := (hcut.cell (World.block_lt_of_cell? _ _ c1)).trans c1
      replace c2 := (hcut.cell (World.block_lt_of_cell? _ _ c2)).trans c2
      replace c3 := (hcut.cell (World.block_lt_of_cell? _ _ c3)).trans c3
      replace c4 := (hcut.cell (World.block_lt_of_cell? _ _ c4)).trans c4
      replace k3 := (hcut.cell (World.block_lt_of_cell? _ _ k3)).trans k3
      clear hcut HO HI HW HH
      have hm := mul_le4 r1 r2 r3 r4
      have HR := Lib.hid (fun w => regions_any a b p n a0_4 w)
      have hre : regs a b p n = a * b := by unfold regs; rw [if_pos Hrt.out]
      obtain ⟨N, hN⟩ : ∃ N : Nat, a * b = N := ⟨(a * b).toNat, by omega⟩
      rw [hre, hN] at HR
      rw [hN] at hm hre
      have HN := Lib.hid hN
      have Hre := Lib.hid hre
      clear hN hre
      go_wp2_with fail
      go_loopw [11] (fun i wr => ∃ k : Nat, k ≤ N ∧ i = .int .i64 k ∧ Below wc.heap.size wc wr) (fun i _ => N - (intOf i).toNat)
      case atStart => exact ⟨0, Nat.zero_le _, rfl, Below.refl _ _⟩
      case round =>
        obtain ⟨k, hk, rfl, hbel⟩ := hrel
        have g0 := (hbel.cell (World.block_lt_of_cell? _ _ c0)).trans c0
        have g1 := (hbel.cell (World.block_lt_of_cell? _ _ c1)).trans c1
        have g2 := (hbel.cell (World.block_lt_of_cell? _ _ c2)).trans c2
        have g3 := (hbel.cell (World.block_lt_of_cell? _ _ c3)).trans c3
        have g4 := (hbel.cell (World.block_lt_of_cell? _ _ c4)).trans c4
        have l3 := (hbel.cell (World.block_lt_of_cell? _ _ k3)).trans k3
        have hz6 : w2.heap.size < wr.heap.size := World.block_lt_of_cell? _ _ g0
        have hy6 : w.heap.size < wr.heap.size := World.block_lt_of_cell? _ _ l3
        have Hbel := Lib.hid hbel
        clear hbel
        by_cases hlt : k < N
        · obtain ⟨hq0, hq1, hq2, hq3, hq4, hq5, hq6⟩ := corners Hrt.out HN.out k hlt
          have HC := Lib.hid (fun w => corner_any a b p n a0_4 k w)
          rw [hq0, hq1] at HC
          have HO1 := Lib.hid (fun w => of_any a b p n a0_4 ((k : Int) % a * 1024) ((k : Int) / a * 1024) w)
          rw [hq2] at HO1
          have HO2 := Lib.hid (fun w => of_any a b p n a0_4 ((k : Int) % a * 1024 + 1024 - 1) ((k : Int) / a * 1024 + 1024 - 1) w)
          rw [hq3] at HO2
          have HE := Lib.hid hq4
          clear hq0 hq1 hq2 hq3 hq4
          generalize (k : Int) % a = cx' at *
          generalize (k : Int) / a = cy' at *
          go_wp2_with fail
          refine (HR.out _).mono ?_
          rintro e w5 ⟨rfl, hbw5⟩
          obtain ⟨hcw5, hfw5⟩ := bcell hbw5
          have Hbw5 := Lib.hid hbw5
          clear hbw5
          have hz5 : w2.heap.size < w5.heap.size := by have := Hbw5.out.size; omega
          have hy5 : w.heap.size < w5.heap.size := by have := Hbw5.out.size; omega
          go_wp2_with fail
          refine (HC.out _).mono ?_
          rintro e w6 ⟨rfl, hbw6⟩
          obtain ⟨hcw6, hfw6⟩ := bcell hbw6
          have Hbw6 := Lib.hid hbw6
          clear hbw6
          have hz6 : w2.heap.size < w6.heap.size := by have := Hbw6.out.size; omega
          have hy6 : w.heap.size < w6.heap.size := by have := Hbw6.out.size; omega
          go_wp2_with fail
          refine (HO1.out _).mono ?_
          rintro e w7 ⟨rfl, hbw7⟩
          obtain ⟨hcw7, hfw7⟩ := bcell hbw7
          have Hbw7 := Lib.hid hbw7
          clear hbw7
          have hz7 : w2.heap.size < w7.heap.size := by have := Hbw7.out.size; omega
          have hy7 : w.heap.size < w7.heap.size := by have := Hbw7.out.size; omega
          go_wp2_with fail
          refine (HO2.out _).mono ?_
          rintro e w8 ⟨rfl, hbw8⟩
          obtain ⟨hcw8, hfw8⟩ := bcell hbw8
          have Hbw8 := Lib.hid hbw8
          clear hbw8
          have hz8 : w2.heap.size < w8.heap.size := by have := Hbw8.out.size; omega
          have hy8 : w.heap.size < w8.heap.size := by have := Hbw8.out.size; omega
          have hE2 : cy' * a + cx' = (k : Int) := by have := HE.out; rw [show cy' * 1024 / 1024 = cy' by omega, show cx' * 1024 / 1024 = cx' by omega] at this; exact this
          have hP := mul_le3 (a := a) (v := cy') r1 r2 hq6.1 hq6.2
          have e1 : ((k : Int) != wrap64 (wrap64 (cy' * a) + cx')) = false := by rw [IntWalk.wrap64_in (cy' * a) (by omega), IntWalk.wrap64_in (cy' * a + cx') (by omega), hE2]; simp
          have e2 : ((k : Int) != cy' * a + cx') = false := by rw [hE2]; simp
          clear hE2
          go_wp2
          have Hb8 := Lib.hid (Hbel.out.trans (((Hbw5.out.trans (Hbw6.out.mono Hbw5.out.size)).trans ((Hbw7.out.trans (Hbw8.out.mono Hbw7.out.size)).mono (Nat.le_trans Hbw5.out.size Hbw6.out.size))).mono Hbel.out.size))
          go_roundw
          case rel => exact ⟨k + 1, by omega, by go_num, Hb8.out⟩
          case measure => simp [intOf]; omega
        · obtain rfl : k = N := by omega
          have HNm := Lib.hid (fun w => near_any a b p n a0_4 (-1) w)
          have HNr := Lib.hid (fun w => near_any a b p n a0_4 k w)
          have n1 : nr a b p n (-1) = [] := by unfold nr hasB; rw [if_neg (by simp)]
          have n2 : nr a b p n k = [] := by unfold nr hasB; rw [if_neg (by rw [Hre.out]; simp)]
          rw [n1] at HNm
          rw [n2] at HNr
          clear n1 n2
          go_wp2_with fail
          refine (HR.out _).mono ?_
          rintro e w5 ⟨rfl, hbw5⟩
          obtain ⟨hcw5, hfw5⟩ := bcell hbw5
          have Hbw5 := Lib.hid hbw5
          clear hbw5
          replace g0 := (Hbw5.out.cell hz6).trans g0
          replace g1 := (Hbw5.out.cell hz6).trans g1
          replace g2 := (Hbw5.out.cell hz6).trans g2
          replace g3 := (Hbw5.out.cell hz6).trans g3
          replace g4 := (Hbw5.out.cell hz6).trans g4
          clear hcw5 hfw5
          have hlt' : decide (k < k) = false := by simp
          go_wp2_with fail
          refine plan_region' (S := (fun w' => w'.cell? ⟨w2.heap.size, 0, none⟩ = some (.int .i64 a) ∧ w'.cell? ⟨w2.heap.size, 1, none⟩ = some (.int .i64 b) ∧ w'.cell? ⟨w2.heap.size, 2, none⟩ = some (.int .i64 p) ∧ w'.cell? ⟨w2.heap.size, 3, none⟩ = some (.int .i64 n) ∧ w'.cell? ⟨w2.heap.size, 4, none⟩ = some (.int .u64 a0_4) ∧ Below w5.heap.size w5 w' ∧ w5.heap.size ≤ w'.heap.size)) [(0, true), (1, false), (2, true), (3, true), (4, true), (5, true), (6, true), (7, false), (8, false), (9, true), (10, true), (11, true), (12, true)] (by kernel_rfl) (by kernel_rfl) (fun _ _ d _ _ h => by cases d <;> exact h) (⟨g0, g1, g2, g3, g4, (Below.refl _ _).drew, Nat.le_refl _⟩) (fun hS => ?_)
          simp only [picked, List.getElem?_cons_succ, List.getElem?_cons_zero, List.append_eq, List.cons_append, List.nil_append]
          refine row_free (v := ?_) (by rfl) ?_ ?_
          rotate_left 1
          focus (intro w hSw; (try dsimp only at hSw); go_simp; (try with_reducible rfl))
          (try simp only [Act.put, List.setIfInBounds_toArray, List.set_cons_zero, List.set_cons_succ])
          refine row_call (by rfl) (fun K hK => ?_)
          go_simp
          (refine (HNm.out _).mono ?_; rintro e w6 ⟨A6, c6, rfl, hat6, hb6⟩)
          (try go_wp2_with fail)
          refine hK.out _ _ ?_ (fun hS' => ?_)
          · (try dsimp only); exact keep5 (by assumption) (by assumption)
          clear hS hK K
          have hS := hS'
          clear hS'
          (try simp only [Act.put, List.setIfInBounds_toArray, List.set_cons_zero, List.set_cons_succ])
          refine row_free (v := ?_) (by rfl) ?_ ?_
          rotate_left 1
          focus (intro w hSw; (try dsimp only at hSw); go_simp; (try with_reducible rfl))
          (try simp only [Act.put, List.setIfInBounds_toArray, List.set_cons_zero, List.set_cons_succ])
          refine row_free (v := ?_) (by rfl) ?_ ?_
          rotate_left 1
          focus (intro w hSw; (try dsimp only at hSw); go_simp; (try with_reducible rfl))
          (try simp only [Act.put, List.setIfInBounds_toArray, List.set_cons_zero, List.set_cons_succ])
          refine row_free (v := ?_) (by rfl) ?_ ?_
          rotate_left 1
          focus (intro w hSw; (try dsimp only at hSw); go_simp; (try with_reducible rfl))
          (try simp only [Act.put, List.setIfInBounds_toArray, List.set_cons_zero, List.set_cons_succ])
          refine row_free (v := ?_) (by rfl) ?_ ?_
          rotate_left 1
          focus (intro w hSw; (try dsimp only at hSw); go_simp; (try with_reducible rfl))
          (try simp only [Act.put, List.setIfInBounds_toArray, List.set_cons_zero, List.set_cons_succ])
          refine row_free (v := ?_) (by rfl) ?_ ?_
          rotate_left 1
          focus (intro w hSw; (try dsimp only at hSw); go_simp; (try with_reducible rfl))
          (try simp only [Act.put, List.setIfInBounds_toArray, List.set_cons_zero, List.set_cons_succ])
          refine row_call (by rfl) (fun K hK => ?_)
          go_simp
          (refine (HR.out _).mono ?_; rintro e w8 ⟨rfl, hb8⟩)
          (try go_wp2_with fail)
          refine hK.out _ _ ?_ (fun hS' => ?_)
          · (try dsimp only); exact keep5 (by assumption) (by assumption)
          clear hS hK K
          have hS := hS'
          clear hS'
          (try simp only [Act.put, List.setIfInBounds_toArray, List.set_cons_zero, List.set_cons_succ])
          refine row_call (by rfl) (fun K hK => ?_)
          go_simp
          (refine (HNr.out _).mono ?_; rintro e w7 ⟨A7, c7, rfl, hat7, hb7⟩)
          (try go_wp2_with fail)
          refine hK.out _ _ ?_ (fun hS' => ?_)
          · (try dsimp only); exact keep5 (by assumption) (by assumption)
          clear hS hK K
          have hS := hS'
          clear hS'
          (try simp only [Act.put, List.setIfInBounds_toArray, List.set_cons_zero, List.set_cons_succ])
          refine row_free (v := ?_) (by rfl) ?_ ?_
          rotate_left 1
          focus (intro w hSw; (try dsimp only at hSw); go_simp; (try with_reducible rfl))
          (try simp only [Act.put, List.setIfInBounds_toArray, List.set_cons_zero, List.set_cons_succ])
          refine row_free (v := ?_) (by rfl) ?_ ?_
          rotate_left 1
          focus (intro w hSw; (try dsimp only at hSw); go_simp; (try with_reducible rfl))
          (try simp only [Act.put, List.setIfInBounds_toArray, List.set_cons_zero, List.set_cons_succ])
          refine row_free (v := ?_) (by rfl) ?_ ?_
          rotate_left 1
          focus (intro w hSw; (try dsimp only at hSw); go_simp; (try with_reducible rfl))
          (try simp only [Act.put, List.setIfInBounds_toArray, List.set_cons_zero, List.set_cons_succ])
          refine row_free (v := ?_) (by rfl) ?_ ?_
          rotate_left 1
          focus (intro w hSw; (try dsimp only at hSw); go_simp; (try with_reducible rfl))
          (try simp only [Act.put, List.setIfInBounds_toArray, List.set_cons_zero, List.set_cons_succ])
          refine row_done ?_
          have Hb9 := Lib.hid (Hb5.out.trans ((Hbel.out.trans ((Hbw5.out.trans (hS.2.2.2.2.2.1.mono Hbw5.out.size)).mono Hbel.out.size)).mono Hb5.out.size))
          clear hS
          go_wp2
          go_ret
          exact ⟨rfl, Hb9.out⟩

set_option maxRecDepth 100000 in
theorem lifted (os : Os) (started : os.Started) (H : Type) (enc : TypeId × Value → H) :
    ReturnsInHanded {} Try.checked os 6 .any (Rows.gridWallsSpec.pre6 enc Try.prog Try.f6 Rows.gridWallsRow.domain false) (Rows.gridWallsSpec.post enc Try.prog Try.f6 false true false false) := by
  refine returnsInHanded_of_change (C := Try.checked) own started (by kernel_rfl) Try.func6
    (ChangeSpec.witness6 (enc := enc) (C := Try.checked) false ⟨#[], #[.agg #[.int .i64 0, .int .i64 0, .int .i64 0, .int .i64 0, .int .u64 0], .int .i64 0, .int .i64 0], []⟩ 8 (by kernel_rfl) (by kernel_rfl) (by kernel_rfl) (by kernel_rfl)) ?_
  intro W base args ds gs before hval0 hW hcnd _
  have hval : ∀ (j : Nat) t v, Try.f6.params[j]? = some t → args[j]? = some v → Value.okWide Try.prog W .any base t v := hval0
  have hW' := hW
  obtain ⟨p, q, hA0, hV, rfl, hfz, hnd⟩ := hW
  have hA : DataW.TrodAll enc Try.prog W 0 (fun _ => true) true Try.f6.params.toList args.toList ds p := hA0
  rw [Try.params6] at hA hval
  obtain ⟨v0, vs0, d0, ds0, p0, q0, hargs, rfl, rfl, h0, r0⟩ := trodAll_cons hA
  obtain ⟨v1, vs1, d1, ds1, p1, q1, rfl, rfl, rfl, h1, r1⟩ := trodAll_cons r0
  obtain ⟨v2, vs2, d2, ds2, p2, q2, rfl, rfl, rfl, h2, r2⟩ := trodAll_cons r1
  obtain ⟨rfl, rfl, rfl⟩ := trodAll_nil r2
  obtain rfl : args = #[v0, v1, v2] := by cases args; simp_all
  obtain ⟨rfl, rfl⟩ := trodVars_none hV
  obtain ⟨cs0, rfl, -⟩ := okWide_struct Try.underlying24 (hval 0 24 v0 rfl rfl)
  have k0 := h0
  have lt0 : ∀ x ∈ p0, x.block < W.heap.size := by obtain ⟨m, hm⟩ := k0; exact DataW.trod_lt m _ _ _ hm
  obtain ⟨fuel0, hf0⟩ := h0
  obtain ⟨l0⟩ := cs0
  obtain ⟨a0_0, a0_1, a0_2, a0_3, a0_4, rfl, w0_0, w0_1, w0_2, w0_3, w0_4⟩ := open_T24 (cs := l0) hf0
  obtain ⟨a1, rfl, rfl, rfl, w1⟩ := open_int Try.underlying3 (hval 1 3 v1 rfl rfl) h1
  obtain ⟨a2, rfl, rfl, rfl, w2⟩ := open_int Try.underlying3 (hval 2 3 v2 rfl rfl) h2
  clear hA0 hval0
  refine (walk a0_0 a0_1 a0_2 a0_3 a0_4 a1 a2 W w0_0 w0_1 w0_2 w0_3 w0_4 w1 w2).mono fun e W' ⟨he, bel⟩ => ?_
  subst he
  exact ⟨_, rfl, _, _, _, [], _, [], hW', trodAll_mk1 (shut_bool Try.underlying4 _), (trodAll_cons_mk (Below.trod laidOut (by kernel_rfl) (of_decide_eq_true (by kernel_rfl)) k0 bel lt0) (trodAll_cons_mk (shut_int Try.underlying3 w1) (trodAll_cons_mk (shut_int Try.underlying3 w2) trodAll_mk0))), rfl, bel.frame _, fun h => by cases h⟩

theorem over : Rows.gridWallsRow.holds Try.pinned (OpenSpec.ofChange Rows.gridWallsSpec) :=
  OpenClaim.holds_of_wide 6 Try.f6 rfl rfl rfl rfl rfl rfl rfl ⟨rfl, rfl, rfl, rfl, rfl⟩ rfl rfl rfl rfl rfl (by kernel_rfl) Try.func6 (by kernel_rfl)
    (of_decide_eq_true (by kernel_rfl)) (by unfold Func.isWrapper; first | (rw [if_pos (by decide +kernel)]; kernel_rfl) | (rw [if_neg (by decide +kernel)]; exact ⟨rfl, rfl⟩))
    (fun os started H enc _ => lifted os started H enc)

end Go.Proofs.Ytoghnjbajhnpiaa.gridWalls
namespace Go.Proofs.Ytoghnjbajhnpiaa
theorem gridWalls_proved : Rows.GridWallsSaid := gridWalls.over
end Go.Proofs.Ytoghnjbajhnpiaa
