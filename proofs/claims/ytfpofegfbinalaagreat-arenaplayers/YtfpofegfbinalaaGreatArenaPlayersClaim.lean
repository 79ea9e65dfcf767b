/- joustlaw10.ArenaPlayers returns true for every input; no conditions. -/
import Derived.Test.YtfpofegfbinalaaGreatM56
import Derived.Test.YtfpofegfbinalaaGreatM54
import Derived.Deep.DeepCutAuto
import Derived.Test.YtfpofegfbinalaaGreatRows
import Derived.WalkKit
import Derived.ProofKit
import Derived.OpenShut
import Derived.ShutString
import Derived.ChangeOld
import Derived.Below
import Derived.Deep.Slices
namespace Go.Proofs.YtfpofegfbinalaaGreat.arenaPlayers
open Go.ChangeShapes Go.WideShapes Go.ChangeAt Go.RowKit
open Go.ChangeMaps (open_string shut_string)
set_option linter.unusedVariables false
set_option maxRecDepth 100000

theorem own : ownKnob Tryz.prog.godebug = none := by kernel_rfl
theorem laidOut : laidOutB Tryz.prog = true := by kernel_rfl
open Fx (IsRow)
theorem open_T24 {H : Type} {enc : TypeId × Value → H} {W : World} {fuel : Nat} {cs : List Value} {x : DataW H × List MemPlace} (h : DataW.trod enc Tryz.prog W 0 (fun _ => true) true fuel 24 cs = some x) :
    ∃ (a0 : Int) (a1 : Int) (a2 : Int) (a3 : Int) (a4 : Int), cs = [.int .i64 a0, .int .i64 a1, .int .i64 a2, .int .i64 a3, .int .u64 a4] ∧ (Lit.int .i64 a0).wf = true ∧ (Lit.int .i64 a1).wf = true ∧ (Lit.int .i64 a2).wf = true ∧ (Lit.int .i64 a3).wf = true ∧ (Lit.int .u64 a4).wf = true := by
  obtain ⟨xs, n, -, -, hl, hxl, hg⟩ := DataW.trod_struct Tryz.underlying24 h
  have hl' : cs.length = 5 := hl.trans (by kernel_rfl)
  have c3 : Tryz.prog.cellsOf 3 = 1 := by kernel_rfl
  have c22 : Tryz.prog.cellsOf 22 = 1 := by kernel_rfl
  clear hl h
  match cs, hl' with
  | [z0, z1, z2, z3, z4], _ =>
    have g0 : DataW.trod enc Tryz.prog W 0 (fun _ => true) true n 3 (([z0, z1, z2, z3, z4].drop 0).take (Tryz.prog.cellsOf 3)) = xs[0]? := hg 0 _ rfl
    rw [c3, List.getElem?_eq_getElem (show 0 < xs.length by rw [hxl]; decide)] at g0
    have g1 : DataW.trod enc Tryz.prog W 0 (fun _ => true) true n 3 (([z0, z1, z2, z3, z4].drop 1).take (Tryz.prog.cellsOf 3)) = xs[1]? := hg 1 _ rfl
    rw [c3, List.getElem?_eq_getElem (show 1 < xs.length by rw [hxl]; decide)] at g1
    have g2 : DataW.trod enc Tryz.prog W 0 (fun _ => true) true n 3 (([z0, z1, z2, z3, z4].drop 2).take (Tryz.prog.cellsOf 3)) = xs[2]? := hg 2 _ rfl
    rw [c3, List.getElem?_eq_getElem (show 2 < xs.length by rw [hxl]; decide)] at g2
    have g3 : DataW.trod enc Tryz.prog W 0 (fun _ => true) true n 3 (([z0, z1, z2, z3, z4].drop 3).take (Tryz.prog.cellsOf 3)) = xs[3]? := hg 3 _ rfl
    rw [c3, List.getElem?_eq_getElem (show 3 < xs.length by rw [hxl]; decide)] at g3
    have g4 : DataW.trod enc Tryz.prog W 0 (fun _ => true) true n 22 (([z0, z1, z2, z3, z4].drop 4).take (Tryz.prog.cellsOf 22)) = xs[4]? := hg 4 _ rfl
    rw [c22, List.getElem?_eq_getElem (show 4 < xs.length by rw [hxl]; decide)] at g4
    obtain ⟨a0, e0, -, w0⟩ := DataW.trod_int (cs := [z0]) Tryz.underlying3 g0
    simp only [List.cons.injEq, and_true] at e0
    subst e0
    clear g0
    obtain ⟨a1, e1, -, w1⟩ := DataW.trod_int (cs := [z1]) Tryz.underlying3 g1
    simp only [List.cons.injEq, and_true] at e1
    subst e1
    clear g1
    obtain ⟨a2, e2, -, w2⟩ := DataW.trod_int (cs := [z2]) Tryz.underlying3 g2
    simp only [List.cons.injEq, and_true] at e2
    subst e2
    clear g2
    obtain ⟨a3, e3, -, w3⟩ := DataW.trod_int (cs := [z3]) Tryz.underlying3 g3
    simp only [List.cons.injEq, and_true] at e3
    subst e3
    clear g3
    obtain ⟨a4, e4, -, w4⟩ := DataW.trod_int (cs := [z4]) Tryz.underlying22 g4
    simp only [List.cons.injEq, and_true] at e4
    subst e4
    clear g4
    exact ⟨a0, a1, a2, a3, a4, rfl, w0, w1, w2, w3, w4⟩

theorem open_T71 {H : Type} {enc : TypeId × Value → H} {W : World} {fuel : Nat} {cs : List Value} {x : DataW H × List MemPlace} (h : DataW.trod enc Tryz.prog W 0 (fun _ => true) true fuel 71 cs = some x) :
    ∃ (a0 : Int) (a1 : Int) (a2 : Bool), cs = [.int .i64 a0, .int .i64 a1, .bool a2] ∧ (Lit.int .i64 a0).wf = true ∧ (Lit.int .i64 a1).wf = true := by
  obtain ⟨xs, n, -, -, hl, hxl, hg⟩ := DataW.trod_struct Tryz.underlying71 h
  have hl' : cs.length = 3 := hl.trans (by kernel_rfl)
  have c3 : Tryz.prog.cellsOf 3 = 1 := by kernel_rfl
  have c4 : Tryz.prog.cellsOf 4 = 1 := by kernel_rfl
  clear hl h
  match cs, hl' with
  | [z0, z1, z2], _ =>
    have g0 : DataW.trod enc Tryz.prog W 0 (fun _ => true) true n 3 (([z0, z1, z2].drop 0).take (Tryz.prog.cellsOf 3)) = xs[0]? := hg 0 _ rfl
    rw [c3, List.getElem?_eq_getElem (show 0 < xs.length by rw [hxl]; decide)] at g0
    have g1 : DataW.trod enc Tryz.prog W 0 (fun _ => true) true n 3 (([z0, z1, z2].drop 1).take (Tryz.prog.cellsOf 3)) = xs[1]? := hg 1 _ rfl
    rw [c3, List.getElem?_eq_getElem (show 1 < xs.length by rw [hxl]; decide)] at g1
    have g2 : DataW.trod enc Tryz.prog W 0 (fun _ => true) true n 4 (([z0, z1, z2].drop 2).take (Tryz.prog.cellsOf 4)) = xs[2]? := hg 2 _ rfl
    rw [c4, List.getElem?_eq_getElem (show 2 < xs.length by rw [hxl]; decide)] at g2
    obtain ⟨a0, e0, -, w0⟩ := DataW.trod_int (cs := [z0]) Tryz.underlying3 g0
    simp only [List.cons.injEq, and_true] at e0
    subst e0
    clear g0
    obtain ⟨a1, e1, -, w1⟩ := DataW.trod_int (cs := [z1]) Tryz.underlying3 g1
    simp only [List.cons.injEq, and_true] at e1
    subst e1
    clear g1
    obtain ⟨a2, e2, -⟩ := DataW.trod_bool (cs := [z2]) Tryz.underlying4 g2
    simp only [List.cons.injEq, and_true] at e2
    subst e2
    clear g2
    exact ⟨a0, a1, a2, rfl, w0, w1⟩

theorem open_sn55 {H : Type} {enc : TypeId × Value → H} {W : World} {fuel : Nat} {v : Value} {x : DataW H × List MemPlace} (h : DataW.trod enc Tryz.prog W 0 (fun _ => true) true fuel 55 [v] = some x) :
    ∃ l0 : List Fx.Inp, Fx.IsSl Fx.inpC W v l0 ∧ ∀ e0 ∈ l0, Fx.Inp.ok e0 := by
  rcases Go.Deep.open_slice Tryz.underlying55 h with ⟨hcs, _⟩ | ⟨a, len, cap, m, n, D, Pl, hcs, _, hl, hm, hmm, _, hel⟩
  · simp at hcs
    subst hcs
    exact ⟨[], Fx.IsSl.nil _ _, by simp⟩
  · simp at hcs
    subst hcs
    have hmc : m = cap := hmm
    have hce : Tryz.prog.cellsOf 71 = 3 := by kernel_rfl
    refine Fx.sl_of_cells (base := 0) default 3 Fx.inpC_len (by omega) hl fun i hi => ?_
    obtain ⟨cs', hc, ht⟩ := hel i (by omega)
    rw [hce] at hc
    obtain ⟨a0, a1, a2, rfl, w0, w1⟩ := open_T71 ht
    exact ⟨⟨a0, a1, a2⟩, ⟨w0, w1⟩, hc⟩

theorem open_sn25 {H : Type} {enc : TypeId × Value → H} {W : World} {fuel : Nat} {v : Value} {x : DataW H × List MemPlace} (h : DataW.trod enc Tryz.prog W 0 (fun _ => true) true fuel 25 [v] = some x) :
    ∃ l0 : List Value, Fx.IsSl Fx.oneV W v l0 ∧ ∀ e0 ∈ l0, ∃ l1 : List Fx.Inp, Fx.IsSl Fx.inpC W e0 l1 ∧ ∀ e1 ∈ l1, Fx.Inp.ok e1 := by
  rcases Go.Deep.open_slice Tryz.underlying25 h with ⟨hcs, _⟩ | ⟨a, len, cap, m, n, D, Pl, hcs, _, hl, hm, hmm, _, hel⟩
  · simp at hcs
    subst hcs
    exact ⟨[], Fx.IsSl.nil _ _, by simp⟩
  · simp at hcs
    subst hcs
    have hmc : m = cap := hmm
    have hce : Tryz.prog.cellsOf 55 = 1 := by kernel_rfl
    refine Fx.sl_of_cells (base := 0) (.slice none 0 0) 1 Fx.oneV_len (by omega) hl fun i hi => ?_
    obtain ⟨cs', hc, ht⟩ := hel i (by omega)
    rw [hce] at hc
    obtain ⟨y, rfl⟩ : ∃ y, cs' = [y] := by
      obtain ⟨_, hlen, _⟩ := World.cells?_some hc
      match cs', hlen with
      | [y], _ => exact ⟨y, rfl⟩
    exact ⟨y, open_sn55 ht, hc⟩

open Fx

theorem run_num {a b n s : Int} {P R : Nat} (h : rt a b P n = true) (hR : regs a b P n = R) (hR1 : 1 ≤ R) (hP : P ≤ 6) (rows : List (List Inp)) (hl : rows.length ≤ 9999) : NumOk rows.length P R (runW a b n s P R rows).1 (runW a b n s P R rows).2 := by
  have : ∀ k, k ≤ rows.length → NumOk k P R (runW a b n s P R (rows.take k)).1 (runW a b n s P R (rows.take k)).2 := fun k => by
    induction k with
    | zero => intro _; exact num_begin hP hR1
    | succ k ih =>
      intro hk
      obtain ⟨x, hx⟩ := getE rows k rows.length rfl (by omega)
      rw [take_at hx, runW_snoc]
      have hW := wok_run (s := s) h hR hP (rows.take k) (by rw [List.length_take]; omega)
      rw [List.length_take, Nat.min_eq_left (by omega)] at hW
      have := num_step (s := s) hP hR hW (by omega) (ih (by omega)) (inpOf x)
      exact_mod_cast this
  have h1 := this rows.length (Nat.le_refl _)
  rw [List.take_length] at h1
  exact h1

theorem run_few {a b n s : Int} {P R : Nat} (h : rt a b P n = true) (hR : regs a b P n = R) (hR16 : R ≤ 16) (hP : P ≤ 6) (rows : List (List Inp)) (hl : rows.length ≤ 9999) : (listsL (runW a b n s P R rows).1).length ≤ 100000 ∧ (handsL (runW a b n s P R rows).2).length ≤ 100000 ∧ (∀ o ∈ (runW a b n s P R rows).2, o.length ≤ 100000) ∧ (runW a b n s P R rows).1.length = R ∧ (runW a b n s P R rows).2.length = R := by
  have hW := wok_run (s := s) h hR hP rows hl
  have hf : ∀ g ∈ (runW a b n s P R rows).1, g.2.length ≤ 30 := fun g hg => by
    obtain ⟨i, hi⟩ := List.getElem?_of_mem hg
    obtain ⟨-, h1, -, h3⟩ := hW.reg i g hi
    exact Nat.le_trans (okl_len h1 h3) (by omega)
  have ho : ∀ o ∈ (runW a b n s P R rows).2, o.length ≤ 600 := fun o ho => by
    obtain ⟨i, hi⟩ := List.getElem?_of_mem ho
    exact (hW.out i o hi).1
  have hle : ∀ {α β : Type} (g : α → List β) (m : Nat) (l : List α), (∀ x ∈ l, (g x).length ≤ m) → (l.flatMap g).length ≤ l.length * m := fun g m l => by
    induction l with
    | nil => intro _; simp
    | cons x l ih => intro h; rw [List.flatMap_cons, List.length_append, List.length_cons, Nat.succ_mul]; have h1 := h x (List.mem_cons_self ..); have h2 := ih (fun y hy => h y (List.mem_cons_of_mem _ hy)); omega
  have h1 := hle (fun f : Int × List Ent => f.2) 30 _ hf
  have h2 := hle handedL 600 _ (fun o h => Nat.le_trans (handed_le o) (ho o h))
  have e1 := Nat.mul_le_mul_right 30 (show (runW a b n s P R rows).1.length ≤ 16 by rw [hW.lenF]; exact hR16)
  have e2 := Nat.mul_le_mul_right 600 (show (runW a b n s P R rows).2.length ≤ 16 by rw [hW.lenO]; exact hR16)
  exact ⟨Nat.le_trans h1 (by omega), Nat.le_trans h2 (by omega), fun o h => Nat.le_trans (ho o h) (by omega), hW.lenF, hW.lenO⟩

set_option maxRecDepth 100000 in
set_option maxHeartbeats 8000000 in
theorem walk (a0_0 : Int) (a0_1 : Int) (a0_2 : Int) (a0_3 : Int) (a0_4 : Int) (v1 : Value) (l1 : List Value) (w : World) (w0_0 : (Lit.int .i64 a0_0).wf = true) (w0_1 : (Lit.int .i64 a0_1).wf = true) (w0_2 : (Lit.int .i64 a0_2).wf = true) (w0_3 : (Lit.int .i64 a0_3).wf = true) (w0_4 : (Lit.int .u64 a0_4).wf = true) (w1 : Fx.IsSl Fx.oneV w v1 l1) (k1 : ∀ e ∈ l1, ∃ l0 : List Fx.Inp, Fx.IsSl Fx.inpC w e l0 ∧ ∀ e0 ∈ l0, Fx.Inp.ok e0) :
    Calls Tryz.prog 5 #[.agg #[.int .i64 a0_0, .int .i64 a0_1, .int .i64 a0_2, .int .i64 a0_3, .int .u64 a0_4], v1] w fun e w' => e = .returned (.bool true) ∧ Below w.heap.size w w' := by
  clear w0_0 w0_1 w0_2 w0_3
  have hs4 : 0 ≤ a0_4 ∧ a0_4 < 18446744073709551616 := by have := bounds_u64 w0_4; omega
  have HA := Lib.hid awake_ar
  have HL1 := Lib.hid w1
  have HK1 := Lib.hid (fun x hx => by obtain ⟨l, h1, -⟩ := k1 x hx; exact ⟨l, h1⟩ : ∀ x ∈ l1, ∃ l, IsSl inpC w x l)
  obtain ⟨A1, n1, rfl, -⟩ := w1
  clear k1
  go_enter Tryz.func5, Tryz.ntmps5
  go_wp2_with fail
  refine (config_any _ _ _ _ _ _).mono ?_
  rintro e v1 ⟨a, b, p, n, rfl, hsm, hb1⟩
  obtain ⟨hrt, ha3, hb3, hp4⟩ := hsm
  have hrd := rt_bd hrt
  obtain ⟨P, rfl⟩ : ∃ P : Nat, p = (P : Int) := ⟨p.toNat, by omega⟩
  have hP : P ≤ 4 := by omega
  have hP1 : 1 ≤ P := by omega
  have Hb1 := Lib.hid (unbox hb1)
  have BC1 := Lib.hid ((CfgBox.n1 w ⟨a0_0, a0_1, a0_2, a0_3, a0_4⟩ 24 rfl).nx hb1)
  obtain ⟨R, hRe⟩ : ∃ R : Nat, a * b = (R : Int) := ⟨(a * b).toNat, by have := Int.mul_nonneg (show 0 ≤ a by omega) (show 0 ≤ b by omega); omega⟩
  have hR : 1 ≤ R ∧ R ≤ 9 := by
    have h1 : (1 : Int) ≤ (R : Int) ∧ (R : Int) ≤ 9 := by
      rw [← hRe]
      have : a = 1 ∨ a = 2 ∨ a = 3 := by omega
      rcases this with rfl | rfl | rfl <;> omega
    omega
  have hre : regs a b P n = R := by unfold regs; rw [if_pos hrt, hRe]
  have HF := Lib.hid (fun L vs0 w hL hin => pframes_many a b n a0_4 P (by omega) 30 (by omega) L vs0 w hL hin)
  have HRun := Lib.hid (fun rows hok hl t w ht => arun_any a b n a0_4 P R hrt hre hs4 rows hok hl t w ht)
  have HWo := Lib.hid (fun rows hl => wok_run (s := a0_4) hrt hre (show P ≤ 6 by omega) rows hl)
  have HNo := Lib.hid (fun rows hl => run_num (s := a0_4) hrt hre hR.1 (show P ≤ 6 by omega) rows hl)
  have HFew := Lib.hid (fun rows hl => run_few (s := a0_4) hrt hre (by omega) (show P ≤ 6 by omega) rows hl)
  clear hb1 hrt hre hRe hrd
  have g0 := BC1.out.c0
  have g1 := BC1.out.c1
  have g2 := BC1.out.c2
  have g3 := BC1.out.c3
  have g4 := BC1.out.c4
  have f0 := BC1.out.f0
  have f1 := BC1.out.f1
  have f2 := BC1.out.f2
  have f3 := BC1.out.f3
  have f4 := BC1.out.f4
  have hgl := BC1.out.has
  have hB := CfgBox.bel Hb1.out ⟨a, b, P, n, a0_4⟩ (Nat.le_refl _) rfl
  have hC := BC1.out.put ⟨a, b, P, n, a0_4⟩
  go_upto_region 2 with fail
  generalize hW : World.setCell _ _ _ = W at *
  have HB := Lib.hid hB
  have BC := Lib.hid hC
  clear hB hC hW g0 g1 g2 g3 g4 f0 f1 f2 f3 f4 hgl BC1 Hb1
  have hcl := BC.out.has
  obtain ⟨c0, c1, c2, c3, c4, -⟩ := BC.out
  have hLW : IsSl oneV W (.slice A1 l1.length n1) l1 := HL1.out.below HB.out
  have HLW := Lib.hid hLW
  have HKW := Lib.hid (fun (w' : World) (hb : Below W.heap.size W w') x hx => by obtain ⟨l, h1⟩ := HK1.out x hx; exact ⟨l, (h1.below HB.out).below hb⟩ : ∀ w', Below W.heap.size W w' → ∀ x ∈ l1, ∃ l, IsSl inpC w' x l)
  clear hLW
  go_cut [5, 6] (fun s5 s6 wx => ∃ (blk : Nat) (v u : Value) (rows : List (List Inp)), s5 = .pointer (some ⟨blk, 0, none⟩) ∧ s6 = .int .i64 0 ∧ Blk wx blk 32 #[v, u] ∧ ((∃ A c, v = .slice A R c) ∧ ∃ A c, u = .slice A R c) ∧ rows.length ≤ 30 ∧ RgsSl wx v (runW a b n a0_4 P R rows).1 ∧ OutSl wx u (runW a b n a0_4 P R rows).2 ∧ Below W.heap.size W wx)
  case first =>
    refine tree_region (S := (fun w' => (∀ b o, b < (W).heap.size → w'.cell? ⟨b, o, none⟩ = (W).cell? ⟨b, o, none⟩) ∧ (∀ b o, b < (W).heap.size → w'.frozen? ⟨b, o, none⟩ = (W).frozen? ⟨b, o, none⟩) ∧ Below (W).heap.size (W) w')) (.free 0 (.free 1 (.free 2 (.two 3 (.two 4 (.free 5 (.free 6 (.free 7 (.one 8 (.one 9 (.free 10 .done)))))) 8 (.one 4 (.free 5 (.free 6 (.free 7 (.one 9 (.free 10 .done))))))) 8 (.one 3 (.one 4 (.free 5 (.free 6 (.free 7 (.one 9 (.free 10 .done))))))))))) (by kernel_rfl) (by kernel_rfl) (fun _ _ d _ _ h => by cases d <;> exact h) (keepW0 _) (fun hS => ?_)
    simp only [written, List.getElem?_cons_succ, List.getElem?_cons_zero]
    iterate 3
     refine rw_free (v := ?_) (by rfl) ?_ ?_; rotate_left 1; focus (intro w hSw; (try dsimp only at hSw); go_simp; (try with_reducible rfl))
     (try simp only [Act.put, tA, tB, tC])
    refine rw_two ?_ ?_
    · skip
      refine rw_call (by rfl) (fun K hK => ?_)
      go_simp
      (refine (HF.out _ l1 _ (HLW.out.below hS.2.2) (HKW.out _ hS.2.2)).mono ?_; rintro e w5 ⟨⟨A5, c5, rows, rfl, hle, hrs, hrok⟩, hb5⟩; have HZ5 := Lib.hid (show W.heap.size ≤ w5.heap.size from (nextW hS.2.2 hb5).size))
      (try go_wp2_with fail)
      refine hK.out _ _ ?_ (fun hS' => ?_)
      · (try dsimp only); first | exact keepW (by assumption) (by assumption) | exact keepB (by assumption) (by assumption) | exact keepA (by assumption) | assumption
      clear hS hK K
      have hS := hS'
      clear hS'
      (try simp only [Act.put, tA, tB, tC])
      refine rw_two ?_ ?_
      · skip
        refine rw_call (by rfl) (fun K hK => ?_)
        go_simp
        (refine (HRun.out rows hrok (by omega) _ _ (by first | exact hrs | exact hrs.below ((Below.refl _ _).alloc (Nat.le_refl _) _))).mono ?_; rintro e w6 ⟨⟨v6, u6, rfl, hnw⟩, hb6⟩; obtain ⟨A6, c6, hv6⟩ : ∃ A c, v6 = .slice A R c := (by obtain ⟨_, _, h1, _⟩ := hnw; obtain ⟨A, c, e, -⟩ := owned_cells h1; exact ⟨A, c, e⟩); obtain ⟨A7, c7, hu6⟩ : ∃ A c, u6 = .slice A R c := (by obtain ⟨_, _, _, h1, _⟩ := hnw; obtain ⟨A, c, e, -⟩ := owned_cells h1; exact ⟨A, c, e⟩); subst hv6 hu6)
        (try go_wp2_with fail)
        refine hK.out _ _ ?_ (fun hS' => ?_)
        · (try dsimp only); first | exact keepW (by assumption) (by assumption) | exact keepB (by assumption) (by assumption) | exact keepA (by assumption) | assumption
        clear hS hK K
        have hS := hS'
        clear hS'
        iterate 3
         (try simp only [Act.put, tA, tB, tC])
         refine rw_free (v := ?_) (by rfl) ?_ ?_; rotate_left 1; focus (intro w hSw; (try dsimp only at hSw); go_simp; (try with_reducible rfl))
        (try simp only [Act.put, tA, tB, tC])
        refine rw_call (by rfl) (fun K hK => ?_)
        go_simp
        (skip)
        (try go_wp2_with fail)
        refine hK.out _ _ ?_ (fun hS' => ?_)
        · (try dsimp only); first | exact keepW (by assumption) (by assumption) | exact keepB (by assumption) (by assumption) | exact keepA (by assumption) | assumption
        clear hS hK K
        have hS := hS'
        clear hS'
        (try simp only [Act.put, tA, tB, tC])
        first | (have hb5' : Below (W.alloc (.cells #[.slice none 0 0, .slice none 0 0] 32)).drew.heap.size (W.alloc (.cells #[.slice none 0 0, .slice none 0 0] 32)).drew w5 := (by with_reducible exact hb5); have hs := Blk.nx (Blk.nx ((Blk.new' W #[nil0, nil0] 32 (g := W.heap.size) rfl).drew) hb5') hb6; have Hs := Lib.hid hs; have k0 := hs.cell 0; have k1 := hs.cell 1; have k2 := hs.frozen 0; have k3 := hs.frozen 1; clear hb5') | (with_reducible have hs := (by first | exact Blk.nx (Blk.new' _ #[nil0, nil0] 32 rfl) hb6 : Blk w6 _ 32 #[nil0, nil0]); have Hs := Lib.hid hs; have k0 := hs.cell 0; have k1 := hs.cell 1; have k2 := hs.frozen 0; have k3 := hs.frozen 1) | skip
        refine rw_call (by rfl) (fun K hK => ?_)
        go_simp
        (skip)
        (try go_wp2_with fail)
        refine hK.out _ _ ?_ (fun hS' => ?_)
        · (try dsimp only); first | (have _h := Hs.out; exact keepOf ((hS.2.2.setCell (show W.heap.size ≤ _ by first | exact Nat.le_refl _ | exact HZ5.out) _).setCell (show W.heap.size ≤ _ by first | exact Nat.le_refl _ | exact HZ5.out) _)) | exact keepOf (below_swap hS.2.2 (by have h1 := HZ5.out; have h2 := hb6.size; first | omega | (simp at h2; omega)))
        clear hS hK K
        have hS := hS'
        clear hS'
        (try simp only [Act.put, tA, tB, tC])
        refine rw_free (v := ?_) (by rfl) ?_ ?_; rotate_left 1; focus (intro w hSw; (try dsimp only at hSw); go_simp; (try with_reducible rfl))
        (try simp only [Act.put, tA, tB, tC])
        refine rw_done ?_
        (try clear k0 k1 k2 k3)
        go_wp2_with fail
        go_meet
        exact ⟨_, .slice A6 R c6, .slice A7 R c7, rows, rfl, rfl, (by first | (have _h := Hs.out; exact (_h.put 0 (.slice A6 R c6)).put 1 (.slice A7 R c7)) | exact Blk.new' _ _ _ rfl), ⟨⟨_, _, rfl⟩, _, _, rfl⟩, hle, (by first | (have _h := Hs.out; exact (NewW.at (hnw.old (grown_trans (grown_setA _ _ _ _) (grown_setA _ _ _ _)) (by first | (simp; done) | (have h5 := hb5.size; simp at h5; omega) | (have h5 := hb5.size; simp at h5; simp; omega)))).1) | exact (hnw.at.1).below ((Below.refl _ _).alloc (Nat.le_refl _) _)), (by first | (have _h := Hs.out; exact (NewW.at (hnw.old (grown_trans (grown_setA _ _ _ _) (grown_setA _ _ _ _)) (by first | (simp; done) | (have h5 := hb5.size; simp at h5; omega) | (have h5 := hb5.size; simp at h5; simp; omega)))).2) | exact (hnw.at.2).below ((Below.refl _ _).alloc (Nat.le_refl _) _)), hS.2.2⟩
      · skip
        refine rw_call (by rfl) (fun K hK => ?_)
        go_simp
        (skip)
        (try go_wp2_with fail)
        refine hK.out _ _ ?_ (fun hS' => ?_)
        · (try dsimp only); first | exact keepW (by assumption) (by assumption) | exact keepB (by assumption) (by assumption) | exact keepA (by assumption) | assumption
        clear hS hK K
        have hS := hS'
        clear hS'
        (try simp only [Act.put, tA, tB, tC])
        refine rw_call (by rfl) (fun K hK => ?_)
        go_simp
        (refine (HRun.out rows hrok (by omega) _ _ (by first | exact hrs | exact hrs.below ((Below.refl _ _).alloc (Nat.le_refl _) _))).mono ?_; rintro e w6 ⟨⟨v6, u6, rfl, hnw⟩, hb6⟩; obtain ⟨A6, c6, hv6⟩ : ∃ A c, v6 = .slice A R c := (by obtain ⟨_, _, h1, _⟩ := hnw; obtain ⟨A, c, e, -⟩ := owned_cells h1; exact ⟨A, c, e⟩); obtain ⟨A7, c7, hu6⟩ : ∃ A c, u6 = .slice A R c := (by obtain ⟨_, _, _, h1, _⟩ := hnw; obtain ⟨A, c, e, -⟩ := owned_cells h1; exact ⟨A, c, e⟩); subst hv6 hu6)
        (try go_wp2_with fail)
        refine hK.out _ _ ?_ (fun hS' => ?_)
        · (try dsimp only); first | exact keepW (by assumption) (by assumption) | exact keepB (by assumption) (by assumption) | exact keepA (by assumption) | assumption
        clear hS hK K
        have hS := hS'
        clear hS'
        iterate 3
         (try simp only [Act.put, tA, tB, tC])
         refine rw_free (v := ?_) (by rfl) ?_ ?_; rotate_left 1; focus (intro w hSw; (try dsimp only at hSw); go_simp; (try with_reducible rfl))
        (try simp only [Act.put, tA, tB, tC])
        first | (have hb5' : Below (W.alloc (.cells #[.slice none 0 0, .slice none 0 0] 32)).drew.heap.size (W.alloc (.cells #[.slice none 0 0, .slice none 0 0] 32)).drew w5 := (by with_reducible exact hb5); have hs := Blk.nx (Blk.nx ((Blk.new' W #[nil0, nil0] 32 (g := W.heap.size) rfl).drew) hb5') hb6; have Hs := Lib.hid hs; have k0 := hs.cell 0; have k1 := hs.cell 1; have k2 := hs.frozen 0; have k3 := hs.frozen 1; clear hb5') | (with_reducible have hs := (by first | exact Blk.nx (Blk.new' _ #[nil0, nil0] 32 rfl) hb6 : Blk w6 _ 32 #[nil0, nil0]); have Hs := Lib.hid hs; have k0 := hs.cell 0; have k1 := hs.cell 1; have k2 := hs.frozen 0; have k3 := hs.frozen 1) | skip
        refine rw_call (by rfl) (fun K hK => ?_)
        go_simp
        (skip)
        (try go_wp2_with fail)
        refine hK.out _ _ ?_ (fun hS' => ?_)
        · (try dsimp only); first | (have _h := Hs.out; exact keepOf ((hS.2.2.setCell (show W.heap.size ≤ _ by first | exact Nat.le_refl _ | exact HZ5.out) _).setCell (show W.heap.size ≤ _ by first | exact Nat.le_refl _ | exact HZ5.out) _)) | exact keepOf (below_swap hS.2.2 (by have h1 := HZ5.out; have h2 := hb6.size; first | omega | (simp at h2; omega)))
        clear hS hK K
        have hS := hS'
        clear hS'
        (try simp only [Act.put, tA, tB, tC])
        refine rw_free (v := ?_) (by rfl) ?_ ?_; rotate_left 1; focus (intro w hSw; (try dsimp only at hSw); go_simp; (try with_reducible rfl))
        (try simp only [Act.put, tA, tB, tC])
        refine rw_done ?_
        (try clear k0 k1 k2 k3)
        go_wp2_with fail
        go_meet
        exact ⟨_, .slice A6 R c6, .slice A7 R c7, rows, rfl, rfl, (by first | (have _h := Hs.out; exact (_h.put 0 (.slice A6 R c6)).put 1 (.slice A7 R c7)) | exact Blk.new' _ _ _ rfl), ⟨⟨_, _, rfl⟩, _, _, rfl⟩, hle, (by first | (have _h := Hs.out; exact (NewW.at (hnw.old (grown_trans (grown_setA _ _ _ _) (grown_setA _ _ _ _)) (by first | (simp; done) | (have h5 := hb5.size; simp at h5; omega) | (have h5 := hb5.size; simp at h5; simp; omega)))).1) | exact (hnw.at.1).below ((Below.refl _ _).alloc (Nat.le_refl _) _)), (by first | (have _h := Hs.out; exact (NewW.at (hnw.old (grown_trans (grown_setA _ _ _ _) (grown_setA _ _ _ _)) (by first | (simp; done) | (have h5 := hb5.size; simp at h5; omega) | (have h5 := hb5.size; simp at h5; simp; omega)))).2) | exact (hnw.at.2).below ((Below.refl _ _).alloc (Nat.le_refl _) _)), hS.2.2⟩
    · skip
      refine rw_call (by rfl) (fun K hK => ?_)
      go_simp
      (skip)
      (try go_wp2_with fail)
      refine hK.out _ _ ?_ (fun hS' => ?_)
      · (try dsimp only); first | exact keepW (by assumption) (by assumption) | exact keepB (by assumption) (by assumption) | exact keepA (by assumption) | assumption
      clear hS hK K
      have hS := hS'
      clear hS'
      (try simp only [Act.put, tA, tB, tC])
      refine rw_call (by rfl) (fun K hK => ?_)
      go_simp
      (refine (HF.out _ l1 _ (HLW.out.below hS.2.2) (HKW.out _ hS.2.2)).mono ?_; rintro e w5 ⟨⟨A5, c5, rows, rfl, hle, hrs, hrok⟩, hb5⟩; have HZ5 := Lib.hid (show W.heap.size ≤ w5.heap.size from (nextW hS.2.2 hb5).size))
      (try go_wp2_with fail)
      refine hK.out _ _ ?_ (fun hS' => ?_)
      · (try dsimp only); first | exact keepW (by assumption) (by assumption) | exact keepB (by assumption) (by assumption) | exact keepA (by assumption) | assumption
      clear hS hK K
      have hS := hS'
      clear hS'
      (try simp only [Act.put, tA, tB, tC])
      refine rw_call (by rfl) (fun K hK => ?_)
      go_simp
      (refine (HRun.out rows hrok (by omega) _ _ (by first | exact hrs | exact hrs.below ((Below.refl _ _).alloc (Nat.le_refl _) _))).mono ?_; rintro e w6 ⟨⟨v6, u6, rfl, hnw⟩, hb6⟩; obtain ⟨A6, c6, hv6⟩ : ∃ A c, v6 = .slice A R c := (by obtain ⟨_, _, h1, _⟩ := hnw; obtain ⟨A, c, e, -⟩ := owned_cells h1; exact ⟨A, c, e⟩); obtain ⟨A7, c7, hu6⟩ : ∃ A c, u6 = .slice A R c := (by obtain ⟨_, _, _, h1, _⟩ := hnw; obtain ⟨A, c, e, -⟩ := owned_cells h1; exact ⟨A, c, e⟩); subst hv6 hu6)
      (try go_wp2_with fail)
      refine hK.out _ _ ?_ (fun hS' => ?_)
      · (try dsimp only); first | exact keepW (by assumption) (by assumption) | exact keepB (by assumption) (by assumption) | exact keepA (by assumption) | assumption
      clear hS hK K
      have hS := hS'
      clear hS'
      iterate 3
       (try simp only [Act.put, tA, tB, tC])
       refine rw_free (v := ?_) (by rfl) ?_ ?_; rotate_left 1; focus (intro w hSw; (try dsimp only at hSw); go_simp; (try with_reducible rfl))
      (try simp only [Act.put, tA, tB, tC])
      first | (have hb5' : Below (W.alloc (.cells #[.slice none 0 0, .slice none 0 0] 32)).drew.heap.size (W.alloc (.cells #[.slice none 0 0, .slice none 0 0] 32)).drew w5 := (by with_reducible exact hb5); have hs := Blk.nx (Blk.nx ((Blk.new' W #[nil0, nil0] 32 (g := W.heap.size) rfl).drew) hb5') hb6; have Hs := Lib.hid hs; have k0 := hs.cell 0; have k1 := hs.cell 1; have k2 := hs.frozen 0; have k3 := hs.frozen 1; clear hb5') | (with_reducible have hs := (by first | exact Blk.nx (Blk.new' _ #[nil0, nil0] 32 rfl) hb6 : Blk w6 _ 32 #[nil0, nil0]); have Hs := Lib.hid hs; have k0 := hs.cell 0; have k1 := hs.cell 1; have k2 := hs.frozen 0; have k3 := hs.frozen 1) | skip
      refine rw_call (by rfl) (fun K hK => ?_)
      go_simp
      (skip)
      (try go_wp2_with fail)
      refine hK.out _ _ ?_ (fun hS' => ?_)
      · (try dsimp only); first | (have _h := Hs.out; exact keepOf ((hS.2.2.setCell (show W.heap.size ≤ _ by first | exact Nat.le_refl _ | exact HZ5.out) _).setCell (show W.heap.size ≤ _ by first | exact Nat.le_refl _ | exact HZ5.out) _)) | exact keepOf (below_swap hS.2.2 (by have h1 := HZ5.out; have h2 := hb6.size; first | omega | (simp at h2; omega)))
      clear hS hK K
      have hS := hS'
      clear hS'
      (try simp only [Act.put, tA, tB, tC])
      refine rw_free (v := ?_) (by rfl) ?_ ?_; rotate_left 1; focus (intro w hSw; (try dsimp only at hSw); go_simp; (try with_reducible rfl))
      (try simp only [Act.put, tA, tB, tC])
      refine rw_done ?_
      (try clear k0 k1 k2 k3)
      go_wp2_with fail
      go_meet
      exact ⟨_, .slice A6 R c6, .slice A7 R c7, rows, rfl, rfl, (by first | (have _h := Hs.out; exact (_h.put 0 (.slice A6 R c6)).put 1 (.slice A7 R c7)) | exact Blk.new' _ _ _ rfl), ⟨⟨_, _, rfl⟩, _, _, rfl⟩, hle, (by first | (have _h := Hs.out; exact (NewW.at (hnw.old (grown_trans (grown_setA _ _ _ _) (grown_setA _ _ _ _)) (by first | (simp; done) | (have h5 := hb5.size; simp at h5; omega) | (have h5 := hb5.size; simp at h5; simp; omega)))).1) | exact (hnw.at.1).below ((Below.refl _ _).alloc (Nat.le_refl _) _)), (by first | (have _h := Hs.out; exact (NewW.at (hnw.old (grown_trans (grown_setA _ _ _ _) (grown_setA _ _ _ _)) (by first | (simp; done) | (have h5 := hb5.size; simp at h5; omega) | (have h5 := hb5.size; simp at h5; simp; omega)))).2) | exact (hnw.at.2).below ((Below.refl _ _).alloc (Nat.le_refl _) _)), hS.2.2⟩
  case rest =>
    obtain ⟨blk, v, u, rows, rfl, rfl, hbk, ⟨⟨Av, cv, rfl⟩, Au, cu, rfl⟩, hle, hrs, hos, hb⟩ := hcut
    replace HB := Lib.hid (nextW HB.out hb)
    replace BC := Lib.hid (BC.out.nx hb)
    have BK := Lib.hid hbk
    have HRs := Lib.hid hrs
    have HOs := Lib.hid hos
    clear hb hbk hrs hos c0 c1 c2 c3 c4 hcl HLW HKW HF HRun HK1
    have HLaw := Lib.hid (all_law (show P ≤ 6 by omega) (HWo.out rows (by omega)) (HNo.out rows (by omega)))
    have HFw := Lib.hid (HFew.out rows (by omega))
    have HAll := Lib.hid (fun v u w h1 h2 => aall_any v u (runW a b n a0_4 P R rows).1 (runW a b n a0_4 P R rows).2 w h1 h2 HFw.out.1 HFw.out.2.1 HFw.out.2.2.1 (by rw [HFw.out.2.2.2.1]; omega) (by rw [HFw.out.2.2.2.2]; omega))
    clear HWo HNo HFew
    have hN8 : (allL (runW a b n a0_4 P R rows).1 (runW a b n a0_4 P R rows).2).length ≤ 200000 := by unfold allL; rw [st_length, List.length_append]; have h1 := HFw.out.1; have h2 := HFw.out.2.1; omega
    generalize (runW a b n a0_4 P R rows).1 = fs at *
    generalize (runW a b n a0_4 P R rows).2 = os at *
    obtain ⟨Z, hZ⟩ : ∃ Z, allL fs os = Z := ⟨_, rfl⟩
    rw [hZ] at HLaw hN8
    simp only [hZ] at HAll
    obtain ⟨N, hN⟩ : ∃ N, Z.length = N := ⟨_, rfl⟩
    have HN := Lib.hid hN
    rw [hN] at HLaw hN8
    clear hZ HFw
    go_wp2_with fail
    refine (HA.out _).mono ?_
    rintro e w3 ⟨rfl, hb⟩
    replace HB := Lib.hid (nextW HB.out hb)
    replace BC := Lib.hid (BC.out.nx hb)
    replace BK := Lib.hid (BK.out.nx hb)
    replace HRs := Lib.hid (HRs.out.below hb)
    replace HOs := Lib.hid (HOs.out.below hb)
    clear hb
    have hkl := BK.out.lt
    have k0 : w3.cell? ⟨blk, 0, none⟩ = some (.slice Av R cv) := BK.out.cell 0
    have k1 : w3.cell? ⟨blk, 1, none⟩ = some (.slice Au R cu) := BK.out.cell 1
    go_wp2_with fail
    refine (HAll.out _ _ _ HRs.out HOs.out).mono ?_
    rintro e w4 ⟨⟨v4, rfl, ho4⟩, hb⟩
    have HLs := Lib.hid (owned_sl ho4)
    replace HB := Lib.hid (nextW HB.out hb)
    replace BC := Lib.hid (BC.out.nx hb)
    obtain ⟨A4, c4', hv4, -⟩ := HLs.out
    rw [hN] at hv4
    subst hv4
    clear ho4 hb k0 k1 hkl BK HRs HOs hN
    have hcl := BC.out.has
    obtain ⟨c0, c1, c2, c3, c4, -⟩ := BC.out
    have hPN : decide ((N : Int) < (P : Int)) = false := decide_eq_false (by have := HLaw.out.1; omega)
    have hPNd : decide (N < P) = false := decide_eq_false (by have := HLaw.out.1; omega)
    go_wp2
    clear c0 c1 c2 c3 c4 hcl hPN hPNd
    go_loopw [8] (fun i wr => ∃ k : Nat, k ≤ N ∧ i = .int .i64 k ∧ CfgBox wr w.heap.size ⟨a, b, P, n, a0_4⟩ ∧ IsSl entC wr (.slice A4 N c4') Z ∧ Below w.heap.size w wr) (fun i _ => N - (intOf i).toNat)
    case atStart => exact ⟨0, Nat.zero_le _, rfl, BC.out, HLs.out, HB.out⟩
    case round =>
      clear BC HLs HB
      obtain ⟨k, hk, rfl, hbc, hls, hb⟩ := hrel
      have BC := Lib.hid hbc
      have HLs := Lib.hid hls
      have HB := Lib.hid hb
      have hcl := hbc.has
      obtain ⟨c0, c1, c2, c3, c4, -⟩ := hbc
      clear hls hb
      by_cases hlt : k < N
      · obtain ⟨x, hx⟩ := getE Z k N HN.out hlt
        have hlaw := HLaw.out.2.2 k x hx
        obtain ⟨bb, off, rfl, d0, d1, -, -, -, -, -, -, -⟩ := elem_Ent HLs.out.at hx
        have hbb : bb < wr.heap.size := World.block_lt_of_cell? _ _ d0
        have hwk : IntKind.i64.wrap ((k : Int) + 1) = (k : Int) + 1 := IntWalk.i64_in _ (by omega)
        have hki : (k : Int) < (N : Int) := by omega
        rcases Nat.eq_zero_or_pos k with hk0 | hk0
        · subst hk0
          simp only [Nat.zero_mul, Nat.add_zero] at d0 d1
          by_cases hkP : 0 < P
          · obtain ⟨e1, e2⟩ := hlaw.1 hkP
            rw [e1] at d0
            rw [e2] at d1
            have hkPi : decide (((0 : Nat) : Int) < (P : Int)) = true := decide_eq_true (by omega)
            have hkPj : (0 : Int) < (P : Int) := by omega
            have hid : ((0 : Nat) : Int) + 1 = 1 := rfl
            rw [hid] at d0
            clear hid
            have hw1 : IntKind.i64.wrap 1 = 1 := IntWalk.i64_in _ (by omega)
            clear hx hlaw e1 e2
            go_wp2_with fail
            refine plan_region' (S := (fun w' => (∀ b o, b < (wr).heap.size → w'.cell? ⟨b, o, none⟩ = (wr).cell? ⟨b, o, none⟩) ∧ (∀ b o, b < (wr).heap.size → w'.frozen? ⟨b, o, none⟩ = (wr).frozen? ⟨b, o, none⟩) ∧ Below (wr).heap.size (wr) w')) [(0, true), (1, true), (2, true), (3, true), (4, true), (5, true), (6, true), (7, true), (8, true), (9, true), (10, true), (11, true), (12, true), (13, true), (14, true), (15, true), (16, true), (17, true), (18, true), (19, true), (20, true), (21, true), (22, true), (23, true), (24, true), (25, true), (26, true), (27, true), (28, true), (29, true), (30, true), (31, true), (32, true), (33, true), (34, true), (35, true), (36, true), (37, true), (38, true), (39, true), (40, true), (41, true), (42, true), (43, true), (44, true)] (by kernel_rfl) (by kernel_rfl) (fun _ _ d _ _ h => by cases d <;> exact h) (keepW0 _) (fun hS => ?_)
            simp only [picked, List.getElem?_cons_succ, List.getElem?_cons_zero]
            iterate 3
             refine row_free (v := ?_) (by rfl) ?_ ?_; rotate_left 1; focus (intro w hSw; (try dsimp only at hSw); go_simp; (try with_reducible rfl))
             (try simp only [Act.put, tA, tB, tC])
            iterate 12
             refine row_off (by rfl) ?_
             (try simp only [Act.put, tA, tB, tC])
            iterate 30
             refine row_free (v := ?_) (by rfl) ?_ ?_; rotate_left 1; focus (intro w hSw; (try dsimp only at hSw); go_simp; (try with_reducible rfl))
             (try simp only [Act.put, tA, tB, tC])
            refine row_done ?_
            clear hS
            skip
            go_wp2
            go_roundw
            case rel => exact ⟨1, by omega, by go_num, BC.out.drew, HLs.out.keep fun p u hp => hp, HB.out.drew⟩
            case measure => simp [intOf]; omega

          · exact absurd hP1 (by omega)
        · obtain ⟨m, hm⟩ : ∃ m, k = m + 1 := ⟨k - 1, by omega⟩
          obtain ⟨y, hy⟩ := getE Z m N HN.out (by omega)
          have hids : y.id < x.id := by
            have h := List.pairwise_iff_getElem.1 (List.pairwise_map.1 HLaw.out.2.1) m k (by rw [HN.out]; omega) (by rw [HN.out]; omega) (by omega)
            rw [(List.getElem?_eq_some_iff.1 hy).2, (List.getElem?_eq_some_iff.1 hx).2] at h
            exact h
          obtain ⟨b2, off2, e2, q0, -, -, -, -, -, -, -, -⟩ := elem_Ent HLs.out.at hy
          cases e2
          have hle : decide (x.id ≤ y.id) = false := decide_eq_false (by omega)
          have hgt : decide ((0 : Int) < (k : Int)) = true := decide_eq_true (by omega)
          have hgt2 : decide (0 < k) = true := decide_eq_true (by omega)
          have hgt3 : (0 : Int) < (k : Int) := by omega
          have hwm : IntKind.i64.wrap ((k : Int) - 1) = m := by rw [show (k : Int) - 1 = (m : Int) by omega]; exact IntWalk.i64_in _ (by omega)
          have hmN : (m : Int) < (N : Int) := by omega
          by_cases hkP : k < P
          · obtain ⟨e1, e2⟩ := hlaw.1 hkP
            have hne : (x.id != (k : Int) + 1) = false := bne_eq_false_iff_eq.2 (by rw [e1])
            have hki1 : (x.kind == 1) = true := by simp [e2]
            have hpi : decide ((k : Int) < (P : Int)) = true := decide_eq_true (by omega)
            have hpj : (k : Int) < (P : Int) := by omega
            have hpn : decide (k < P) = true := decide_eq_true hkP
            clear hx hy hlaw hids e1 e2 hm
            go_wp2_with fail
            refine plan_region' (S := (fun w' => (∀ b o, b < (wr).heap.size → w'.cell? ⟨b, o, none⟩ = (wr).cell? ⟨b, o, none⟩) ∧ (∀ b o, b < (wr).heap.size → w'.frozen? ⟨b, o, none⟩ = (wr).frozen? ⟨b, o, none⟩) ∧ Below (wr).heap.size (wr) w')) [(0, true), (1, true), (2, true), (3, true), (4, true), (5, true), (6, true), (7, true), (8, true), (9, true), (10, true), (11, true), (12, true), (13, true), (14, true), (15, true), (16, true), (17, true), (18, true), (19, true), (20, true), (21, true), (22, true), (23, true), (24, true), (25, true), (26, true), (27, true), (28, true), (29, true), (30, true), (31, true), (32, true), (33, true), (34, true), (35, true), (36, true), (37, true), (38, true), (39, true), (40, true), (41, true), (42, true), (43, true), (44, true)] (by kernel_rfl) (by kernel_rfl) (fun _ _ d _ _ h => by cases d <;> exact h) (keepW0 _) (fun hS => ?_)
            simp only [picked, List.getElem?_cons_succ, List.getElem?_cons_zero]
            iterate 45
             refine row_free (v := ?_) (by rfl) ?_ ?_; rotate_left 1; focus (intro w hSw; (try dsimp only at hSw); go_simp; (try with_reducible rfl))
             (try simp only [Act.put, tA, tB, tC])
            refine row_done ?_
            clear hS
            skip
            go_wp2
            go_roundw
            case rel => exact ⟨k + 1, by omega, by go_num, BC.out.drew, HLs.out.keep fun p u hp => hp, HB.out.drew⟩
            case measure => simp [intOf]; omega
          · have e2 := hlaw.2 (by omega)
            have hki1 : (x.kind == 1) = false := by simpa using e2
            have hpi : decide ((k : Int) < (P : Int)) = false := decide_eq_false (by omega)
            have hpn : decide (k < P) = false := decide_eq_false hkP
            clear hx hy hlaw hids e2 hm
            go_wp2_with fail
            refine plan_region' (S := (fun w' => (∀ b o, b < (wr).heap.size → w'.cell? ⟨b, o, none⟩ = (wr).cell? ⟨b, o, none⟩) ∧ (∀ b o, b < (wr).heap.size → w'.frozen? ⟨b, o, none⟩ = (wr).frozen? ⟨b, o, none⟩) ∧ Below (wr).heap.size (wr) w')) [(0, true), (1, true), (2, true), (3, true), (4, true), (5, true), (6, true), (7, true), (8, true), (9, true), (10, true), (11, true), (12, true), (13, true), (14, true), (15, true), (16, true), (17, true), (18, true), (19, true), (20, true), (21, true), (22, true), (23, true), (24, true), (25, true), (26, true), (27, true), (28, true), (29, true), (30, true), (31, true), (32, true), (33, true), (34, true), (35, true), (36, true), (37, true), (38, true), (39, true), (40, true), (41, true), (42, true), (43, true), (44, true)] (by kernel_rfl) (by kernel_rfl) (fun _ _ d _ _ h => by cases d <;> exact h) (keepW0 _) (fun hS => ?_)
            simp only [picked, List.getElem?_cons_succ, List.getElem?_cons_zero]
            iterate 35
             refine row_free (v := ?_) (by rfl) ?_ ?_; rotate_left 1; focus (intro w hSw; (try dsimp only at hSw); go_simp; (try with_reducible rfl))
             (try simp only [Act.put, tA, tB, tC])
            iterate 8
             refine row_off (by rfl) ?_
             (try simp only [Act.put, tA, tB, tC])
            iterate 2
             refine row_free (v := ?_) (by rfl) ?_ ?_; rotate_left 1; focus (intro w hSw; (try dsimp only at hSw); go_simp; (try with_reducible rfl))
             (try simp only [Act.put, tA, tB, tC])
            refine row_done ?_
            clear hS
            skip
            go_wp2
            go_roundw
            case rel => exact ⟨k + 1, by omega, by go_num, BC.out.drew, HLs.out.keep fun p u hp => hp, HB.out.drew⟩
            case measure => simp [intOf]; omega
      · obtain rfl : k = N := by omega
        go_wp2
        go_ret
        exact ⟨rfl, HB.out⟩

set_option maxRecDepth 100000 in
theorem lifted (os : Os) (started : os.Started) (H : Type) (enc : TypeId × Value → H) :
    ReturnsInHanded {} Tryz.checked os 5 .any (Rows.arenaPlayersSpec.pre6 enc Tryz.prog Tryz.f5 Rows.arenaPlayersRow.domain false) (Rows.arenaPlayersSpec.post enc Tryz.prog Tryz.f5 false true false false) := by
  refine returnsInHanded_of_change (C := Tryz.checked) own started (by kernel_rfl) Tryz.func5
    (ChangeSpec.witness6 (enc := enc) (C := Tryz.checked) false ⟨#[], #[.agg #[.int .i64 0, .int .i64 0, .int .i64 0, .int .i64 0, .int .u64 0], .slice none 0 0], []⟩ 8 (by kernel_rfl) (by kernel_rfl) (by kernel_rfl) (by kernel_rfl)) ?_
  intro W base args ds gs before hval0 hW hcnd _
  have hval : ∀ (j : Nat) t v, Tryz.f5.params[j]? = some t → args[j]? = some v → Value.okWide Tryz.prog W .any base t v := hval0
  have hW' := hW
  obtain ⟨p, q, hA0, hV, rfl, hfz, hnd⟩ := hW
  have hA : DataW.TrodAll enc Tryz.prog W 0 (fun _ => true) true Tryz.f5.params.toList args.toList ds p := hA0
  rw [Tryz.params5] at hA hval
  obtain ⟨v0, vs0, d0, ds0, p0, q0, hargs, rfl, rfl, h0, r0⟩ := trodAll_cons hA
  obtain ⟨v1, vs1, d1, ds1, p1, q1, rfl, rfl, rfl, h1, r1⟩ := trodAll_cons r0
  obtain ⟨rfl, rfl, rfl⟩ := trodAll_nil r1
  obtain rfl : args = #[v0, v1] := by cases args; simp_all
  obtain ⟨rfl, rfl⟩ := trodVars_none hV
  obtain ⟨cs0, rfl, -⟩ := okWide_struct Tryz.underlying24 (hval 0 24 v0 rfl rfl)
  have k0 := h0
  have lt0 : ∀ x ∈ p0, x.block < W.heap.size := by obtain ⟨m, hm⟩ := k0; exact DataW.trod_lt m _ _ _ hm
  obtain ⟨fuel0, hf0⟩ := h0
  obtain ⟨l0⟩ := cs0
  obtain ⟨a0_0, a0_1, a0_2, a0_3, a0_4, rfl, w0_0, w0_1, w0_2, w0_3, w0_4⟩ := open_T24 (cs := l0) hf0
  obtain ⟨A1, len1, cap1, rfl⟩ := okWide_slice Tryz.underlying25 (hval 1 25 v1 rfl rfl)
  have k1 := h1
  have lt1 : ∀ x ∈ p1, x.block < W.heap.size := by obtain ⟨m, hm⟩ := k1; exact DataW.trod_lt m _ _ _ hm
  obtain ⟨l1, w1, o1⟩ : ∃ l0 : List Value, Fx.IsSl Fx.oneV W (.slice A1 len1 cap1) l0 ∧ ∀ e0 ∈ l0, ∃ l1 : List Fx.Inp, Fx.IsSl Fx.inpC W e0 l1 ∧ ∀ e1 ∈ l1, Fx.Inp.ok e1 := by
    obtain ⟨fuel, hf⟩ := h1
    exact open_sn25 hf
  clear hA0 hval0
  refine (walk a0_0 a0_1 a0_2 a0_3 a0_4 _ l1 W w0_0 w0_1 w0_2 w0_3 w0_4 w1 o1).mono fun e W' ⟨he, bel⟩ => ?_
  subst he
  exact ⟨_, rfl, _, _, _, [], _, [], hW', trodAll_mk1 (shut_bool Tryz.underlying4 _), (trodAll_cons_mk (Below.trod laidOut (by kernel_rfl) (of_decide_eq_true (by kernel_rfl)) k0 bel lt0) (trodAll_cons_mk (Below.trod laidOut (by kernel_rfl) (of_decide_eq_true (by kernel_rfl)) k1 bel lt1) trodAll_mk0)), rfl, bel.frame _, fun h => by cases h⟩

theorem over : Rows.arenaPlayersRow.holds Tryz.pinned (OpenSpec.ofChange Rows.arenaPlayersSpec) :=
  OpenClaim.holds_of_wide 5 Tryz.f5 rfl rfl rfl rfl rfl rfl rfl ⟨rfl, rfl, rfl, rfl, rfl⟩ rfl rfl rfl rfl rfl (by kernel_rfl) Tryz.func5 (by kernel_rfl)
    (of_decide_eq_true (by kernel_rfl)) (by unfold Func.isWrapper; first | (rw [if_pos (by decide +kernel)]; kernel_rfl) | (rw [if_neg (by decide +kernel)]; exact ⟨rfl, rfl⟩))
    (fun os started H enc _ => lifted os started H enc)

end Go.Proofs.YtfpofegfbinalaaGreat.arenaPlayers
namespace Go.Proofs.YtfpofegfbinalaaGreat
theorem arenaPlayers_proved : Rows.ArenaPlayersSaid := arenaPlayers.over
end Go.Proofs.YtfpofegfbinalaaGreat
