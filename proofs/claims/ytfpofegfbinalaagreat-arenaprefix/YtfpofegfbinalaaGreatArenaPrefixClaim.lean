/- joustlaw10.ArenaPrefix returns true for every input; no conditions. -/
import Derived.Test.YtfpofegfbinalaaGreatM56
import Derived.Test.YtfpofegfbinalaaGreatM57
import Derived.Test.YtfpofegfbinalaaGreatM58
import Derived.Deep.DeepCutAuto
import Derived.Test.YtfpofegfbinalaaGreatRows
import Derived.WalkKit
import Derived.ProofKit
import Derived.OpenShut
import Derived.ShutString
import Derived.ChangeOld
import Derived.Below
import Derived.Deep.Slices
namespace Go.Proofs.YtfpofegfbinalaaGreat.arenaPrefix
open Go.ChangeShapes Go.WideShapes Go.ChangeAt Go.RowKit
open Go.ChangeMaps (open_string shut_string)
set_option linter.unusedVariables false
set_option maxRecDepth 100000

theorem own : ownKnob Tryz.prog.godebug = none := by kernel_rfl
theorem laidOut : laidOutB Tryz.prog = true := by kernel_rfl
open Fx (IsRow)
theorem open_T24 {H : Type} {enc : TypeId × Value → H} {W : World} {fuel : Nat} {cs : List Value} {x : DataW H × List MemPlace} (h : DataW.trod enc Tryz.prog W 0 (fun _ => true) true fuel 24 cs = some x) :
    ∃ (a0 : Int) (a1 : Int) (a2 : Int) (a3 : Int) (a4 : Int), cs = [.int .i64 a0, .int .i64 a1, .int .i64 a2, .int .i64 a3, .int .u64 a4] ∧ (Lit.int .i64 a0).wf = true ∧ (Lit.int .i64 a1).wf = true ∧ (Lit.int .i64 a2).wf = true ∧ (Lit.int .i64 a3).wf = true ∧ (Lit.int .u64 a4).wf = true := by
  obtain ⟨xs, n, -, -, hl, hxl, hg⟩ := DataW.trod_struct Tryz.underlying24 h
  have hl' : cs.length = 5 := hl.trans (by kernel_rfl)
  have c3 : Tryz.prog.cellsOf 3 = 1 := by kernel_rfl
  have c22 : Tryz.prog.cellsOf 22 = 1 := by kernel_rfl
  clear hl h
  match cs, hl' with
  | [z0, z1, z2, z3, z4], _ =>
    have g0 : DataW.trod enc Tryz.prog W 0 (fun _ => true) true n 3 (([z0, z1, z2, z3, z4].drop 0).take (Tryz.prog.cellsOf 3)) = xs[0]? := hg 0 _ rfl
    rw [c3, List.getElem?_eq_getElem (show 0 < xs.length by rw [hxl]; decide)] at g0
    have g1 : DataW.trod enc Tryz.prog W 0 (fun _ => true) true n 3 (([z0, z1, z2, z3, z4].drop 1).take (Tryz.prog.cellsOf 3)) = xs[1]? := hg 1 _ rfl
    rw [c3, List.getElem?_eq_getElem (show 1 < xs.length by rw [hxl]; decide)] at g1
    have g2 : DataW.trod enc Tryz.prog W 0 (fun _ => true) true n 3 (([z0, z1, z2, z3, z4].drop 2).take (Tryz.prog.cellsOf 3)) = xs[2]? := hg 2 _ rfl
    rw [c3, List.getElem?_eq_getElem (show 2 < xs.length by rw [hxl]; decide)] at g2
    have g3 : DataW.trod enc Tryz.prog W 0 (fun _ => true) true n 3 (([z0, z1, z2, z3, z4].drop 3).take (Tryz.prog.cellsOf 3)) = xs[3]? := hg 3 _ rfl
    rw [c3, List.getElem?_eq_getElem (show 3 < xs.length by rw [hxl]; decide)] at g3
    have g4 : DataW.trod enc Tryz.prog W 0 (fun _ => true) true n 22 (([z0, z1, z2, z3, z4].drop 4).take (Tryz.prog.cellsOf 22)) = xs[4]? := hg 4 _ rfl
    rw [c22, List.getElem?_eq_getElem (show 4 < xs.length by rw [hxl]; decide)] at g4
    obtain ⟨a0, e0, -, w0⟩ := DataW.trod_int (cs := [z0]) Tryz.underlying3 g0
    simp only [List.cons.injEq, and_true] at e0
    subst e0
    clear g0
    obtain ⟨a1, e1, -, w1⟩ := DataW.trod_int (cs := [z1]) Tryz.underlying3 g1
    simp only [List.cons.injEq, and_true] at e1
    subst e1
    clear g1
    obtain ⟨a2, e2, -, w2⟩ := DataW.trod_int (cs := [z2]) Tryz.underlying3 g2
    simp only [List.cons.injEq, and_true] at e2
    subst e2
    clear g2
    obtain ⟨a3, e3, -, w3⟩ := DataW.trod_int (cs := [z3]) Tryz.underlying3 g3
    simp only [List.cons.injEq, and_true] at e3
    subst e3
    clear g3
    obtain ⟨a4, e4, -, w4⟩ := DataW.trod_int (cs := [z4]) Tryz.underlying22 g4
    simp only [List.cons.injEq, and_true] at e4
    subst e4
    clear g4
    exact ⟨a0, a1, a2, a3, a4, rfl, w0, w1, w2, w3, w4⟩

theorem open_T71 {H : Type} {enc : TypeId × Value → H} {W : World} {fuel : Nat} {cs : List Value} {x : DataW H × List MemPlace} (h : DataW.trod enc Tryz.prog W 0 (fun _ => true) true fuel 71 cs = some x) :
    ∃ (a0 : Int) (a1 : Int) (a2 : Bool), cs = [.int .i64 a0, .int .i64 a1, .bool a2] ∧ (Lit.int .i64 a0).wf = true ∧ (Lit.int .i64 a1).wf = true := by
  obtain ⟨xs, n, -, -, hl, hxl, hg⟩ := DataW.trod_struct Tryz.underlying71 h
  have hl' : cs.length = 3 := hl.trans (by kernel_rfl)
  have c3 : Tryz.prog.cellsOf 3 = 1 := by kernel_rfl
  have c4 : Tryz.prog.cellsOf 4 = 1 := by kernel_rfl
  clear hl h
  match cs, hl' with
  | [z0, z1, z2], _ =>
    have g0 : DataW.trod enc Tryz.prog W 0 (fun _ => true) true n 3 (([z0, z1, z2].drop 0).take (Tryz.prog.cellsOf 3)) = xs[0]? := hg 0 _ rfl
    rw [c3, List.getElem?_eq_getElem (show 0 < xs.length by rw [hxl]; decide)] at g0
    have g1 : DataW.trod enc Tryz.prog W 0 (fun _ => true) true n 3 (([z0, z1, z2].drop 1).take (Tryz.prog.cellsOf 3)) = xs[1]? := hg 1 _ rfl
    rw [c3, List.getElem?_eq_getElem (show 1 < xs.length by rw [hxl]; decide)] at g1
    have g2 : DataW.trod enc Tryz.prog W 0 (fun _ => true) true n 4 (([z0, z1, z2].drop 2).take (Tryz.prog.cellsOf 4)) = xs[2]? := hg 2 _ rfl
    rw [c4, List.getElem?_eq_getElem (show 2 < xs.length by rw [hxl]; decide)] at g2
    obtain ⟨a0, e0, -, w0⟩ := DataW.trod_int (cs := [z0]) Tryz.underlying3 g0
    simp only [List.cons.injEq, and_true] at e0
    subst e0
    clear g0
    obtain ⟨a1, e1, -, w1⟩ := DataW.trod_int (cs := [z1]) Tryz.underlying3 g1
    simp only [List.cons.injEq, and_true] at e1
    subst e1
    clear g1
    obtain ⟨a2, e2, -⟩ := DataW.trod_bool (cs := [z2]) Tryz.underlying4 g2
    simp only [List.cons.injEq, and_true] at e2
    subst e2
    clear g2
    exact ⟨a0, a1, a2, rfl, w0, w1⟩

theorem open_sn55 {H : Type} {enc : TypeId × Value → H} {W : World} {fuel : Nat} {v : Value} {x : DataW H × List MemPlace} (h : DataW.trod enc Tryz.prog W 0 (fun _ => true) true fuel 55 [v] = some x) :
    ∃ l0 : List Fx.Inp, Fx.IsSl Fx.inpC W v l0 ∧ ∀ e0 ∈ l0, Fx.Inp.ok e0 := by
  rcases Go.Deep.open_slice Tryz.underlying55 h with ⟨hcs, _⟩ | ⟨a, len, cap, m, n, D, Pl, hcs, _, hl, hm, hmm, _, hel⟩
  · simp at hcs
    subst hcs
    exact ⟨[], Fx.IsSl.nil _ _, by simp⟩
  · simp at hcs
    subst hcs
    have hmc : m = cap := hmm
    have hce : Tryz.prog.cellsOf 71 = 3 := by kernel_rfl
    refine Fx.sl_of_cells (base := 0) default 3 Fx.inpC_len (by omega) hl fun i hi => ?_
    obtain ⟨cs', hc, ht⟩ := hel i (by omega)
    rw [hce] at hc
    obtain ⟨a0, a1, a2, rfl, w0, w1⟩ := open_T71 ht
    exact ⟨⟨a0, a1, a2⟩, ⟨w0, w1⟩, hc⟩

theorem open_sn25 {H : Type} {enc : TypeId × Value → H} {W : World} {fuel : Nat} {v : Value} {x : DataW H × List MemPlace} (h : DataW.trod enc Tryz.prog W 0 (fun _ => true) true fuel 25 [v] = some x) :
    ∃ l0 : List Value, Fx.IsSl Fx.oneV W v l0 ∧ ∀ e0 ∈ l0, ∃ l1 : List Fx.Inp, Fx.IsSl Fx.inpC W e0 l1 ∧ ∀ e1 ∈ l1, Fx.Inp.ok e1 := by
  rcases Go.Deep.open_slice Tryz.underlying25 h with ⟨hcs, _⟩ | ⟨a, len, cap, m, n, D, Pl, hcs, _, hl, hm, hmm, _, hel⟩
  · simp at hcs
    subst hcs
    exact ⟨[], Fx.IsSl.nil _ _, by simp⟩
  · simp at hcs
    subst hcs
    have hmc : m = cap := hmm
    have hce : Tryz.prog.cellsOf 55 = 1 := by kernel_rfl
    refine Fx.sl_of_cells (base := 0) (.slice none 0 0) 1 Fx.oneV_len (by omega) hl fun i hi => ?_
    obtain ⟨cs', hc, ht⟩ := hel i (by omega)
    rw [hce] at hc
    obtain ⟨y, rfl⟩ : ∃ y, cs' = [y] := by
      obtain ⟨_, hlen, _⟩ := World.cells?_some hc
      match cs', hlen with
      | [y], _ => exact ⟨y, rfl⟩
    exact ⟨y, open_sn55 ht, hc⟩

open Fx

@[go_sem high] theorem slTo_rowsI (A : Option Addr) (n c : Nat) (h : Int) (h0 : 0 ≤ h) (h2 : h ≤ c) (w : World) : (Instr.slice 25 (.slice A n c) none (some (.int .i64 h)) none).run Tryz.prog w = .ok (slTo 1 (.slice A n c) h.toNat) w := by
  rw [run_slice_h _ _ _ _ _ (by kernel_rfl) _ _ h0 h2]
  rw [show Tryz.prog.elem 25 = 55 by kernel_rfl, Tryz.sizeOf55]
  rfl

theorem rows_upto {w : World} {v : Value} {rows : List (List Inp)} (h : RowsSl w v rows) (k : Nat) (hk : k ≤ rows.length) : RowsSl w (slTo 1 v k) (rows.take k) := by
  obtain ⟨vs, h1, h2, h3⟩ := h
  refine ⟨vs.take k, h1.upto 1 k (by omega), by rw [List.length_take, List.length_take, h2], fun i x r e1 e2 => ?_⟩
  rw [List.getElem?_take] at e1 e2
  split at e1
  · rename_i hi
    rw [if_pos hi] at e2
    exact h3 i x r e1 e2
  · cases e1

theorem app_rowsI {w : World} {o : Oper} {a : Act} {K : Act → World → Prop} {Q : Exit → Act → World → Prop} (s x : Operand)
    (ho : o.op = .call { callee := .builtin .append, args := #[s, x], argTypes := #[25, 25] }) (base : Nat) (v : Value) (vs : List Value) (hs : a.eval s = v) (hown : w.ownsRow base 55 1 v vs.length vs)
    (u : Value) (fs : List Value) (hx : a.eval x = u) (hu : IsSl oneV w u fs) (h1c : ∀ u ∈ fs, u.oneCell' = true) (hlen : vs.length + fs.length ≤ 1000000) (hbase : base ≤ w.heap.size)
    (h : ∀ v' w', w'.ownsRow base 55 1 v' (vs ++ fs).length (vs ++ fs) → Below base w w' → w.grownBy w' v.ownBlock → K (a.put o.dst v') w') : o.wp Tryz.prog a w K Q := by
  obtain ⟨i0, hi, hz0, hz1, hz2⟩ := info_parts info_slI
  obtain ⟨A, c, rfl, hA, hc, hat⟩ := hu
  rw [flat_oneV] at hat
  exact wp_app s x 25 ho base 55 i0 _ 1 24 Tryz.underlying25 hi hz0 hz1 hz2 rfl (by omega) v vs.length _ hs hown A fs.length c fs hx (by omega) hA hat.cells h1c (by unfold maxLen; omega) (by omega) hbase
    fun v' w' h1 h2 h3 => h v' w' (by rw [List.length_append]; exact h1) h2 h3

theorem oneV_one (w : World) (y : Value) (g c : Nat) (hg : g = w.heap.size) (hc : 1 ≤ c) : IsSl oneV (w.alloc (.cells #[y] 55)) (.slice (some ⟨g, 0, none⟩) 1 c) [y] := by
  subst hg
  refine ⟨_, _, rfl, fun h => (by cases h), hc, fun _ => ⟨_, _, rfl, fun i v hv => ?_⟩⟩
  rw [Nat.zero_add, World.cell?_alloc_new]
  simpa [oneV] using hv

/-- Frames, and one more behind them. -/
theorem rows_snoc {w : World} {B : Nat} {v y : Value} {vs : List Value} {rows : List (List Inp)} {bad : List Inp} (h : w.ownsRow B 55 1 v (vs ++ [y]).length (vs ++ [y])) (hl : vs.length = rows.length) (hin : ∀ (i : Nat) x r, vs[i]? = some x → rows[i]? = some r → IsSl inpC w x r) (hy : IsSl inpC w y bad) : RowsSl w v (rows ++ [bad]) := by
  refine ⟨vs ++ [y], owned_sl (by rw [flat_oneV]; exact h), by simp [hl], fun i x r e1 e2 => ?_⟩
  by_cases hi : i < vs.length
  · rw [List.getElem?_append_left hi] at e1
    rw [List.getElem?_append_left (by omega)] at e2
    exact hin i x r e1 e2
  · have h3 := (List.getElem?_eq_some_iff.1 e1).1
    simp at h3
    obtain rfl : i = vs.length := by omega
    rw [List.getElem?_append_right (Nat.le_refl _), Nat.sub_self] at e1
    rw [List.getElem?_append_right (by omega), hl, Nat.sub_self] at e2
    cases e1
    cases e2
    exact hy

theorem rows_bad {X w : World} {B n : Nat} {v u y : Value} {vs : List Value} {rows : List (List Inp)} (hy : X.ownsRow B 71 3 y (List.replicate n inp0).length ((List.replicate n inp0).flatMap inpC)) (hv : X.ownsRow B 55 1 v vs.length vs) (ho : w.ownsRow B 55 1 u (vs ++ [y]).length (vs ++ [y])) (hg : X.grownBy w v.ownBlock) (hl : vs.length = rows.length) (hin : ∀ (i : Nat) x r, vs[i]? = some x → rows[i]? = some r → IsSl inpC w x r) : RowsSl w u (rows ++ [List.replicate n inp0]) :=
  rows_snoc ho hl hin (owned_sl (hy.kept hg (own_apartA hv hy (by decide))))

theorem pfx_few {a b n s : Int} {P R : Nat} (h : rt a b P n = true) (hR : regs a b P n = R) (hR16 : R ≤ 16) (hP : P ≤ 6) (rows : List (List Inp)) (hl : rows.length ≤ 9999) : (runW a b n s P R rows).1.length ≤ 1000 ∧ (∀ g ∈ (runW a b n s P R rows).1, g.2.length ≤ 1000) ∧ (runW a b n s P R rows).2.length ≤ 1000 ∧ ∀ g ∈ (runW a b n s P R rows).2, g.length ≤ 1000 := by
  have hW := wok_run (s := s) h hR hP rows hl
  refine ⟨by rw [hW.lenF]; omega, fun g hg => ?_, by rw [hW.lenO]; omega, fun o ho => ?_⟩
  · obtain ⟨i, hi⟩ := List.getElem?_of_mem hg
    obtain ⟨-, h1, -, h3⟩ := hW.reg i g hi
    exact Nat.le_trans (okl_len h1 h3) (by omega)
  · obtain ⟨i, hi⟩ := List.getElem?_of_mem ho
    exact Nat.le_trans (hW.out i o hi).1 (by omega)

set_option maxRecDepth 100000 in
set_option maxHeartbeats 8000000 in
theorem walk (a0_0 : Int) (a0_1 : Int) (a0_2 : Int) (a0_3 : Int) (a0_4 : Int) (v1 : Value) (l1 : List Value) (a2 : Int) (w : World) (w0_0 : (Lit.int .i64 a0_0).wf = true) (w0_1 : (Lit.int .i64 a0_1).wf = true) (w0_2 : (Lit.int .i64 a0_2).wf = true) (w0_3 : (Lit.int .i64 a0_3).wf = true) (w0_4 : (Lit.int .u64 a0_4).wf = true) (w1 : Fx.IsSl Fx.oneV w v1 l1) (k1 : ∀ e ∈ l1, ∃ l0 : List Fx.Inp, Fx.IsSl Fx.inpC w e l0 ∧ ∀ e0 ∈ l0, Fx.Inp.ok e0) (w2 : (Lit.int .i64 a2).wf = true) :
    Calls Tryz.prog 7 #[.agg #[.int .i64 a0_0, .int .i64 a0_1, .int .i64 a0_2, .int .i64 a0_3, .int .u64 a0_4], v1, .int .i64 a2] w fun e w' => e = .returned (.bool true) ∧ Below w.heap.size w w' := by
  clear w0_0 w0_1 w0_2 w0_3
  have hs4 : 0 ≤ a0_4 ∧ a0_4 < 18446744073709551616 := by have := bounds_u64 w0_4; omega
  have HA := Lib.hid awake_ar
  have HL1 := Lib.hid w1
  have HK1 := Lib.hid (fun x hx => by obtain ⟨l, h1, -⟩ := k1 x hx; exact ⟨l, h1⟩ : ∀ x ∈ l1, ∃ l, IsSl inpC w x l)
  obtain ⟨A1, n1, rfl, -⟩ := w1
  clear k1
  go_enter Tryz.func7, Tryz.ntmps7
  go_wp2_with fail
  refine (config_any _ _ _ _ _ _).mono ?_
  rintro e v1 ⟨a, b, p, n, rfl, hsm, hb1⟩
  obtain ⟨hrt, ha3, hb3, hp4⟩ := hsm
  have hrd := rt_bd hrt
  obtain ⟨P, rfl⟩ : ∃ P : Nat, p = (P : Int) := ⟨p.toNat, by omega⟩
  have hP : P ≤ 4 := by omega
  have hP1 : 1 ≤ P := by omega
  have Hb1 := Lib.hid (unbox hb1)
  have BC1 := Lib.hid ((CfgBox.n1 w ⟨a0_0, a0_1, a0_2, a0_3, a0_4⟩ 24 rfl).nx hb1)
  obtain ⟨R, hRe⟩ : ∃ R : Nat, a * b = (R : Int) := ⟨(a * b).toNat, by have := Int.mul_nonneg (show 0 ≤ a by omega) (show 0 ≤ b by omega); omega⟩
  have hR : 1 ≤ R ∧ R ≤ 9 := by
    have h1 : (1 : Int) ≤ (R : Int) ∧ (R : Int) ≤ 9 := by
      rw [← hRe]
      have : a = 1 ∨ a = 2 ∨ a = 3 := by omega
      rcases this with rfl | rfl | rfl <;> omega
    omega
  have hre : regs a b P n = R := by unfold regs; rw [if_pos hrt, hRe]
  have HF := Lib.hid (fun L vs0 w hL hin => pframes_many a b n a0_4 P (by omega) 20 (by omega) L vs0 w hL hin)
  have HRun := Lib.hid (fun rows hok hl t w ht => arun_any a b n a0_4 P R hrt hre hs4 rows hok hl t w ht)
  have HBad := Lib.hid (fun rows hok hl bad hb1 hb2 t w ht => arun_bad a b n a0_4 P R hrt hre hs4 rows hok hl bad hb1 hb2 t w ht)
  have HFew := Lib.hid (fun rows hl => pfx_few (s := a0_4) hrt hre (by omega) (show P ≤ 6 by omega) rows hl)
  have HG := Lib.hid (And.intro hrt hre)
  clear hb1 hrt hre hRe hrd
  have g0 := BC1.out.c0
  have g1 := BC1.out.c1
  have g2 := BC1.out.c2
  have g3 := BC1.out.c3
  have g4 := BC1.out.c4
  have f0 := BC1.out.f0
  have f1 := BC1.out.f1
  have f2 := BC1.out.f2
  have f3 := BC1.out.f3
  have f4 := BC1.out.f4
  have hgl := BC1.out.has
  have hB := CfgBox.bel Hb1.out ⟨a, b, P, n, a0_4⟩ (Nat.le_refl _) rfl
  have hC := BC1.out.put ⟨a, b, P, n, a0_4⟩
  go_upto_region 2 with fail
  generalize hW : World.setCell _ _ _ = W at *
  have HB := Lib.hid hB
  have BC := Lib.hid hC
  clear hB hC hW g0 g1 g2 g3 g4 f0 f1 f2 f3 f4 hgl BC1 Hb1
  have hcl := BC.out.has
  obtain ⟨c0, c1, c2, c3, c4, -⟩ := BC.out
  have hLW : IsSl oneV W (.slice A1 l1.length n1) l1 := HL1.out.below HB.out
  have HLW := Lib.hid hLW
  have HKW := Lib.hid (fun (w' : World) (hb : Below W.heap.size W w') x hx => by obtain ⟨l, h1⟩ := HK1.out x hx; exact ⟨l, (h1.below HB.out).below hb⟩ : ∀ w', Below W.heap.size W w' → ∀ x ∈ l1, ∃ l, IsSl inpC w' x l)
  clear hLW
  go_wp2_with fail
  refine (HF.out _ l1 _ HLW.out (HKW.out _ (Below.refl _ _))).mono ?_
  rintro e W5 ⟨⟨A5, c5, rows, rfl, hle, hrs, hrok⟩, hb5⟩
  replace HB := Lib.hid (nextW HB.out hb5)
  replace BC := Lib.hid (BC.out.nx hb5)
  have HRs := Lib.hid hrs
  have HRok := Lib.hid hrok
  obtain ⟨N, hN⟩ : ∃ N, rows.length = N := ⟨_, rfl⟩
  rw [hN] at HRs hle ⊢
  have HN := Lib.hid hN
  have HCc := Lib.hid (show N ≤ c5 by obtain ⟨vs, h1, h2, -⟩ := HRs.out; obtain ⟨A, c, e, -, h3, -⟩ := h1; cases e; omega)
  have HSt := Lib.hid (fun (k : Nat) (hk : k < rows.length) (x : List Inp) (hx : rows[k]? = some x) (v u t : Value) (w : World) (hv : RgsSl w v (runW a b n a0_4 P R (rows.take k)).1) (hu : OutSl w u (runW a b n a0_4 P R (rows.take k)).2) (ht : IsSl inpC w t x) => by
    have hW := wok_run (s := a0_4) HG.out.1 HG.out.2 (show P ≤ 6 by omega) (rows.take k) (by rw [List.length_take]; omega)
    rw [List.length_take, Nat.min_eq_left (by omega)] at hW
    exact astep_new a b n a0_4 k P R HG.out.1 HG.out.2 hs4 (by omega) _ _ hW x (HRok.out x (List.mem_of_getElem? hx)) v u t w hv hu ht)
  rw [hN] at HSt
  clear hb5 hrs hrok hN c0 c1 c2 c3 c4 hcl HLW HKW HF HK1 HL1
  have hN1 : IntKind.i64.wrap ((N : Int) + 1) = (N : Int) + 1 := IntWalk.i64_in _ (by omega)
  have hN3 : ((N : Int) + 1 == 0) = false := by rw [beq_eq_false_iff_ne]; omega
  have hN5 : ¬ ((N : Int) + 1 = 0) := by omega
  have hN2 : IntKind.u64.wrap ((N : Int) + 1) = (N : Int) + 1 := by rw [IntKind.wrap_u64]; omega
  obtain ⟨x1, x2, x3⟩ := umod a2 ((N : Int) + 1) (by omega) (by omega)
  go_upto_region 4 with fail
  obtain ⟨q, hq⟩ : ∃ q : Nat, IntKind.u64.wrap a2 % ((N : Int) + 1) = (q : Int) := ⟨(IntKind.u64.wrap a2 % ((N : Int) + 1)).toNat, by omega⟩
  rw [hq] at x1 x2 x3
  simp only [x1]
  have hqN : q ≤ N := by omega
  have hq1 : (q : Int) ≤ (N : Int) := by omega
  have hqc : (q : Int) ≤ (c5 : Int) := by have := HCc.out; omega
  clear x1 x2 x3 hq hN1 hN2 hN3 hN5 w2
  have HTq := Lib.hid (rows_upto HRs.out q (by rw [HN.out]; exact hqN))
  have HTok := Lib.hid (fun r (hr : r ∈ rows.take q) => HRok.out r (List.mem_of_mem_take hr))
  have HTl := Lib.hid (show (rows.take q).length ≤ 9999 by rw [List.length_take]; omega)
  have hcl := BC.out.has
  obtain ⟨c0, c1, c2, c3, c4, -⟩ := BC.out
  generalize W5 = W6 at *
  go_cut [8, 9] (fun s8 s9 wx => ∃ (blk : Nat) (v u : Value), s8 = .pointer (some ⟨blk, 0, none⟩) ∧ s9 = .int .i64 0 ∧ W6.heap.size ≤ blk ∧ Blk wx blk 32 #[v, u] ∧ ((∃ A c, v = .slice A R c) ∧ ∃ A c, u = .slice A R c) ∧ RgsSl wx v (runW a b n a0_4 P R (rows.take q)).1 ∧ OutSl wx u (runW a b n a0_4 P R (rows.take q)).2 ∧ Below W6.heap.size W6 wx)
  case first =>
    refine tree_region (S := (fun w' => (∀ b o, b < (W6).heap.size → w'.cell? ⟨b, o, none⟩ = (W6).cell? ⟨b, o, none⟩) ∧ (∀ b o, b < (W6).heap.size → w'.frozen? ⟨b, o, none⟩ = (W6).frozen? ⟨b, o, none⟩) ∧ Below (W6).heap.size (W6) w')) (.free 0 (.free 1 (.free 2 (.free 3 (.two 4 (.free 5 (.free 6 (.free 7 (.one 8 (.one 9 (.free 10 .done)))))) 8 (.one 4 (.free 5 (.free 6 (.free 7 (.one 9 (.free 10 .done))))))))))) (by kernel_rfl) (by kernel_rfl) (fun _ _ d _ _ h => by cases d <;> exact h) (keepW0 _) (fun hS => ?_)
    simp only [written, List.getElem?_cons_succ, List.getElem?_cons_zero]
    iterate 4
     refine rw_free (v := ?_) (by rfl) ?_ ?_; rotate_left 1; focus (intro w hSw; (try dsimp only at hSw); go_simp; (try with_reducible rfl))
     (try simp only [Act.put, tA, tB, tC])
    refine rw_two ?_ ?_
    · skip
      refine rw_call (by rfl) (fun K hK => ?_)
      go_simp
      (refine (HRun.out _ HTok.out HTl.out _ _ (HTq.out.below hS.2.2)).mono ?_; rintro e w6 ⟨⟨v6, u6, rfl, hnw⟩, hb6⟩; obtain ⟨A6, c6, hv6⟩ : ∃ A c, v6 = .slice A R c := (by obtain ⟨_, _, h1, _⟩ := hnw; obtain ⟨A, c, e, -⟩ := owned_cells h1; exact ⟨A, c, e⟩); obtain ⟨A7, c7, hu6⟩ : ∃ A c, u6 = .slice A R c := (by obtain ⟨_, _, _, h1, _⟩ := hnw; obtain ⟨A, c, e, -⟩ := owned_cells h1; exact ⟨A, c, e⟩); subst hv6 hu6)
      (try go_wp2_with fail)
      refine hK.out _ _ ?_ (fun hS' => ?_)
      · (try dsimp only); first | exact keepW (by assumption) (by assumption) | exact keepB (by assumption) (by assumption) | exact keepA (by assumption) | assumption
      clear hS hK K
      have hS := hS'
      clear hS'
      iterate 3
       (try simp only [Act.put, tA, tB, tC])
       refine rw_free (v := ?_) (by rfl) ?_ ?_; rotate_left 1; focus (intro w hSw; (try dsimp only at hSw); go_simp; (try with_reducible rfl))
      (try simp only [Act.put, tA, tB, tC])
      refine rw_call (by rfl) (fun K hK => ?_)
      go_simp
      (skip)
      (try go_wp2_with fail)
      refine hK.out _ _ ?_ (fun hS' => ?_)
      · (try dsimp only); first | exact keepW (by assumption) (by assumption) | exact keepB (by assumption) (by assumption) | exact keepA (by assumption) | assumption
      clear hS hK K
      have hS := hS'
      clear hS'
      (try simp only [Act.put, tA, tB, tC])
      first | (with_reducible have hs := (by first | exact Blk.nx (Blk.new' _ #[nil0, nil0] 32 rfl).drew hb6 | exact Blk.nx (Blk.new' _ #[nil0, nil0] 32 rfl) hb6 : Blk w6 _ 32 #[nil0, nil0]); have Hs := Lib.hid hs; have k0 := hs.cell 0; have k1 := hs.cell 1; have k2 := hs.frozen 0; have k3 := hs.frozen 1) | skip
      refine rw_call (by rfl) (fun K hK => ?_)
      go_simp
      (skip)
      (try go_wp2_with fail)
      refine hK.out _ _ ?_ (fun hS' => ?_)
      · (try dsimp only); first | (have _h := Hs.out; exact keepOf ((hS.2.2.setCell (show W6.heap.size ≤ _ by first | exact Nat.le_refl _) _).setCell (show W6.heap.size ≤ _ by first | exact Nat.le_refl _) _)) | exact keepOf (below_swap hS.2.2 (by have h2 := hb6.size; first | omega | (simp at h2; omega)))
      clear hS hK K
      have hS := hS'
      clear hS'
      (try simp only [Act.put, tA, tB, tC])
      refine rw_free (v := ?_) (by rfl) ?_ ?_; rotate_left 1; focus (intro w hSw; (try dsimp only at hSw); go_simp; (try with_reducible rfl))
      (try simp only [Act.put, tA, tB, tC])
      refine rw_done ?_
      (try clear k0 k1 k2 k3)
      go_wp2_with fail
      go_meet
      exact ⟨_, .slice A6 R c6, .slice A7 R c7, rfl, rfl, (by first | exact Nat.le_refl _ | exact (nextW hS.2.2 hb6).size | (have h6 := hb6.size; have h7 := hS.2.2.size; simp at h6 h7; omega)), (by first | (have _h := Hs.out; exact (_h.put 0 (.slice A6 R c6)).put 1 (.slice A7 R c7)) | exact Blk.new' _ _ _ rfl), ⟨⟨_, _, rfl⟩, _, _, rfl⟩, (by first | (have _h := Hs.out; exact (NewW.at (hnw.old (grown_trans (grown_setA _ _ _ _) (grown_setA _ _ _ _)) (by first | (simp; done) | (simp; omega)))).1) | exact (hnw.at.1).below ((Below.refl _ _).alloc (Nat.le_refl _) _)), (by first | (have _h := Hs.out; exact (NewW.at (hnw.old (grown_trans (grown_setA _ _ _ _) (grown_setA _ _ _ _)) (by first | (simp; done) | (simp; omega)))).2) | exact (hnw.at.2).below ((Below.refl _ _).alloc (Nat.le_refl _) _)), hS.2.2⟩
    · skip
      refine rw_call (by rfl) (fun K hK => ?_)
      go_simp
      (skip)
      (try go_wp2_with fail)
      refine hK.out _ _ ?_ (fun hS' => ?_)
      · (try dsimp only); first | exact keepW (by assumption) (by assumption) | exact keepB (by assumption) (by assumption) | exact keepA (by assumption) | assumption
      clear hS hK K
      have hS := hS'
      clear hS'
      (try simp only [Act.put, tA, tB, tC])
      refine rw_call (by rfl) (fun K hK => ?_)
      go_simp
      (refine (HRun.out _ HTok.out HTl.out _ _ (HTq.out.below hS.2.2)).mono ?_; rintro e w6 ⟨⟨v6, u6, rfl, hnw⟩, hb6⟩; obtain ⟨A6, c6, hv6⟩ : ∃ A c, v6 = .slice A R c := (by obtain ⟨_, _, h1, _⟩ := hnw; obtain ⟨A, c, e, -⟩ := owned_cells h1; exact ⟨A, c, e⟩); obtain ⟨A7, c7, hu6⟩ : ∃ A c, u6 = .slice A R c := (by obtain ⟨_, _, _, h1, _⟩ := hnw; obtain ⟨A, c, e, -⟩ := owned_cells h1; exact ⟨A, c, e⟩); subst hv6 hu6)
      (try go_wp2_with fail)
      refine hK.out _ _ ?_ (fun hS' => ?_)
      · (try dsimp only); first | exact keepW (by assumption) (by assumption) | exact keepB (by assumption) (by assumption) | exact keepA (by assumption) | assumption
      clear hS hK K
      have hS := hS'
      clear hS'
      iterate 3
       (try simp only [Act.put, tA, tB, tC])
       refine rw_free (v := ?_) (by rfl) ?_ ?_; rotate_left 1; focus (intro w hSw; (try dsimp only at hSw); go_simp; (try with_reducible rfl))
      (try simp only [Act.put, tA, tB, tC])
      first | (with_reducible have hs := (by first | exact Blk.nx (Blk.new' _ #[nil0, nil0] 32 rfl).drew hb6 | exact Blk.nx (Blk.new' _ #[nil0, nil0] 32 rfl) hb6 : Blk w6 _ 32 #[nil0, nil0]); have Hs := Lib.hid hs; have k0 := hs.cell 0; have k1 := hs.cell 1; have k2 := hs.frozen 0; have k3 := hs.frozen 1) | skip
      refine rw_call (by rfl) (fun K hK => ?_)
      go_simp
      (skip)
      (try go_wp2_with fail)
      refine hK.out _ _ ?_ (fun hS' => ?_)
      · (try dsimp only); first | (have _h := Hs.out; exact keepOf ((hS.2.2.setCell (show W6.heap.size ≤ _ by first | exact Nat.le_refl _) _).setCell (show W6.heap.size ≤ _ by first | exact Nat.le_refl _) _)) | exact keepOf (below_swap hS.2.2 (by have h2 := hb6.size; first | omega | (simp at h2; omega)))
      clear hS hK K
      have hS := hS'
      clear hS'
      (try simp only [Act.put, tA, tB, tC])
      refine rw_free (v := ?_) (by rfl) ?_ ?_; rotate_left 1; focus (intro w hSw; (try dsimp only at hSw); go_simp; (try with_reducible rfl))
      (try simp only [Act.put, tA, tB, tC])
      refine rw_done ?_
      (try clear k0 k1 k2 k3)
      go_wp2_with fail
      go_meet
      exact ⟨_, .slice A6 R c6, .slice A7 R c7, rfl, rfl, (by first | exact Nat.le_refl _ | exact (nextW hS.2.2 hb6).size | (have h6 := hb6.size; have h7 := hS.2.2.size; simp at h6 h7; omega)), (by first | (have _h := Hs.out; exact (_h.put 0 (.slice A6 R c6)).put 1 (.slice A7 R c7)) | exact Blk.new' _ _ _ rfl), ⟨⟨_, _, rfl⟩, _, _, rfl⟩, (by first | (have _h := Hs.out; exact (NewW.at (hnw.old (grown_trans (grown_setA _ _ _ _) (grown_setA _ _ _ _)) (by first | (simp; done) | (simp; omega)))).1) | exact (hnw.at.1).below ((Below.refl _ _).alloc (Nat.le_refl _) _)), (by first | (have _h := Hs.out; exact (NewW.at (hnw.old (grown_trans (grown_setA _ _ _ _) (grown_setA _ _ _ _)) (by first | (simp; done) | (simp; omega)))).2) | exact (hnw.at.2).below ((Below.refl _ _).alloc (Nat.le_refl _) _)), hS.2.2⟩
  case rest =>
    obtain ⟨blk, v, u, rfl, rfl, hgb, hbk, ⟨⟨Av, cv, rfl⟩, Au, cu, rfl⟩, hr, ho, hb⟩ := hcut
    have HZ0 := Lib.hid (And.intro hbk (And.intro hr (And.intro ho hb)))
    clear hbk hr ho hb c0 c1 c2 c3 c4 hcl HTq HTok HTl
    go_wp2
    go_loopw [9, 10] (fun s9 i wr => ∃ (k : Nat) (v u : Value), q ≤ k ∧ k ≤ N ∧ s9 = .int .i64 0 ∧ i = .int .i64 k ∧ ((∃ A c, v = .slice A R c) ∧ ∃ A c, u = .slice A R c) ∧ Blk wr blk 32 #[v, u] ∧ RgsSl wr v (runW a b n a0_4 P R (rows.take k)).1 ∧ OutSl wr u (runW a b n a0_4 P R (rows.take k)).2 ∧ Below W6.heap.size W6 wr) (fun _ i _ => N - (intOf i).toNat)
    case atStart => exact ⟨q, _, _, Nat.le_refl _, hqN, rfl, rfl, ⟨⟨_, _, rfl⟩, _, _, rfl⟩, HZ0.out.1, HZ0.out.2.1, HZ0.out.2.2.1, HZ0.out.2.2.2⟩
    case round =>
      clear HZ0
      obtain ⟨k, v, u, hqk, hk, rfl, rfl, ⟨⟨Av, cv, rfl⟩, Au, cu, rfl⟩, hbx, hrg, hot, hb⟩ := hrel
      have BX := Lib.hid hbx
      have HRg := Lib.hid hrg
      have HOt := Lib.hid hot
      have HB1 := Lib.hid hb
      have BC1 := Lib.hid (BC.out.nx hb)
      clear hbx hrg hot hb
      have hxl := BX.out.lt
      have hcl := BC1.out.has
      have x0 : wr.cell? ⟨blk, 0, none⟩ = some (.slice Av R cv) := BX.out.cell 0
      have x1 : wr.cell? ⟨blk, 1, none⟩ = some (.slice Au R cu) := BX.out.cell 1
      by_cases hlt : k < N
      · have hki : (k : Int) < (N : Int) := by omega
        obtain ⟨x, hx⟩ := getE rows k N HN.out hlt
        obtain ⟨vs, hvs, hvl, hva⟩ := RowsSl.below HRs.out HB1.out
        obtain ⟨y, hy⟩ := getE vs k N (by rw [hvl, HN.out]) hlt
        have HYs := Lib.hid (hva k y x hy hx)
        obtain ⟨b1, off1, rfl, hc1⟩ := hvs.at.elem 1 oneV_len (by omega) hy
        have d0 := hc1 0 y rfl
        rw [Nat.mul_one, Nat.add_zero] at d0
        obtain ⟨Ay, cy, hye, -⟩ := HYs.out
        subst hye
        have HSk := Lib.hid (HSt.out k hlt x hx)
        have HTk := Lib.hid (take_at hx)
        obtain ⟨c0, c1, c2, c3, c4, -⟩ := BC1.out
        have hbl := World.block_lt_of_cell? _ _ d0
        have f0 := BX.out.frozen 0
        have f1 := BX.out.frozen 1
        clear hvs hvl hva hy hc1 hx
        go_wp2_with fail
        refine turn_region (S1 := (fun w' => (∀ b o, b < wr.heap.size → w'.cell? ⟨b, o, none⟩ = wr.cell? ⟨b, o, none⟩) ∧ (∀ b o, b < wr.heap.size → w'.frozen? ⟨b, o, none⟩ = wr.frozen? ⟨b, o, none⟩) ∧ Below wr.heap.size wr w')) (S2 := (fun _ => True)) 10 11 (.free 0 (.free 1 (.free 2 (.free 3 (.free 4 (.free 5 (.one 6 (.free 7 (.free 8 (.freeB 9 (.turn 10 .tail))))))))))) (by kernel_rfl) (by kernel_rfl) (fun _ _ d _ _ h => by cases d <;> exact h) (keepW0 wr) (trivial) ?_
        have hS := keepW0 wr
        have hT := trivial
        simp only [writtenU, List.drop_succ_cons, List.drop_zero, List.getElem?_cons_succ, List.getElem?_cons_zero]
        iterate 6
         refine ru_free (v := ?_) (by rfl) ?_ ?_; rotate_left 1; focus (intro w hSw; (try dsimp only at hSw); go_simp; (try with_reducible rfl))
         (try simp only [Act.put, tA, tB, tC])
        refine ru_call (by rfl) (fun K hK => ?_)
        go_simp
        (refine (HSk.out _ _ _ _ (HRg.out.below hS.2.2) (HOt.out.below hS.2.2) (HYs.out.below hS.2.2)).mono ?_; rintro e w6 ⟨⟨v6, u6, rfl, hnw6⟩, hb6⟩; have HW6 := Lib.hid (nextW hS.2.2 hb6); have HS5 := Lib.hid hS.2.2.size; have q0 : w6.cell? ⟨blk, 0, none⟩ = some (.slice Av R cv) := (HW6.out.cell (p := ⟨blk, 0, none⟩) hxl).trans x0; have q1 : w6.cell? ⟨blk, 1, none⟩ = some (.slice Au R cu) := (HW6.out.cell (p := ⟨blk, 1, none⟩) hxl).trans x1; have p0 : w6.frozen? ⟨blk, 0, none⟩ = false := (HW6.out.frozen (p := ⟨blk, 0, none⟩) hxl).trans f0; have p1 : w6.frozen? ⟨blk, 1, none⟩ = false := (HW6.out.frozen (p := ⟨blk, 1, none⟩) hxl).trans f1; obtain ⟨A6, c6, hv6⟩ : ∃ A c, v6 = .slice A R c := (by obtain ⟨_, _, h1, _⟩ := hnw6; obtain ⟨A, c, e, -⟩ := owned_cells h1; exact ⟨A, c, e⟩); obtain ⟨A7, c7, hu6⟩ : ∃ A c, u6 = .slice A R c := (by obtain ⟨_, _, _, h1, _⟩ := hnw6; obtain ⟨A, c, e, -⟩ := owned_cells h1; exact ⟨A, c, e⟩); subst hv6 hu6)
        (try go_wp2_with fail)
        refine hK.out _ _ ?_ ?_ (fun hS' hT' => ?_)
        · (try dsimp only); exact keepW hb6 hS
        · (try dsimp only); all_goals trivial
        clear hS hT hK K
        have hS := hS'
        have hT := hT'
        clear hS' hT'
        iterate 2
         (try simp only [Act.put, tA, tB, tC])
         refine ru_free (v := ?_) (by rfl) ?_ ?_; rotate_left 1; focus (intro w hSw; (try dsimp only at hSw); go_simp; (try with_reducible rfl))
        (try simp only [Act.put, tA, tB, tC])
        refine ru_freeB (v := ?_) (by rfl) ?_ ?_; rotate_left 1; focus (intro w hSw; (try dsimp only at hSw); go_simp; (try with_reducible rfl))
        (try simp only [Act.put, tA, tB, tC])
        refine ru_turn (by rfl) (fun K hK => ?_)
        go_simp
        (try go_wp2_with fail)
        refine hK.out _ _ ?_ ?_
        · (try dsimp only); all_goals trivial
        clear hK K
        (try simp only [Act.put, tA, tB, tC])
        refine ru_done ?_
        have hg7 : w6.grownBy ((w6.setCell ⟨blk, 0, none⟩ (.slice A6 R c6)).setCell ⟨blk, 1, none⟩ (.slice A7 R c7)) (some blk) := grown_trans (grown_setA _ _ _ _) (grown_setA _ _ _ _)
        have hB7 := ((nextW HB1.out HW6.out).setCell (p := ⟨blk, 0, none⟩) hgb (.slice A6 R c6)).setCell (p := ⟨blk, 1, none⟩) hgb (.slice A7 R c7)
        have hX7 : Blk ((w6.setCell ⟨blk, 0, none⟩ (.slice A6 R c6)).setCell ⟨blk, 1, none⟩ (.slice A7 R c7)) blk 32 #[.slice A6 R c6, .slice A7 R c7] := ((BX.out.nx HW6.out).put 0 (.slice A6 R c6)).put 1 (.slice A7 R c7)
        have hN7 := (hnw6.old hg7 (by have := HS5.out; omega)).at
        generalize (w6.setCell ⟨blk, 0, none⟩ (.slice A6 R c6)).setCell ⟨blk, 1, none⟩ (.slice A7 R c7) = w7 at *
        have HZ := Lib.hid (And.intro hX7 (And.intro hN7 hB7))
        clear hg7 hB7 hX7 hN7 hS hT hnw6 hb6 HW6 HS5 q0 q1 p0 p1 x0 x1 c0 c1 c2 c3 c4 d0 f0 f1 BX BC1 HRg HOt HB1
        go_wp2
        go_roundw
        case rel => exact ⟨k + 1, _, _, by omega, by omega, rfl, by go_num, ⟨⟨_, _, rfl⟩, _, _, rfl⟩, HZ.out.1, by rw [HTk.out, runW_snoc]; exact HZ.out.2.1.1, by rw [HTk.out, runW_snoc]; exact HZ.out.2.1.2, HZ.out.2.2⟩
        case measure => simp [intOf]; omega
      · obtain rfl : k = N := by omega
        rw [List.take_of_length_le (Nat.le_of_eq HN.out)] at HRg HOt
        clear x0 x1 hxl
        obtain ⟨c0, c1, c2, c3, c4, -⟩ := BC1.out
        go_wp2_with fail
        refine (HRun.out rows HRok.out (by rw [HN.out]; omega) _ _ (RowsSl.below HRs.out HB1.out)).mono ?_
        rintro e w8 ⟨⟨v8, u8, rfl, hnw8⟩, hb8⟩
        obtain ⟨A8, c8, hv8⟩ : ∃ A c, v8 = .slice A R c := (by obtain ⟨_, _, h1, _⟩ := hnw8; obtain ⟨A, c, e, -⟩ := owned_cells h1; exact ⟨A, c, e⟩)
        obtain ⟨A9, c9, hu8⟩ : ∃ A c, u8 = .slice A R c := (by obtain ⟨_, _, _, h1, _⟩ := hnw8; obtain ⟨A, c, e, -⟩ := owned_cells h1; exact ⟨A, c, e⟩)
        subst hv8 hu8
        replace BX := Lib.hid (BX.out.nx hb8)
        replace BC1 := Lib.hid (BC1.out.nx hb8)
        replace HRg := Lib.hid (HRg.out.below hb8)
        replace HOt := Lib.hid (HOt.out.below hb8)
        replace HB1 := Lib.hid (nextW HB1.out hb8)
        have HN8 := Lib.hid hnw8.at
        clear hb8 hnw8 c0 c1 c2 c3 c4 hcl HSt
        go_upto_region 12 with fail
        generalize hW : World.alloc _ _ = W9
        have hal : Below w8.heap.size w8 W9 := by rw [← hW]; exact (Below.refl _ _).alloc (Nat.le_refl _) _
        have BY := Lib.hid (show Blk W9 w8.heap.size 32 #[.slice A8 R c8, .slice A9 R c9] from by rw [← hW]; exact Blk.new' _ _ _ rfl)
        replace BX := Lib.hid (BX.out.nx hal)
        replace BC1 := Lib.hid (BC1.out.nx hal)
        replace HRg := Lib.hid (HRg.out.below hal)
        replace HOt := Lib.hid (HOt.out.below hal)
        replace HB1 := Lib.hid (nextW HB1.out hal)
        replace HN8 := Lib.hid (And.intro (HN8.out.1.below hal) (HN8.out.2.below hal))
        generalize w8.heap.size = bly at *
        clear hW hal
        have hPw : IntKind.i64.wrap ((P : Int) + 1) = (P : Int) + 1 := IntWalk.i64_in _ (by omega)
        have hmk : ∀ w, (Instr.makeSlice 55 (.int .i64 ((P : Int) + 1)) (.int .i64 ((P : Int) + 1))).run Tryz.prog w = .ok (.slice (some ⟨w.heap.size, 0, none⟩) (P + 1) (P + 1)) (w.alloc (.cells ((List.replicate (P + 1) inp0).flatMap inpC).toArray 71)) := fun w => by
          rw [show (P : Int) + 1 = ((P + 1 : Nat) : Int) by omega]; exact make_inp (P + 1) (by omega) w
        have Hmk := Lib.hid hmk
        have hcl := BC1.out.has
        obtain ⟨c0, c1, c2, c3, c4, -⟩ := BC1.out
        obtain ⟨vs, hvs, hvl, hva⟩ := RowsSl.below HRs.out HB1.out
        have HVs := Lib.hid hvs
        have HVa := Lib.hid hva
        have HVl := Lib.hid hvl
        have HOn := Lib.hid (show ∀ u ∈ vs, u.oneCell' = true from fun u hu => by
          obtain ⟨i, hi⟩ := List.getElem?_of_mem hu
          have hlt := (List.getElem?_eq_some_iff.1 hi).1
          obtain ⟨r, hr⟩ := getE rows i rows.length rfl (by omega)
          obtain ⟨A, c, e, -⟩ := hva i u r hi hr
          rw [e]; rfl)
        have HVn := Lib.hid (show vs.length ≤ 20 by rw [hvl, HN.out]; omega)
        clear hmk hvs hva hvl
        go_cut [13] (fun s13 wx => RowsSl wx s13 (rows ++ [List.replicate (P + 1) inp0]) ∧ Below W9.heap.size W9 wx)
        case first =>
          refine tree_region (S := (fun w' => (∀ b o, b < (W9).heap.size → w'.cell? ⟨b, o, none⟩ = (W9).cell? ⟨b, o, none⟩) ∧ (∀ b o, b < (W9).heap.size → w'.frozen? ⟨b, o, none⟩ = (W9).frozen? ⟨b, o, none⟩) ∧ Below (W9).heap.size (W9) w')) (.free 0 (.free 2 (.free 3 (.free 4 (.two 1 (.one 5 (.one 6 (.one 7 (.free 8 .done)))) 5 (.two 1 (.one 6 (.one 7 (.free 8 .done))) 6 (.one 1 (.one 7 (.free 8 .done))))))))) (by kernel_rfl) (by kernel_rfl) (fun _ _ d _ _ h => by cases d <;> exact h) (keepW0 _) (fun hS => ?_)
          simp only [written, List.getElem?_cons_succ, List.getElem?_cons_zero]
          iterate 4
           refine rw_free (v := ?_) (by rfl) ?_ ?_; rotate_left 1; focus (intro w hSw; (try dsimp only at hSw); go_simp; (try with_reducible rfl))
           (try simp only [Act.put, tA, tB, tC])
          refine rw_two ?_ ?_
          · skip
            refine rw_call (by rfl) (fun K hK => ?_)
            (refine app_rowsI (.const (.slice none 0 0)) (.tmp 62) (by rfl) _ _ [] (by rfl) ⟨rfl, .inl ⟨rfl, rfl⟩⟩ _ vs (by rfl) (HVs.out.below hS.2.2) HOn.out (by have := HVn.out; simp; omega) (Nat.le_refl _) ?_; intro v1 w6 ho6 hb6 hg6)
            simp only [Act.put, tA, tB, tC]
            refine hK.out _ _ ?_ (fun hS' => ?_)
            · (try dsimp only); first | exact keepW (by assumption) (by assumption) | exact keepB (by assumption) (by assumption) | exact keepA (by assumption) | assumption
            clear hS hK K
            have hS := hS'
            clear hS'
            (try simp only [Act.put, tA, tB, tC])
            refine rw_call (by rfl) (fun K hK => ?_)
            go_simp
            (simp only [Hmk.out])
            (try go_wp2_with fail)
            refine hK.out _ _ ?_ (fun hS' => ?_)
            · (try dsimp only); first | exact keepW (by assumption) (by assumption) | exact keepB (by assumption) (by assumption) | exact keepA (by assumption) | assumption
            clear hS hK K
            have hS := hS'
            clear hS'
            (try simp only [Act.put, tA, tB, tC])
            refine rw_call (by rfl) (fun K hK => ?_)
            go_simp
            (skip)
            (try go_wp2_with fail)
            refine hK.out _ _ ?_ (fun hS' => ?_)
            · (try dsimp only); first | exact keepW (by assumption) (by assumption) | exact keepB (by assumption) (by assumption) | exact keepA (by assumption) | assumption
            clear hS hK K
            have hS := hS'
            clear hS'
            (try simp only [Act.put, tA, tB, tC])
            refine rw_call (by rfl) (fun K hK => ?_)
            (simp only [List.nil_append] at ho6; (first | (have hoV := ((ho6.mono (show W9.heap.size ≤ _ from Nat.le_refl _)).alloc (.cells ((List.replicate (P + 1) inp0).flatMap inpC).toArray 71)).alloc (.cells #[.slice (some ⟨w6.heap.size, 0, none⟩) (P + 1) (P + 1)] 55); have hoY := (make_row (P + 1) (by omega) w6 W9.heap.size hb6.size).alloc (.cells #[.slice (some ⟨w6.heap.size, 0, none⟩) (P + 1) (P + 1)] 55); refine app_rowsI (.tmp 63) (.tmp 68) (by rfl) W9.heap.size v1 vs (by rfl) hoV _ [.slice (some ⟨w6.heap.size, 0, none⟩) (P + 1) (P + 1)] (by rfl) (oneV_one _ _ _ 1 (by first | rfl | simp) (by omega)) (by simp [Value.oneCell']) (by have := HVn.out; simp; omega) hS.2.2.size ?_) | (have hoV := (ho6.mono (show W9.heap.size ≤ _ by simp)).alloc (.cells #[.slice (some ⟨W9.heap.size, 0, none⟩) (P + 1) (P + 1)] 55); have hoY := (own_below (own_below (make_row (P + 1) (by omega) W9 W9.heap.size (Nat.le_refl _)) (Below.refl _ _).drew) hb6).alloc (.cells #[.slice (some ⟨W9.heap.size, 0, none⟩) (P + 1) (P + 1)] 55); refine app_rowsI (.tmp 63) (.tmp 68) (by rfl) W9.heap.size v1 vs (by rfl) hoV _ [.slice (some ⟨W9.heap.size, 0, none⟩) (P + 1) (P + 1)] (by rfl) (oneV_one _ _ _ 1 (by first | rfl | simp) (by omega)) (by simp [Value.oneCell']) (by have := HVn.out; simp; omega) hS.2.2.size ?_) | (have hoV := ho6.mono (show W9.heap.size ≤ _ by simp; omega); have hoY := own_below (own_below ((make_row (P + 1) (by omega) W9 W9.heap.size (Nat.le_refl _)).alloc (.cells #[.slice (some ⟨W9.heap.size, 0, none⟩) (P + 1) (P + 1)] 55)) (Below.refl _ _).drew) hb6; refine app_rowsI (.tmp 63) (.tmp 68) (by rfl) W9.heap.size v1 vs (by rfl) hoV _ [.slice (some ⟨W9.heap.size, 0, none⟩) (P + 1) (P + 1)] (by rfl) (((oneV_one (W9.alloc (.cells ((List.replicate (P + 1) inp0).flatMap inpC).toArray 71)) _ _ 1 (by first | rfl | simp) (by omega)).below (Below.refl _ _).drew).below hb6) (by simp [Value.oneCell']) (by have := HVn.out; simp; omega) hS.2.2.size ?_)); intro v2 w7 ho7 hb7 hg7)
            simp only [Act.put, tA, tB, tC]
            refine hK.out _ _ ?_ (fun hS' => ?_)
            · (try dsimp only); first | exact keepW (by assumption) (by assumption) | exact keepB (by assumption) (by assumption) | exact keepA (by assumption) | assumption
            clear hS hK K
            have hS := hS'
            clear hS'
            (try simp only [Act.put, tA, tB, tC])
            refine rw_free (v := ?_) (by rfl) ?_ ?_; rotate_left 1; focus (intro w hSw; (try dsimp only at hSw); go_simp; (try with_reducible rfl))
            (try simp only [Act.put, tA, tB, tC])
            refine rw_done ?_
            go_wp2_with fail
            go_meet
            exact ⟨rows_bad hoY hoV ho7 hg7 HVl.out (fun i x r e1 e2 => (HVa.out i x r e1 e2).below hS.2.2), hS.2.2⟩
          · skip
            refine rw_call (by rfl) (fun K hK => ?_)
            go_simp
            (simp only [Hmk.out])
            (try go_wp2_with fail)
            refine hK.out _ _ ?_ (fun hS' => ?_)
            · (try dsimp only); first | exact keepW (by assumption) (by assumption) | exact keepB (by assumption) (by assumption) | exact keepA (by assumption) | assumption
            clear hS hK K
            have hS := hS'
            clear hS'
            (try simp only [Act.put, tA, tB, tC])
            refine rw_two ?_ ?_
            · skip
              refine rw_call (by rfl) (fun K hK => ?_)
              (refine app_rowsI (.const (.slice none 0 0)) (.tmp 62) (by rfl) _ _ [] (by rfl) ⟨rfl, .inl ⟨rfl, rfl⟩⟩ _ vs (by rfl) (HVs.out.below hS.2.2) HOn.out (by have := HVn.out; simp; omega) (Nat.le_refl _) ?_; intro v1 w6 ho6 hb6 hg6)
              simp only [Act.put, tA, tB, tC]
              refine hK.out _ _ ?_ (fun hS' => ?_)
              · (try dsimp only); first | exact keepW (by assumption) (by assumption) | exact keepB (by assumption) (by assumption) | exact keepA (by assumption) | assumption
              clear hS hK K
              have hS := hS'
              clear hS'
              (try simp only [Act.put, tA, tB, tC])
              refine rw_call (by rfl) (fun K hK => ?_)
              go_simp
              (skip)
              (try go_wp2_with fail)
              refine hK.out _ _ ?_ (fun hS' => ?_)
              · (try dsimp only); first | exact keepW (by assumption) (by assumption) | exact keepB (by assumption) (by assumption) | exact keepA (by assumption) | assumption
              clear hS hK K
              have hS := hS'
              clear hS'
              (try simp only [Act.put, tA, tB, tC])
              refine rw_call (by rfl) (fun K hK => ?_)
              (simp only [List.nil_append] at ho6; (first | (have hoV := ((ho6.mono (show W9.heap.size ≤ _ from Nat.le_refl _)).alloc (.cells ((List.replicate (P + 1) inp0).flatMap inpC).toArray 71)).alloc (.cells #[.slice (some ⟨w6.heap.size, 0, none⟩) (P + 1) (P + 1)] 55); have hoY := (make_row (P + 1) (by omega) w6 W9.heap.size hb6.size).alloc (.cells #[.slice (some ⟨w6.heap.size, 0, none⟩) (P + 1) (P + 1)] 55); refine app_rowsI (.tmp 63) (.tmp 68) (by rfl) W9.heap.size v1 vs (by rfl) hoV _ [.slice (some ⟨w6.heap.size, 0, none⟩) (P + 1) (P + 1)] (by rfl) (oneV_one _ _ _ 1 (by first | rfl | simp) (by omega)) (by simp [Value.oneCell']) (by have := HVn.out; simp; omega) hS.2.2.size ?_) | (have hoV := (ho6.mono (show W9.heap.size ≤ _ by simp)).alloc (.cells #[.slice (some ⟨W9.heap.size, 0, none⟩) (P + 1) (P + 1)] 55); have hoY := (own_below (own_below (make_row (P + 1) (by omega) W9 W9.heap.size (Nat.le_refl _)) (Below.refl _ _).drew) hb6).alloc (.cells #[.slice (some ⟨W9.heap.size, 0, none⟩) (P + 1) (P + 1)] 55); refine app_rowsI (.tmp 63) (.tmp 68) (by rfl) W9.heap.size v1 vs (by rfl) hoV _ [.slice (some ⟨W9.heap.size, 0, none⟩) (P + 1) (P + 1)] (by rfl) (oneV_one _ _ _ 1 (by first | rfl | simp) (by omega)) (by simp [Value.oneCell']) (by have := HVn.out; simp; omega) hS.2.2.size ?_) | (have hoV := ho6.mono (show W9.heap.size ≤ _ by simp; omega); have hoY := own_below (own_below ((make_row (P + 1) (by omega) W9 W9.heap.size (Nat.le_refl _)).alloc (.cells #[.slice (some ⟨W9.heap.size, 0, none⟩) (P + 1) (P + 1)] 55)) (Below.refl _ _).drew) hb6; refine app_rowsI (.tmp 63) (.tmp 68) (by rfl) W9.heap.size v1 vs (by rfl) hoV _ [.slice (some ⟨W9.heap.size, 0, none⟩) (P + 1) (P + 1)] (by rfl) (((oneV_one (W9.alloc (.cells ((List.replicate (P + 1) inp0).flatMap inpC).toArray 71)) _ _ 1 (by first | rfl | simp) (by omega)).below (Below.refl _ _).drew).below hb6) (by simp [Value.oneCell']) (by have := HVn.out; simp; omega) hS.2.2.size ?_)); intro v2 w7 ho7 hb7 hg7)
              simp only [Act.put, tA, tB, tC]
              refine hK.out _ _ ?_ (fun hS' => ?_)
              · (try dsimp only); first | exact keepW (by assumption) (by assumption) | exact keepB (by assumption) (by assumption) | exact keepA (by assumption) | assumption
              clear hS hK K
              have hS := hS'
              clear hS'
              (try simp only [Act.put, tA, tB, tC])
              refine rw_free (v := ?_) (by rfl) ?_ ?_; rotate_left 1; focus (intro w hSw; (try dsimp only at hSw); go_simp; (try with_reducible rfl))
              (try simp only [Act.put, tA, tB, tC])
              refine rw_done ?_
              go_wp2_with fail
              go_meet
              exact ⟨rows_bad hoY hoV ho7 hg7 HVl.out (fun i x r e1 e2 => (HVa.out i x r e1 e2).below hS.2.2), hS.2.2⟩
            · skip
              refine rw_call (by rfl) (fun K hK => ?_)
              go_simp
              (skip)
              (try go_wp2_with fail)
              refine hK.out _ _ ?_ (fun hS' => ?_)
              · (try dsimp only); first | exact keepW (by assumption) (by assumption) | exact keepB (by assumption) (by assumption) | exact keepA (by assumption) | assumption
              clear hS hK K
              have hS := hS'
              clear hS'
              (try simp only [Act.put, tA, tB, tC])
              refine rw_call (by rfl) (fun K hK => ?_)
              (refine app_rowsI (.const (.slice none 0 0)) (.tmp 62) (by rfl) _ _ [] (by rfl) ⟨rfl, .inl ⟨rfl, rfl⟩⟩ _ vs (by rfl) (HVs.out.below hS.2.2) HOn.out (by have := HVn.out; simp; omega) (Nat.le_refl _) ?_; intro v1 w6 ho6 hb6 hg6)
              simp only [Act.put, tA, tB, tC]
              refine hK.out _ _ ?_ (fun hS' => ?_)
              · (try dsimp only); first | exact keepW (by assumption) (by assumption) | exact keepB (by assumption) (by assumption) | exact keepA (by assumption) | assumption
              clear hS hK K
              have hS := hS'
              clear hS'
              (try simp only [Act.put, tA, tB, tC])
              refine rw_call (by rfl) (fun K hK => ?_)
              (simp only [List.nil_append] at ho6; (first | (have hoV := ((ho6.mono (show W9.heap.size ≤ _ from Nat.le_refl _)).alloc (.cells ((List.replicate (P + 1) inp0).flatMap inpC).toArray 71)).alloc (.cells #[.slice (some ⟨w6.heap.size, 0, none⟩) (P + 1) (P + 1)] 55); have hoY := (make_row (P + 1) (by omega) w6 W9.heap.size hb6.size).alloc (.cells #[.slice (some ⟨w6.heap.size, 0, none⟩) (P + 1) (P + 1)] 55); refine app_rowsI (.tmp 63) (.tmp 68) (by rfl) W9.heap.size v1 vs (by rfl) hoV _ [.slice (some ⟨w6.heap.size, 0, none⟩) (P + 1) (P + 1)] (by rfl) (oneV_one _ _ _ 1 (by first | rfl | simp) (by omega)) (by simp [Value.oneCell']) (by have := HVn.out; simp; omega) hS.2.2.size ?_) | (have hoV := (ho6.mono (show W9.heap.size ≤ _ by simp)).alloc (.cells #[.slice (some ⟨W9.heap.size, 0, none⟩) (P + 1) (P + 1)] 55); have hoY := (own_below (own_below (make_row (P + 1) (by omega) W9 W9.heap.size (Nat.le_refl _)) (Below.refl _ _).drew) hb6).alloc (.cells #[.slice (some ⟨W9.heap.size, 0, none⟩) (P + 1) (P + 1)] 55); refine app_rowsI (.tmp 63) (.tmp 68) (by rfl) W9.heap.size v1 vs (by rfl) hoV _ [.slice (some ⟨W9.heap.size, 0, none⟩) (P + 1) (P + 1)] (by rfl) (oneV_one _ _ _ 1 (by first | rfl | simp) (by omega)) (by simp [Value.oneCell']) (by have := HVn.out; simp; omega) hS.2.2.size ?_) | (have hoV := ho6.mono (show W9.heap.size ≤ _ by simp; omega); have hoY := own_below (own_below ((make_row (P + 1) (by omega) W9 W9.heap.size (Nat.le_refl _)).alloc (.cells #[.slice (some ⟨W9.heap.size, 0, none⟩) (P + 1) (P + 1)] 55)) (Below.refl _ _).drew) hb6; refine app_rowsI (.tmp 63) (.tmp 68) (by rfl) W9.heap.size v1 vs (by rfl) hoV _ [.slice (some ⟨W9.heap.size, 0, none⟩) (P + 1) (P + 1)] (by rfl) (((oneV_one (W9.alloc (.cells ((List.replicate (P + 1) inp0).flatMap inpC).toArray 71)) _ _ 1 (by first | rfl | simp) (by omega)).below (Below.refl _ _).drew).below hb6) (by simp [Value.oneCell']) (by have := HVn.out; simp; omega) hS.2.2.size ?_)); intro v2 w7 ho7 hb7 hg7)
              simp only [Act.put, tA, tB, tC]
              refine hK.out _ _ ?_ (fun hS' => ?_)
              · (try dsimp only); first | exact keepW (by assumption) (by assumption) | exact keepB (by assumption) (by assumption) | exact keepA (by assumption) | assumption
              clear hS hK K
              have hS := hS'
              clear hS'
              (try simp only [Act.put, tA, tB, tC])
              refine rw_free (v := ?_) (by rfl) ?_ ?_; rotate_left 1; focus (intro w hSw; (try dsimp only at hSw); go_simp; (try with_reducible rfl))
              (try simp only [Act.put, tA, tB, tC])
              refine rw_done ?_
              go_wp2_with fail
              go_meet
              exact ⟨rows_bad hoY hoV ho7 hg7 HVl.out (fun i x r e1 e2 => (HVa.out i x r e1 e2).below hS.2.2), hS.2.2⟩
        case rest =>
          obtain ⟨hrb, hb⟩ := hcut
          have HRb := Lib.hid hrb
          replace BX := Lib.hid (BX.out.nx hb)
          replace BY := Lib.hid (BY.out.nx hb)
          replace BC1 := Lib.hid (BC1.out.nx hb)
          replace HRg := Lib.hid (HRg.out.below hb)
          replace HOt := Lib.hid (HOt.out.below hb)
          replace HN8 := Lib.hid (And.intro (HN8.out.1.below hb) (HN8.out.2.below hb))
          replace HB1 := Lib.hid (nextW HB1.out hb)
          clear hrb hb c0 c1 c2 c3 c4 hcl HVs HVa HVl HOn HVn Hmk hPw
          have hcl := BC1.out.has
          obtain ⟨c0, c1, c2, c3, c4, -⟩ := BC1.out
          have HBd := Lib.hid (fun t w ht => HBad.out rows HRok.out (by rw [HN.out]; omega) (List.replicate (P + 1) inp0) (by unfold inpsB; rw [List.length_replicate, decide_eq_false (by omega)]; rfl) (by rw [List.length_replicate]; omega) t w ht)
          go_wp2_with fail
          refine (HBd.out _ _ HRb.out).mono ?_
          rintro e w10 ⟨rfl, hb10⟩
          replace BX := Lib.hid (BX.out.nx hb10)
          replace BY := Lib.hid (BY.out.nx hb10)
          replace HRg := Lib.hid (HRg.out.below hb10)
          replace HOt := Lib.hid (HOt.out.below hb10)
          replace HN8 := Lib.hid (And.intro (HN8.out.1.below hb10) (HN8.out.2.below hb10))
          replace HB1 := Lib.hid (nextW HB1.out hb10)
          clear hb10 c0 c1 c2 c3 c4 hcl BC1 HBd HBad HRb
          go_upto_region 14 with fail
          generalize hW : World.alloc _ _ = W11
          have hal : Below w10.heap.size w10 W11 := by rw [← hW]; exact (Below.refl _ _).alloc (Nat.le_refl _) _
          have BZ := Lib.hid (show Blk W11 w10.heap.size 32 #[nil0, nil0] from by rw [← hW]; exact Blk.new' _ _ _ rfl)
          replace BX := Lib.hid (BX.out.nx hal)
          replace BY := Lib.hid (BY.out.nx hal)
          replace HRg := Lib.hid (HRg.out.below hal)
          replace HOt := Lib.hid (HOt.out.below hal)
          replace HN8 := Lib.hid (And.intro (HN8.out.1.below hal) (HN8.out.2.below hal))
          replace HB1 := Lib.hid (nextW HB1.out hal)
          generalize w10.heap.size = blz at *
          clear hW hal
          have HFw := Lib.hid (HFew.out rows (by rw [HN.out]; omega))
          have HSm := Lib.hid (fun v u v' u' w h1 h2 h3 h4 => sworld_any v u v' u' (runW a b n a0_4 P R rows).1 (runW a b n a0_4 P R rows).2 w h1 h2 h3 h4 HFw.out.1 HFw.out.2.1 HFw.out.2.2.1 HFw.out.2.2.2)
          clear HFew HFw
          go_wp2_with fail
          refine (HA.out _).mono ?_
          rintro e w12 ⟨rfl, hb12⟩
          replace BX := Lib.hid (BX.out.nx hb12)
          replace BY := Lib.hid (BY.out.nx hb12)
          replace BZ := Lib.hid (BZ.out.nx hb12)
          replace HRg := Lib.hid (HRg.out.below hb12)
          replace HOt := Lib.hid (HOt.out.below hb12)
          replace HN8 := Lib.hid (And.intro (HN8.out.1.below hb12) (HN8.out.2.below hb12))
          replace HB1 := Lib.hid (nextW HB1.out hb12)
          clear hb12
          have hxl := BX.out.lt
          have hyl := BY.out.lt
          have x0 : w12.cell? ⟨blk, 0, none⟩ = some (.slice Av R cv) := BX.out.cell 0
          have x1 : w12.cell? ⟨blk, 1, none⟩ = some (.slice Au R cu) := BX.out.cell 1
          have y0 : w12.cell? ⟨bly, 0, none⟩ = some (.slice A8 R c8) := BY.out.cell 0
          have y1 : w12.cell? ⟨bly, 1, none⟩ = some (.slice A9 R c9) := BY.out.cell 1
          go_wp2_with fail
          refine (HSm.out _ _ _ _ _ HRg.out HOt.out HN8.out.1 HN8.out.2).mono ?_
          rintro e w13 ⟨rfl, hb13⟩
          replace BZ := Lib.hid (BZ.out.nx hb13)
          replace HB1 := Lib.hid (nextW HB1.out hb13)
          clear hb13 x0 x1 y0 y1 hxl hyl BX BY
          have hzl := BZ.out.lt
          have z0 : w13.cell? ⟨blz, 0, none⟩ = some (.slice none 0 0) := BZ.out.cell 0
          go_wp2
          go_ret
          exact ⟨rfl, nextW HB.out HB1.out⟩

set_option maxRecDepth 100000 in
theorem lifted (os : Os) (started : os.Started) (H : Type) (enc : TypeId × Value → H) :
    ReturnsInHanded {} Tryz.checked os 7 .any (Rows.arenaPrefixSpec.pre6 enc Tryz.prog Tryz.f7 Rows.arenaPrefixRow.domain false) (Rows.arenaPrefixSpec.post enc Tryz.prog Tryz.f7 false true false false) := by
  refine returnsInHanded_of_change (C := Tryz.checked) own started (by kernel_rfl) Tryz.func7
    (ChangeSpec.witness6 (enc := enc) (C := Tryz.checked) false ⟨#[], #[.agg #[.int .i64 0, .int .i64 0, .int .i64 0, .int .i64 0, .int .u64 0], .slice none 0 0, .int .i64 0], []⟩ 8 (by kernel_rfl) (by kernel_rfl) (by kernel_rfl) (by kernel_rfl)) ?_
  intro W base args ds gs before hval0 hW hcnd _
  have hval : ∀ (j : Nat) t v, Tryz.f7.params[j]? = some t → args[j]? = some v → Value.okWide Tryz.prog W .any base t v := hval0
  have hW' := hW
  obtain ⟨p, q, hA0, hV, rfl, hfz, hnd⟩ := hW
  have hA : DataW.TrodAll enc Tryz.prog W 0 (fun _ => true) true Tryz.f7.params.toList args.toList ds p := hA0
  rw [Tryz.params7] at hA hval
  obtain ⟨v0, vs0, d0, ds0, p0, q0, hargs, rfl, rfl, h0, r0⟩ := trodAll_cons hA
  obtain ⟨v1, vs1, d1, ds1, p1, q1, rfl, rfl, rfl, h1, r1⟩ := trodAll_cons r0
  obtain ⟨v2, vs2, d2, ds2, p2, q2, rfl, rfl, rfl, h2, r2⟩ := trodAll_cons r1
  obtain ⟨rfl, rfl, rfl⟩ := trodAll_nil r2
  obtain rfl : args = #[v0, v1, v2] := by cases args; simp_all
  obtain ⟨rfl, rfl⟩ := trodVars_none hV
  obtain ⟨cs0, rfl, -⟩ := okWide_struct Tryz.underlying24 (hval 0 24 v0 rfl rfl)
  have k0 := h0
  have lt0 : ∀ x ∈ p0, x.block < W.heap.size := by obtain ⟨m, hm⟩ := k0; exact DataW.trod_lt m _ _ _ hm
  obtain ⟨fuel0, hf0⟩ := h0
  obtain ⟨l0⟩ := cs0
  obtain ⟨a0_0, a0_1, a0_2, a0_3, a0_4, rfl, w0_0, w0_1, w0_2, w0_3, w0_4⟩ := open_T24 (cs := l0) hf0
  obtain ⟨A1, len1, cap1, rfl⟩ := okWide_slice Tryz.underlying25 (hval 1 25 v1 rfl rfl)
  have k1 := h1
  have lt1 : ∀ x ∈ p1, x.block < W.heap.size := by obtain ⟨m, hm⟩ := k1; exact DataW.trod_lt m _ _ _ hm
  obtain ⟨l1, w1, o1⟩ : ∃ l0 : List Value, Fx.IsSl Fx.oneV W (.slice A1 len1 cap1) l0 ∧ ∀ e0 ∈ l0, ∃ l1 : List Fx.Inp, Fx.IsSl Fx.inpC W e0 l1 ∧ ∀ e1 ∈ l1, Fx.Inp.ok e1 := by
    obtain ⟨fuel, hf⟩ := h1
    exact open_sn25 hf
  obtain ⟨a2, rfl, rfl, rfl, w2⟩ := open_int Tryz.underlying3 (hval 2 3 v2 rfl rfl) h2
  clear hA0 hval0
  refine (walk a0_0 a0_1 a0_2 a0_3 a0_4 _ l1 a2 W w0_0 w0_1 w0_2 w0_3 w0_4 w1 o1 w2).mono fun e W' ⟨he, bel⟩ => ?_
  subst he
  exact ⟨_, rfl, _, _, _, [], _, [], hW', trodAll_mk1 (shut_bool Tryz.underlying4 _), (trodAll_cons_mk (Below.trod laidOut (by kernel_rfl) (of_decide_eq_true (by kernel_rfl)) k0 bel lt0) (trodAll_cons_mk (Below.trod laidOut (by kernel_rfl) (of_decide_eq_true (by kernel_rfl)) k1 bel lt1) (trodAll_cons_mk (shut_int Tryz.underlying3 w2) trodAll_mk0))), rfl, bel.frame _, fun h => by cases h⟩

theorem over : Rows.arenaPrefixRow.holds Tryz.pinned (OpenSpec.ofChange Rows.arenaPrefixSpec) :=
  OpenClaim.holds_of_wide 7 Tryz.f7 rfl rfl rfl rfl rfl rfl rfl ⟨rfl, rfl, rfl, rfl, rfl⟩ rfl rfl rfl rfl rfl (by kernel_rfl) Tryz.func7 (by kernel_rfl)
    (of_decide_eq_true (by kernel_rfl)) (by unfold Func.isWrapper; first | (rw [if_pos (by decide +kernel)]; kernel_rfl) | (rw [if_neg (by decide +kernel)]; exact ⟨rfl, rfl⟩))
    (fun os started H enc _ => lifted os started H enc)

end Go.Proofs.YtfpofegfbinalaaGreat.arenaPrefix
namespace Go.Proofs.YtfpofegfbinalaaGreat
theorem arenaPrefix_proved : Rows.ArenaPrefixSaid := arenaPrefix.over
end Go.Proofs.YtfpofegfbinalaaGreat
