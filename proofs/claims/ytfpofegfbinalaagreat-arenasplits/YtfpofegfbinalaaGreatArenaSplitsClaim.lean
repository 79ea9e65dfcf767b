/- joustlaw10.ArenaSplits returns true for every input; no conditions. -/
import Derived.Test.YtfpofegfbinalaaGreatM60
import Derived.Deep.DeepCutAuto
import Derived.Test.YtfpofegfbinalaaGreatRows
import Derived.WalkKit
import Derived.ProofKit
import Derived.OpenShut
import Derived.ShutString
import Derived.ChangeOld
import Derived.Below
import Derived.Deep.Slices
namespace Go.Proofs.YtfpofegfbinalaaGreat.arenaSplits
open Go.ChangeShapes Go.WideShapes Go.ChangeAt Go.RowKit
open Go.ChangeMaps (open_string shut_string)
set_option linter.unusedVariables false
set_option maxRecDepth 100000

theorem own : ownKnob Tryz.prog.godebug = none := by kernel_rfl
theorem laidOut : laidOutB Tryz.prog = true := by kernel_rfl
open Fx (IsRow)
theorem open_T24 {H : Type} {enc : TypeId × Value → H} {W : World} {fuel : Nat} {cs : List Value} {x : DataW H × List MemPlace} (h : DataW.trod enc Tryz.prog W 0 (fun _ => true) true fuel 24 cs = some x) :
    ∃ (a0 : Int) (a1 : Int) (a2 : Int) (a3 : Int) (a4 : Int), cs = [.int .i64 a0, .int .i64 a1, .int .i64 a2, .int .i64 a3, .int .u64 a4] ∧ (Lit.int .i64 a0).wf = true ∧ (Lit.int .i64 a1).wf = true ∧ (Lit.int .i64 a2).wf = true ∧ (Lit.int .i64 a3).wf = true ∧ (Lit.int .u64 a4).wf = true := by
  obtain ⟨xs, n, -, -, hl, hxl, hg⟩ := DataW.trod_struct Tryz.underlying24 h
  have hl' : cs.length = 5 := hl.trans (by kernel_rfl)
  have c3 : Tryz.prog.cellsOf 3 = 1 := by kernel_rfl
  have c22 : Tryz.prog.cellsOf 22 = 1 := by kernel_rfl
  clear hl h
  match cs, hl' with
  | [z0, z1, z2, z3, z4], _ =>
    have g0 : DataW.trod enc Tryz.prog W 0 (fun _ => true) true n 3 (([z0, z1, z2, z3, z4].drop 0).take (Tryz.prog.cellsOf 3)) = xs[0]? := hg 0 _ rfl
    rw [c3, List.getElem?_eq_getElem (show 0 < xs.length by rw [hxl]; decide)] at g0
    have g1 : DataW.trod enc Tryz.prog W 0 (fun _ => true) true n 3 (([z0, z1, z2, z3, z4].drop 1).take (Tryz.prog.cellsOf 3)) = xs[1]? := hg 1 _ rfl
    rw [c3, List.getElem?_eq_getElem (show 1 < xs.length by rw [hxl]; decide)] at g1
    have g2 : DataW.trod enc Tryz.prog W 0 (fun _ => true) true n 3 (([z0, z1, z2, z3, z4].drop 2).take (Tryz.prog.cellsOf 3)) = xs[2]? := hg 2 _ rfl
    rw [c3, List.getElem?_eq_getElem (show 2 < xs.length by rw [hxl]; decide)] at g2
    have g3 : DataW.trod enc Tryz.prog W 0 (fun _ => true) true n 3 (([z0, z1, z2, z3, z4].drop 3).take (Tryz.prog.cellsOf 3)) = xs[3]? := hg 3 _ rfl
    rw [c3, List.getElem?_eq_getElem (show 3 < xs.length by rw [hxl]; decide)] at g3
    have g4 : DataW.trod enc Tryz.prog W 0 (fun _ => true) true n 22 (([z0, z1, z2, z3, z4].drop 4).take (Tryz.prog.cellsOf 22)) = xs[4]? := hg 4 _ rfl
    rw [c22, List.getElem?_eq_getElem (show 4 < xs.length by rw [hxl]; decide)] at g4
    obtain ⟨a0, e0, -, w0⟩ := DataW.trod_int (cs := [z0]) Tryz.underlying3 g0
    simp only [List.cons.injEq, and_true] at e0
    subst e0
    clear g0
    obtain ⟨a1, e1, -, w1⟩ := DataW.trod_int (cs := [z1]) Tryz.underlying3 g1
    simp only [List.cons.injEq, and_true] at e1
    subst e1
    clear g1
    obtain ⟨a2, e2, -, w2⟩ := DataW.trod_int (cs := [z2]) Tryz.underlying3 g2
    simp only [List.cons.injEq, and_true] at e2
    subst e2
    clear g2
    obtain ⟨a3, e3, -, w3⟩ := DataW.trod_int (cs := [z3]) Tryz.underlying3 g3
    simp only [List.cons.injEq, and_true] at e3
    subst e3
    clear g3
    obtain ⟨a4, e4, -, w4⟩ := DataW.trod_int (cs := [z4]) Tryz.underlying22 g4
    simp only [List.cons.injEq, and_true] at e4
    subst e4
    clear g4
    exact ⟨a0, a1, a2, a3, a4, rfl, w0, w1, w2, w3, w4⟩

theorem open_T71 {H : Type} {enc : TypeId × Value → H} {W : World} {fuel : Nat} {cs : List Value} {x : DataW H × List MemPlace} (h : DataW.trod enc Tryz.prog W 0 (fun _ => true) true fuel 71 cs = some x) :
    ∃ (a0 : Int) (a1 : Int) (a2 : Bool), cs = [.int .i64 a0, .int .i64 a1, .bool a2] ∧ (Lit.int .i64 a0).wf = true ∧ (Lit.int .i64 a1).wf = true := by
  obtain ⟨xs, n, -, -, hl, hxl, hg⟩ := DataW.trod_struct Tryz.underlying71 h
  have hl' : cs.length = 3 := hl.trans (by kernel_rfl)
  have c3 : Tryz.prog.cellsOf 3 = 1 := by kernel_rfl
  have c4 : Tryz.prog.cellsOf 4 = 1 := by kernel_rfl
  clear hl h
  match cs, hl' with
  | [z0, z1, z2], _ =>
    have g0 : DataW.trod enc Tryz.prog W 0 (fun _ => true) true n 3 (([z0, z1, z2].drop 0).take (Tryz.prog.cellsOf 3)) = xs[0]? := hg 0 _ rfl
    rw [c3, List.getElem?_eq_getElem (show 0 < xs.length by rw [hxl]; decide)] at g0
    have g1 : DataW.trod enc Tryz.prog W 0 (fun _ => true) true n 3 (([z0, z1, z2].drop 1).take (Tryz.prog.cellsOf 3)) = xs[1]? := hg 1 _ rfl
    rw [c3, List.getElem?_eq_getElem (show 1 < xs.length by rw [hxl]; decide)] at g1
    have g2 : DataW.trod enc Tryz.prog W 0 (fun _ => true) true n 4 (([z0, z1, z2].drop 2).take (Tryz.prog.cellsOf 4)) = xs[2]? := hg 2 _ rfl
    rw [c4, List.getElem?_eq_getElem (show 2 < xs.length by rw [hxl]; decide)] at g2
    obtain ⟨a0, e0, -, w0⟩ := DataW.trod_int (cs := [z0]) Tryz.underlying3 g0
    simp only [List.cons.injEq, and_true] at e0
    subst e0
    clear g0
    obtain ⟨a1, e1, -, w1⟩ := DataW.trod_int (cs := [z1]) Tryz.underlying3 g1
    simp only [List.cons.injEq, and_true] at e1
    subst e1
    clear g1
    obtain ⟨a2, e2, -⟩ := DataW.trod_bool (cs := [z2]) Tryz.underlying4 g2
    simp only [List.cons.injEq, and_true] at e2
    subst e2
    clear g2
    exact ⟨a0, a1, a2, rfl, w0, w1⟩

theorem open_sn55 {H : Type} {enc : TypeId × Value → H} {W : World} {fuel : Nat} {v : Value} {x : DataW H × List MemPlace} (h : DataW.trod enc Tryz.prog W 0 (fun _ => true) true fuel 55 [v] = some x) :
    ∃ l0 : List Fx.Inp, Fx.IsSl Fx.inpC W v l0 ∧ ∀ e0 ∈ l0, Fx.Inp.ok e0 := by
  rcases Go.Deep.open_slice Tryz.underlying55 h with ⟨hcs, _⟩ | ⟨a, len, cap, m, n, D, Pl, hcs, _, hl, hm, hmm, _, hel⟩
  · simp at hcs
    subst hcs
    exact ⟨[], Fx.IsSl.nil _ _, by simp⟩
  · simp at hcs
    subst hcs
    have hmc : m = cap := hmm
    have hce : Tryz.prog.cellsOf 71 = 3 := by kernel_rfl
    refine Fx.sl_of_cells (base := 0) default 3 Fx.inpC_len (by omega) hl fun i hi => ?_
    obtain ⟨cs', hc, ht⟩ := hel i (by omega)
    rw [hce] at hc
    obtain ⟨a0, a1, a2, rfl, w0, w1⟩ := open_T71 ht
    exact ⟨⟨a0, a1, a2⟩, ⟨w0, w1⟩, hc⟩

theorem open_sn25 {H : Type} {enc : TypeId × Value → H} {W : World} {fuel : Nat} {v : Value} {x : DataW H × List MemPlace} (h : DataW.trod enc Tryz.prog W 0 (fun _ => true) true fuel 25 [v] = some x) :
    ∃ l0 : List Value, Fx.IsSl Fx.oneV W v l0 ∧ ∀ e0 ∈ l0, ∃ l1 : List Fx.Inp, Fx.IsSl Fx.inpC W e0 l1 ∧ ∀ e1 ∈ l1, Fx.Inp.ok e1 := by
  rcases Go.Deep.open_slice Tryz.underlying25 h with ⟨hcs, _⟩ | ⟨a, len, cap, m, n, D, Pl, hcs, _, hl, hm, hmm, _, hel⟩
  · simp at hcs
    subst hcs
    exact ⟨[], Fx.IsSl.nil _ _, by simp⟩
  · simp at hcs
    subst hcs
    have hmc : m = cap := hmm
    have hce : Tryz.prog.cellsOf 55 = 1 := by kernel_rfl
    refine Fx.sl_of_cells (base := 0) (.slice none 0 0) 1 Fx.oneV_len (by omega) hl fun i hi => ?_
    obtain ⟨cs', hc, ht⟩ := hel i (by omega)
    rw [hce] at hc
    obtain ⟨y, rfl⟩ : ∃ y, cs' = [y] := by
      obtain ⟨_, hlen, _⟩ := World.cells?_some hc
      match cs', hlen with
      | [y], _ => exact ⟨y, rfl⟩
    exact ⟨y, open_sn55 ht, hc⟩

open Fx

theorem appL_Regs {w : World} {ops : Array Oper} {rest : List Oper} {o : Oper} {a : Act} {Q : Exit → Act → World → Prop} (hgd : o.guard = none) (s x : Operand)
    (ho : o.op = .call { callee := .builtin .append, args := #[s, x], argTypes := #[29, 29] }) (base : Nat) (v : Value) (es : List Reg) (hs : a.eval s = v) (hown : w.ownsRow base 59 2 v es.length (es.flatMap regC))
    (u : Value) (fs : List Reg) (hx : a.eval x = u) (hu : IsSl regC w u fs) (h1c : ∀ r ∈ fs, r.list.oneCell' = true) (hlen : es.length + fs.length ≤ 1000000) (hbase : base ≤ w.heap.size)
    (h : ∀ v' w', w'.ownsRow base 59 2 v' (es ++ fs).length ((es ++ fs).flatMap regC) → Below base w w' → w.grownBy w' v.ownBlock → wpList Tryz.prog ops Q rest (a.put o.dst v') w') : wpList Tryz.prog ops Q (o :: rest) a w :=
  wpList_plain hgd fun _ hK => app_Regs s x ho base v es hs hown u fs hx hu h1c hlen hbase fun v' w' h1 h2 h3 => hK _ _ (h v' w' h1 h2 h3)

theorem own_some {w : World} {B e size n : Nat} {v : Value} {xs : List Value} (h : w.ownsRow B e size v n xs) (hn : 0 < n) : ∃ g cap, v = .slice (some ⟨g, 0, none⟩) n cap := by
  rcases h.2 with ⟨-, h3⟩ | ⟨g, cap, cur, hv, -⟩
  · omega
  · exact ⟨g, cap, hv⟩

theorem new_mapT {B B' R : Nat} {w w' : World} {v u : Value} {fs : List (Int × List Ent)} {os : List (List Crs)} (h : NewW B R w v u fs os) (hk : ∀ {e size : Nat} {x : Value} {n : Nat} {xs : List Value}, e ≠ 32 → w.ownsRow B e size x n xs → w'.ownsRow B' e size x n xs) : NewW B' R w' v u fs os := by
  obtain ⟨rs, vs, h1, h2, hl, h3, h4⟩ := h
  exact ⟨rs, vs, hk (by decide) h1, hk (by decide) h2, hl, fun i g hg => by obtain ⟨x, a, b⟩ := h3 i g hg; exact ⟨x, a, hk (by decide) b⟩, fun i o ho => by obtain ⟨x, a, b⟩ := h4 i o ho; exact ⟨x, a, hk (by decide) b⟩⟩

theorem new_pair {B R g : Nat} {w : World} {v : Value} {fs : List (Int × List Ent)} {rs : List Reg} (h1 : w.ownsRow B 59 2 v R (rs.flatMap regC)) (e1 : rs.length = R) (e3 : fs.length = R) (h3 : ∀ (i : Nat) g, fs[i]? = some g → ∃ vl, rs[i]? = some ⟨g.1, vl⟩ ∧ w.ownsRow B 45 9 vl g.2.length (g.2.flatMap entC)) (hg : w.ownsRow B 51 1 (.slice (some ⟨g, 0, none⟩) R R) R (List.replicate R nil0)) : NewW B R w v (.slice (some ⟨g, 0, none⟩) R R) fs (List.replicate R []) := by
  refine ⟨rs, List.replicate R nil0, h1, hg, ⟨e1, List.length_replicate, e3, List.length_replicate⟩, h3, fun i o ho => ?_⟩
  have hi := (List.getElem?_eq_some_iff.1 ho).1
  rw [List.length_replicate] at hi
  rw [List.getElem?_replicate, if_pos hi] at ho
  cases ho
  exact ⟨nil0, by rw [List.getElem?_replicate, if_pos hi], World.ownsRow_nil _ _ _ _⟩

theorem new_fresh {B R g : Nat} {w w' : World} {v u : Value} {fs : List (Int × List Ent)} {os : List (List Crs)} (h : NewW B R w v u fs os) (hb : Below w.heap.size w w') (hg : w'.ownsRow B 51 1 (.slice (some ⟨g, 0, none⟩) R R) R (List.replicate R nil0)) : NewW B R w' v (.slice (some ⟨g, 0, none⟩) R R) fs (List.replicate R []) := by
  obtain ⟨rs, vs, h1, h2, ⟨e1, e2, e3, e4⟩, h3, h4⟩ := h
  exact new_pair (own_below h1 hb) e1 e3 (fun i g hg => by obtain ⟨x, a, b⟩ := h3 i g hg; exact ⟨x, a, own_below b hb⟩) hg

theorem new_outs {B R g c : Nat} {w w' : World} {u : Value} {fs : List (Int × List Ent)} {os : List (List Crs)} (h : NewW B R w (.slice (some ⟨g, 0, none⟩) R c) u fs os) (hs : Spare g none w w') : OutSl w' u os := by
  obtain ⟨rs, vs, h1, h2, ⟨e1, e2, e3, e4⟩, h3, h4⟩ := h
  have hk : ∀ {e size : Nat} {x : Value} {n : Nat} {xs : List Value}, 59 ≠ e → w.ownsRow B e size x n xs → w'.ownsRow B e size x n xs := fun he hx => hs.row hx (fun hh => by
    rcases own_apartA h1 hx he with h5 | h5
    · rw [h5] at hh; cases hh
    · exact h5 hh.symm) (.inl rfl)
  refine ⟨vs, owned_sl (by rw [flat_oneV, e2]; exact hk (by decide) h2), by rw [e2, e4], fun i x o hx ho => ?_⟩
  obtain ⟨vo, e, ho'⟩ := h4 i o ho
  rw [e] at hx
  cases hx
  exact owned_sl (hk (by decide) ho')

theorem spare_newer {b g : Nat} {o : Option Nat} {w w1 w2 : World} (h : Spare b o w w1) (hg : w1.grownBy w2 (some g)) (hge : w.heap.size ≤ g) : Spare b o w w2 :=
  ⟨Nat.le_trans h.size hg.size, fun k hk h1 h2 => by
    rw [hg.block k (Nat.lt_of_lt_of_le hk h.size) (fun e => by cases e; omega)]
    exact h.block k hk h1 h2⟩

theorem spl_few {a b n s : Int} {P R : Nat} (h : rt a b P n = true) (hR : regs a b P n = R) (hR16 : R ≤ 16) (hP : P ≤ 6) (rows : List (List Inp)) (hl : rows.length ≤ 9999) : (runW a b n s P R rows).1.length ≤ 1000 ∧ (∀ g ∈ (runW a b n s P R rows).1, g.2.length ≤ 1000) ∧ (runW a b n s P R rows).2.length ≤ 1000 ∧ ∀ g ∈ (runW a b n s P R rows).2, g.length ≤ 1000 := by
  have hW := wok_run (s := s) h hR hP rows hl
  refine ⟨by rw [hW.lenF]; omega, fun g hg => ?_, by rw [hW.lenO]; omega, fun o ho => ?_⟩
  · obtain ⟨i, hi⟩ := List.getElem?_of_mem hg
    obtain ⟨-, h1, -, h3⟩ := hW.reg i g hi
    exact Nat.le_trans (okl_len h1 h3) (by omega)
  · obtain ⟨i, hi⟩ := List.getElem?_of_mem ho
    exact Nat.le_trans (hW.out i o hi).1 (by omega)

set_option maxRecDepth 100000 in
set_option maxHeartbeats 16000000 in
theorem walk (a0_0 : Int) (a0_1 : Int) (a0_2 : Int) (a0_3 : Int) (a0_4 : Int) (v1 : Value) (l1 : List Value) (w : World) (w0_0 : (Lit.int .i64 a0_0).wf = true) (w0_1 : (Lit.int .i64 a0_1).wf = true) (w0_2 : (Lit.int .i64 a0_2).wf = true) (w0_3 : (Lit.int .i64 a0_3).wf = true) (w0_4 : (Lit.int .u64 a0_4).wf = true) (w1 : Fx.IsSl Fx.oneV w v1 l1) (k1 : ∀ e ∈ l1, ∃ l0 : List Fx.Inp, Fx.IsSl Fx.inpC w e l0 ∧ ∀ e0 ∈ l0, Fx.Inp.ok e0) :
    Calls Tryz.prog 6 #[.agg #[.int .i64 a0_0, .int .i64 a0_1, .int .i64 a0_2, .int .i64 a0_3, .int .u64 a0_4], v1] w fun e w' => e = .returned (.bool true) ∧ Below w.heap.size w w' := by
  clear w0_0 w0_1 w0_2 w0_3
  have hs4 : 0 ≤ a0_4 ∧ a0_4 < 18446744073709551616 := by have := bounds_u64 w0_4; omega
  have HA := Lib.hid awake_ar
  have HL1 := Lib.hid w1
  have HK1 := Lib.hid (fun x hx => by obtain ⟨l, h1, -⟩ := k1 x hx; exact ⟨l, h1⟩ : ∀ x ∈ l1, ∃ l, IsSl inpC w x l)
  obtain ⟨A1, n1, rfl, -⟩ := w1
  clear k1
  go_enter Tryz.func6, Tryz.ntmps6
  go_wp2_with fail
  refine (config_any _ _ _ _ _ _).mono ?_
  rintro e v1 ⟨a, b, p, n, rfl, hsm, hb1⟩
  obtain ⟨hrt, ha3, hb3, hp4⟩ := hsm
  have hrd := rt_bd hrt
  obtain ⟨P, rfl⟩ : ∃ P : Nat, p = (P : Int) := ⟨p.toNat, by omega⟩
  have hP : P ≤ 4 := by omega
  have hP1 : 1 ≤ P := by omega
  have Hb1 := Lib.hid (unbox hb1)
  have BC1 := Lib.hid ((CfgBox.n1 w ⟨a0_0, a0_1, a0_2, a0_3, a0_4⟩ 24 rfl).nx hb1)
  obtain ⟨R, hRe⟩ : ∃ R : Nat, a * b = (R : Int) := ⟨(a * b).toNat, by have := Int.mul_nonneg (show 0 ≤ a by omega) (show 0 ≤ b by omega); omega⟩
  have hR : 1 ≤ R ∧ R ≤ 9 := by
    have h1 : (1 : Int) ≤ (R : Int) ∧ (R : Int) ≤ 9 := by
      rw [← hRe]
      have : a = 1 ∨ a = 2 ∨ a = 3 := by omega
      rcases this with rfl | rfl | rfl <;> omega
    omega
  have hre : regs a b P n = R := by unfold regs; rw [if_pos hrt, hRe]
  have HF := Lib.hid (fun L vs0 w hL hin => pframes_new a b n a0_4 P (by omega) 15 (by omega) L vs0 w hL hin)
  have HFew := Lib.hid (fun rows hl => spl_few (s := a0_4) hrt hre (by omega) (show P ≤ 6 by omega) rows hl)
  have HNg := Lib.hid (fun w => new_yes a b P n a0_4 w hrt)
  have HBg := Lib.hid (fun w => begin_new a b n a0_4 P R hrt hre w)
  have HG := Lib.hid (And.intro hrt hre)
  clear hb1 hrt hre hRe hrd
  have g0 := BC1.out.c0
  have g1 := BC1.out.c1
  have g2 := BC1.out.c2
  have g3 := BC1.out.c3
  have g4 := BC1.out.c4
  have f0 := BC1.out.f0
  have f1 := BC1.out.f1
  have f2 := BC1.out.f2
  have f3 := BC1.out.f3
  have f4 := BC1.out.f4
  have hgl := BC1.out.has
  have hB := CfgBox.bel Hb1.out ⟨a, b, P, n, a0_4⟩ (Nat.le_refl _) rfl
  have hC := BC1.out.put ⟨a, b, P, n, a0_4⟩
  go_upto_region 2 with fail
  generalize hW : World.setCell _ _ _ = W at *
  have HB := Lib.hid hB
  have BC := Lib.hid hC
  clear hB hC hW g0 g1 g2 g3 g4 f0 f1 f2 f3 f4 hgl BC1 Hb1
  have hcl := BC.out.has
  obtain ⟨c0, c1, c2, c3, c4, -⟩ := BC.out
  have hLW : IsSl oneV W (.slice A1 l1.length n1) l1 := HL1.out.below HB.out
  have HLW := Lib.hid hLW
  have HKW := Lib.hid (fun (w' : World) (hb : Below W.heap.size W w') x hx => by obtain ⟨l, h1⟩ := HK1.out x hx; exact ⟨l, (h1.below HB.out).below hb⟩ : ∀ w', Below W.heap.size W w' → ∀ x ∈ l1, ∃ l, IsSl inpC w' x l)
  clear hLW
  go_wp2_with fail
  refine (HNg.out _).mono ?_
  rintro e v2 ⟨rfl, hb⟩
  have HV := Lib.hid hb
  replace HB := Lib.hid (nextW HB.out hb)
  replace BC := Lib.hid (BC.out.nx hb)
  clear hb c0 c1 c2 c3 c4 hcl
  go_upto_region 3 with fail
  generalize hW2 : World.alloc _ _ = W2
  have hal : Below v2.heap.size v2 W2 := by rw [← hW2]; exact (Below.refl _ _).alloc (Nat.le_refl _) _
  have BG := Lib.hid (show Blk W2 v2.heap.size 39 #[.int .i64 a, .int .i64 b, .int .i64 P, .int .i64 n, .int .u64 a0_4] from by rw [← hW2]; exact Blk.new' _ _ _ rfl)
  replace HV := Lib.hid (nextW HV.out hal)
  replace HB := Lib.hid (nextW HB.out hal)
  replace BC := Lib.hid (BC.out.nx hal)
  generalize v2.heap.size = gb at *
  clear hW2 hal
  have hcl := BC.out.has
  obtain ⟨c0, c1, c2, c3, c4, -⟩ := BC.out
  go_wp2_with fail
  refine (HBg.out _).mono ?_
  rintro e v3 ⟨⟨gv, gu, rfl, hnw⟩, hb⟩
  have HNw := Lib.hid (hnw.mono (show w.heap.size ≤ _ from HB.out.size))
  replace HV := Lib.hid (nextW HV.out hb)
  replace HB := Lib.hid (nextW HB.out hb)
  replace BC := Lib.hid (BC.out.nx hb)
  replace BG := Lib.hid (BG.out.nx hb)
  clear hb hnw c0 c1 c2 c3 c4 hcl HBg HNg
  have hgb0 : gb < v3.heap.size := BG.out.lt
  have hcb0 : w.heap.size < v3.heap.size := BC.out.has
  go_upto_region 4 with fail
  generalize hW2 : World.alloc _ _ = W3
  have hal : Below v3.heap.size v3 W3 := by rw [← hW2]; exact (Below.refl _ _).alloc (Nat.le_refl _) _
  have BX := Lib.hid (show Blk W3 v3.heap.size 32 #[.slice (some ⟨gv, 0, none⟩) R R, .slice (some ⟨gu, 0, none⟩) R R] from by rw [← hW2]; exact Blk.new' _ _ _ rfl)
  replace HNw := Lib.hid (HNw.out.below hal)
  replace HV := Lib.hid (nextW HV.out hal)
  replace HB := Lib.hid (nextW HB.out hal)
  replace BC := Lib.hid (BC.out.nx hal)
  replace BG := Lib.hid (BG.out.nx hal)
  generalize v3.heap.size = blk at *
  clear hW2 hal
  go_wp2_with fail
  refine (HA.out _).mono ?_
  rintro e v4 ⟨rfl, hb⟩
  replace HNw := Lib.hid (HNw.out.below hb)
  replace HV := Lib.hid (nextW HV.out hb)
  replace HB := Lib.hid (nextW HB.out hb)
  replace BC := Lib.hid (BC.out.nx hb)
  replace BG := Lib.hid (BG.out.nx hb)
  replace BX := Lib.hid (BX.out.nx hb)
  clear hb HA
  have hcl := BC.out.has
  obtain ⟨c0, c1, c2, c3, c4, -⟩ := BC.out
  go_wp2_with fail
  refine (HF.out _ l1 _ (HLW.out.below HV.out) (HKW.out _ HV.out)).mono ?_
  rintro e v5 ⟨⟨A5, c5, rows, rfl, hle, hrs, hrok⟩, hb5⟩
  have HRs := Lib.hid (hrs.map (B' := blk + 1) fun _ hx => hx.mono (show blk + 1 ≤ _ from BX.out.lt))
  have HRok := Lib.hid hrok
  replace HNw := Lib.hid (HNw.out.below hb5)
  replace HB := Lib.hid (nextW HB.out hb5)
  replace BC := Lib.hid (BC.out.nx hb5)
  replace BG := Lib.hid (BG.out.nx hb5)
  replace BX := Lib.hid (BX.out.nx hb5)
  obtain ⟨N, hN⟩ : ∃ N, rows.length = N := ⟨_, rfl⟩
  rw [hN] at HRs hle ⊢
  have HN := Lib.hid hN
  clear hb5 hrs hrok hN c0 c1 c2 c3 c4 hcl HLW HKW HF HK1 HL1 HV
  have hxl := BX.out.lt
  have x0 : v5.cell? ⟨blk, 0, none⟩ = some (.slice (some ⟨gv, 0, none⟩) R R) := BX.out.cell 0
  have x1 : v5.cell? ⟨blk, 1, none⟩ = some (.slice (some ⟨gu, 0, none⟩) R R) := BX.out.cell 1
  obtain ⟨rs, us, hrow, hous, ⟨e1, e2, e3, e4⟩, hreg, hout⟩ := HNw.out
  go_wp2_with (at_builtin; go_must (refine appL_Regs (by rfl) (.const (.slice none 0 0)) (.tmp 44) (by rfl) _ _ [] (by rfl) ⟨rfl, .inl ⟨rfl, rfl⟩⟩ _ rs (by rfl) (own_slR hrow e1) (fun q hq => ?_) (by simp; omega) (Nat.le_refl _) ?_))
  · obtain ⟨i, hi⟩ := List.getElem?_of_mem hq
    obtain ⟨g, hg⟩ := getE (runW a b n a0_4 P R []).1 i R e3 (by have := (List.getElem?_eq_some_iff.1 hi).1; omega)
    obtain ⟨vl, h1, h2⟩ := hreg i g hg
    rw [h1] at hi
    cases hi
    obtain ⟨A, c, h3, -⟩ := owned_sl h2
    rw [h3]
    rfl
  intro v6 w6 ho6 hb6 hg6
  obtain ⟨gA, cA, hv6⟩ := own_some ho6 (by omega)
  (try rw [e1] at ho6); (try rw [e1] at hv6)
  subst hv6
  have hgA0 : blk < gA := Nat.lt_of_lt_of_le BX.out.lt (ho6.lt gA rfl).1
  have HEl := Lib.hid (fun (i : Nat) g (hg : (runW a b n a0_4 P R []).1[i]? = some g) => by obtain ⟨x, y, z⟩ := hreg i g hg; exact (⟨x, y, own_below z hb6⟩ : ∃ vl, rs[i]? = some ⟨g.1, vl⟩ ∧ w6.ownsRow w.heap.size 45 9 vl g.2.length (g.2.flatMap entC)))
  have HA6 := Lib.hid (ho6.mono (show w.heap.size ≤ _ from HB.out.size))
  have HZ6 := Lib.hid (And.intro (HNw.out.at.1.below hb6) (HNw.out.at.2.below hb6))
  have HEs := Lib.hid (And.intro e1 e3)
  replace HB := Lib.hid (nextW HB.out hb6)
  replace BC := Lib.hid (BC.out.nx hb6)
  replace BG := Lib.hid (BG.out.nx hb6)
  replace BX := Lib.hid (BX.out.nx hb6)
  replace HRs := Lib.hid (HRs.out.below hb6)
  have Hm2 := Lib.hid (fun w => make_out R (by omega) w)
  clear hb6 ho6 hg6 hreg hout hrow hous e1 e2 e3 e4 x0 x1 hxl HNw
  go_upto_region 9 with (simp only [Hm2.out])
  generalize hW7 : World.alloc _ _ = W7
  obtain ⟨ho7, hal⟩ := row_out (by omega) hW7
  have HN0 := Lib.hid (show NewW w.heap.size R W7 (.slice (some ⟨gA, 0, none⟩) R cA) (.slice (some ⟨w6.heap.size, 0, none⟩) R R) (runW a b n a0_4 P R []).1 (List.replicate R []) from
    new_pair (own_below HA6.out hal) HEs.out.1 HEs.out.2 (fun i g hg => by obtain ⟨x, y, z⟩ := HEl.out i g hg; exact ⟨x, y, own_below z hal⟩) (ho7.mono HB.out.size))
  replace HB := Lib.hid (nextW HB.out hal)
  replace BC := Lib.hid (BC.out.nx hal)
  replace BG := Lib.hid (BG.out.nx hal)
  replace BX := Lib.hid (BX.out.nx hal)
  replace HRs := Lib.hid (HRs.out.below hal)
  replace HZ6 := Lib.hid (And.intro (HZ6.out.1.below hal) (HZ6.out.2.below hal))
  clear ho7 hal hW7 HA6 HEl HEs
  go_wp2
  go_loopw [8, 11, 12] (fun s8 s11 i wr => ∃ (k gO cO : Nat) (v u : Value), k ≤ N ∧ s8 = .int .i64 0 ∧ s11 = .slice (some ⟨gO, 0, none⟩) R cO ∧ i = .int .i64 k ∧ ((∃ A c, v = .slice A R c) ∧ ∃ A c, u = .slice A R c) ∧ Blk wr blk 32 #[v, u] ∧ RgsSl wr v (runW a b n a0_4 P R (rows.take k)).1 ∧ OutSl wr u (runW a b n a0_4 P R (rows.take k)).2 ∧ NewW w.heap.size R wr (.slice (some ⟨gA, 0, none⟩) R cA) (.slice (some ⟨gO, 0, none⟩) R cO) (runW a b n a0_4 P R (rows.take k)).1 (runW a b n a0_4 P R (rows.take k)).2 ∧ RowsNew (blk + 1) wr (.slice A5 N c5) rows ∧ CfgBox wr w.heap.size ⟨a, b, P, n, a0_4⟩ ∧ Blk wr gb 39 #[.int .i64 a, .int .i64 b, .int .i64 P, .int .i64 n, .int .u64 a0_4] ∧ Below w.heap.size w wr) (fun _ _ i _ => N - (intOf i).toNat)
  case atStart => exact ⟨0, _, _, _, _, Nat.zero_le _, rfl, rfl, rfl, ⟨⟨_, _, rfl⟩, _, _, rfl⟩, BX.out, HZ6.out.1, HZ6.out.2, HN0.out, HRs.out, BC.out, BG.out, HB.out⟩
  case round =>
    clear BX HZ6 HN0 HRs BC BG HB
    obtain ⟨k, gO, cO, v, u, hk, rfl, rfl, rfl, ⟨⟨Av, cv, rfl⟩, Au, cu, rfl⟩, hbx, hrg, hot, hal0, hrs, hbc, hbg, hb⟩ := hrel
    have BX := Lib.hid hbx
    have HRg := Lib.hid hrg
    have HOt := Lib.hid hot
    have HAl := Lib.hid hal0
    have HRs := Lib.hid hrs
    have BC := Lib.hid hbc
    have BG := Lib.hid hbg
    have HB := Lib.hid hb
    clear hbx hrg hot hal0 hrs hbc hbg hb
    by_cases hlt : k < N
    · have hki : (k : Int) < (N : Int) := by omega
      have hxl := BX.out.lt
      have hcl := BC.out.has
      have x0 : wr.cell? ⟨blk, 0, none⟩ = some (.slice Av R cv) := BX.out.cell 0
      have x1 : wr.cell? ⟨blk, 1, none⟩ = some (.slice Au R cu) := BX.out.cell 1
      obtain ⟨x, hx⟩ := getE rows k N HN.out hlt
      have HXk := Lib.hid hx
      obtain ⟨vs, hvs, hvl, hva⟩ := HRs.out.at
      obtain ⟨y, hy⟩ := getE vs k N (by rw [hvl, HN.out]) hlt
      have HYs := Lib.hid (hva k y x hy hx)
      obtain ⟨b1, off1, rfl, hc1⟩ := hvs.at.elem 1 oneV_len (by omega) hy
      have d0 := hc1 0 y rfl
      rw [Nat.mul_one, Nat.add_zero] at d0
      obtain ⟨Ay, cy, hye, -⟩ := HYs.out
      subst hye
      have HWk := Lib.hid (show WOk a b P n k R (runW a b n a0_4 P R (rows.take k)).1 (runW a b n a0_4 P R (rows.take k)).2 from by
        have hW := wok_run (s := a0_4) HG.out.1 HG.out.2 (show P ≤ 6 by omega) (rows.take k) (by rw [List.length_take]; omega)
        rw [List.length_take, Nat.min_eq_left (by have := HN.out; omega)] at hW
        exact hW)
      have HSk := Lib.hid (fun v u t w hv hu ht => astep_new a b n a0_4 k P R HG.out.1 HG.out.2 hs4 (by omega) _ _ HWk.out x (HRok.out x (List.mem_of_getElem? hx)) v u t w hv hu ht)
      have HTk := Lib.hid (take_at hx)
      obtain ⟨c0, c1, c2, c3, c4, -⟩ := BC.out
      have hbl := World.block_lt_of_cell? _ _ d0
      have f0 := BX.out.frozen 0
      have f1 := BX.out.frozen 1
      clear hvs hvl hva hy hc1 hx
      go_wp2_with fail
      refine turn_region (S1 := (fun w' => (∀ b o, b < wr.heap.size → w'.cell? ⟨b, o, none⟩ = wr.cell? ⟨b, o, none⟩) ∧ (∀ b o, b < wr.heap.size → w'.frozen? ⟨b, o, none⟩ = wr.frozen? ⟨b, o, none⟩) ∧ Below wr.heap.size wr w')) (S2 := (fun _ => True)) 10 11 (.free 0 (.free 1 (.free 2 (.free 3 (.free 4 (.free 5 (.one 6 (.free 7 (.free 8 (.freeB 9 (.turn 10 .tail))))))))))) (by kernel_rfl) (by kernel_rfl) (fun _ _ d _ _ h => by cases d <;> exact h) (keepW0 wr) (trivial) ?_
      have hS := keepW0 wr
      have hT := trivial
      simp only [writtenU, List.drop_succ_cons, List.drop_zero, List.getElem?_cons_succ, List.getElem?_cons_zero]
      iterate 6
       refine ru_free (v := ?_) (by rfl) ?_ ?_; rotate_left 1; focus (intro w hSw; (try dsimp only at hSw); go_simp; (try with_reducible rfl))
       (try simp only [Act.put, tA, tB, tC])
      refine ru_call (by rfl) (fun K hK => ?_)
      go_simp
      (refine (HSk.out _ _ _ _ (HRg.out.below hS.2.2) (HOt.out.below hS.2.2) (HYs.out.below hS.2.2)).mono ?_; rintro e w6 ⟨⟨v6, u6, rfl, hnw6⟩, hb6⟩; have HW6 := Lib.hid (nextW hS.2.2 hb6); have HS5 := Lib.hid hS.2.2.size; have q0 : w6.cell? ⟨blk, 0, none⟩ = some (.slice Av R cv) := (HW6.out.cell (p := ⟨blk, 0, none⟩) hxl).trans x0; have q1 : w6.cell? ⟨blk, 1, none⟩ = some (.slice Au R cu) := (HW6.out.cell (p := ⟨blk, 1, none⟩) hxl).trans x1; have p0 : w6.frozen? ⟨blk, 0, none⟩ = false := (HW6.out.frozen (p := ⟨blk, 0, none⟩) hxl).trans f0; have p1 : w6.frozen? ⟨blk, 1, none⟩ = false := (HW6.out.frozen (p := ⟨blk, 1, none⟩) hxl).trans f1; obtain ⟨A6, c6, hv6⟩ : ∃ A c, v6 = .slice A R c := (by obtain ⟨_, _, h1, _⟩ := hnw6; obtain ⟨A, c, e, -⟩ := owned_cells h1; exact ⟨A, c, e⟩); obtain ⟨A7, c7, hu6⟩ : ∃ A c, u6 = .slice A R c := (by obtain ⟨_, _, _, h1, _⟩ := hnw6; obtain ⟨A, c, e, -⟩ := owned_cells h1; exact ⟨A, c, e⟩); subst hv6 hu6)
      (try go_wp2_with fail)
      refine hK.out _ _ ?_ ?_ (fun hS' hT' => ?_)
      · (try dsimp only); exact keepW hb6 hS
      · (try dsimp only); all_goals trivial
      clear hS hT hK K
      have hS := hS'
      have hT := hT'
      clear hS' hT'
      iterate 2
       (try simp only [Act.put, tA, tB, tC])
       refine ru_free (v := ?_) (by rfl) ?_ ?_; rotate_left 1; focus (intro w hSw; (try dsimp only at hSw); go_simp; (try with_reducible rfl))
      (try simp only [Act.put, tA, tB, tC])
      refine ru_freeB (v := ?_) (by rfl) ?_ ?_; rotate_left 1; focus (intro w hSw; (try dsimp only at hSw); go_simp; (try with_reducible rfl))
      (try simp only [Act.put, tA, tB, tC])
      refine ru_turn (by rfl) (fun K hK => ?_)
      go_simp
      (try go_wp2_with fail)
      refine hK.out _ _ ?_ ?_
      · (try dsimp only); all_goals trivial
      clear hK K
      (try simp only [Act.put, tA, tB, tC])
      refine ru_done ?_
      have hg7 : w6.grownBy ((w6.setCell ⟨blk, 0, none⟩ (.slice A6 R c6)).setCell ⟨blk, 1, none⟩ (.slice A7 R c7)) (some blk) := grown_trans (grown_setA _ _ _ _) (grown_setA _ _ _ _)
      have hX6 := BX.out.nx HW6.out
      have hB7 := ((nextW HB.out HW6.out).setCell (p := ⟨blk, 0, none⟩) (show w.heap.size ≤ blk by omega) (.slice A6 R c6)).setCell (p := ⟨blk, 1, none⟩) (show w.heap.size ≤ blk by omega) (.slice A7 R c7)
      have hX7 : Blk ((w6.setCell ⟨blk, 0, none⟩ (.slice A6 R c6)).setCell ⟨blk, 1, none⟩ (.slice A7 R c7)) blk 32 #[.slice A6 R c6, .slice A7 R c7] := (hX6.put 0 (.slice A6 R c6)).put 1 (.slice A7 R c7)
      have hC7 := ((BC.out.nx HW6.out).far (show blk ≠ w.heap.size by omega) 0 (.slice A6 R c6)).far (show blk ≠ w.heap.size by omega) 1 (.slice A7 R c7)
      have hG7 := (BG.out.nx HW6.out).grownA hg7 (show gb ≠ blk by omega)
      have hR7 := (HRs.out.below HW6.out).old hg7 (Nat.lt_succ_self _)
      have hN7 := ((hnw6.mono HS5.out).old hg7 (show blk < wr.heap.size from hxl)).mono (show blk + 1 ≤ _ from hxl)
      have hN7' := (hnw6.mono HS5.out).old hg7 (show blk < wr.heap.size from hxl)
      have hA7 := new_mapT (B' := w.heap.size) (HAl.out.below HW6.out) fun he hx => hx.kept hg7 (.inr fun hh => own_neA hx hX6 he hh.symm)
      have hAl : gA < wr.heap.size := by obtain ⟨_, _, h1, -⟩ := HAl.out; exact (h1.lt gA rfl).2
      generalize (w6.setCell ⟨blk, 0, none⟩ (.slice A6 R c6)).setCell ⟨blk, 1, none⟩ (.slice A7 R c7) = w7 at *
      rw [show (stepF a b P n a0_4 (inpOf x) (runW a b n a0_4 P R (rows.take k)).1 (runW a b n a0_4 P R (rows.take k)).2) = (runW a b n a0_4 P R (rows.take (k + 1))).1 from by rw [HTk.out, runW_snoc]; rfl, show (stepO a b P n a0_4 (inpOf x) (runW a b n a0_4 P R (rows.take k)).1 (runW a b n a0_4 P R (rows.take k)).2) = (runW a b n a0_4 P R (rows.take (k + 1))).2 from by rw [HTk.out, runW_snoc]; rfl] at hN7'
      have BX7 := Lib.hid hX7
      have BC7 := Lib.hid hC7
      have BG7 := Lib.hid hG7
      have HR7 := Lib.hid hR7
      have HN7 := Lib.hid hN7'
      have HA7 := Lib.hid hA7
      have HB7 := Lib.hid hB7
      have HgA := Lib.hid hAl
      clear hg7 hX6 hB7 hX7 hC7 hG7 hR7 hN7 hN7' hA7 hAl hS hT hnw6 hb6 HW6 HS5 q0 q1 p0 p1 x0 x1 c0 c1 c2 c3 c4 d0 f0 f1 BX BC BG HRs HRg HOt HAl HB HSk
      go_upto_region 16 with (simp only [Hm2.out])
      generalize hW8 : World.alloc _ _ = W8
      obtain ⟨ho8, hal8⟩ := row_out (by omega) hW8
      generalize hgN : w7.heap.size = gN at *
      have HM0 := Lib.hid (show NewW w.heap.size R W8 (.slice (some ⟨gA, 0, none⟩) R cA) (.slice (some ⟨gN, 0, none⟩) R R) (mixL R (runW a b n a0_4 P R (rows.take k)).1 (runW a b n a0_4 P R (rows.take (k + 1))).1) (mixL R (List.replicate R []) (runW a b n a0_4 P R (rows.take (k + 1))).2) from by
        obtain ⟨_, _, _, _, ⟨_, _, l3, _⟩, -⟩ := HA7.out
        obtain ⟨_, _, _, _, ⟨_, _, m3, m4⟩, -⟩ := HN7.out
        rw [mix_all l3 m3, mix_all List.length_replicate m4]
        exact new_fresh HA7.out (hgN ▸ hal8) (ho8.mono (hgN ▸ HB7.out.size)))
      have HS0 := Lib.hid (show Spare gA none w7 W8 from (Spare.refl _ _ _).below (hgN ▸ hal8))
      have HB8 := Lib.hid (nextW HB7.out (hgN ▸ hal8))
      clear hW8 ho8 hal8
      have hgNl : gA < gN := by rw [← hgN]; obtain ⟨_, _, h1, -⟩ := HA7.out; exact (h1.lt gA rfl).2
      go_wp2
      obtain ⟨wo, rfl⟩ : ∃ wo : World, wo = wr := ⟨_, rfl⟩
      go_loopw [14] (fun s14 wr => ∃ (k2 : Nat) (z : Int), k2 ≤ R ∧ s14 = .int .i64 z ∧ z = (k2 : Int) - 1 ∧ NewW w.heap.size R wr (.slice (some ⟨gA, 0, none⟩) R cA) (.slice (some ⟨gN, 0, none⟩) R R) (mixL k2 (runW a b n a0_4 P R (rows.take k)).1 (runW a b n a0_4 P R (rows.take (k + 1))).1) (mixL k2 (List.replicate R []) (runW a b n a0_4 P R (rows.take (k + 1))).2) ∧ Spare gA none w7 wr ∧ Below w.heap.size w wr) (fun i _ => (intOf i + 1).toNat)
      case atStart => exact ⟨R, _, Nat.le_refl _, rfl, by first | rfl | exact IntWalk.i64_in _ (by omega), HM0.out, HS0.out, HB8.out⟩
      case round =>
        clear HM0 HS0 HB8
        obtain ⟨k2, z, hk2, rfl, hz, hm, hsp, hb⟩ := hrel
        have HM := Lib.hid hm
        have HS := Lib.hid hsp
        have HB := Lib.hid hb
        clear hm hsp hb
        by_cases hz0 : 0 ≤ z
        · obtain ⟨r, rfl⟩ : ∃ r : Nat, z = (r : Int) := ⟨z.toNat, by omega⟩
          obtain rfl : k2 = r + 1 := by omega
          have hrR : r < R := by omega
          clear hz
          obtain ⟨rs2, us2, hrow2, hous2, ⟨l1', l2', l3', l4'⟩, hreg2, hout2⟩ := HM.out
          obtain ⟨g, hg⟩ := getE (runW a b n a0_4 P R (rows.take k)).1 r R HWk.out.lenF hrR
          obtain ⟨vl0, hr2, hol0⟩ := hreg2 r g (by rw [mix_at (by rw [HWk.out.lenF]; exact hrR)]; exact hg)
          have HLs := Lib.hid (owned_sl hol0)
          obtain ⟨Al, cl, hvl0, -⟩ := owned_sl hol0
          subst hvl0
          obtain ⟨Ar, cr, e1, hat⟩ := owned_cells hrow2
          cases e1
          obtain ⟨b', off, e2, y0, y1⟩ := elem_Reg hat hr2
          cases e2
          rw [Nat.zero_add] at y0 y1
          have hask := wok_asked HG.out.2 HWk.out (show 0 ≤ (k : Int) ∧ (k : Int) ≤ 9999 by omega) hg
          have hreg := HWk.out.reg r g hg
          have hg1 : g.1 = (k : Int) := hreg.1
          rw [hg1] at y0
          obtain ⟨X, hX⟩ : ∃ X, stayL a b P n a0_4 r k (inpOf x) g.2 (inW a b P n (runW a b n a0_4 P R (rows.take k)).2 r) = X := ⟨_, rfl⟩
          obtain ⟨Y, hY⟩ : ∃ Y, st lessB (outsL a b P n a0_4 r k (inpOf x) g.2 (inW a b P n (runW a b n a0_4 P R (rows.take k)).2 r)) = Y := ⟨_, rfl⟩
          have HFx := Lib.hid (show (runW a b n a0_4 P R (rows.take (k + 1))).1[r]? = some ((k : Int) + 1, X) from by
            rw [HTk.out, runW_snoc]
            show (stepF a b P n a0_4 (inpOf x) (runW a b n a0_4 P R (rows.take k)).1 (runW a b n a0_4 P R (rows.take k)).2)[r]? = _
            unfold stepF
            rw [List.getElem?_mapIdx, hg]
            show some (g.1 + 1, stayL a b P n a0_4 r g.1 (inpOf x) g.2 (inW a b P n (runW a b n a0_4 P R (rows.take k)).2 r)) = _
            rw [hg1, hX])
          have HFy := Lib.hid (show (runW a b n a0_4 P R (rows.take (k + 1))).2[r]? = some Y from by
            rw [HTk.out, runW_snoc]
            show (stepO a b P n a0_4 (inpOf x) (runW a b n a0_4 P R (rows.take k)).1 (runW a b n a0_4 P R (rows.take k)).2)[r]? = _
            unfold stepO
            rw [List.getElem?_mapIdx, hg]
            show some (st lessB (outsL a b P n a0_4 r g.1 (inpOf x) g.2 (inW a b P n (runW a b n a0_4 P R (rows.take k)).2 r))) = _
            rw [hg1, hY])
          have hxok := HRok.out x (List.mem_of_getElem? HXk.out)
          have HSk := Lib.hid (fun (vk t ib : Value) w (q1 : IsSl entC w vk g.2) (q2 : IsSl inpC w t x) (q3 : IsSl crsC w ib (inW a b P n (runW a b n a0_4 P R (rows.take k)).2 r)) => rgstep_big a b P n a0_4 r k hs4 vk g.2 t x ib (inW a b P n (runW a b n a0_4 P R (rows.take k)).2 r) w q1 (Nat.le_trans (okl_len hreg.2.1 hreg.2.2.2) (by omega)) q2 (by have := hxok.1; omega) q3
            (Nat.le_trans (inbox_le (m := 600) fun o ho => by obtain ⟨i, hi⟩ := List.getElem?_of_mem ho; exact (HWk.out.out i o hi).1) (Nat.le_trans (Nat.mul_le_mul_right _ (nr_le a b P n r)) (by omega)))
            (fun kk => Nat.le_trans (arrive_few hask.2.1 kk) (by omega)) ((k : Int) + 1) X Y (hask.2.2 x hxok) rfl hX.symm hY.symm)
          have HIk := Lib.hid (fun u w hO => ainbox_any a b P n a0_4 (r : Int) u (runW a b n a0_4 P R (rows.take k)).2 w hO (by rw [HWk.out.lenO]; omega) (fun o ho => by obtain ⟨i, hi⟩ := List.getElem?_of_mem ho; exact Nat.le_trans (HWk.out.out i o hi).1 (by omega)) (fun q hq => by
            unfold nr at hq
            split at hq
            · exact ((mem_nrTo _ _ _ _).1 hq).1
            · simp at hq))
          obtain ⟨IB, hIB⟩ : ∃ IB, inW a b P n (runW a b n a0_4 P R (rows.take k)).2 r = IB := ⟨_, rfl⟩
          have hIB' : inboxL (nr a b P n r) (runW a b n a0_4 P R (rows.take k)).2 r = IB := hIB
          rw [hIB] at HSk
          rw [hIB'] at HIk
          have HOr := Lib.hid (new_outs HA7.out HS.out)
          obtain ⟨_, _, hA1, -⟩ := HA7.out
          obtain ⟨cur, hblA, -⟩ := Blk.of_own hA1
          obtain ⟨vs, hvs, hvl, hva⟩ := (HR7.out.spare HS.out hblA).at
          obtain ⟨y, hy⟩ := getE vs k N (by rw [hvl, HN.out]) hlt
          have HYs2 := Lib.hid (hva k y x hy HXk.out)
          obtain ⟨b1, off1, e3, hc1⟩ := hvs.at.elem 1 oneV_len (by omega) hy
          have d0 := hc1 0 y rfl
          rw [Nat.mul_one, Nat.add_zero] at d0
          cases e3
          obtain ⟨Ay2, cy2, hye, -⟩ := HYs2.out
          subst hye
          have hneg : gb ≠ gA := fun e => own_neA hA1 BG7.out (by decide) (by rw [e]; rfl)
          have BGr := Lib.hid (BG7.out.spare HS.out hneg)
          have hgl := BGr.out.lt
          have g0 : wr.cell? ⟨gb, 0, none⟩ = some (.int .i64 a) := BGr.out.cell 0
          have g1 : wr.cell? ⟨gb, 1, none⟩ = some (.int .i64 b) := BGr.out.cell 1
          have g2 : wr.cell? ⟨gb, 2, none⟩ = some (.int .i64 P) := BGr.out.cell 2
          have g3 : wr.cell? ⟨gb, 3, none⟩ = some (.int .i64 n) := BGr.out.cell 3
          have g4 : wr.cell? ⟨gb, 4, none⟩ = some (.int .u64 a0_4) := BGr.out.cell 4
          have hrl := World.block_lt_of_cell? _ _ y0
          have hdl := World.block_lt_of_cell? _ _ d0
          have hri : (r : Int) < (R : Int) := by omega
          have hr0 : (0 : Int) ≤ (r : Int) := by omega
          have hrw : IntKind.i64.wrap ((r : Int) - 1) = (r : Int) - 1 := IntWalk.i64_in _ (by omega)
          clear hrow2 hous2 l1' l2' l3' l4' hreg2 hout2 hol0 hat hr2 hg hask hreg hg1 hX hY hxok hIB hIB' hA1 hblA hvs hvl hva hy hc1 BGr hneg hz0
          go_upto_region 19 with fail
          go_cut [15, 16, 17] (fun s15 s16 s17 wx => ∃ (bS : Nat) (vl vo : Value), s15 = .pointer (some ⟨bS, 0, none⟩) ∧ s16 = vo ∧ s17 = .int .i64 0 ∧ wr.heap.size ≤ bS ∧ Blk wx bS 59 #[.int .i64 ((k : Int) + 1), vl] ∧ ((∃ A c, vl = .slice A X.length c) ∧ ∃ A c, vo = .slice A Y.length c) ∧ wx.ownsRow w.heap.size 45 9 vl X.length (X.flatMap entC) ∧ wx.ownsRow w.heap.size 50 15 vo Y.length (Y.flatMap crsC) ∧ Below wr.heap.size wr wx)
          case first =>
            refine tree_region (S := (fun w' => (∀ b o, b < (wr).heap.size → w'.cell? ⟨b, o, none⟩ = (wr).cell? ⟨b, o, none⟩) ∧ (∀ b o, b < (wr).heap.size → w'.frozen? ⟨b, o, none⟩ = (wr).frozen? ⟨b, o, none⟩) ∧ Below (wr).heap.size (wr) w')) (.free 0 (.free 1 (.free 2 (.free 3 (.free 4 (.free 5 (.free 6 (.free 7 (.free 8 (.free 9 (.free 10 (.free 11 (.free 12 (.two 13 (.two 14 (.free 15 (.free 16 (.free 17 (.free 18 (.one 19 (.one 20 (.free 21 (.free 22 .done)))))))) 19 (.one 14 (.free 15 (.free 16 (.free 17 (.free 18 (.one 20 (.free 21 (.free 22 .done))))))))) 19 (.one 13 (.one 14 (.free 15 (.free 16 (.free 17 (.free 18 (.one 20 (.free 21 (.free 22 .done))))))))))))))))))))))) (by kernel_rfl) (by kernel_rfl) (fun _ _ d _ _ h => by cases d <;> exact h) (keepW0 _) (fun hS => ?_)
            simp only [written, List.getElem?_cons_succ, List.getElem?_cons_zero]
            iterate 13
             refine rw_free (v := ?_) (by rfl) ?_ ?_; rotate_left 1; focus (intro w hSw; (try dsimp only at hSw); go_simp; (try with_reducible rfl))
             (try simp only [Act.put, tA, tB, tC])
            refine rw_two ?_ ?_
            · skip
              refine rw_call (by rfl) (fun K hK => ?_)
              go_simp
              (refine (HIk.out _ _ (HOr.out.below hS.2.2)).mono ?_; rintro e w5 ⟨⟨v5, rfl, ho5⟩, hb5⟩; have HZ5 := Lib.hid (show wr.heap.size ≤ w5.heap.size from (nextW hS.2.2 hb5).size))
              (try go_wp2_with fail)
              refine hK.out _ _ ?_ (fun hS' => ?_)
              · (try dsimp only); first | exact keepW (by assumption) (by assumption) | exact keepB (by assumption) (by assumption) | exact keepA (by assumption) | assumption
              clear hS hK K
              have hS := hS'
              clear hS'
              (try simp only [Act.put, tA, tB, tC])
              refine rw_two ?_ ?_
              · skip
                refine rw_call (by rfl) (fun K hK => ?_)
                go_simp
                (refine (HSk.out _ _ _ _ (HLs.out.below hS.2.2) (HYs2.out.below hS.2.2) (by first | exact owned_sl ho5 | exact (owned_sl ho5).below ((Below.refl _ _).alloc (Nat.le_refl _) _) | exact (owned_sl ho5).below ((Below.refl _ _).alloc (Nat.le_refl _) _).drew)).mono ?_; rintro e w6 ⟨⟨vl, vo, rfl, hol6, hoo6⟩, hb6⟩; have HZ6 := Lib.hid (Nat.le_trans HB.out.size hS.2.2.size); obtain ⟨Al6, nl6, hvl6, -⟩ := owned_sl hol6; obtain ⟨Ao6, no6, hvo6, -⟩ := owned_sl hoo6; subst hvl6 hvo6)
                (try go_wp2_with fail)
                refine hK.out _ _ ?_ (fun hS' => ?_)
                · (try dsimp only); first | exact keepW (by assumption) (by assumption) | exact keepB (by assumption) (by assumption) | exact keepA (by assumption) | assumption
                clear hS hK K
                have hS := hS'
                clear hS'
                iterate 4
                 (try simp only [Act.put, tA, tB, tC])
                 refine rw_free (v := ?_) (by rfl) ?_ ?_; rotate_left 1; focus (intro w hSw; (try dsimp only at hSw); go_simp; (try with_reducible rfl))
                (try simp only [Act.put, tA, tB, tC])
                refine rw_call (by rfl) (fun K hK => ?_)
                go_simp
                (skip)
                (try go_wp2_with fail)
                refine hK.out _ _ ?_ (fun hS' => ?_)
                · (try dsimp only); first | exact keepW (by assumption) (by assumption) | exact keepB (by assumption) (by assumption) | exact keepA (by assumption) | assumption
                clear hS hK K
                have hS := hS'
                clear hS'
                (try simp only [Act.put, tA, tB, tC])
                first | (have hb5' : Below (wr.alloc (.cells #[.int .i64 0, .slice none 0 0] 59)).drew.heap.size (wr.alloc (.cells #[.int .i64 0, .slice none 0 0] 59)).drew w5 := (by with_reducible exact hb5); have hs := Blk.nx (Blk.nx ((Blk.new' wr #[.int .i64 0, .slice none 0 0] 59 (g := wr.heap.size) rfl).drew) hb5') hb6; have Hs := Lib.hid hs; have k0 := hs.cell 0; have k1 := hs.cell 1; have k2 := hs.frozen 0; have k3 := hs.frozen 1; clear hb5') | (with_reducible have hs := (by first | exact Blk.nx (Blk.new' _ #[.int .i64 0, .slice none 0 0] 59 rfl) hb6 : Blk w6 _ 59 #[.int .i64 0, .slice none 0 0]); have Hs := Lib.hid hs; have k0 := hs.cell 0; have k1 := hs.cell 1; have k2 := hs.frozen 0; have k3 := hs.frozen 1) | skip
                refine rw_call (by rfl) (fun K hK => ?_)
                go_simp
                (skip)
                (try go_wp2_with fail)
                refine hK.out _ _ ?_ (fun hS' => ?_)
                · (try dsimp only); first | (have _h := Hs.out; exact keepOf ((hS.2.2.setCell (show wr.heap.size ≤ _ by first | exact Nat.le_refl _ | exact HZ5.out) _).setCell (show wr.heap.size ≤ _ by first | exact Nat.le_refl _ | exact HZ5.out) _)) | exact keepOf (below_swap hS.2.2 (by have h1 := HZ5.out; have h2 := hb6.size; first | omega | (simp at h2; omega)))
                clear hS hK K
                have hS := hS'
                clear hS'
                iterate 2
                 (try simp only [Act.put, tA, tB, tC])
                 refine rw_free (v := ?_) (by rfl) ?_ ?_; rotate_left 1; focus (intro w hSw; (try dsimp only at hSw); go_simp; (try with_reducible rfl))
                (try simp only [Act.put, tA, tB, tC])
                refine rw_done ?_
                (try clear k0 k1 k2 k3)
                go_wp2_with fail
                go_meet
                exact ⟨_, .slice Al6 X.length nl6, .slice Ao6 Y.length no6, rfl, rfl, rfl, (by first | exact Nat.le_refl _ | exact HZ5.out | (have h1 := HZ5.out; have h2 := hb6.size; omega)), (by first | (have _h := Hs.out; exact (_h.put 0 (.int .i64 ((k : Int) + 1))).put 1 (.slice Al6 X.length nl6)) | exact Blk.new' _ _ _ rfl), ⟨⟨_, _, rfl⟩, _, _, rfl⟩, (by first | (have _h := Hs.out; exact (own_old2 hol6 (by first | (simp; done) | (simp; omega) | (have h5 := hb5.size; simp at h5; omega) | (have h5 := hb5.size; simp at h5; simp; omega)) _ _).mono HZ6.out) | exact (hol6.alloc _).mono HZ6.out), (by first | (have _h := Hs.out; exact (own_old2 hoo6 (by first | (simp; done) | (simp; omega) | (have h5 := hb5.size; simp at h5; omega) | (have h5 := hb5.size; simp at h5; simp; omega)) _ _).mono HZ6.out) | exact (hoo6.alloc _).mono HZ6.out), hS.2.2⟩
              · skip
                refine rw_call (by rfl) (fun K hK => ?_)
                go_simp
                (skip)
                (try go_wp2_with fail)
                refine hK.out _ _ ?_ (fun hS' => ?_)
                · (try dsimp only); first | exact keepW (by assumption) (by assumption) | exact keepB (by assumption) (by assumption) | exact keepA (by assumption) | assumption
                clear hS hK K
                have hS := hS'
                clear hS'
                (try simp only [Act.put, tA, tB, tC])
                refine rw_call (by rfl) (fun K hK => ?_)
                go_simp
                (refine (HSk.out _ _ _ _ (HLs.out.below hS.2.2) (HYs2.out.below hS.2.2) (by first | exact owned_sl ho5 | exact (owned_sl ho5).below ((Below.refl _ _).alloc (Nat.le_refl _) _) | exact (owned_sl ho5).below ((Below.refl _ _).alloc (Nat.le_refl _) _).drew)).mono ?_; rintro e w6 ⟨⟨vl, vo, rfl, hol6, hoo6⟩, hb6⟩; have HZ6 := Lib.hid (Nat.le_trans HB.out.size hS.2.2.size); obtain ⟨Al6, nl6, hvl6, -⟩ := owned_sl hol6; obtain ⟨Ao6, no6, hvo6, -⟩ := owned_sl hoo6; subst hvl6 hvo6)
                (try go_wp2_with fail)
                refine hK.out _ _ ?_ (fun hS' => ?_)
                · (try dsimp only); first | exact keepW (by assumption) (by assumption) | exact keepB (by assumption) (by assumption) | exact keepA (by assumption) | assumption
                clear hS hK K
                have hS := hS'
                clear hS'
                iterate 4
                 (try simp only [Act.put, tA, tB, tC])
                 refine rw_free (v := ?_) (by rfl) ?_ ?_; rotate_left 1; focus (intro w hSw; (try dsimp only at hSw); go_simp; (try with_reducible rfl))
                (try simp only [Act.put, tA, tB, tC])
                first | (have hb5' : Below (wr.alloc (.cells #[.int .i64 0, .slice none 0 0] 59)).drew.heap.size (wr.alloc (.cells #[.int .i64 0, .slice none 0 0] 59)).drew w5 := (by with_reducible exact hb5); have hs := Blk.nx (Blk.nx ((Blk.new' wr #[.int .i64 0, .slice none 0 0] 59 (g := wr.heap.size) rfl).drew) hb5') hb6; have Hs := Lib.hid hs; have k0 := hs.cell 0; have k1 := hs.cell 1; have k2 := hs.frozen 0; have k3 := hs.frozen 1; clear hb5') | (with_reducible have hs := (by first | exact Blk.nx (Blk.new' _ #[.int .i64 0, .slice none 0 0] 59 rfl) hb6 : Blk w6 _ 59 #[.int .i64 0, .slice none 0 0]); have Hs := Lib.hid hs; have k0 := hs.cell 0; have k1 := hs.cell 1; have k2 := hs.frozen 0; have k3 := hs.frozen 1) | skip
                refine rw_call (by rfl) (fun K hK => ?_)
                go_simp
                (skip)
                (try go_wp2_with fail)
                refine hK.out _ _ ?_ (fun hS' => ?_)
                · (try dsimp only); first | (have _h := Hs.out; exact keepOf ((hS.2.2.setCell (show wr.heap.size ≤ _ by first | exact Nat.le_refl _ | exact HZ5.out) _).setCell (show wr.heap.size ≤ _ by first | exact Nat.le_refl _ | exact HZ5.out) _)) | exact keepOf (below_swap hS.2.2 (by have h1 := HZ5.out; have h2 := hb6.size; first | omega | (simp at h2; omega)))
                clear hS hK K
                have hS := hS'
                clear hS'
                iterate 2
                 (try simp only [Act.put, tA, tB, tC])
                 refine rw_free (v := ?_) (by rfl) ?_ ?_; rotate_left 1; focus (intro w hSw; (try dsimp only at hSw); go_simp; (try with_reducible rfl))
                (try simp only [Act.put, tA, tB, tC])
                refine rw_done ?_
                (try clear k0 k1 k2 k3)
                go_wp2_with fail
                go_meet
                exact ⟨_, .slice Al6 X.length nl6, .slice Ao6 Y.length no6, rfl, rfl, rfl, (by first | exact Nat.le_refl _ | exact HZ5.out | (have h1 := HZ5.out; have h2 := hb6.size; omega)), (by first | (have _h := Hs.out; exact (_h.put 0 (.int .i64 ((k : Int) + 1))).put 1 (.slice Al6 X.length nl6)) | exact Blk.new' _ _ _ rfl), ⟨⟨_, _, rfl⟩, _, _, rfl⟩, (by first | (have _h := Hs.out; exact (own_old2 hol6 (by first | (simp; done) | (simp; omega) | (have h5 := hb5.size; simp at h5; omega) | (have h5 := hb5.size; simp at h5; simp; omega)) _ _).mono HZ6.out) | exact (hol6.alloc _).mono HZ6.out), (by first | (have _h := Hs.out; exact (own_old2 hoo6 (by first | (simp; done) | (simp; omega) | (have h5 := hb5.size; simp at h5; omega) | (have h5 := hb5.size; simp at h5; simp; omega)) _ _).mono HZ6.out) | exact (hoo6.alloc _).mono HZ6.out), hS.2.2⟩
            · skip
              refine rw_call (by rfl) (fun K hK => ?_)
              go_simp
              (skip)
              (try go_wp2_with fail)
              refine hK.out _ _ ?_ (fun hS' => ?_)
              · (try dsimp only); first | exact keepW (by assumption) (by assumption) | exact keepB (by assumption) (by assumption) | exact keepA (by assumption) | assumption
              clear hS hK K
              have hS := hS'
              clear hS'
              (try simp only [Act.put, tA, tB, tC])
              refine rw_call (by rfl) (fun K hK => ?_)
              go_simp
              (refine (HIk.out _ _ (HOr.out.below hS.2.2)).mono ?_; rintro e w5 ⟨⟨v5, rfl, ho5⟩, hb5⟩; have HZ5 := Lib.hid (show wr.heap.size ≤ w5.heap.size from (nextW hS.2.2 hb5).size))
              (try go_wp2_with fail)
              refine hK.out _ _ ?_ (fun hS' => ?_)
              · (try dsimp only); first | exact keepW (by assumption) (by assumption) | exact keepB (by assumption) (by assumption) | exact keepA (by assumption) | assumption
              clear hS hK K
              have hS := hS'
              clear hS'
              (try simp only [Act.put, tA, tB, tC])
              refine rw_call (by rfl) (fun K hK => ?_)
              go_simp
              (refine (HSk.out _ _ _ _ (HLs.out.below hS.2.2) (HYs2.out.below hS.2.2) (by first | exact owned_sl ho5 | exact (owned_sl ho5).below ((Below.refl _ _).alloc (Nat.le_refl _) _) | exact (owned_sl ho5).below ((Below.refl _ _).alloc (Nat.le_refl _) _).drew)).mono ?_; rintro e w6 ⟨⟨vl, vo, rfl, hol6, hoo6⟩, hb6⟩; have HZ6 := Lib.hid (Nat.le_trans HB.out.size hS.2.2.size); obtain ⟨Al6, nl6, hvl6, -⟩ := owned_sl hol6; obtain ⟨Ao6, no6, hvo6, -⟩ := owned_sl hoo6; subst hvl6 hvo6)
              (try go_wp2_with fail)
              refine hK.out _ _ ?_ (fun hS' => ?_)
              · (try dsimp only); first | exact keepW (by assumption) (by assumption) | exact keepB (by assumption) (by assumption) | exact keepA (by assumption) | assumption
              clear hS hK K
              have hS := hS'
              clear hS'
              iterate 4
               (try simp only [Act.put, tA, tB, tC])
               refine rw_free (v := ?_) (by rfl) ?_ ?_; rotate_left 1; focus (intro w hSw; (try dsimp only at hSw); go_simp; (try with_reducible rfl))
              (try simp only [Act.put, tA, tB, tC])
              first | (have hb5' : Below (wr.alloc (.cells #[.int .i64 0, .slice none 0 0] 59)).drew.heap.size (wr.alloc (.cells #[.int .i64 0, .slice none 0 0] 59)).drew w5 := (by with_reducible exact hb5); have hs := Blk.nx (Blk.nx ((Blk.new' wr #[.int .i64 0, .slice none 0 0] 59 (g := wr.heap.size) rfl).drew) hb5') hb6; have Hs := Lib.hid hs; have k0 := hs.cell 0; have k1 := hs.cell 1; have k2 := hs.frozen 0; have k3 := hs.frozen 1; clear hb5') | (with_reducible have hs := (by first | exact Blk.nx (Blk.new' _ #[.int .i64 0, .slice none 0 0] 59 rfl) hb6 : Blk w6 _ 59 #[.int .i64 0, .slice none 0 0]); have Hs := Lib.hid hs; have k0 := hs.cell 0; have k1 := hs.cell 1; have k2 := hs.frozen 0; have k3 := hs.frozen 1) | skip
              refine rw_call (by rfl) (fun K hK => ?_)
              go_simp
              (skip)
              (try go_wp2_with fail)
              refine hK.out _ _ ?_ (fun hS' => ?_)
              · (try dsimp only); first | (have _h := Hs.out; exact keepOf ((hS.2.2.setCell (show wr.heap.size ≤ _ by first | exact Nat.le_refl _ | exact HZ5.out) _).setCell (show wr.heap.size ≤ _ by first | exact Nat.le_refl _ | exact HZ5.out) _)) | exact keepOf (below_swap hS.2.2 (by have h1 := HZ5.out; have h2 := hb6.size; first | omega | (simp at h2; omega)))
              clear hS hK K
              have hS := hS'
              clear hS'
              iterate 2
               (try simp only [Act.put, tA, tB, tC])
               refine rw_free (v := ?_) (by rfl) ?_ ?_; rotate_left 1; focus (intro w hSw; (try dsimp only at hSw); go_simp; (try with_reducible rfl))
              (try simp only [Act.put, tA, tB, tC])
              refine rw_done ?_
              (try clear k0 k1 k2 k3)
              go_wp2_with fail
              go_meet
              exact ⟨_, .slice Al6 X.length nl6, .slice Ao6 Y.length no6, rfl, rfl, rfl, (by first | exact Nat.le_refl _ | exact HZ5.out | (have h1 := HZ5.out; have h2 := hb6.size; omega)), (by first | (have _h := Hs.out; exact (_h.put 0 (.int .i64 ((k : Int) + 1))).put 1 (.slice Al6 X.length nl6)) | exact Blk.new' _ _ _ rfl), ⟨⟨_, _, rfl⟩, _, _, rfl⟩, (by first | (have _h := Hs.out; exact (own_old2 hol6 (by first | (simp; done) | (simp; omega) | (have h5 := hb5.size; simp at h5; omega) | (have h5 := hb5.size; simp at h5; simp; omega)) _ _).mono HZ6.out) | exact (hol6.alloc _).mono HZ6.out), (by first | (have _h := Hs.out; exact (own_old2 hoo6 (by first | (simp; done) | (simp; omega) | (have h5 := hb5.size; simp at h5; omega) | (have h5 := hb5.size; simp at h5; simp; omega)) _ _).mono HZ6.out) | exact (hoo6.alloc _).mono HZ6.out), hS.2.2⟩
          case rest =>
            obtain ⟨bS, vl, vo, rfl, rfl, rfl, hbS, hbk, ⟨⟨Al6, nl6, rfl⟩, Ao6, no6, rfl⟩, hE, hC, hb⟩ := hcut
            have u0 := (hb.cell (p := ⟨gA, r * 2, none⟩) hrl).trans y0
            have u1 := (hb.cell (p := ⟨gA, r * 2 + 1, none⟩) hrl).trans y1
            have HE := Lib.hid hE
            have HC := Lib.hid hC
            replace HM := Lib.hid (HM.out.below hb)
            replace HS := Lib.hid (HS.out.below hb)
            replace HB := Lib.hid (nextW HB.out hb)
            clear y0 y1 d0 g0 g1 g2 g3 g4 hrl hdl hgl hb hE hC HSk HIk HOr HLs HYs2
            have hrl := World.block_lt_of_cell? _ _ u0
            have hbl := hbk.lt
            have b0 : wc.cell? ⟨bS, 0, none⟩ = some (.int .i64 ((k : Int) + 1)) := hbk.cell 0
            have b1 : wc.cell? ⟨bS, 1, none⟩ = some (.slice Al6 X.length nl6) := hbk.cell 1
            obtain ⟨rs3, us3, hrow3, hous3, ⟨m1, m2, m3, m4⟩, hreg3, hout3⟩ := HM.out
            obtain ⟨v0, hv0⟩ := getE us3 r R m2 hrR
            obtain ⟨v0', hv1, ho1⟩ := hout3 r [] (by rw [mix_at (by rw [List.length_replicate]; exact hrR), List.getElem?_replicate, if_pos hrR])
            rw [hv0] at hv1
            cases hv1
            obtain ⟨A0, c0', hv0e, -⟩ := owned_sl (enc := crsC) (es := []) ho1
            subst hv0e
            have z0 : wc.cell? ⟨gN, r, none⟩ = some (.slice A0 0 c0') := by rw [hous3.cellAt r (by omega)]; exact hv0
            have fr0 := hrow3.frozenAt (r * 2)
            have fr1 := hrow3.frozenAt (r * 2 + 1)
            have fo := hous3.frozenAt r
            have hol := World.block_lt_of_cell? _ _ z0
            have hgB := (hrow3.lt gA rfl).1
            have hgB2 := (hous3.lt gN rfl).1
            have hne2 : gN ≠ gA := by omega
            have z7 : ((wc.setCell ⟨gA, r * 2, none⟩ (.int .i64 ((k : Int) + 1))).setCell ⟨gA, r * 2 + 1, none⟩ (.slice Al6 X.length nl6)).cell? ⟨gN, r, none⟩ = some (.slice A0 0 c0') := by
              rw [World.cell?_setCell_other _ _ _ _ (by intro e; exact hne2 (congrArg Addr.block e).symm), World.cell?_setCell_other _ _ _ _ (by intro e; exact hne2 (congrArg Addr.block e).symm)]
              exact z0
            have p7 : ((wc.setCell ⟨gA, r * 2, none⟩ (.int .i64 ((k : Int) + 1))).setCell ⟨gA, r * 2 + 1, none⟩ (.slice Al6 X.length nl6)).frozen? ⟨gN, r, none⟩ = false := by
              rw [World.frozen?_setCell, World.frozen?_setCell]
              exact fo
            have hP := HM.out.put hrR ((k : Int) + 1) HE.out HC.out
            rw [mix_set HWk.out.lenF (by obtain ⟨_, _, _, _, ⟨_, _, l3, _⟩, -⟩ := HN7.out; exact l3) hrR HFx.out, mix_set List.length_replicate (by obtain ⟨_, _, _, _, ⟨_, _, _, l4⟩, -⟩ := HN7.out; exact l4) hrR HFy.out] at hP
            have HP := Lib.hid hP
            have hgr1 : wc.grownBy ((wc.setCell ⟨gA, r * 2, none⟩ (.int .i64 ((k : Int) + 1))).setCell ⟨gA, r * 2 + 1, none⟩ (.slice Al6 X.length nl6)) (some gA) := grown_trans (grown_setA _ _ _ _) (grown_setA _ _ _ _)
            have HSp := Lib.hid (spare_newer (HS.out.grown hgr1 (fun p hp => by cases hp; exact .inl rfl)) (grown_setA _ gN r (.slice Ao6 Y.length no6)) (Nat.le_of_eq hgN))
            have HBn := Lib.hid (((HB.out.setCell (p := ⟨gA, r * 2, none⟩) hgB (.int .i64 ((k : Int) + 1))).setCell (p := ⟨gA, r * 2 + 1, none⟩) hgB (.slice Al6 X.length nl6)).setCell (p := ⟨gN, r, none⟩) hgB2 (.slice Ao6 Y.length no6))
            clear hP hgr1 hrow3 hous3 m1 m2 m3 m4 hreg3 hout3 hv0 ho1 HM HS HB HE HC hbk
            go_wp2
            go_roundw
            case rel => exact ⟨r, (r : Int) - 1, by omega, by go_num, rfl, HP.out, HSp.out, HBn.out⟩
            case measure => simp [intOf] <;> omega
        · obtain rfl : k2 = 0 := by omega
          obtain rfl : z = -1 := by omega
          clear hz
          have BX := Lib.hid (BX7.out.spare HS.out (show blk ≠ gA by omega))
          have BG := Lib.hid (BG7.out.spare HS.out (show gb ≠ gA by omega))
          have BC := Lib.hid (BC7.out.spare HS.out (show w.heap.size ≠ gA by omega))
          have HRs := Lib.hid (by obtain ⟨_, _, h1, -⟩ := HA7.out; obtain ⟨cur, hblA, -⟩ := Blk.of_own h1; exact HR7.out.spare HS.out hblA : RowsNew (blk + 1) wr (.slice (some ⟨b1, off1, none⟩) N c5) rows)
          have HW1 := Lib.hid (HN7.out.spare HS.out HgA.out).at
          have HM1 := Lib.hid (show NewW w.heap.size R wr (.slice (some ⟨gA, 0, none⟩) R cA) (.slice (some ⟨gN, 0, none⟩) R R) (runW a b n a0_4 P R (rows.take (k + 1))).1 (runW a b n a0_4 P R (rows.take (k + 1))).2 from HM.out)
          have HFw := Lib.hid (HFew.out (rows.take (k + 1)) (by rw [List.length_take]; omega))
          have HSR := Lib.hid (fun u v w h1 h2 => same_Regs u v (runW a b n a0_4 P R (rows.take (k + 1))).1 w h1 h2 HFw.out.1 HFw.out.2.1)
          have HSO := Lib.hid (fun u v w h1 h2 => same_Outs u v (runW a b n a0_4 P R (rows.take (k + 1))).2 w h1 h2 HFw.out.2.2.1 HFw.out.2.2.2)
          clear BX7 BG7 BC7 HR7 HN7 HA7 HM HS HFw HB7
          have hxl := BX.out.lt
          have x0 : wr.cell? ⟨blk, 0, none⟩ = some (.slice A6 R c6) := BX.out.cell 0
          have x1 : wr.cell? ⟨blk, 1, none⟩ = some (.slice A7 R c7) := BX.out.cell 1
          have hd : decide ((0 : Int) ≤ -1) = false := rfl
          go_wp2_with fail
          refine (HSR.out _ _ _ HW1.out.1 HM1.out.at.1).mono ?_
          rintro e w8 ⟨rfl, hb8⟩
          replace BX := Lib.hid (BX.out.nx hb8)
          replace BG := Lib.hid (BG.out.nx hb8)
          replace BC := Lib.hid (BC.out.nx hb8)
          replace HRs := Lib.hid (HRs.out.below hb8)
          replace HW1 := Lib.hid (And.intro (HW1.out.1.below hb8) (HW1.out.2.below hb8))
          replace HM1 := Lib.hid (HM1.out.below hb8)
          replace HB := Lib.hid (nextW HB.out hb8)
          clear hb8 x0 x1 hxl hd
          have hxl := BX.out.lt
          have x1 : w8.cell? ⟨blk, 1, none⟩ = some (.slice A7 R c7) := BX.out.cell 1
          go_wp2_with fail
          refine (HSO.out _ _ _ HW1.out.2 HM1.out.at.2).mono ?_
          rintro e w9 ⟨rfl, hb9⟩
          replace BX := Lib.hid (BX.out.nx hb9)
          replace BG := Lib.hid (BG.out.nx hb9)
          replace BC := Lib.hid (BC.out.nx hb9)
          replace HRs := Lib.hid (HRs.out.below hb9)
          replace HW1 := Lib.hid (And.intro (HW1.out.1.below hb9) (HW1.out.2.below hb9))
          replace HM1 := Lib.hid (HM1.out.below hb9)
          replace HB := Lib.hid (nextW HB.out hb9)
          clear hb9 x1 hxl HSR HSO
          go_wp2
          go_roundw
          case rel => exact ⟨k + 1, _, _, _, _, by omega, rfl, rfl, by go_num, ⟨⟨_, _, rfl⟩, _, _, rfl⟩, BX.out, HW1.out.1, HW1.out.2, HM1.out, HRs.out, BC.out, BG.out, HB.out⟩
          case measure => simp [intOf] <;> omega
    · obtain rfl : k = N := by omega
      go_wp2
      go_ret
      exact ⟨rfl, HB.out⟩

set_option maxRecDepth 100000 in
theorem lifted (os : Os) (started : os.Started) (H : Type) (enc : TypeId × Value → H) :
    ReturnsInHanded {} Tryz.checked os 6 .any (Rows.arenaSplitsSpec.pre6 enc Tryz.prog Tryz.f6 Rows.arenaSplitsRow.domain false) (Rows.arenaSplitsSpec.post enc Tryz.prog Tryz.f6 false true false false) := by
  refine returnsInHanded_of_change (C := Tryz.checked) own started (by kernel_rfl) Tryz.func6
    (ChangeSpec.witness6 (enc := enc) (C := Tryz.checked) false ⟨#[], #[.agg #[.int .i64 0, .int .i64 0, .int .i64 0, .int .i64 0, .int .u64 0], .slice none 0 0], []⟩ 8 (by kernel_rfl) (by kernel_rfl) (by kernel_rfl) (by kernel_rfl)) ?_
  intro W base args ds gs before hval0 hW hcnd _
  have hval : ∀ (j : Nat) t v, Tryz.f6.params[j]? = some t → args[j]? = some v → Value.okWide Tryz.prog W .any base t v := hval0
  have hW' := hW
  obtain ⟨p, q, hA0, hV, rfl, hfz, hnd⟩ := hW
  have hA : DataW.TrodAll enc Tryz.prog W 0 (fun _ => true) true Tryz.f6.params.toList args.toList ds p := hA0
  rw [Tryz.params6] at hA hval
  obtain ⟨v0, vs0, d0, ds0, p0, q0, hargs, rfl, rfl, h0, r0⟩ := trodAll_cons hA
  obtain ⟨v1, vs1, d1, ds1, p1, q1, rfl, rfl, rfl, h1, r1⟩ := trodAll_cons r0
  obtain ⟨rfl, rfl, rfl⟩ := trodAll_nil r1
  obtain rfl : args = #[v0, v1] := by cases args; simp_all
  obtain ⟨rfl, rfl⟩ := trodVars_none hV
  obtain ⟨cs0, rfl, -⟩ := okWide_struct Tryz.underlying24 (hval 0 24 v0 rfl rfl)
  have k0 := h0
  have lt0 : ∀ x ∈ p0, x.block < W.heap.size := by obtain ⟨m, hm⟩ := k0; exact DataW.trod_lt m _ _ _ hm
  obtain ⟨fuel0, hf0⟩ := h0
  obtain ⟨l0⟩ := cs0
  obtain ⟨a0_0, a0_1, a0_2, a0_3, a0_4, rfl, w0_0, w0_1, w0_2, w0_3, w0_4⟩ := open_T24 (cs := l0) hf0
  obtain ⟨A1, len1, cap1, rfl⟩ := okWide_slice Tryz.underlying25 (hval 1 25 v1 rfl rfl)
  have k1 := h1
  have lt1 : ∀ x ∈ p1, x.block < W.heap.size := by obtain ⟨m, hm⟩ := k1; exact DataW.trod_lt m _ _ _ hm
  obtain ⟨l1, w1, o1⟩ : ∃ l0 : List Value, Fx.IsSl Fx.oneV W (.slice A1 len1 cap1) l0 ∧ ∀ e0 ∈ l0, ∃ l1 : List Fx.Inp, Fx.IsSl Fx.inpC W e0 l1 ∧ ∀ e1 ∈ l1, Fx.Inp.ok e1 := by
    obtain ⟨fuel, hf⟩ := h1
    exact open_sn25 hf
  clear hA0 hval0
  refine (walk a0_0 a0_1 a0_2 a0_3 a0_4 _ l1 W w0_0 w0_1 w0_2 w0_3 w0_4 w1 o1).mono fun e W' ⟨he, bel⟩ => ?_
  subst he
  exact ⟨_, rfl, _, _, _, [], _, [], hW', trodAll_mk1 (shut_bool Tryz.underlying4 _), (trodAll_cons_mk (Below.trod laidOut (by kernel_rfl) (of_decide_eq_true (by kernel_rfl)) k0 bel lt0) (trodAll_cons_mk (Below.trod laidOut (by kernel_rfl) (of_decide_eq_true (by kernel_rfl)) k1 bel lt1) trodAll_mk0)), rfl, bel.frame _, fun h => by cases h⟩

theorem over : Rows.arenaSplitsRow.holds Tryz.pinned (OpenSpec.ofChange Rows.arenaSplitsSpec) :=
  OpenClaim.holds_of_wide 6 Tryz.f6 rfl rfl rfl rfl rfl rfl rfl ⟨rfl, rfl, rfl, rfl, rfl⟩ rfl rfl rfl rfl rfl (by kernel_rfl) Tryz.func6 (by kernel_rfl)
    (of_decide_eq_true (by kernel_rfl)) (by unfold Func.isWrapper; first | (rw [if_pos (by decide +kernel)]; kernel_rfl) | (rw [if_neg (by decide +kernel)]; exact ⟨rfl, rfl⟩))
    (fun os started H enc _ => lifted os started H enc)

end Go.Proofs.YtfpofegfbinalaaGreat.arenaSplits
namespace Go.Proofs.YtfpofegfbinalaaGreat
theorem arenaSplits_proved : Rows.ArenaSplitsSaid := arenaSplits.over
end Go.Proofs.YtfpofegfbinalaaGreat
