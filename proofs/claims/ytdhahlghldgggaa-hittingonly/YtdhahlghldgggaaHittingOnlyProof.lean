/- joustlaw08.HittingOnly returns true for every input; no conditions. -/
import Derived.Test.YtdhahlghldgggaaHtAwake
import Derived.Test.YtdhahlghldgggaaGSeq
import Derived.Test.YtdhahlghldgggaaRows
import Derived.WalkKit
import Derived.ProofKit
import Derived.OpenShut
import Derived.ShutString
import Derived.ChangeOld
import Derived.Below
import Derived.Deep.Slices
namespace Go.Proofs.Ytdhahlghldgggaa.hittingOnly
open Go.ChangeShapes Go.WideShapes Go.ChangeAt Go.RowKit
open Go.ChangeMaps (open_string shut_string)
set_option linter.unusedVariables false

theorem own : ownKnob Try.prog.godebug = none := by kernel_rfl
theorem laidOut : laidOutB Try.prog = true := by kernel_rfl
open Fx (IsRow)
theorem open_T28 {H : Type} {enc : TypeId × Value → H} {W : World} {fuel : Nat} {cs : List Value} {x : DataW H × List MemPlace} (h : DataW.trod enc Try.prog W 0 (fun _ => true) true fuel 28 cs = some x) :
    ∃ (a0 : Int) (a1 : Int) (a2 : Int) (a3 : Int) (a4 : Int) (a5 : Int) (a6 : Int) (a7 : Int) (a8 : Int), cs = [.int .i64 a0, .int .i64 a1, .int .i64 a2, .int .i64 a3, .int .i64 a4, .int .i64 a5, .int .i64 a6, .int .i64 a7, .int .i64 a8] ∧ (Lit.int .i64 a0).wf = true ∧ (Lit.int .i64 a1).wf = true ∧ (Lit.int .i64 a2).wf = true ∧ (Lit.int .i64 a3).wf = true ∧ (Lit.int .i64 a4).wf = true ∧ (Lit.int .i64 a5).wf = true ∧ (Lit.int .i64 a6).wf = true ∧ (Lit.int .i64 a7).wf = true ∧ (Lit.int .i64 a8).wf = true := by
  obtain ⟨xs, n, -, -, hl, hxl, hg⟩ := DataW.trod_struct Try.underlying28 h
  have hl' : cs.length = 9 := hl.trans (by kernel_rfl)
  have c3 : Try.prog.cellsOf 3 = 1 := by kernel_rfl
  clear hl h
  match cs, hl' with
  | [z0, z1, z2, z3, z4, z5, z6, z7, z8], _ =>
    have g0 : DataW.trod enc Try.prog W 0 (fun _ => true) true n 3 (([z0, z1, z2, z3, z4, z5, z6, z7, z8].drop 0).take (Try.prog.cellsOf 3)) = xs[0]? := hg 0 _ rfl
    rw [c3, List.getElem?_eq_getElem (show 0 < xs.length by rw [hxl]; decide)] at g0
    have g1 : DataW.trod enc Try.prog W 0 (fun _ => true) true n 3 (([z0, z1, z2, z3, z4, z5, z6, z7, z8].drop 1).take (Try.prog.cellsOf 3)) = xs[1]? := hg 1 _ rfl
    rw [c3, List.getElem?_eq_getElem (show 1 < xs.length by rw [hxl]; decide)] at g1
    have g2 : DataW.trod enc Try.prog W 0 (fun _ => true) true n 3 (([z0, z1, z2, z3, z4, z5, z6, z7, z8].drop 2).take (Try.prog.cellsOf 3)) = xs[2]? := hg 2 _ rfl
    rw [c3, List.getElem?_eq_getElem (show 2 < xs.length by rw [hxl]; decide)] at g2
    have g3 : DataW.trod enc Try.prog W 0 (fun _ => true) true n 3 (([z0, z1, z2, z3, z4, z5, z6, z7, z8].drop 3).take (Try.prog.cellsOf 3)) = xs[3]? := hg 3 _ rfl
    rw [c3, List.getElem?_eq_getElem (show 3 < xs.length by rw [hxl]; decide)] at g3
    have g4 : DataW.trod enc Try.prog W 0 (fun _ => true) true n 3 (([z0, z1, z2, z3, z4, z5, z6, z7, z8].drop 4).take (Try.prog.cellsOf 3)) = xs[4]? := hg 4 _ rfl
    rw [c3, List.getElem?_eq_getElem (show 4 < xs.length by rw [hxl]; decide)] at g4
    have g5 : DataW.trod enc Try.prog W 0 (fun _ => true) true n 3 (([z0, z1, z2, z3, z4, z5, z6, z7, z8].drop 5).take (Try.prog.cellsOf 3)) = xs[5]? := hg 5 _ rfl
    rw [c3, List.getElem?_eq_getElem (show 5 < xs.length by rw [hxl]; decide)] at g5
    have g6 : DataW.trod enc Try.prog W 0 (fun _ => true) true n 3 (([z0, z1, z2, z3, z4, z5, z6, z7, z8].drop 6).take (Try.prog.cellsOf 3)) = xs[6]? := hg 6 _ rfl
    rw [c3, List.getElem?_eq_getElem (show 6 < xs.length by rw [hxl]; decide)] at g6
    have g7 : DataW.trod enc Try.prog W 0 (fun _ => true) true n 3 (([z0, z1, z2, z3, z4, z5, z6, z7, z8].drop 7).take (Try.prog.cellsOf 3)) = xs[7]? := hg 7 _ rfl
    rw [c3, List.getElem?_eq_getElem (show 7 < xs.length by rw [hxl]; decide)] at g7
    have g8 : DataW.trod enc Try.prog W 0 (fun _ => true) true n 3 (([z0, z1, z2, z3, z4, z5, z6, z7, z8].drop 8).take (Try.prog.cellsOf 3)) = xs[8]? := hg 8 _ rfl
    rw [c3, List.getElem?_eq_getElem (show 8 < xs.length by rw [hxl]; decide)] at g8
    obtain ⟨a0, e0, -, w0⟩ := DataW.trod_int (cs := [z0]) Try.underlying3 g0
    simp only [List.cons.injEq, and_true] at e0
    subst e0
    clear g0
    obtain ⟨a1, e1, -, w1⟩ := DataW.trod_int (cs := [z1]) Try.underlying3 g1
    simp only [List.cons.injEq, and_true] at e1
    subst e1
    clear g1
    obtain ⟨a2, e2, -, w2⟩ := DataW.trod_int (cs := [z2]) Try.underlying3 g2
    simp only [List.cons.injEq, and_true] at e2
    subst e2
    clear g2
    obtain ⟨a3, e3, -, w3⟩ := DataW.trod_int (cs := [z3]) Try.underlying3 g3
    simp only [List.cons.injEq, and_true] at e3
    subst e3
    clear g3
    obtain ⟨a4, e4, -, w4⟩ := DataW.trod_int (cs := [z4]) Try.underlying3 g4
    simp only [List.cons.injEq, and_true] at e4
    subst e4
    clear g4
    obtain ⟨a5, e5, -, w5⟩ := DataW.trod_int (cs := [z5]) Try.underlying3 g5
    simp only [List.cons.injEq, and_true] at e5
    subst e5
    clear g5
    obtain ⟨a6, e6, -, w6⟩ := DataW.trod_int (cs := [z6]) Try.underlying3 g6
    simp only [List.cons.injEq, and_true] at e6
    subst e6
    clear g6
    obtain ⟨a7, e7, -, w7⟩ := DataW.trod_int (cs := [z7]) Try.underlying3 g7
    simp only [List.cons.injEq, and_true] at e7
    subst e7
    clear g7
    obtain ⟨a8, e8, -, w8⟩ := DataW.trod_int (cs := [z8]) Try.underlying3 g8
    simp only [List.cons.injEq, and_true] at e8
    subst e8
    clear g8
    exact ⟨a0, a1, a2, a3, a4, a5, a6, a7, a8, rfl, w0, w1, w2, w3, w4, w5, w6, w7, w8⟩

theorem open_sl22 {H : Type} {enc : TypeId × Value → H} {W : World} {fuel : Nat} {v : Value} {x : DataW H × List MemPlace} (h : DataW.trod enc Try.prog W 0 (fun _ => true) true fuel 22 [v] = some x) :
    ∃ l : List Fx.Ent, Fx.IsSl Fx.entC W v l ∧ ∀ e ∈ l, Fx.Ent.ok e := by
  rcases Go.Deep.open_slice Try.underlying22 h with ⟨hcs, _⟩ | ⟨a, len, cap, m, n, D, Pl, hcs, _, hl, hm, hmm, _, hel⟩
  · simp at hcs
    subst hcs
    exact ⟨[], Fx.IsSl.nil _ _, by simp⟩
  · simp at hcs
    subst hcs
    have hmc : m = cap := hmm
    have hce : Try.prog.cellsOf 28 = 9 := by kernel_rfl
    refine Fx.sl_of_cells (base := 0) default 9 Fx.entC_len (by omega) hl fun i hi => ?_
    obtain ⟨cs', hc, ht⟩ := hel i (by omega)
    rw [hce] at hc
    obtain ⟨a0, a1, a2, a3, a4, a5, a6, a7, a8, rfl, w0, w1, w2, w3, w4, w5, w6, w7, w8⟩ := open_T28 ht
    exact ⟨⟨a0, a1, a2, a3, a4, a5, a6, a7, a8⟩, ⟨w0, w1, w2, w3, w4, w5, w6, w7, w8⟩, hc⟩

theorem open_T33 {H : Type} {enc : TypeId × Value → H} {W : World} {fuel : Nat} {cs : List Value} {x : DataW H × List MemPlace} (h : DataW.trod enc Try.prog W 0 (fun _ => true) true fuel 33 cs = some x) :
    ∃ (a0 : Int) (a1 : Int) (a2 : Int) (a3 : Int) (a4 : Int) (a5 : Int) (a6 : Int) (a7 : Int) (a8 : Int) (a9 : Int) (a10 : Int) (a11 : Int) (a12 : Int) (a13 : Int) (a14 : Int), cs = [.int .i64 a0, .int .i64 a1, .int .i64 a2, .int .i64 a3, .int .i64 a4, .int .i64 a5, .int .i64 a6, .int .i64 a7, .int .i64 a8, .int .i64 a9, .int .i64 a10, .int .i64 a11, .int .i64 a12, .int .i64 a13, .int .i64 a14] ∧ (Lit.int .i64 a0).wf = true ∧ (Lit.int .i64 a1).wf = true ∧ (Lit.int .i64 a2).wf = true ∧ (Lit.int .i64 a3).wf = true ∧ (Lit.int .i64 a4).wf = true ∧ (Lit.int .i64 a5).wf = true ∧ (Lit.int .i64 a6).wf = true ∧ (Lit.int .i64 a7).wf = true ∧ (Lit.int .i64 a8).wf = true ∧ (Lit.int .i64 a9).wf = true ∧ (Lit.int .i64 a10).wf = true ∧ (Lit.int .i64 a11).wf = true ∧ (Lit.int .i64 a12).wf = true ∧ (Lit.int .i64 a13).wf = true ∧ (Lit.int .i64 a14).wf = true := by
  obtain ⟨xs, n, -, -, hl, hxl, hg⟩ := DataW.trod_struct Try.underlying33 h
  have hl' : cs.length = 15 := hl.trans (by kernel_rfl)
  have c3 : Try.prog.cellsOf 3 = 1 := by kernel_rfl
  have c28 : Try.prog.cellsOf 28 = 9 := by kernel_rfl
  clear hl h
  match cs, hl' with
  | [z0, z1, z2, z3, z4, z5, z6, z7, z8, z9, z10, z11, z12, z13, z14], _ =>
    have g0 : DataW.trod enc Try.prog W 0 (fun _ => true) true n 3 (([z0, z1, z2, z3, z4, z5, z6, z7, z8, z9, z10, z11, z12, z13, z14].drop 0).take (Try.prog.cellsOf 3)) = xs[0]? := hg 0 _ rfl
    rw [c3, List.getElem?_eq_getElem (show 0 < xs.length by rw [hxl]; decide)] at g0
    have g1 : DataW.trod enc Try.prog W 0 (fun _ => true) true n 3 (([z0, z1, z2, z3, z4, z5, z6, z7, z8, z9, z10, z11, z12, z13, z14].drop 1).take (Try.prog.cellsOf 3)) = xs[1]? := hg 1 _ rfl
    rw [c3, List.getElem?_eq_getElem (show 1 < xs.length by rw [hxl]; decide)] at g1
    have g2 : DataW.trod enc Try.prog W 0 (fun _ => true) true n 3 (([z0, z1, z2, z3, z4, z5, z6, z7, z8, z9, z10, z11, z12, z13, z14].drop 2).take (Try.prog.cellsOf 3)) = xs[2]? := hg 2 _ rfl
    rw [c3, List.getElem?_eq_getElem (show 2 < xs.length by rw [hxl]; decide)] at g2
    have g3 : DataW.trod enc Try.prog W 0 (fun _ => true) true n 3 (([z0, z1, z2, z3, z4, z5, z6, z7, z8, z9, z10, z11, z12, z13, z14].drop 3).take (Try.prog.cellsOf 3)) = xs[3]? := hg 3 _ rfl
    rw [c3, List.getElem?_eq_getElem (show 3 < xs.length by rw [hxl]; decide)] at g3
    have g4 : DataW.trod enc Try.prog W 0 (fun _ => true) true n 28 (([z0, z1, z2, z3, z4, z5, z6, z7, z8, z9, z10, z11, z12, z13, z14].drop 4).take (Try.prog.cellsOf 28)) = xs[4]? := hg 4 _ rfl
    rw [c28, List.getElem?_eq_getElem (show 4 < xs.length by rw [hxl]; decide)] at g4
    have g5 : DataW.trod enc Try.prog W 0 (fun _ => true) true n 3 (([z0, z1, z2, z3, z4, z5, z6, z7, z8, z9, z10, z11, z12, z13, z14].drop 13).take (Try.prog.cellsOf 3)) = xs[5]? := hg 5 _ rfl
    rw [c3, List.getElem?_eq_getElem (show 5 < xs.length by rw [hxl]; decide)] at g5
    have g6 : DataW.trod enc Try.prog W 0 (fun _ => true) true n 3 (([z0, z1, z2, z3, z4, z5, z6, z7, z8, z9, z10, z11, z12, z13, z14].drop 14).take (Try.prog.cellsOf 3)) = xs[6]? := hg 6 _ rfl
    rw [c3, List.getElem?_eq_getElem (show 6 < xs.length by rw [hxl]; decide)] at g6
    obtain ⟨a0, e0, -, w0⟩ := DataW.trod_int (cs := [z0]) Try.underlying3 g0
    simp only [List.cons.injEq, and_true] at e0
    subst e0
    clear g0
    obtain ⟨a1, e1, -, w1⟩ := DataW.trod_int (cs := [z1]) Try.underlying3 g1
    simp only [List.cons.injEq, and_true] at e1
    subst e1
    clear g1
    obtain ⟨a2, e2, -, w2⟩ := DataW.trod_int (cs := [z2]) Try.underlying3 g2
    simp only [List.cons.injEq, and_true] at e2
    subst e2
    clear g2
    obtain ⟨a3, e3, -, w3⟩ := DataW.trod_int (cs := [z3]) Try.underlying3 g3
    simp only [List.cons.injEq, and_true] at e3
    subst e3
    clear g3
    obtain ⟨a4, a5, a6, a7, a8, a9, a10, a11, a12, e4, w4, w5, w6, w7, w8, w9, w10, w11, w12⟩ := open_T28 (cs := [z4, z5, z6, z7, z8, z9, z10, z11, z12]) g4
    simp only [List.cons.injEq, and_true] at e4
    obtain ⟨rfl, rfl, rfl, rfl, rfl, rfl, rfl, rfl, rfl⟩ := e4
    clear g4
    obtain ⟨a13, e5, -, w13⟩ := DataW.trod_int (cs := [z13]) Try.underlying3 g5
    simp only [List.cons.injEq, and_true] at e5
    subst e5
    clear g5
    obtain ⟨a14, e6, -, w14⟩ := DataW.trod_int (cs := [z14]) Try.underlying3 g6
    simp only [List.cons.injEq, and_true] at e6
    subst e6
    clear g6
    exact ⟨a0, a1, a2, a3, a4, a5, a6, a7, a8, a9, a10, a11, a12, a13, a14, rfl, w0, w1, w2, w3, w4, w5, w6, w7, w8, w9, w10, w11, w12, w13, w14⟩

theorem open_sl23 {H : Type} {enc : TypeId × Value → H} {W : World} {fuel : Nat} {v : Value} {x : DataW H × List MemPlace} (h : DataW.trod enc Try.prog W 0 (fun _ => true) true fuel 23 [v] = some x) :
    ∃ l : List Fx.Crs, Fx.IsSl Fx.crsC W v l ∧ ∀ e ∈ l, Fx.Crs.ok e := by
  rcases Go.Deep.open_slice Try.underlying23 h with ⟨hcs, _⟩ | ⟨a, len, cap, m, n, D, Pl, hcs, _, hl, hm, hmm, _, hel⟩
  · simp at hcs
    subst hcs
    exact ⟨[], Fx.IsSl.nil _ _, by simp⟩
  · simp at hcs
    subst hcs
    have hmc : m = cap := hmm
    have hce : Try.prog.cellsOf 33 = 15 := by kernel_rfl
    refine Fx.sl_of_cells (base := 0) default 15 Fx.crsC_len (by omega) hl fun i hi => ?_
    obtain ⟨cs', hc, ht⟩ := hel i (by omega)
    rw [hce] at hc
    obtain ⟨a0, a1, a2, a3, a4, a5, a6, a7, a8, a9, a10, a11, a12, a13, a14, rfl, w0, w1, w2, w3, w4, w5, w6, w7, w8, w9, w10, w11, w12, w13, w14⟩ := open_T33 ht
    exact ⟨⟨a0, a1, a2, a3, ⟨a4, a5, a6, a7, a8, a9, a10, a11, a12⟩, a13, a14⟩, ⟨w0, w1, w2, w3, w4, w5, w6, w7, w8, w9, w10, w11, w12, w13, w14⟩, hc⟩

open Fx

theorem touchL_len (kind r : Int) (f : Int → Int) (l : List Ent) : (touchL kind r f l).length ≤ l.length := by
  unfold touchL
  refine Nat.le_trans (List.length_filter_le _ _) ?_
  rw [(touch_pw kind r f l l).len]
  exact Nat.le_refl _

theorem thru_fit {l X : List Ent} {i k : Nat} {e y : Ent} (he : l[i]? = some e) (hy : X[k]? = some y) (hf : fits e y = true) (h : thru (l.drop i) (X.drop k) = some []) : thru (l.drop (i + 1)) (X.drop (k + 1)) = some [] := by
  rw [drop_at he, drop_at hy, thru, if_pos hf] at h
  exact h

theorem thru_skip {l X : List Ent} {i k : Nat} {e y : Ent} (he : l[i]? = some e) (hy : X[k]? = some y) (hf : fits e y = false) (h : thru (l.drop i) (X.drop k) = some []) : (e.kind = 2 ∨ e.kind = 3) ∧ thru (l.drop (i + 1)) (X.drop k) = some [] := by
  rw [drop_at he, drop_at hy, thru, if_neg (by rw [hf]; simp)] at h
  rw [drop_at hy]
  by_cases hk : e.kind = 2 ∨ e.kind = 3
  · rw [if_pos hk] at h; exact ⟨hk, h⟩
  · rw [if_neg hk] at h; cases h

theorem thru_done {l X : List Ent} {i k : Nat} {e : Ent} (he : l[i]? = some e) (hk : X.length ≤ k) (h : thru (l.drop i) (X.drop k) = some []) : (e.kind = 2 ∨ e.kind = 3) ∧ thru (l.drop (i + 1)) (X.drop k) = some [] := by
  rw [drop_at he, List.drop_eq_nil_of_le hk, thru] at h
  rw [List.drop_eq_nil_of_le hk]
  by_cases hk : e.kind = 2 ∨ e.kind = 3
  · rw [if_pos hk] at h; exact ⟨hk, h⟩
  · rw [if_neg hk] at h; cases h

theorem thru_end {l X : List Ent} {i k : Nat} (hi : l.length ≤ i) (hk : k ≤ X.length) (h : thru (l.drop i) (X.drop k) = some []) : k = X.length := by
  rw [List.drop_eq_nil_of_le hi, thru] at h
  have := congrArg List.length (Option.some.inj h)
  simp at this
  omega

set_option maxRecDepth 100000 in
set_option maxHeartbeats 4000000 in
theorem walk (v0 : Value) (l0 : List Fx.Ent) (v1 : Value) (l1 : List Fx.Crs) (w : World) (w0 : Fx.IsSl Fx.entC w v0 l0) (k0 : ∀ e ∈ l0, Fx.Ent.ok e) (w1 : Fx.IsSl Fx.crsC w v1 l1) (k1 : ∀ e ∈ l1, Fx.Crs.ok e) :
    Calls Try.prog 3 #[v0, v1] w fun e w' => e = .returned (.bool true) ∧ Below w.heap.size w w' := by
  clear k0 k1
  have HV := Lib.hid w0
  have HW := Lib.hid w1
  obtain ⟨A, c, rfl, -, -, -⟩ := w0
  obtain ⟨B, d, rfl, -, -, -⟩ := w1
  have HA := Lib.hid awake_ht
  obtain ⟨n, hnn⟩ : ∃ n, l0.length = n := ⟨_, rfl⟩
  obtain ⟨m, hmm⟩ : ∃ m, l1.length = m := ⟨_, rfl⟩
  rw [hnn] at HV ⊢
  rw [hmm] at HW ⊢
  have Hn := Lib.hid hnn
  have Hm := Lib.hid hmm
  clear hnn hmm
  by_cases h1 : n ≤ 40
  · have hd1 : decide ((40 : Int) < (n : Int)) = false := decide_eq_false (by omega)
    by_cases h2 : m ≤ 40
    · have hd2 : decide ((40 : Int) < (m : Int)) = false := decide_eq_false (by omega)
      have HS := Lib.hid (fun w hv => shotsH_any (.slice A n c) l0 w hv (by rw [Hn.out]; omega))
      have HG := Lib.hid (fun v w hv => gemsH_any v (shotsL l0) w hv (Nat.le_trans (touchL_len _ _ _ _) (by rw [Hn.out]; omega)))
      have HX := Lib.hid (fun v w hv hu => blastsH_any v (.slice B m d) (gemsL (shotsL l0)) l1 w hv (Nat.le_trans (touchL_len _ _ _ _) (Nat.le_trans (touchL_len _ _ _ _) (by rw [Hn.out]; omega))) hu (by rw [Hm.out]; omega))
      have HT := Lib.hid (only_thru l0 l1)
      have HL := Lib.hid (show (blastsL (gemsL (shotsL l0)) l1).length ≤ 40 from by
        rw [blasts_len]; exact Nat.le_trans (touchL_len _ _ _ _) (Nat.le_trans (touchL_len _ _ _ _) (by rw [Hn.out]; omega)))
      go_enter Try.func3, Try.ntmps3
      go_wp2_with fail
      refine (HS.out _ HV.out).mono ?_
      rintro e w1 ⟨v1, rfl, ho1, hb1⟩
      have H1 := Lib.hid (owned_sl ho1)
      have HW1 := Lib.hid (HW.out.below hb1)
      have Hb1 := Lib.hid hb1
      clear ho1 hb1 HS HW
      go_wp2_with fail
      refine (HG.out _ _ H1.out).mono ?_
      rintro e w2 ⟨v2, rfl, ho2, hb2⟩
      have H2 := Lib.hid (owned_sl ho2)
      have HW2 := Lib.hid (HW1.out.below hb2)
      have Hb2 := Lib.hid (nextW Hb1.out hb2)
      clear ho2 hb2 HG HW1 H1 Hb1
      go_wp2_with fail
      refine (HX.out _ _ H2.out HW2.out).mono ?_
      rintro e w3 ⟨v3, rfl, ho3, hb3⟩
      have H3 := Lib.hid (owned_sl ho3)
      have Hb3 := Lib.hid (nextW Hb2.out hb3)
      have HV3 := Lib.hid (HV.out.below Hb3.out)
      clear ho3 hb3 HX HW2 H2 Hb2 HV
      generalize blastsL (gemsL (shotsL l0)) l1 = X at *
      obtain ⟨A3, c3, rfl, -, -, hX⟩ := H3.out
      have HC := Lib.hid hX
      have HVC := Lib.hid HV3.out.at
      clear hX H3 HV3
      obtain ⟨M, hM⟩ : ∃ M, X.length = M := ⟨_, rfl⟩
      have HM := Lib.hid hM
      have hM40 : M ≤ 40 := hM ▸ HL.out
      rw [hM]
      clear hM HL
      go_wp2_with fail
      go_loopw [6, 7] (fun kk ii wr => ∃ i k : Nat, i ≤ n ∧ k ≤ M ∧ kk = .int .i64 k ∧ ii = .int .i64 i ∧ thru (l0.drop i) (X.drop k) = some [] ∧ Below w3.heap.size w3 wr) (fun _ i _ => n - (intOf i).toNat)
      case atStart => exact ⟨0, 0, Nat.zero_le _, Nat.zero_le _, rfl, rfl, HT.out, Below.refl _ _⟩
      case round =>
        obtain ⟨i, k, hi, hk, rfl, rfl, hthru, hbel⟩ := hrel
        have Hth := Lib.hid hthru
        have Hbel := Lib.hid hbel
        clear hthru hbel HT
        by_cases hlt : i < n
        · obtain ⟨e, he⟩ := getE l0 i n Hn.out hlt
          have He := Lib.hid he
          obtain ⟨b, off, rfl, hc⟩ := elem_Ent (HVC.out.below Hbel.out) he
          obtain ⟨c0, c1, c2, c4, c5, c6, c7, c8, c9⟩ := hc
          clear he
          by_cases hkM : k < M
          · have hkM' : decide ((k : Int) < (M : Int)) = true := decide_eq_true (by omega)
            obtain ⟨y, hy⟩ := getE X k M HM.out hkM
            have Hy := Lib.hid hy
            obtain ⟨b2, off2, rfl, hc2⟩ := elem_Ent (HC.out.below Hbel.out) hy
            have Hc2 := Lib.hid hc2
            have hlb2 : b2 < wr.heap.size := World.block_lt_of_cell? _ _ hc2.1
            obtain ⟨d0, d1, d2, d3, d4, d5, d6, d7, d8⟩ := hc2
            clear hy
            go_upto_region 12 with fail
            clear c0 c1 c2 c4 c5 c6 c7 c8 c9 d0 d1 d2 d3 d4 d5 d6 d7 d8
            generalize hW : ((wr.alloc _).alloc _) = W
            have BE : EntBox W wr.heap.size e := by rw [← hW]; exact EntBox.n2a wr e _ _ rfl
            have BY : EntBox W (wr.heap.size + 1) (healthy (fun _ => e.health) y) := by rw [← hW]; exact EntBox.n2b wr (healthy (fun _ => e.health) y) _ _ rfl
            have HF := Lib.hid (show fits e y = (eqEnt (healthy (fun _ => e.health) y) e && (decide (e.kind = 1) || eqEnt y e)) from rfl)
            have HBW := Lib.hid (show Below w3.heap.size w3 W from by rw [← hW]; exact (Hbel.out.alloc Hbel.out.size _).alloc (by have := Hbel.out.size; simp; omega) _)
            generalize healthy (fun _ => e.health) y = z at BY HF
            obtain ⟨b3, off3, hA3, hc3⟩ := elem_Ent (HC.out.below HBW.out) Hy.out
            cases hA3
            obtain ⟨d0, d1, d2, d3, d4, d5, d6, d7, d8⟩ := hc3
            obtain ⟨x0, x1, x2, x3, x4, x5, x6, x7, x8, -, -, -, -, -, -, -, -, -⟩ := BE
            obtain ⟨y0, y1, y2, y3, y4, y5, y6, y7, y8, -, -, -, -, -, -, -, -, -⟩ := BY
            have hlw : wr.heap.size < W.heap.size := World.block_lt_of_cell? _ _ x0
            clear hW
            generalize wr.heap.size + 1 = g2 at *
            generalize wr.heap.size = g1 at *
            cases hP : eqEnt z e with
            | false =>
              have Hf := Lib.hid (show fits e y = false from by rw [HF.out, hP]; rfl)
              go_quiet (fail)
              obtain ⟨hkd, hth⟩ := thru_skip He.out Hy.out Hf.out Hth.out
              have Ht2 := Lib.hid hth
              clear hth
              rcases hkd with hkd | hkd
              · have hk2 : (e.kind != 2) = false := by simpa using hkd
                go_wp2
                go_roundw
                case rel => exact ⟨i + 1, k, by omega, by omega, rfl, by go_num, Ht2.out, below_drewN HBW.out _⟩
                case measure => simp [intOf]; omega
              · have hk2 : (e.kind != 2) = true := by rw [hkd]; rfl
                have hk3 : (e.kind != 3) = false := by simpa using hkd
                go_wp2
                go_roundw
                case rel => exact ⟨i + 1, k, by omega, by omega, rfl, by go_num, Ht2.out, below_drewN HBW.out _⟩
                case measure => simp [intOf]; omega
            | true =>
              by_cases hk1 : e.kind = 1
              · have hk1' : (e.kind == 1) = true := by simpa using hk1
                have Hf := Lib.hid (show fits e y = true from by rw [HF.out, hP, hk1]; rfl)
                clear hk1
                have Ht := Lib.hid (thru_fit He.out Hy.out Hf.out Hth.out)
                go_quiet (fail)
                go_wp2
                go_roundw
                case rel => exact ⟨i + 1, k + 1, by omega, by omega, by go_num, by go_num, Ht.out, below_drewN HBW.out _⟩
                case measure => simp [intOf]; omega
              · have hk1' : (e.kind == 1) = false := by simpa using hk1
                cases hQ : eqEnt y e with
                | false =>
                  have Hf := Lib.hid (show fits e y = false from by rw [HF.out, hP, hQ]; simp [hk1])
                  go_quiet (fail)
                  obtain ⟨hkd, hth⟩ := thru_skip He.out Hy.out Hf.out Hth.out
                  have Ht2 := Lib.hid hth
                  clear hth
                  rcases hkd with hkd | hkd
                  · have hk2 : (e.kind != 2) = false := by simpa using hkd
                    go_wp2
                    go_roundw
                    case rel => exact ⟨i + 1, k, by omega, by omega, rfl, by go_num, Ht2.out, below_drewN HBW.out _⟩
                    case measure => simp [intOf]; omega
                  · have hk2 : (e.kind != 2) = true := by rw [hkd]; rfl
                    have hk3 : (e.kind != 3) = false := by simpa using hkd
                    go_wp2
                    go_roundw
                    case rel => exact ⟨i + 1, k, by omega, by omega, rfl, by go_num, Ht2.out, below_drewN HBW.out _⟩
                    case measure => simp [intOf]; omega
                | true =>
                  have Hf := Lib.hid (show fits e y = true from by rw [HF.out, hP, hQ]; simp)
                  have Ht := Lib.hid (thru_fit He.out Hy.out Hf.out Hth.out)
                  go_quiet (fail)
                  go_wp2
                  go_roundw
                  case rel => exact ⟨i + 1, k + 1, by omega, by omega, by go_num, by go_num, Ht.out, below_drewN HBW.out _⟩
                  case measure => simp [intOf]; omega
          · have hkM' : decide ((k : Int) < (M : Int)) = false := decide_eq_false (by omega)
            obtain ⟨hkd, hth⟩ := thru_done He.out (by rw [HM.out]; omega) Hth.out
            have Ht2 := Lib.hid hth
            clear hth
            rcases hkd with hkd | hkd
            · have hk2 : (e.kind != 2) = false := by simpa using hkd
              go_wp2
              go_roundw
              case rel => exact ⟨i + 1, k, by omega, by omega, rfl, by go_num, Ht2.out, Hbel.out.alloc Hbel.out.size _⟩
              case measure => simp [intOf]; omega
            · have hk2 : (e.kind != 2) = true := by rw [hkd]; rfl
              have hk3 : (e.kind != 3) = false := by simpa using hkd
              go_wp2
              go_roundw
              case rel => exact ⟨i + 1, k, by omega, by omega, rfl, by go_num, Ht2.out, Hbel.out.alloc Hbel.out.size _⟩
              case measure => simp [intOf]; omega
        · obtain rfl : i = n := by omega
          have Hend := Lib.hid (thru_end (Nat.le_of_eq Hn.out) (by rw [HM.out]; exact hk) Hth.out)
          obtain rfl : k = M := Hend.out.trans HM.out
          go_wp2_with fail
          refine (HA.out _).mono ?_
          rintro e w5 ⟨rfl, hb5⟩
          have Hb5 := Lib.hid (nextW Hb3.out (nextW Hbel.out hb5))
          clear hb5
          go_wp2
          go_ret
          exact ⟨rfl, Hb5.out⟩
    · have hd2 : decide ((40 : Int) < (m : Int)) = true := decide_eq_true (by omega)
      go_enter Try.func3, Try.ntmps3
      go_wp2_with fail
      refine (HA.out _).mono ?_
      rintro e w5 ⟨rfl, hb5⟩
      have Hb5 := Lib.hid hb5
      clear hb5
      go_wp2
      go_ret
      exact ⟨rfl, Hb5.out⟩
  · have hd1 : decide ((40 : Int) < (n : Int)) = true := decide_eq_true (by omega)
    go_enter Try.func3, Try.ntmps3
    go_wp2_with fail
    refine (HA.out _).mono ?_
    rintro e w5 ⟨rfl, hb5⟩
    have Hb5 := Lib.hid hb5
    clear hb5
    go_wp2
    go_ret
    exact ⟨rfl, Hb5.out⟩

set_option maxRecDepth 100000 in
theorem lifted (os : Os) (started : os.Started) (H : Type) (enc : TypeId × Value → H) :
    ReturnsInHanded {} Try.checked os 3 .any (Rows.hittingOnlySpec.pre6 enc Try.prog Try.f3 Rows.hittingOnlyRow.domain false) (Rows.hittingOnlySpec.post enc Try.prog Try.f3 false true false false) := by
  refine returnsInHanded_of_change (C := Try.checked) own started (by kernel_rfl) Try.func3
    (ChangeSpec.witness6 (enc := enc) (C := Try.checked) false ⟨#[], #[.slice none 0 0, .slice none 0 0], []⟩ 8 (by kernel_rfl) (by kernel_rfl) (by kernel_rfl) (by kernel_rfl)) ?_
  intro W base args ds gs before hval0 hW hcnd _
  have hval : ∀ (j : Nat) t v, Try.f3.params[j]? = some t → args[j]? = some v → Value.okWide Try.prog W .any base t v := hval0
  have hW' := hW
  obtain ⟨p, q, hA0, hV, rfl, hfz, hnd⟩ := hW
  have hA : DataW.TrodAll enc Try.prog W 0 (fun _ => true) true Try.f3.params.toList args.toList ds p := hA0
  rw [Try.params3] at hA hval
  obtain ⟨v0, vs0, d0, ds0, p0, q0, hargs, rfl, rfl, h0, r0⟩ := trodAll_cons hA
  obtain ⟨v1, vs1, d1, ds1, p1, q1, rfl, rfl, rfl, h1, r1⟩ := trodAll_cons r0
  obtain ⟨rfl, rfl, rfl⟩ := trodAll_nil r1
  obtain rfl : args = #[v0, v1] := by cases args; simp_all
  obtain ⟨rfl, rfl⟩ := trodVars_none hV
  obtain ⟨A0, len0, cap0, rfl⟩ := okWide_slice Try.underlying22 (hval 0 22 v0 rfl rfl)
  have k0 := h0
  have lt0 : ∀ x ∈ p0, x.block < W.heap.size := by obtain ⟨m, hm⟩ := k0; exact DataW.trod_lt m _ _ _ hm
  obtain ⟨l0, w0, o0⟩ : ∃ l : List Fx.Ent, Fx.IsSl Fx.entC W (.slice A0 len0 cap0) l ∧ ∀ e ∈ l, Fx.Ent.ok e := by
    obtain ⟨fuel, hf⟩ := h0
    exact open_sl22 hf
  obtain ⟨A1, len1, cap1, rfl⟩ := okWide_slice Try.underlying23 (hval 1 23 v1 rfl rfl)
  have k1 := h1
  have lt1 : ∀ x ∈ p1, x.block < W.heap.size := by obtain ⟨m, hm⟩ := k1; exact DataW.trod_lt m _ _ _ hm
  obtain ⟨l1, w1, o1⟩ : ∃ l : List Fx.Crs, Fx.IsSl Fx.crsC W (.slice A1 len1 cap1) l ∧ ∀ e ∈ l, Fx.Crs.ok e := by
    obtain ⟨fuel, hf⟩ := h1
    exact open_sl23 hf
  clear hA0 hval0
  refine (walk _ l0 _ l1 W w0 o0 w1 o1).mono fun e W' ⟨he, bel⟩ => ?_
  subst he
  exact ⟨_, rfl, _, _, _, [], _, [], hW', trodAll_mk1 (shut_bool Try.underlying4 _), (trodAll_cons_mk (Below.trod laidOut (by kernel_rfl) (of_decide_eq_true (by kernel_rfl)) k0 bel lt0) (trodAll_cons_mk (Below.trod laidOut (by kernel_rfl) (of_decide_eq_true (by kernel_rfl)) k1 bel lt1) trodAll_mk0)), rfl, bel.frame _, fun h => by cases h⟩

theorem over : Rows.hittingOnlyRow.holds Try.pinned (OpenSpec.ofChange Rows.hittingOnlySpec) :=
  OpenClaim.holds_of_wide 3 Try.f3 rfl rfl rfl rfl rfl rfl rfl ⟨rfl, rfl, rfl, rfl, rfl⟩ rfl rfl rfl rfl rfl (by kernel_rfl) Try.func3 (by kernel_rfl)
    (of_decide_eq_true (by kernel_rfl)) (by unfold Func.isWrapper; first | (rw [if_pos (by decide +kernel)]; kernel_rfl) | (rw [if_neg (by decide +kernel)]; exact ⟨rfl, rfl⟩))
    (fun os started H enc _ => lifted os started H enc)

end Go.Proofs.Ytdhahlghldgggaa.hittingOnly
namespace Go.Proofs.Ytdhahlghldgggaa
theorem hittingOnly_proved : Rows.HittingOnlySaid := hittingOnly.over
end Go.Proofs.Ytdhahlghldgggaa
