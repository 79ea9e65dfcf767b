/- joustlaw06.CrossParts returns true for every input; no conditions. -/
import Derived.Test.YtbmboidmgdpnoaaCrAwake
import Derived.Test.YtbmboidmgdpnoaaGSeq
import Derived.Test.YtbmboidmgdpnoaaGOwnTCross
import Derived.Test.YtbmboidmgdpnoaaRows
import Derived.WalkKit
import Derived.ProofKit
import Derived.OpenShut
import Derived.ShutString
import Derived.ChangeOld
import Derived.Below
import Derived.Deep.Slices
namespace Go.Proofs.Ytbmboidmgdpnoaa.crossParts
open Go.ChangeShapes Go.WideShapes Go.ChangeAt Go.RowKit
open Go.ChangeMaps (open_string shut_string)
set_option linter.unusedVariables false

theorem own : ownKnob Try.prog.godebug = none := by kernel_rfl
theorem laidOut : laidOutB Try.prog = true := by kernel_rfl
open Fx (IsRow)
theorem open_T26 {H : Type} {enc : TypeId × Value → H} {W : World} {fuel : Nat} {cs : List Value} {x : DataW H × List MemPlace} (h : DataW.trod enc Try.prog W 0 (fun _ => true) true fuel 26 cs = some x) :
    ∃ (a0 : Int) (a1 : Int) (a2 : Int) (a3 : Int) (a4 : Int) (a5 : Int) (a6 : Int) (a7 : Int) (a8 : Int), cs = [.int .i64 a0, .int .i64 a1, .int .i64 a2, .int .i64 a3, .int .i64 a4, .int .i64 a5, .int .i64 a6, .int .i64 a7, .int .i64 a8] ∧ (Lit.int .i64 a0).wf = true ∧ (Lit.int .i64 a1).wf = true ∧ (Lit.int .i64 a2).wf = true ∧ (Lit.int .i64 a3).wf = true ∧ (Lit.int .i64 a4).wf = true ∧ (Lit.int .i64 a5).wf = true ∧ (Lit.int .i64 a6).wf = true ∧ (Lit.int .i64 a7).wf = true ∧ (Lit.int .i64 a8).wf = true := by
  obtain ⟨xs, n, -, -, hl, hxl, hg⟩ := DataW.trod_struct Try.underlying26 h
  have hl' : cs.length = 9 := hl.trans (by kernel_rfl)
  have c3 : Try.prog.cellsOf 3 = 1 := by kernel_rfl
  clear hl h
  match cs, hl' with
  | [z0, z1, z2, z3, z4, z5, z6, z7, z8], _ =>
    have g0 : DataW.trod enc Try.prog W 0 (fun _ => true) true n 3 (([z0, z1, z2, z3, z4, z5, z6, z7, z8].drop 0).take (Try.prog.cellsOf 3)) = xs[0]? := hg 0 _ rfl
    rw [c3, List.getElem?_eq_getElem (show 0 < xs.length by rw [hxl]; decide)] at g0
    have g1 : DataW.trod enc Try.prog W 0 (fun _ => true) true n 3 (([z0, z1, z2, z3, z4, z5, z6, z7, z8].drop 1).take (Try.prog.cellsOf 3)) = xs[1]? := hg 1 _ rfl
    rw [c3, List.getElem?_eq_getElem (show 1 < xs.length by rw [hxl]; decide)] at g1
    have g2 : DataW.trod enc Try.prog W 0 (fun _ => true) true n 3 (([z0, z1, z2, z3, z4, z5, z6, z7, z8].drop 2).take (Try.prog.cellsOf 3)) = xs[2]? := hg 2 _ rfl
    rw [c3, List.getElem?_eq_getElem (show 2 < xs.length by rw [hxl]; decide)] at g2
    have g3 : DataW.trod enc Try.prog W 0 (fun _ => true) true n 3 (([z0, z1, z2, z3, z4, z5, z6, z7, z8].drop 3).take (Try.prog.cellsOf 3)) = xs[3]? := hg 3 _ rfl
    rw [c3, List.getElem?_eq_getElem (show 3 < xs.length by rw [hxl]; decide)] at g3
    have g4 : DataW.trod enc Try.prog W 0 (fun _ => true) true n 3 (([z0, z1, z2, z3, z4, z5, z6, z7, z8].drop 4).take (Try.prog.cellsOf 3)) = xs[4]? := hg 4 _ rfl
    rw [c3, List.getElem?_eq_getElem (show 4 < xs.length by rw [hxl]; decide)] at g4
    have g5 : DataW.trod enc Try.prog W 0 (fun _ => true) true n 3 (([z0, z1, z2, z3, z4, z5, z6, z7, z8].drop 5).take (Try.prog.cellsOf 3)) = xs[5]? := hg 5 _ rfl
    rw [c3, List.getElem?_eq_getElem (show 5 < xs.length by rw [hxl]; decide)] at g5
    have g6 : DataW.trod enc Try.prog W 0 (fun _ => true) true n 3 (([z0, z1, z2, z3, z4, z5, z6, z7, z8].drop 6).take (Try.prog.cellsOf 3)) = xs[6]? := hg 6 _ rfl
    rw [c3, List.getElem?_eq_getElem (show 6 < xs.length by rw [hxl]; decide)] at g6
    have g7 : DataW.trod enc Try.prog W 0 (fun _ => true) true n 3 (([z0, z1, z2, z3, z4, z5, z6, z7, z8].drop 7).take (Try.prog.cellsOf 3)) = xs[7]? := hg 7 _ rfl
    rw [c3, List.getElem?_eq_getElem (show 7 < xs.length by rw [hxl]; decide)] at g7
    have g8 : DataW.trod enc Try.prog W 0 (fun _ => true) true n 3 (([z0, z1, z2, z3, z4, z5, z6, z7, z8].drop 8).take (Try.prog.cellsOf 3)) = xs[8]? := hg 8 _ rfl
    rw [c3, List.getElem?_eq_getElem (show 8 < xs.length by rw [hxl]; decide)] at g8
    obtain ⟨a0, e0, -, w0⟩ := DataW.trod_int (cs := [z0]) Try.underlying3 g0
    simp only [List.cons.injEq, and_true] at e0
    subst e0
    clear g0
    obtain ⟨a1, e1, -, w1⟩ := DataW.trod_int (cs := [z1]) Try.underlying3 g1
    simp only [List.cons.injEq, and_true] at e1
    subst e1
    clear g1
    obtain ⟨a2, e2, -, w2⟩ := DataW.trod_int (cs := [z2]) Try.underlying3 g2
    simp only [List.cons.injEq, and_true] at e2
    subst e2
    clear g2
    obtain ⟨a3, e3, -, w3⟩ := DataW.trod_int (cs := [z3]) Try.underlying3 g3
    simp only [List.cons.injEq, and_true] at e3
    subst e3
    clear g3
    obtain ⟨a4, e4, -, w4⟩ := DataW.trod_int (cs := [z4]) Try.underlying3 g4
    simp only [List.cons.injEq, and_true] at e4
    subst e4
    clear g4
    obtain ⟨a5, e5, -, w5⟩ := DataW.trod_int (cs := [z5]) Try.underlying3 g5
    simp only [List.cons.injEq, and_true] at e5
    subst e5
    clear g5
    obtain ⟨a6, e6, -, w6⟩ := DataW.trod_int (cs := [z6]) Try.underlying3 g6
    simp only [List.cons.injEq, and_true] at e6
    subst e6
    clear g6
    obtain ⟨a7, e7, -, w7⟩ := DataW.trod_int (cs := [z7]) Try.underlying3 g7
    simp only [List.cons.injEq, and_true] at e7
    subst e7
    clear g7
    obtain ⟨a8, e8, -, w8⟩ := DataW.trod_int (cs := [z8]) Try.underlying3 g8
    simp only [List.cons.injEq, and_true] at e8
    subst e8
    clear g8
    exact ⟨a0, a1, a2, a3, a4, a5, a6, a7, a8, rfl, w0, w1, w2, w3, w4, w5, w6, w7, w8⟩

theorem open_T28 {H : Type} {enc : TypeId × Value → H} {W : World} {fuel : Nat} {cs : List Value} {x : DataW H × List MemPlace} (h : DataW.trod enc Try.prog W 0 (fun _ => true) true fuel 28 cs = some x) :
    ∃ (a0 : Int) (a1 : Int) (a2 : Int) (a3 : Int) (a4 : Int) (a5 : Int) (a6 : Int) (a7 : Int) (a8 : Int) (a9 : Int) (a10 : Int) (a11 : Int) (a12 : Int) (a13 : Int) (a14 : Int), cs = [.int .i64 a0, .int .i64 a1, .int .i64 a2, .int .i64 a3, .int .i64 a4, .int .i64 a5, .int .i64 a6, .int .i64 a7, .int .i64 a8, .int .i64 a9, .int .i64 a10, .int .i64 a11, .int .i64 a12, .int .i64 a13, .int .i64 a14] ∧ (Lit.int .i64 a0).wf = true ∧ (Lit.int .i64 a1).wf = true ∧ (Lit.int .i64 a2).wf = true ∧ (Lit.int .i64 a3).wf = true ∧ (Lit.int .i64 a4).wf = true ∧ (Lit.int .i64 a5).wf = true ∧ (Lit.int .i64 a6).wf = true ∧ (Lit.int .i64 a7).wf = true ∧ (Lit.int .i64 a8).wf = true ∧ (Lit.int .i64 a9).wf = true ∧ (Lit.int .i64 a10).wf = true ∧ (Lit.int .i64 a11).wf = true ∧ (Lit.int .i64 a12).wf = true ∧ (Lit.int .i64 a13).wf = true ∧ (Lit.int .i64 a14).wf = true := by
  obtain ⟨xs, n, -, -, hl, hxl, hg⟩ := DataW.trod_struct Try.underlying28 h
  have hl' : cs.length = 15 := hl.trans (by kernel_rfl)
  have c3 : Try.prog.cellsOf 3 = 1 := by kernel_rfl
  have c26 : Try.prog.cellsOf 26 = 9 := by kernel_rfl
  clear hl h
  match cs, hl' with
  | [z0, z1, z2, z3, z4, z5, z6, z7, z8, z9, z10, z11, z12, z13, z14], _ =>
    have g0 : DataW.trod enc Try.prog W 0 (fun _ => true) true n 3 (([z0, z1, z2, z3, z4, z5, z6, z7, z8, z9, z10, z11, z12, z13, z14].drop 0).take (Try.prog.cellsOf 3)) = xs[0]? := hg 0 _ rfl
    rw [c3, List.getElem?_eq_getElem (show 0 < xs.length by rw [hxl]; decide)] at g0
    have g1 : DataW.trod enc Try.prog W 0 (fun _ => true) true n 3 (([z0, z1, z2, z3, z4, z5, z6, z7, z8, z9, z10, z11, z12, z13, z14].drop 1).take (Try.prog.cellsOf 3)) = xs[1]? := hg 1 _ rfl
    rw [c3, List.getElem?_eq_getElem (show 1 < xs.length by rw [hxl]; decide)] at g1
    have g2 : DataW.trod enc Try.prog W 0 (fun _ => true) true n 3 (([z0, z1, z2, z3, z4, z5, z6, z7, z8, z9, z10, z11, z12, z13, z14].drop 2).take (Try.prog.cellsOf 3)) = xs[2]? := hg 2 _ rfl
    rw [c3, List.getElem?_eq_getElem (show 2 < xs.length by rw [hxl]; decide)] at g2
    have g3 : DataW.trod enc Try.prog W 0 (fun _ => true) true n 3 (([z0, z1, z2, z3, z4, z5, z6, z7, z8, z9, z10, z11, z12, z13, z14].drop 3).take (Try.prog.cellsOf 3)) = xs[3]? := hg 3 _ rfl
    rw [c3, List.getElem?_eq_getElem (show 3 < xs.length by rw [hxl]; decide)] at g3
    have g4 : DataW.trod enc Try.prog W 0 (fun _ => true) true n 26 (([z0, z1, z2, z3, z4, z5, z6, z7, z8, z9, z10, z11, z12, z13, z14].drop 4).take (Try.prog.cellsOf 26)) = xs[4]? := hg 4 _ rfl
    rw [c26, List.getElem?_eq_getElem (show 4 < xs.length by rw [hxl]; decide)] at g4
    have g5 : DataW.trod enc Try.prog W 0 (fun _ => true) true n 3 (([z0, z1, z2, z3, z4, z5, z6, z7, z8, z9, z10, z11, z12, z13, z14].drop 13).take (Try.prog.cellsOf 3)) = xs[5]? := hg 5 _ rfl
    rw [c3, List.getElem?_eq_getElem (show 5 < xs.length by rw [hxl]; decide)] at g5
    have g6 : DataW.trod enc Try.prog W 0 (fun _ => true) true n 3 (([z0, z1, z2, z3, z4, z5, z6, z7, z8, z9, z10, z11, z12, z13, z14].drop 14).take (Try.prog.cellsOf 3)) = xs[6]? := hg 6 _ rfl
    rw [c3, List.getElem?_eq_getElem (show 6 < xs.length by rw [hxl]; decide)] at g6
    obtain ⟨a0, e0, -, w0⟩ := DataW.trod_int (cs := [z0]) Try.underlying3 g0
    simp only [List.cons.injEq, and_true] at e0
    subst e0
    clear g0
    obtain ⟨a1, e1, -, w1⟩ := DataW.trod_int (cs := [z1]) Try.underlying3 g1
    simp only [List.cons.injEq, and_true] at e1
    subst e1
    clear g1
    obtain ⟨a2, e2, -, w2⟩ := DataW.trod_int (cs := [z2]) Try.underlying3 g2
    simp only [List.cons.injEq, and_true] at e2
    subst e2
    clear g2
    obtain ⟨a3, e3, -, w3⟩ := DataW.trod_int (cs := [z3]) Try.underlying3 g3
    simp only [List.cons.injEq, and_true] at e3
    subst e3
    clear g3
    obtain ⟨a4, a5, a6, a7, a8, a9, a10, a11, a12, e4, w4, w5, w6, w7, w8, w9, w10, w11, w12⟩ := open_T26 (cs := [z4, z5, z6, z7, z8, z9, z10, z11, z12]) g4
    simp only [List.cons.injEq, and_true] at e4
    obtain ⟨rfl, rfl, rfl, rfl, rfl, rfl, rfl, rfl, rfl⟩ := e4
    clear g4
    obtain ⟨a13, e5, -, w13⟩ := DataW.trod_int (cs := [z13]) Try.underlying3 g5
    simp only [List.cons.injEq, and_true] at e5
    subst e5
    clear g5
    obtain ⟨a14, e6, -, w14⟩ := DataW.trod_int (cs := [z14]) Try.underlying3 g6
    simp only [List.cons.injEq, and_true] at e6
    subst e6
    clear g6
    exact ⟨a0, a1, a2, a3, a4, a5, a6, a7, a8, a9, a10, a11, a12, a13, a14, rfl, w0, w1, w2, w3, w4, w5, w6, w7, w8, w9, w10, w11, w12, w13, w14⟩

theorem open_sl29 {H : Type} {enc : TypeId × Value → H} {W : World} {fuel : Nat} {v : Value} {x : DataW H × List MemPlace} (h : DataW.trod enc Try.prog W 0 (fun _ => true) true fuel 29 [v] = some x) :
    ∃ l : List Fx.Crs, Fx.IsSl Fx.crsC W v l ∧ ∀ e ∈ l, Fx.Crs.ok e := by
  rcases Go.Deep.open_slice Try.underlying29 h with ⟨hcs, _⟩ | ⟨a, len, cap, m, n, D, Pl, hcs, _, hl, hm, hmm, _, hel⟩
  · simp at hcs
    subst hcs
    exact ⟨[], Fx.IsSl.nil _ _, by simp⟩
  · simp at hcs
    subst hcs
    have hmc : m = cap := hmm
    have hce : Try.prog.cellsOf 28 = 15 := by kernel_rfl
    refine Fx.sl_of_cells (base := 0) default 15 Fx.crsC_len (by omega) hl fun i hi => ?_
    obtain ⟨cs', hc, ht⟩ := hel i (by omega)
    rw [hce] at hc
    obtain ⟨a0, a1, a2, a3, a4, a5, a6, a7, a8, a9, a10, a11, a12, a13, a14, rfl, w0, w1, w2, w3, w4, w5, w6, w7, w8, w9, w10, w11, w12, w13, w14⟩ := open_T28 ht
    exact ⟨⟨a0, a1, a2, a3, ⟨a4, a5, a6, a7, a8, a9, a10, a11, a12⟩, a13, a14⟩, ⟨w0, w1, w2, w3, w4, w5, w6, w7, w8, w9, w10, w11, w12, w13, w14⟩, hc⟩

open Fx

/-- A place among six. -/
def m6 (x : Int) : Int := wrap64 ((IntKind.u64.wrap x).tmod 6)

theorem m6_bd (x : Int) : 0 ≤ m6 x ∧ m6 x < 6 := by
  unfold m6
  have h0 : 0 ≤ IntKind.u64.wrap x := by rw [IntKind.wrap_u64]; omega
  rw [Int.tmod_eq_emod_of_nonneg h0]
  have h1 : 0 ≤ IntKind.u64.wrap x % 6 ∧ IntKind.u64.wrap x % 6 < 6 := by omega
  rw [IntWalk.wrap64_in _ (by omega)]
  exact h1

/-- With a region among six. -/
def six (c : Crs) : Crs := ⟨c.kind, c.src, m6 c.dst, c.frame, c.e, c.x, c.y⟩

theorem flat_one (a : List Crs) : ([a] : List (List Crs)).flatten = a := by simp

/-- Those that go to the first regions. -/
def below6 (l : List Crs) (r : Nat) : List Crs := l.filter fun c => decide (c.dst < (r : Int))

theorem below6_succ (l : List Crs) (h : Srtd lessB l) (h0 : ∀ c ∈ l, 0 ≤ c.dst) (r : Nat) : below6 l (r + 1) = below6 l r ++ toL l r := by
  induction l with
  | nil => rfl
  | cons c l ih =>
    have h' := List.pairwise_cons.1 h
    have ih' := ih h'.2 (fun x hx => h0 x (List.mem_cons_of_mem _ hx))
    by_cases h1 : c.dst < (r : Int)
    · have e1 : below6 (c :: l) (r + 1) = c :: below6 l (r + 1) := by unfold below6; rw [List.filter_cons, if_pos (by simp; omega)]
      have e2 : below6 (c :: l) r = c :: below6 l r := by unfold below6; rw [List.filter_cons, if_pos (by simp; omega)]
      have e3 : toL (c :: l) r = toL l r := by unfold toL; rw [List.filter_cons, if_neg (by simp; omega)]
      rw [e1, e2, e3, ih']; rfl
    · have hge : ∀ x ∈ l, ¬ x.dst < (r : Int) := fun x hx => by
        have := (lessB_no _ _).1 (h'.1 x hx)
        omega
      have e2 : below6 (c :: l) r = [] := by
        unfold below6
        rw [List.filter_eq_nil_iff]
        intro x hx
        rcases List.mem_cons.1 hx with rfl | hx
        · simp; omega
        · have := hge x hx; simp; omega
      rw [e2, List.nil_append]
      unfold below6 toL
      refine List.filter_congr fun x hx => ?_
      have : ¬ x.dst < (r : Int) := by
        rcases List.mem_cons.1 hx with rfl | hx
        · exact h1
        · exact hge x hx
      rw [decide_eq_decide]
      push_cast
      omega

theorem below6_all (l : List Crs) (h : ∀ c ∈ l, c.dst < 6) : below6 l 6 = l := by
  unfold below6
  rw [List.filter_eq_self]
  intro c hc
  have := h c hc
  simp; omega

theorem toL_six (l : List Crs) (h : ∀ c ∈ l, c.dst < 6) : toL l 6 = [] := by
  unfold toL
  rw [List.filter_eq_nil_iff]
  intro c hc
  have := h c hc
  simp; omega

set_option maxRecDepth 100000 in
set_option maxHeartbeats 2000000 in
theorem walk (v0 : Value) (l0 : List Fx.Crs) (w : World) (w0 : Fx.IsSl Fx.crsC w v0 l0) (k0 : ∀ e ∈ l0, Fx.Crs.ok e) :
    Calls Try.prog 7 #[v0] w fun e w' => e = .returned (.bool true) ∧ Below w.heap.size w w' := by
  clear k0
  have HV := Lib.hid w0
  obtain ⟨A, c, rfl, -, -, -⟩ := w0
  have HA := Lib.hid awake_cr
  have HP := Lib.hid plain_Crs
  have HC := Lib.hid csort_any
  have HT := Lib.hid cto_any
  obtain ⟨n, hnn⟩ : ∃ n, l0.length = n := ⟨_, rfl⟩
  rw [hnn] at HV ⊢
  have Hn := Lib.hid hnn
  clear hnn
  by_cases h1 : n ≤ 40
  · have hd1 : decide ((40 : Int) < (n : Int)) = false := decide_eq_false (by omega)
    go_enter Try.func7, Try.ntmps7
    go_wp2
    go_loopw [3, 4] (fun v i wr => ∃ k : Nat, k ≤ n ∧ i = .int .i64 k ∧ wr.ownsRow w.heap.size 28 15 v ((l0.take k).map six).length (((l0.take k).map six).flatMap crsC) ∧ Below w.heap.size w wr) (fun _ i _ => n - (intOf i).toNat)
    case atStart => exact ⟨0, Nat.zero_le _, rfl, ⟨by simp, .inl ⟨rfl, rfl⟩⟩, Below.refl _ _⟩
    case round =>
      obtain ⟨k, hk, rfl, hown, hbel⟩ := hrel
      have Hown := Lib.hid hown
      have Hbel := Lib.hid hbel
      clear hown hbel
      by_cases hlt : k < n
      · obtain ⟨x, hx⟩ : ∃ x, l0[k]? = some x := ⟨_, List.getElem?_eq_getElem (by have := Hn.out; omega)⟩
        have HX := Lib.hid (show (l0.take (k + 1)).map six = (l0.take k).map six ++ [six x] from by rw [take_at hx]; simp)
        have HL := Lib.hid (show ((l0.take k).map six).length = k from by rw [List.length_map, List.length_take, Nat.min_eq_left (by have := Hn.out; omega)])
        have HM := Lib.hid (show m6 x.dst = wrap64 ((IntKind.u64.wrap x.dst).tmod 6) from rfl)
        obtain ⟨b, off, rfl, hc⟩ := elem_Crs ((HV.out.below Hbel.out).at) hx
        obtain ⟨c0, c1, c2, c3, c4, c5, c6, c7, c8, c9, c10, c11, c12, c13, c14⟩ := hc
        have hbw : b < wr.heap.size := World.block_lt_of_cell? _ _ c0
        have hkn : (k : Int) < (n : Int) := by omega
        clear hx
        go_wp2_with (at_builtin; go_must (refine appL_Crs (by rfl) (.tmp 29) (.tmp 31) (by rfl) w.heap.size _ ((l0.take k).map six) (by rfl) (own_below Hown.out (by repeat (first | exact Below.refl _ _ | refine Below.setCell ?_ (Nat.le_refl _) _ | refine Below.drew ?_ | refine Below.alloc ?_ (by simp) _))) _ [six x] (by rfl) (one_Crs _ _ _ 1 (by first | rfl | simp) (by omega)) (by have := HL.out; simp; omega) (by have := Hbel.out.size; simp; omega) ?_))
        intro v' w5 hown5 hb5 _
        have HO5 := Lib.hid (show w5.ownsRow w.heap.size 28 15 v' ((l0.take (k + 1)).map six).length (((l0.take (k + 1)).map six).flatMap crsC) from by rw [HX.out]; simpa using hown5)
        have HB5 := Lib.hid (show Below w.heap.size w w5 from Below.trans (Below.trans Hbel.out (Below.mono (B := wr.heap.size) (by repeat (first | exact Below.refl _ _ | refine Below.setCell ?_ (Nat.le_refl _) _ | refine Below.drew ?_ | refine Below.alloc ?_ (by simp) _)) Hbel.out.size)) hb5)
        clear hown5 hb5
        go_wp2
        go_roundw
        case rel => exact ⟨k + 1, by omega, by go_num, HO5.out, HB5.out⟩
        case measure => simp [intOf]; omega
      · obtain rfl : k = n := by omega
        rw [List.take_of_length_le (Nat.le_of_eq Hn.out)] at Hown
        have HS0 := Lib.hid (show ∀ c ∈ st lessB (l0.map six), 0 ≤ c.dst ∧ c.dst < 6 from fun c hc => by
          have := (st_perm lessB (l0.map six)).mem_iff.1 hc
          obtain ⟨x, -, rfl⟩ := List.mem_map.1 this
          exact m6_bd x.dst)
        have HSr := Lib.hid (st_srtd lessB_swo (l0.map six))
        have HN := Lib.hid (show (l0.map six).length = k from by rw [List.length_map, Hn.out])
        have HN2 := Lib.hid (show (st lessB (l0.map six)).length = k from by rw [st_length, HN.out])
        have HO := Lib.hid (owned_sl Hown.out)
        generalize l0.map six = T at *
        obtain ⟨B, d, hu5, -, -, -⟩ := HO.out
        subst hu5
        rw [HN.out] at HO ⊢
        clear Hown
        go_wp2_with fail
        refine (HC.out _ _ [T] _ (vals_new wr [.slice B k d] 29 wr.heap.size rfl) ((AllSl.cons HO.out (AllSl.nil _)).below ((Below.refl _ _).alloc (Nat.le_refl _) _)) (by simp) (by rw [flat_one, HN.out]; omega)).mono ?_
        rw [flat_one]
        rintro e w2 ⟨v2, rfl, ho2, hb2⟩
        generalize st lessB T = X at *
        have HX := Lib.hid (owned_sl ho2)
        have HB2 := Lib.hid (nextW Hbel.out (unbox hb2))
        clear ho2 hb2 HO Hbel
        obtain ⟨C, cap, rfl, -, -, -⟩ := HX.out
        rw [HN2.out] at HX ⊢
        have HL6 := Lib.hid (fun r => Nat.le_trans (List.length_filter_le (fun c : Crs => decide (c.dst < ((r : Nat) : Int))) X) (Nat.le_of_eq HN2.out))
        have HT6 := Lib.hid (fun r => Nat.le_trans (List.length_filter_le (fun c : Crs => decide (c.dst = r)) X) (Nat.le_of_eq HN2.out))
        go_wp2
        go_loopw [7, 8] (fun v i wr => ∃ r : Nat, r ≤ 6 ∧ i = .int .i64 r ∧ wr.ownsRow w2.heap.size 28 15 v (below6 X r).length ((below6 X r).flatMap crsC) ∧ Below w2.heap.size w2 wr) (fun _ i _ => 6 - (intOf i).toNat)
        case atStart =>
          have e : below6 X 0 = [] := by
            unfold below6
            rw [List.filter_eq_nil_iff]
            intro c hc
            have := HS0.out c hc
            simp; omega
          exact ⟨0, Nat.zero_le _, rfl, by rw [e]; exact World.ownsRow_nil _ _ _ _, Below.refl _ _⟩
        case round =>
          obtain ⟨r, hr, rfl, hown, hbel⟩ := hrel
          have Hown := Lib.hid hown
          have Hbel := Lib.hid hbel
          clear hown hbel
          have HXr := Lib.hid (HX.out.below Hbel.out)
          by_cases hlt : r < 6
          · have HS := Lib.hid (below6_succ X HSr.out (fun c hc => (HS0.out c hc).1) r)
            have hlz : (r : Int) < 6 := by omega
            go_wp2_with fail
            refine (HT.out _ X r _ HXr.out (by rw [HN2.out]; omega)).mono ?_
            rintro e w3 ⟨v3, rfl, ho3, hb3⟩
            have HO3 := Lib.hid (owned_sl ho3)
            have HW3 := Lib.hid (own_below Hown.out hb3)
            have HB3 := Lib.hid (nextW Hbel.out hb3)
            clear ho3 hb3
            obtain ⟨A3, c3, rfl, -, -, -⟩ := HO3.out
            obtain ⟨q, hq⟩ : ∃ q, (toL X r).length = q := ⟨_, rfl⟩
            rw [hq] at HO3 ⊢
            have HQ := Lib.hid hq
            clear hq
            go_wp2_with (at_builtin; go_must (refine appL_Crs (by rfl) (.tmp 40) (.tmp 43) (by rfl) w2.heap.size _ (below6 X r) (by rfl) HW3.out _ (toL X r) (by rfl) HO3.out (by have h1 := HL6.out r; have h2 := HT6.out r; unfold below6 toL; omega) HB3.out.size ?_))
            intro v' w5 hown5 hb5 _
            have HO5 := Lib.hid (show w5.ownsRow w2.heap.size 28 15 v' (below6 X (r + 1)).length ((below6 X (r + 1)).flatMap crsC) from by rw [HS.out]; simpa using hown5)
            have HB5 := Lib.hid (HB3.out.trans hb5)
            clear hown5 hb5
            go_wp2
            go_roundw
            case rel => exact ⟨r + 1, by omega, by go_num, HO5.out, HB5.out⟩
            case measure => simp [intOf]; omega
          · obtain rfl : r = 6 := by omega
            rw [below6_all X (fun c hc => (HS0.out c hc).2)] at Hown
            have HE := Lib.hid (toL_six X (fun c hc => (HS0.out c hc).2))
            have HZ := Lib.hid (owned_sl Hown.out)
            have HB4 := Lib.hid (nextW HB2.out Hbel.out)
            go_wp2_with fail
            refine (HA.out _).mono ?_
            rintro e w5 ⟨rfl, hb5⟩
            have HX5 := Lib.hid (HXr.out.below hb5)
            have HZ5 := Lib.hid (HZ.out.below hb5)
            have HB5 := Lib.hid (nextW HB4.out hb5)
            clear hb5 HXr HZ HB4
            go_wp2_with fail
            refine (HP.out _ _ X _ HZ5.out HX5.out (by rw [HN2.out]; omega)).mono ?_
            rintro e w6 ⟨rfl, hb6⟩
            have HX6 := Lib.hid (HX5.out.below hb6)
            have HB6 := Lib.hid (nextW HB5.out hb6)
            clear hb6 HX5 HZ5 HB5
            go_wp2_with fail
            refine (HT.out _ X 6 _ HX6.out (by rw [HN2.out]; omega)).mono ?_
            rw [HE.out]
            rintro e w7 ⟨v7, rfl, ho7, hb7⟩
            obtain ⟨A7, c7, rfl, -, -, -⟩ := owned_sl ho7
            have HB7 := Lib.hid (nextW HB6.out hb7)
            clear ho7 hb7
            go_wp2
            go_ret
            exact ⟨rfl, HB7.out⟩
  · have hd1 : decide ((40 : Int) < (n : Int)) = true := decide_eq_true (by omega)
    go_enter Try.func7, Try.ntmps7
    go_wp2_with fail
    refine (HA.out _).mono ?_
    rintro e v1 ⟨rfl, hbv1⟩
    obtain ⟨hcv1, hfv1⟩ := bcell hbv1
    have Hbv1 := Lib.hid hbv1
    clear hbv1
    go_wp2
    go_ret
    exact ⟨rfl, Hbv1.out⟩

set_option maxRecDepth 100000 in
theorem lifted (os : Os) (started : os.Started) (H : Type) (enc : TypeId × Value → H) :
    ReturnsInHanded {} Try.checked os 7 .any (Rows.crossPartsSpec.pre6 enc Try.prog Try.f7 Rows.crossPartsRow.domain false) (Rows.crossPartsSpec.post enc Try.prog Try.f7 false true false false) := by
  refine returnsInHanded_of_change (C := Try.checked) own started (by kernel_rfl) Try.func7
    (ChangeSpec.witness6 (enc := enc) (C := Try.checked) false ⟨#[], #[.slice none 0 0], []⟩ 8 (by kernel_rfl) (by kernel_rfl) (by kernel_rfl) (by kernel_rfl)) ?_
  intro W base args ds gs before hval0 hW hcnd _
  have hval : ∀ (j : Nat) t v, Try.f7.params[j]? = some t → args[j]? = some v → Value.okWide Try.prog W .any base t v := hval0
  have hW' := hW
  obtain ⟨p, q, hA0, hV, rfl, hfz, hnd⟩ := hW
  have hA : DataW.TrodAll enc Try.prog W 0 (fun _ => true) true Try.f7.params.toList args.toList ds p := hA0
  rw [Try.params7] at hA hval
  obtain ⟨v0, vs0, d0, ds0, p0, q0, hargs, rfl, rfl, h0, r0⟩ := trodAll_cons hA
  obtain ⟨rfl, rfl, rfl⟩ := trodAll_nil r0
  obtain rfl : args = #[v0] := by cases args; simp_all
  obtain ⟨rfl, rfl⟩ := trodVars_none hV
  obtain ⟨A0, len0, cap0, rfl⟩ := okWide_slice Try.underlying29 (hval 0 29 v0 rfl rfl)
  have k0 := h0
  have lt0 : ∀ x ∈ p0, x.block < W.heap.size := by obtain ⟨m, hm⟩ := k0; exact DataW.trod_lt m _ _ _ hm
  obtain ⟨l0, w0, o0⟩ : ∃ l : List Fx.Crs, Fx.IsSl Fx.crsC W (.slice A0 len0 cap0) l ∧ ∀ e ∈ l, Fx.Crs.ok e := by
    obtain ⟨fuel, hf⟩ := h0
    exact open_sl29 hf
  clear hA0 hval0
  refine (walk _ l0 W w0 o0).mono fun e W' ⟨he, bel⟩ => ?_
  subst he
  exact ⟨_, rfl, _, _, _, [], _, [], hW', trodAll_mk1 (shut_bool Try.underlying4 _), (trodAll_cons_mk (Below.trod laidOut (by kernel_rfl) (of_decide_eq_true (by kernel_rfl)) k0 bel lt0) trodAll_mk0), rfl, bel.frame _, fun h => by cases h⟩

theorem over : Rows.crossPartsRow.holds Try.pinned (OpenSpec.ofChange Rows.crossPartsSpec) :=
  OpenClaim.holds_of_wide 7 Try.f7 rfl rfl rfl rfl rfl rfl rfl ⟨rfl, rfl, rfl, rfl, rfl⟩ rfl rfl rfl rfl rfl (by kernel_rfl) Try.func7 (by kernel_rfl)
    (of_decide_eq_true (by kernel_rfl)) (by unfold Func.isWrapper; first | (rw [if_pos (by decide +kernel)]; kernel_rfl) | (rw [if_neg (by decide +kernel)]; exact ⟨rfl, rfl⟩))
    (fun os started H enc _ => lifted os started H enc)

end Go.Proofs.Ytbmboidmgdpnoaa.crossParts
namespace Go.Proofs.Ytbmboidmgdpnoaa
theorem crossParts_proved : Rows.CrossPartsSaid := crossParts.over
end Go.Proofs.Ytbmboidmgdpnoaa
