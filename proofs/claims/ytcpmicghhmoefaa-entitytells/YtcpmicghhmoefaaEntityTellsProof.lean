/- joustlaw05.EntityTells returns true for every input; no conditions. -/
import Derived.Test.YtcpmicghhmoefaaEnAwake
import Derived.Test.YtcpmicghhmoefaaEnLeafP
import Derived.Test.YtcpmicghhmoefaaGOwnTEntity
import Derived.Test.YtcpmicghhmoefaaGrNew
import Derived.Test.YtcpmicghhmoefaaRows
import Derived.WalkKit
import Derived.ProofKit
import Derived.OpenShut
import Derived.ShutString
import Derived.ChangeOld
import Derived.Below
import Derived.Deep.Slices
namespace Go.Proofs.Ytcpmicghhmoefaa.entityTells
open Go.ChangeShapes Go.WideShapes Go.ChangeAt Go.RowKit
open Go.ChangeMaps (open_string shut_string)
set_option linter.unusedVariables false

theorem own : ownKnob Try.prog.godebug = none := by kernel_rfl
theorem laidOut : laidOutB Try.prog = true := by kernel_rfl
open Fx (IsRow)
theorem open_T24 {H : Type} {enc : TypeId × Value → H} {W : World} {fuel : Nat} {cs : List Value} {x : DataW H × List MemPlace} (h : DataW.trod enc Try.prog W 0 (fun _ => true) true fuel 24 cs = some x) :
    ∃ (a0 : Int) (a1 : Int) (a2 : Int) (a3 : Int) (a4 : Int), cs = [.int .i64 a0, .int .i64 a1, .int .i64 a2, .int .i64 a3, .int .u64 a4] ∧ (Lit.int .i64 a0).wf = true ∧ (Lit.int .i64 a1).wf = true ∧ (Lit.int .i64 a2).wf = true ∧ (Lit.int .i64 a3).wf = true ∧ (Lit.int .u64 a4).wf = true := by
  obtain ⟨xs, n, -, -, hl, hxl, hg⟩ := DataW.trod_struct Try.underlying24 h
  have hl' : cs.length = 5 := hl.trans (by kernel_rfl)
  have c3 : Try.prog.cellsOf 3 = 1 := by kernel_rfl
  have c22 : Try.prog.cellsOf 22 = 1 := by kernel_rfl
  clear hl h
  match cs, hl' with
  | [z0, z1, z2, z3, z4], _ =>
    have g0 : DataW.trod enc Try.prog W 0 (fun _ => true) true n 3 (([z0, z1, z2, z3, z4].drop 0).take (Try.prog.cellsOf 3)) = xs[0]? := hg 0 _ rfl
    rw [c3, List.getElem?_eq_getElem (show 0 < xs.length by rw [hxl]; decide)] at g0
    have g1 : DataW.trod enc Try.prog W 0 (fun _ => true) true n 3 (([z0, z1, z2, z3, z4].drop 1).take (Try.prog.cellsOf 3)) = xs[1]? := hg 1 _ rfl
    rw [c3, List.getElem?_eq_getElem (show 1 < xs.length by rw [hxl]; decide)] at g1
    have g2 : DataW.trod enc Try.prog W 0 (fun _ => true) true n 3 (([z0, z1, z2, z3, z4].drop 2).take (Try.prog.cellsOf 3)) = xs[2]? := hg 2 _ rfl
    rw [c3, List.getElem?_eq_getElem (show 2 < xs.length by rw [hxl]; decide)] at g2
    have g3 : DataW.trod enc Try.prog W 0 (fun _ => true) true n 3 (([z0, z1, z2, z3, z4].drop 3).take (Try.prog.cellsOf 3)) = xs[3]? := hg 3 _ rfl
    rw [c3, List.getElem?_eq_getElem (show 3 < xs.length by rw [hxl]; decide)] at g3
    have g4 : DataW.trod enc Try.prog W 0 (fun _ => true) true n 22 (([z0, z1, z2, z3, z4].drop 4).take (Try.prog.cellsOf 22)) = xs[4]? := hg 4 _ rfl
    rw [c22, List.getElem?_eq_getElem (show 4 < xs.length by rw [hxl]; decide)] at g4
    obtain ⟨a0, e0, -, w0⟩ := DataW.trod_int (cs := [z0]) Try.underlying3 g0
    simp only [List.cons.injEq, and_true] at e0
    subst e0
    clear g0
    obtain ⟨a1, e1, -, w1⟩ := DataW.trod_int (cs := [z1]) Try.underlying3 g1
    simp only [List.cons.injEq, and_true] at e1
    subst e1
    clear g1
    obtain ⟨a2, e2, -, w2⟩ := DataW.trod_int (cs := [z2]) Try.underlying3 g2
    simp only [List.cons.injEq, and_true] at e2
    subst e2
    clear g2
    obtain ⟨a3, e3, -, w3⟩ := DataW.trod_int (cs := [z3]) Try.underlying3 g3
    simp only [List.cons.injEq, and_true] at e3
    subst e3
    clear g3
    obtain ⟨a4, e4, -, w4⟩ := DataW.trod_int (cs := [z4]) Try.underlying22 g4
    simp only [List.cons.injEq, and_true] at e4
    subst e4
    clear g4
    exact ⟨a0, a1, a2, a3, a4, rfl, w0, w1, w2, w3, w4⟩

theorem open_T26 {H : Type} {enc : TypeId × Value → H} {W : World} {fuel : Nat} {cs : List Value} {x : DataW H × List MemPlace} (h : DataW.trod enc Try.prog W 0 (fun _ => true) true fuel 26 cs = some x) :
    ∃ (a0 : Int) (a1 : Int) (a2 : Int) (a3 : Int) (a4 : Int) (a5 : Int) (a6 : Int) (a7 : Int) (a8 : Int), cs = [.int .i64 a0, .int .i64 a1, .int .i64 a2, .int .i64 a3, .int .i64 a4, .int .i64 a5, .int .i64 a6, .int .i64 a7, .int .i64 a8] ∧ (Lit.int .i64 a0).wf = true ∧ (Lit.int .i64 a1).wf = true ∧ (Lit.int .i64 a2).wf = true ∧ (Lit.int .i64 a3).wf = true ∧ (Lit.int .i64 a4).wf = true ∧ (Lit.int .i64 a5).wf = true ∧ (Lit.int .i64 a6).wf = true ∧ (Lit.int .i64 a7).wf = true ∧ (Lit.int .i64 a8).wf = true := by
  obtain ⟨xs, n, -, -, hl, hxl, hg⟩ := DataW.trod_struct Try.underlying26 h
  have hl' : cs.length = 9 := hl.trans (by kernel_rfl)
  have c3 : Try.prog.cellsOf 3 = 1 := by kernel_rfl
  clear hl h
  match cs, hl' with
  | [z0, z1, z2, z3, z4, z5, z6, z7, z8], _ =>
    have g0 : DataW.trod enc Try.prog W 0 (fun _ => true) true n 3 (([z0, z1, z2, z3, z4, z5, z6, z7, z8].drop 0).take (Try.prog.cellsOf 3)) = xs[0]? := hg 0 _ rfl
    rw [c3, List.getElem?_eq_getElem (show 0 < xs.length by rw [hxl]; decide)] at g0
    have g1 : DataW.trod enc Try.prog W 0 (fun _ => true) true n 3 (([z0, z1, z2, z3, z4, z5, z6, z7, z8].drop 1).take (Try.prog.cellsOf 3)) = xs[1]? := hg 1 _ rfl
    rw [c3, List.getElem?_eq_getElem (show 1 < xs.length by rw [hxl]; decide)] at g1
    have g2 : DataW.trod enc Try.prog W 0 (fun _ => true) true n 3 (([z0, z1, z2, z3, z4, z5, z6, z7, z8].drop 2).take (Try.prog.cellsOf 3)) = xs[2]? := hg 2 _ rfl
    rw [c3, List.getElem?_eq_getElem (show 2 < xs.length by rw [hxl]; decide)] at g2
    have g3 : DataW.trod enc Try.prog W 0 (fun _ => true) true n 3 (([z0, z1, z2, z3, z4, z5, z6, z7, z8].drop 3).take (Try.prog.cellsOf 3)) = xs[3]? := hg 3 _ rfl
    rw [c3, List.getElem?_eq_getElem (show 3 < xs.length by rw [hxl]; decide)] at g3
    have g4 : DataW.trod enc Try.prog W 0 (fun _ => true) true n 3 (([z0, z1, z2, z3, z4, z5, z6, z7, z8].drop 4).take (Try.prog.cellsOf 3)) = xs[4]? := hg 4 _ rfl
    rw [c3, List.getElem?_eq_getElem (show 4 < xs.length by rw [hxl]; decide)] at g4
    have g5 : DataW.trod enc Try.prog W 0 (fun _ => true) true n 3 (([z0, z1, z2, z3, z4, z5, z6, z7, z8].drop 5).take (Try.prog.cellsOf 3)) = xs[5]? := hg 5 _ rfl
    rw [c3, List.getElem?_eq_getElem (show 5 < xs.length by rw [hxl]; decide)] at g5
    have g6 : DataW.trod enc Try.prog W 0 (fun _ => true) true n 3 (([z0, z1, z2, z3, z4, z5, z6, z7, z8].drop 6).take (Try.prog.cellsOf 3)) = xs[6]? := hg 6 _ rfl
    rw [c3, List.getElem?_eq_getElem (show 6 < xs.length by rw [hxl]; decide)] at g6
    have g7 : DataW.trod enc Try.prog W 0 (fun _ => true) true n 3 (([z0, z1, z2, z3, z4, z5, z6, z7, z8].drop 7).take (Try.prog.cellsOf 3)) = xs[7]? := hg 7 _ rfl
    rw [c3, List.getElem?_eq_getElem (show 7 < xs.length by rw [hxl]; decide)] at g7
    have g8 : DataW.trod enc Try.prog W 0 (fun _ => true) true n 3 (([z0, z1, z2, z3, z4, z5, z6, z7, z8].drop 8).take (Try.prog.cellsOf 3)) = xs[8]? := hg 8 _ rfl
    rw [c3, List.getElem?_eq_getElem (show 8 < xs.length by rw [hxl]; decide)] at g8
    obtain ⟨a0, e0, -, w0⟩ := DataW.trod_int (cs := [z0]) Try.underlying3 g0
    simp only [List.cons.injEq, and_true] at e0
    subst e0
    clear g0
    obtain ⟨a1, e1, -, w1⟩ := DataW.trod_int (cs := [z1]) Try.underlying3 g1
    simp only [List.cons.injEq, and_true] at e1
    subst e1
    clear g1
    obtain ⟨a2, e2, -, w2⟩ := DataW.trod_int (cs := [z2]) Try.underlying3 g2
    simp only [List.cons.injEq, and_true] at e2
    subst e2
    clear g2
    obtain ⟨a3, e3, -, w3⟩ := DataW.trod_int (cs := [z3]) Try.underlying3 g3
    simp only [List.cons.injEq, and_true] at e3
    subst e3
    clear g3
    obtain ⟨a4, e4, -, w4⟩ := DataW.trod_int (cs := [z4]) Try.underlying3 g4
    simp only [List.cons.injEq, and_true] at e4
    subst e4
    clear g4
    obtain ⟨a5, e5, -, w5⟩ := DataW.trod_int (cs := [z5]) Try.underlying3 g5
    simp only [List.cons.injEq, and_true] at e5
    subst e5
    clear g5
    obtain ⟨a6, e6, -, w6⟩ := DataW.trod_int (cs := [z6]) Try.underlying3 g6
    simp only [List.cons.injEq, and_true] at e6
    subst e6
    clear g6
    obtain ⟨a7, e7, -, w7⟩ := DataW.trod_int (cs := [z7]) Try.underlying3 g7
    simp only [List.cons.injEq, and_true] at e7
    subst e7
    clear g7
    obtain ⟨a8, e8, -, w8⟩ := DataW.trod_int (cs := [z8]) Try.underlying3 g8
    simp only [List.cons.injEq, and_true] at e8
    subst e8
    clear g8
    exact ⟨a0, a1, a2, a3, a4, a5, a6, a7, a8, rfl, w0, w1, w2, w3, w4, w5, w6, w7, w8⟩

theorem open_sl27 {H : Type} {enc : TypeId × Value → H} {W : World} {fuel : Nat} {v : Value} {x : DataW H × List MemPlace} (h : DataW.trod enc Try.prog W 0 (fun _ => true) true fuel 27 [v] = some x) :
    ∃ l : List Fx.Ent, Fx.IsSl Fx.entC W v l ∧ ∀ e ∈ l, Fx.Ent.ok e := by
  rcases Go.Deep.open_slice Try.underlying27 h with ⟨hcs, _⟩ | ⟨a, len, cap, m, n, D, Pl, hcs, _, hl, hm, hmm, _, hel⟩
  · simp at hcs
    subst hcs
    exact ⟨[], Fx.IsSl.nil _ _, by simp⟩
  · simp at hcs
    subst hcs
    have hmc : m = cap := hmm
    have hce : Try.prog.cellsOf 26 = 9 := by kernel_rfl
    refine Fx.sl_of_cells (base := 0) default 9 Fx.entC_len (by omega) hl fun i hi => ?_
    obtain ⟨cs', hc, ht⟩ := hel i (by omega)
    rw [hce] at hc
    obtain ⟨a0, a1, a2, a3, a4, a5, a6, a7, a8, rfl, w0, w1, w2, w3, w4, w5, w6, w7, w8⟩ := open_T26 ht
    exact ⟨⟨a0, a1, a2, a3, a4, a5, a6, a7, a8⟩, ⟨w0, w1, w2, w3, w4, w5, w6, w7, w8⟩, hc⟩

open Fx

def e71 : Ent := ⟨71, 0, 0, 0, 0, 0, 0, 0, 0⟩

theorem ins_no {a b p n : Int} (h : rt a b p n = false) (x y : Int) : ins a b p n x y = false := by
  unfold ins wid hei
  rw [h]
  exact decide_eq_false (by simp)

/-- grid.New: a grid on which the same entities are right. -/
theorem new_any (a b p n s : Int) (y : Ent) (w : World) :
    Calls Try.prog 8 #[.agg #[.int .i64 a, .int .i64 b, .int .i64 p, .int .i64 n, .int .u64 s]] w fun e w' => ∃ ga gb gp gn gs q, e = .returned (.tuple #[.agg #[.int .i64 ga, .int .i64 gb, .int .i64 gp, .int .i64 gn, .int .u64 gs], .int .i64 q]) ∧ erightB ga gb gp gn y = erightB a b p n y ∧ Below w.heap.size w w' := by
  by_cases h : rt a b p n = true
  · exact (new_yes a b p n s w h).mono fun e w' ⟨h1, h2⟩ => ⟨a, b, p, n, s, 0, h1, rfl, h2⟩
  · rw [Bool.not_eq_true] at h
    refine (new_no a b p n s w h).mono fun e w' ⟨h1, h2⟩ => ⟨0, 0, 0, 0, 0, 10, h1, ?_, h2⟩
    unfold erightB
    rw [ins_no h, ins_no (show rt 0 0 0 0 = false from by decide)]
    rfl

set_option maxRecDepth 100000 in
set_option maxHeartbeats 4000000 in
theorem walk (a0_0 : Int) (a0_1 : Int) (a0_2 : Int) (a0_3 : Int) (a0_4 : Int) (a1 : Fx.Ent) (v2 : Value) (l2 : List Fx.Ent) (v3 : Value) (l3 : List Fx.Ent) (a4 : Option Addr) (len4 cap4 : Nat) (z4 : List Int) (a5 : Int) (w : World) (w0_0 : (Lit.int .i64 a0_0).wf = true) (w0_1 : (Lit.int .i64 a0_1).wf = true) (w0_2 : (Lit.int .i64 a0_2).wf = true) (w0_3 : (Lit.int .i64 a0_3).wf = true) (w0_4 : (Lit.int .u64 a0_4).wf = true) (w1 : Fx.Ent.ok a1) (w2 : Fx.IsSl Fx.entC w v2 l2) (k2 : ∀ e ∈ l2, Fx.Ent.ok e) (w3 : Fx.IsSl Fx.entC w v3 l3) (k3 : ∀ e ∈ l3, Fx.Ent.ok e) (w4 : IsRow .i64 w a4 len4 cap4 z4) (w5 : (Lit.int .i64 a5).wf = true) :
    Calls Try.prog 3 #[.agg #[.int .i64 a0_0, .int .i64 a0_1, .int .i64 a0_2, .int .i64 a0_3, .int .u64 a0_4], .agg #[.int .i64 a1.id, .int .i64 a1.kind, .int .i64 a1.x, .int .i64 a1.y, .int .i64 a1.vx, .int .i64 a1.vy, .int .i64 a1.health, .int .i64 a1.age, .int .i64 a1.owner], v2, v3, .slice a4 len4 cap4, .int .i64 a5] w fun e w' => e = .returned (.bool true) ∧ Below w.heap.size w w' := by
  have C := enC
  clear w0_0 w0_1 w0_2 w0_3 w0_4 w1 k2 k3 w5
  have HI := Lib.hid w4.ints
  clear w4
  have HV2 := Lib.hid w2
  have HV3 := Lib.hid w3
  obtain ⟨A, c, rfl, -, -, -⟩ := w2
  obtain ⟨B, d, rfl, -, -, -⟩ := w3
  have HA := Lib.hid (awake_en C)
  have C1 := Lib.hid C.right
  have C2 := Lib.hid C.find
  have C3 := Lib.hid C.puts
  have C4 := Lib.hid C.drops
  have C5 := Lib.hid C.things
  have C6 := Lib.hid C.sorted
  clear C
  obtain ⟨n, hnn⟩ : ∃ n, l2.length = n := ⟨_, rfl⟩
  obtain ⟨m, hmm⟩ : ∃ m, l3.length = m := ⟨_, rfl⟩
  rw [hnn] at HV2 ⊢
  rw [hmm] at HV3 ⊢
  have Hn := Lib.hid hnn
  have Hm := Lib.hid hmm
  clear hnn hmm
  by_cases h40 : n ≤ 40 ∧ m ≤ 40 ∧ len4 ≤ 40
  · obtain ⟨hn40, hm40, hi40⟩ := h40
    have hd1 : decide ((40 : Int) < (n : Int)) = false := decide_eq_false (by omega)
    have hd2 : decide ((40 : Int) < (m : Int)) = false := decide_eq_false (by omega)
    have hd3 : decide ((40 : Int) < (len4 : Int)) = false := decide_eq_false (by omega)
    go_enter Try.func3, Try.ntmps3
    go_wp2_with fail
    refine (new_any _ _ _ _ _ a1 _).mono ?_
    rintro e v1 ⟨ga, gb, gp, gn, gs, gq, rfl, hG, hb1⟩
    have HG := Lib.hid hG
    have Hb1 := Lib.hid hb1
    have hz1 : w.heap.size + 1 < v1.heap.size := by have := hb1.size; simp at this; omega
    clear hb1 hG
    have HB0 := Lib.hid (show Below w.heap.size w (v1.alloc (.cells #[.int .i64 ga, .int .i64 gb, .int .i64 gp, .int .i64 gn, .int .u64 gs] 31)) from (unbox (unbox Hb1.out)).alloc (by omega) _)
    go_wp2_with fail
    refine (own_Ent _ l2 e71 _ (HV2.out.below HB0.out) (by have := Hn.out; omega)).mono ?_
    rintro e v2 ⟨g1, rfl, hbo, hg1, hblk⟩
    rw [Hn.out]
    have Hb2 := Lib.hid hbo
    have HK1 := Lib.hid hblk
    have HB2 := Lib.hid (nextW HB0.out hbo)
    clear hbo hblk
    go_wp2_with fail
    refine (own_Ent _ l3 e71 _ (HV3.out.below HB2.out) (by have := Hm.out; omega)).mono ?_
    rintro e v3 ⟨g2, rfl, hbo, hg2, hblk⟩
    rw [Hm.out]
    have Hb3 := Lib.hid (nextW Hb2.out hbo)
    have HK2 := Lib.hid hblk
    have HK1' := Lib.hid (HK1.out.below hbo HK1.out.lt)
    have HB3 := Lib.hid (nextW HB2.out hbo)
    clear hbo hblk HK1 HB2 Hb2 HB0 hg1 hg2
    go_wp2
    go_loopw [17, 18] (fun v i wr => ∃ k : Nat, k ≤ m ∧ i = .int .i64 k ∧ IsSl entC wr v (puts l2 (l3.take k)) ∧ Below v3.heap.size v3 wr) (fun _ i _ => m - (intOf i).toNat)
    case atStart => exact ⟨0, Nat.zero_le _, rfl, HV2.out.below HB3.out, Below.refl _ _⟩
    case round =>
      obtain ⟨k, hk, rfl, hsl, hbel⟩ := hrel
      have HW := Lib.hid hsl
      have Hbel := Lib.hid hbel
      clear hsl hbel
      have HLk := Lib.hid (show (puts l2 (l3.take k)).length ≤ 80 from by have h1 := puts_len l2 (l3.take k); rw [List.length_take] at h1; have := Hn.out; omega)
      by_cases hlt : k < m
      · obtain ⟨x, hx⟩ := getE l3 k m Hm.out hlt
        have HX := Lib.hid (show puts l2 (l3.take (k + 1)) = put (puts l2 (l3.take k)) x from by rw [take_at hx, puts_snoc])
        obtain ⟨b, off, rfl, hc⟩ := elem_Ent ((HV3.out.below HB3.out).below Hbel.out).at hx
        obtain ⟨c0, c1, c2, c3, c4, c5, c6, c7, c8⟩ := hc
        have hkm : (k : Int) < (m : Int) := by omega
        clear hx
        go_wp2_with fail
        refine (rput_any _ (puts l2 (l3.take k)) x _ HW.out (by have := HLk.out; omega)).mono ?_
        rintro e v4 ⟨v', rfl, hsl, hb4⟩
        rw [← HX.out] at hsl
        have HW4 := Lib.hid hsl
        have Hb4 := Lib.hid (nextW Hbel.out hb4)
        clear hsl hb4
        go_wp2
        go_roundw
        case rel => exact ⟨k + 1, by omega, by go_num, HW4.out, Hb4.out⟩
        case measure => simp [intOf]; omega
      · obtain rfl : m = k := by omega
        rw [List.take_of_length_le (Nat.le_of_eq Hm.out)] at HW HLk
        have hs1 : w.heap.size + 1 < wr.heap.size := by have := Hb3.out.size; have := Hbel.out.size; simp at *; omega
        have hs2 : v1.heap.size < wr.heap.size := by have := Hb3.out.size; have := Hbel.out.size; simp at *; omega
        have hs0 : w.heap.size < wr.heap.size := by omega
        have HBW := Lib.hid (nextW Hb3.out Hbel.out)
        have hcell : ∀ b o, b < v1.heap.size → wr.cell? ⟨b, o, none⟩ = v1.cell? ⟨b, o, none⟩ := fun b o hb => by rw [HBW.out.cell (p := ⟨b, o, none⟩) (by simp; omega), World.cell?_alloc_lt _ _ _ hb]
        have cc0 : (wr).cell? ⟨w.heap.size, 0, none⟩ = some (.int .i64 a0_0) := by rw [hcell _ _ (by omega), Hb1.out.cell (p := ⟨w.heap.size, _, none⟩) (by simp; omega)]; simp
        have cc1 : (wr).cell? ⟨w.heap.size, 1, none⟩ = some (.int .i64 a0_1) := by rw [hcell _ _ (by omega), Hb1.out.cell (p := ⟨w.heap.size, _, none⟩) (by simp; omega)]; simp
        have cc2 : (wr).cell? ⟨w.heap.size, 2, none⟩ = some (.int .i64 a0_2) := by rw [hcell _ _ (by omega), Hb1.out.cell (p := ⟨w.heap.size, _, none⟩) (by simp; omega)]; simp
        have cc3 : (wr).cell? ⟨w.heap.size, 3, none⟩ = some (.int .i64 a0_3) := by rw [hcell _ _ (by omega), Hb1.out.cell (p := ⟨w.heap.size, _, none⟩) (by simp; omega)]; simp
        have cc4 : (wr).cell? ⟨w.heap.size, 4, none⟩ = some (.int .u64 a0_4) := by rw [hcell _ _ (by omega), Hb1.out.cell (p := ⟨w.heap.size, _, none⟩) (by simp; omega)]; simp
        have ce0 : (wr).cell? ⟨w.heap.size + 1, 0, none⟩ = some (.int .i64 a1.id) := by rw [hcell _ _ (by omega), Hb1.out.cell (p := ⟨w.heap.size + 1, _, none⟩) (by simp)]; simp
        have ce1 : (wr).cell? ⟨w.heap.size + 1, 1, none⟩ = some (.int .i64 a1.kind) := by rw [hcell _ _ (by omega), Hb1.out.cell (p := ⟨w.heap.size + 1, _, none⟩) (by simp)]; simp
        have ce2 : (wr).cell? ⟨w.heap.size + 1, 2, none⟩ = some (.int .i64 a1.x) := by rw [hcell _ _ (by omega), Hb1.out.cell (p := ⟨w.heap.size + 1, _, none⟩) (by simp)]; simp
        have ce3 : (wr).cell? ⟨w.heap.size + 1, 3, none⟩ = some (.int .i64 a1.y) := by rw [hcell _ _ (by omega), Hb1.out.cell (p := ⟨w.heap.size + 1, _, none⟩) (by simp)]; simp
        have ce4 : (wr).cell? ⟨w.heap.size + 1, 4, none⟩ = some (.int .i64 a1.vx) := by rw [hcell _ _ (by omega), Hb1.out.cell (p := ⟨w.heap.size + 1, _, none⟩) (by simp)]; simp
        have ce5 : (wr).cell? ⟨w.heap.size + 1, 5, none⟩ = some (.int .i64 a1.vy) := by rw [hcell _ _ (by omega), Hb1.out.cell (p := ⟨w.heap.size + 1, _, none⟩) (by simp)]; simp
        have ce6 : (wr).cell? ⟨w.heap.size + 1, 6, none⟩ = some (.int .i64 a1.health) := by rw [hcell _ _ (by omega), Hb1.out.cell (p := ⟨w.heap.size + 1, _, none⟩) (by simp)]; simp
        have ce7 : (wr).cell? ⟨w.heap.size + 1, 7, none⟩ = some (.int .i64 a1.age) := by rw [hcell _ _ (by omega), Hb1.out.cell (p := ⟨w.heap.size + 1, _, none⟩) (by simp)]; simp
        have ce8 : (wr).cell? ⟨w.heap.size + 1, 8, none⟩ = some (.int .i64 a1.owner) := by rw [hcell _ _ (by omega), Hb1.out.cell (p := ⟨w.heap.size + 1, _, none⟩) (by simp)]; simp
        have cg0 : (wr).cell? ⟨v1.heap.size, 0, none⟩ = some (.int .i64 ga) := by rw [HBW.out.cell (p := ⟨v1.heap.size, _, none⟩) (by simp)]; simp
        have cg1 : (wr).cell? ⟨v1.heap.size, 1, none⟩ = some (.int .i64 gb) := by rw [HBW.out.cell (p := ⟨v1.heap.size, _, none⟩) (by simp)]; simp
        have cg2 : (wr).cell? ⟨v1.heap.size, 2, none⟩ = some (.int .i64 gp) := by rw [HBW.out.cell (p := ⟨v1.heap.size, _, none⟩) (by simp)]; simp
        have cg3 : (wr).cell? ⟨v1.heap.size, 3, none⟩ = some (.int .i64 gn) := by rw [HBW.out.cell (p := ⟨v1.heap.size, _, none⟩) (by simp)]; simp
        have cg4 : (wr).cell? ⟨v1.heap.size, 4, none⟩ = some (.int .u64 gs) := by rw [HBW.out.cell (p := ⟨v1.heap.size, _, none⟩) (by simp)]; simp
        have HIn := Lib.hid (show IsSl entC wr (.slice (some ⟨g1, 0, none⟩) n (n + 3)) l2 from by have h := OwnedEnt.sl (w' := wr) (HK1'.out.below Hbel.out HK1'.out.lt); rwa [Hn.out] at h)
        have HOn := Lib.hid (show IsSl entC wr (.slice (some ⟨g2, 0, none⟩) m (m + 3)) l3 from by have h := OwnedEnt.sl (w' := wr) (HK2.out.below Hbel.out HK2.out.lt); rwa [Hm.out] at h)
        have HB1 := Lib.hid (HK1'.out.below Hbel.out HK1'.out.lt)
        have HB2 := Lib.hid (HK2.out.below Hbel.out HK2.out.lt)
        have HV2r := Lib.hid ((HV2.out.below HB3.out).below Hbel.out)
        have HV3r := Lib.hid ((HV3.out.below HB3.out).below Hbel.out)
        have HIr := Lib.hid ((HI.out.below HB3.out).below Hbel.out)
        have HR := Lib.hid (fun w => rright_any a0_0 a0_1 a0_2 a0_3 a0_4 a1 w)
        have HR1 := Lib.hid (fun w => C1.out ga gb gp gn gs a1 w)
        rw [HG.out] at HR1
        have HE := Lib.hid (nextW HB3.out Hbel.out)
        have HKp := Lib.hid kept_Ent
        have hln : l2.length ≤ 40 := by have := Hn.out; omega
        have hlm : l3.length ≤ 40 := by have := Hm.out; omega
        have HDl := Lib.hid (show (drp l2 (z4.take len4)).length ≤ 40 from Nat.le_trans (List.length_filter_le _ _) hln)
        clear hcell HK1' HK2 HV2 HV3 HI Hb1 Hb3 HB3 HBW HG C1
        generalize erightB a0_0 a0_1 a0_2 a0_3 a1 = rb at *
        go_wp2_with fail
        refine plan_region' (S := (fun w' => (∀ b o, b < (wr).heap.size → w'.cell? ⟨b, o, none⟩ = (wr).cell? ⟨b, o, none⟩) ∧ (∀ b o, b < (wr).heap.size → w'.frozen? ⟨b, o, none⟩ = (wr).frozen? ⟨b, o, none⟩) ∧ Below (wr).heap.size (wr) w')) [(0, false), (1, true), (2, true), (3, true), (5, true), (6, true), (4, false), (7, false), (8, true), (9, true), (10, true), (11, true), (12, true), (14, true), (15, true), (13, false), (16, false), (17, true), (18, true), (19, true), (20, true), (21, true), (23, true), (22, false), (24, false), (25, true), (26, true), (27, true), (28, true), (30, true), (31, true), (29, false), (32, false), (33, false), (34, true), (35, true), (36, true), (38, true), (37, false), (39, false), (40, true), (41, true), (42, true), (43, true), (45, true), (44, false), (46, false), (47, true), (48, true), (49, true), (50, true), (51, true), (52, true), (53, false), (54, true), (55, true), (56, true), (57, true), (58, true), (59, false), (60, true), (61, true)] (by kernel_rfl) (by kernel_rfl) (fun _ _ d _ _ h => by cases d <;> exact h) (keepW0 _) (fun hS => ?_)
        simp only [picked, List.getElem?_cons_succ, List.getElem?_cons_zero, List.append_eq, List.cons_append, List.nil_append]
        refine row_call (by rfl) (fun K hK => ?_)
        go_simp
        (refine (HA.out _).mono ?_; rintro e w4 ⟨rfl, hb4⟩)
        (try go_wp2_with fail)
        refine hK.out _ _ ?_ (fun hS' => ?_)
        · (try dsimp only); first | exact keepW (by assumption) (by assumption) | exact keepB (by assumption) (by assumption) | exact keepA (by assumption) | assumption
        clear hS hK K
        have hS := hS'
        clear hS'
        (try simp only [Act.put, List.setIfInBounds_toArray, List.set_cons_zero, List.set_cons_succ])
        refine row_free (v := ?_) (by rfl) ?_ ?_
        rotate_left 1
        focus (intro w hSw; (try dsimp only at hSw); go_simp; (try with_reducible rfl))
        (try simp only [Act.put, List.setIfInBounds_toArray, List.set_cons_zero, List.set_cons_succ])
        refine row_free (v := ?_) (by rfl) ?_ ?_
        rotate_left 1
        focus (intro w hSw; (try dsimp only at hSw); go_simp; (try with_reducible rfl))
        (try simp only [Act.put, List.setIfInBounds_toArray, List.set_cons_zero, List.set_cons_succ])
        refine row_free (v := ?_) (by rfl) ?_ ?_
        rotate_left 1
        focus (intro w hSw; (try dsimp only at hSw); go_simp; (try with_reducible rfl))
        (try simp only [Act.put, List.setIfInBounds_toArray, List.set_cons_zero, List.set_cons_succ])
        refine row_free (v := ?_) (by rfl) ?_ ?_
        rotate_left 1
        focus (intro w hSw; (try dsimp only at hSw); go_simp; (try with_reducible rfl))
        (try simp only [Act.put, List.setIfInBounds_toArray, List.set_cons_zero, List.set_cons_succ])
        refine row_free (v := ?_) (by rfl) ?_ ?_
        rotate_left 1
        focus (intro w hSw; (try dsimp only at hSw); go_simp; (try with_reducible rfl))
        (try simp only [Act.put, List.setIfInBounds_toArray, List.set_cons_zero, List.set_cons_succ])
        refine row_call (by rfl) (fun K hK => ?_)
        go_simp
        (refine (HR1.out _).mono ?_; rintro e w4 ⟨rfl, hb4⟩)
        (try go_wp2_with fail)
        refine hK.out _ _ ?_ (fun hS' => ?_)
        · (try dsimp only); first | exact keepW (by assumption) (by assumption) | exact keepB (by assumption) (by assumption) | exact keepA (by assumption) | assumption
        clear hS hK K
        have hS := hS'
        clear hS'
        (try simp only [Act.put, List.setIfInBounds_toArray, List.set_cons_zero, List.set_cons_succ])
        refine row_call (by rfl) (fun K hK => ?_)
        go_simp
        (refine (HR.out _).mono ?_; rintro e w4 ⟨rfl, hb4⟩)
        (try go_wp2_with fail)
        refine hK.out _ _ ?_ (fun hS' => ?_)
        · (try dsimp only); first | exact keepW (by assumption) (by assumption) | exact keepB (by assumption) (by assumption) | exact keepA (by assumption) | assumption
        clear hS hK K
        have hS := hS'
        clear hS'
        (try simp only [Act.put, List.setIfInBounds_toArray, List.set_cons_zero, List.set_cons_succ])
        refine row_free (v := ?_) (by rfl) ?_ ?_
        rotate_left 1
        focus (intro w hSw; (try dsimp only at hSw); go_simp; (try with_reducible rfl))
        (try simp only [Act.put, List.setIfInBounds_toArray, List.set_cons_zero, List.set_cons_succ])
        refine row_free (v := ?_) (by rfl) ?_ ?_
        rotate_left 1
        focus (intro w hSw; (try dsimp only at hSw); go_simp; (try with_reducible rfl))
        (try simp only [Act.put, List.setIfInBounds_toArray, List.set_cons_zero, List.set_cons_succ])
        refine row_free (v := ?_) (by rfl) ?_ ?_
        rotate_left 1
        focus (intro w hSw; (try dsimp only at hSw); go_simp; (try with_reducible rfl))
        (try simp only [Act.put, List.setIfInBounds_toArray, List.set_cons_zero, List.set_cons_succ])
        refine row_free (v := ?_) (by rfl) ?_ ?_
        rotate_left 1
        focus (intro w hSw; (try dsimp only at hSw); go_simp; (try with_reducible rfl))
        (try simp only [Act.put, List.setIfInBounds_toArray, List.set_cons_zero, List.set_cons_succ])
        refine row_free (v := ?_) (by rfl) ?_ ?_
        rotate_left 1
        focus (intro w hSw; (try dsimp only at hSw); go_simp; (try with_reducible rfl))
        (try simp only [Act.put, List.setIfInBounds_toArray, List.set_cons_zero, List.set_cons_succ])
        refine row_free (v := ?_) (by rfl) ?_ ?_
        rotate_left 1
        focus (intro w hSw; (try dsimp only at hSw); go_simp; (try with_reducible rfl))
        (try simp only [Act.put, List.setIfInBounds_toArray, List.set_cons_zero, List.set_cons_succ])
        refine row_free (v := ?_) (by rfl) ?_ ?_
        rotate_left 1
        focus (intro w hSw; (try dsimp only at hSw); go_simp; (try with_reducible rfl))
        (try simp only [Act.put, List.setIfInBounds_toArray, List.set_cons_zero, List.set_cons_succ])
        refine row_call (by rfl) (fun K hK => ?_)
        go_simp
        (refine (C2.out _ l2 a5 _ (HIn.out.below hS.2.2) (by omega)).mono ?_; rintro e w4 ⟨rfl, hb4⟩)
        (try go_wp2_with fail)
        refine hK.out _ _ ?_ (fun hS' => ?_)
        · (try dsimp only); first | exact keepW (by assumption) (by assumption) | exact keepB (by assumption) (by assumption) | exact keepA (by assumption) | assumption
        clear hS hK K
        have hS := hS'
        clear hS'
        (try simp only [Act.put, List.setIfInBounds_toArray, List.set_cons_zero, List.set_cons_succ])
        refine row_call (by rfl) (fun K hK => ?_)
        go_simp
        (refine (rfind_any _ l2 a5 _ (HV2r.out.below hS.2.2) (by omega)).mono ?_; rintro e w4 ⟨rfl, rfl⟩)
        (try go_wp2_with fail)
        refine hK.out _ _ ?_ (fun hS' => ?_)
        · (try dsimp only); first | exact keepW (by assumption) (by assumption) | exact keepB (by assumption) (by assumption) | exact keepA (by assumption) | assumption
        clear hS hK K
        have hS := hS'
        clear hS'
        (try simp only [Act.put, List.setIfInBounds_toArray, List.set_cons_zero, List.set_cons_succ])
        refine row_free (v := ?_) (by rfl) ?_ ?_
        rotate_left 1
        focus (intro w hSw; (try dsimp only at hSw); go_simp; (try with_reducible rfl))
        (try simp only [Act.put, List.setIfInBounds_toArray, List.set_cons_zero, List.set_cons_succ])
        refine row_free (v := ?_) (by rfl) ?_ ?_
        rotate_left 1
        focus (intro w hSw; (try dsimp only at hSw); go_simp; (try with_reducible rfl))
        (try simp only [Act.put, List.setIfInBounds_toArray, List.set_cons_zero, List.set_cons_succ])
        refine row_free (v := ?_) (by rfl) ?_ ?_
        rotate_left 1
        focus (intro w hSw; (try dsimp only at hSw); go_simp; (try with_reducible rfl))
        (try simp only [Act.put, List.setIfInBounds_toArray, List.set_cons_zero, List.set_cons_succ])
        refine row_free (v := ?_) (by rfl) ?_ ?_
        rotate_left 1
        focus (intro w hSw; (try dsimp only at hSw); go_simp; (try with_reducible rfl))
        (try simp only [Act.put, List.setIfInBounds_toArray, List.set_cons_zero, List.set_cons_succ])
        refine row_free (v := ?_) (by rfl) ?_ ?_
        rotate_left 1
        focus (intro w hSw; (try dsimp only at hSw); go_simp; (try with_reducible rfl))
        (try simp only [Act.put, List.setIfInBounds_toArray, List.set_cons_zero, List.set_cons_succ])
        refine row_free (v := ?_) (by rfl) ?_ ?_
        rotate_left 1
        focus (intro w hSw; (try dsimp only at hSw); go_simp; (try with_reducible rfl))
        (try simp only [Act.put, List.setIfInBounds_toArray, List.set_cons_zero, List.set_cons_succ])
        refine row_call (by rfl) (fun K hK => ?_)
        go_simp
        (refine (C3.out _ l2 _ l3 _ (HIn.out.below hS.2.2) (by omega) (HOn.out.below hS.2.2) (by omega)).mono ?_; rintro e w4 ⟨vp, rfl, hslp, hb4⟩)
        (try go_wp2_with fail)
        refine hK.out _ _ ?_ (fun hS' => ?_)
        · (try dsimp only); first | exact keepW (by assumption) (by assumption) | exact keepB (by assumption) (by assumption) | exact keepA (by assumption) | assumption
        clear hS hK K
        have hS := hS'
        clear hS'
        (try simp only [Act.put, List.setIfInBounds_toArray, List.set_cons_zero, List.set_cons_succ])
        refine row_call (by rfl) (fun K hK => ?_)
        go_simp
        (refine (plain_Ent vp _ (puts l2 l3) _ hslp (HW.out.below hS.2.2) (by have := HLk.out; omega)).mono ?_; rintro e w4 ⟨rfl, hb4⟩)
        (try go_wp2_with fail)
        refine hK.out _ _ ?_ (fun hS' => ?_)
        · (try dsimp only); first | exact keepW (by assumption) (by assumption) | exact keepB (by assumption) (by assumption) | exact keepA (by assumption) | assumption
        clear hS hK K
        have hS := hS'
        clear hS'
        (try simp only [Act.put, List.setIfInBounds_toArray, List.set_cons_zero, List.set_cons_succ])
        refine row_free (v := ?_) (by rfl) ?_ ?_
        rotate_left 1
        focus (intro w hSw; (try dsimp only at hSw); go_simp; (try with_reducible rfl))
        (try simp only [Act.put, List.setIfInBounds_toArray, List.set_cons_zero, List.set_cons_succ])
        refine row_free (v := ?_) (by rfl) ?_ ?_
        rotate_left 1
        focus (intro w hSw; (try dsimp only at hSw); go_simp; (try with_reducible rfl))
        (try simp only [Act.put, List.setIfInBounds_toArray, List.set_cons_zero, List.set_cons_succ])
        refine row_free (v := ?_) (by rfl) ?_ ?_
        rotate_left 1
        focus (intro w hSw; (try dsimp only at hSw); go_simp; (try with_reducible rfl))
        (try simp only [Act.put, List.setIfInBounds_toArray, List.set_cons_zero, List.set_cons_succ])
        refine row_free (v := ?_) (by rfl) ?_ ?_
        rotate_left 1
        focus (intro w hSw; (try dsimp only at hSw); go_simp; (try with_reducible rfl))
        (try simp only [Act.put, List.setIfInBounds_toArray, List.set_cons_zero, List.set_cons_succ])
        refine row_free (v := ?_) (by rfl) ?_ ?_
        rotate_left 1
        focus (intro w hSw; (try dsimp only at hSw); go_simp; (try with_reducible rfl))
        (try simp only [Act.put, List.setIfInBounds_toArray, List.set_cons_zero, List.set_cons_succ])
        refine row_free (v := ?_) (by rfl) ?_ ?_
        rotate_left 1
        focus (intro w hSw; (try dsimp only at hSw); go_simp; (try with_reducible rfl))
        (try simp only [Act.put, List.setIfInBounds_toArray, List.set_cons_zero, List.set_cons_succ])
        refine row_call (by rfl) (fun K hK => ?_)
        go_simp
        (refine (C4.out _ l2 _ _ _ _ _ (HIn.out.below hS.2.2) (by omega) (HIr.out.below hS.2.2) (by omega)).mono ?_; rintro e w4 ⟨vd, rfl, hsld, hb4⟩)
        (try go_wp2_with fail)
        refine hK.out _ _ ?_ (fun hS' => ?_)
        · (try dsimp only); first | exact keepW (by assumption) (by assumption) | exact keepB (by assumption) (by assumption) | exact keepA (by assumption) | assumption
        clear hS hK K
        have hS := hS'
        clear hS'
        (try simp only [Act.put, List.setIfInBounds_toArray, List.set_cons_zero, List.set_cons_succ])
        refine row_call (by rfl) (fun K hK => ?_)
        go_simp
        (have hsld' := hsld; refine (rdrop_any _ l2 _ _ _ _ _ (HV2r.out.below hS.2.2) (by omega) (HIr.out.below hS.2.2) (by omega)).mono ?_; rintro e w4 ⟨vd2, rfl, hsld2, hb4⟩; replace hsld := hsld.below hb4)
        (try go_wp2_with fail)
        refine hK.out _ _ ?_ (fun hS' => ?_)
        · (try dsimp only); first | exact keepW (by assumption) (by assumption) | exact keepB (by assumption) (by assumption) | exact keepA (by assumption) | assumption
        clear hS hK K
        have hS := hS'
        clear hS'
        (try simp only [Act.put, List.setIfInBounds_toArray, List.set_cons_zero, List.set_cons_succ])
        refine row_call (by rfl) (fun K hK => ?_)
        go_simp
        (refine (plain_Ent vd vd2 (drp l2 (z4.take len4)) _ hsld hsld2 (by have := HDl.out; omega)).mono ?_; rintro e w4 ⟨rfl, hb4⟩)
        (try go_wp2_with fail)
        refine hK.out _ _ ?_ (fun hS' => ?_)
        · (try dsimp only); first | exact keepW (by assumption) (by assumption) | exact keepB (by assumption) (by assumption) | exact keepA (by assumption) | assumption
        clear hS hK K
        have hS := hS'
        clear hS'
        (try simp only [Act.put, List.setIfInBounds_toArray, List.set_cons_zero, List.set_cons_succ])
        refine row_free (v := ?_) (by rfl) ?_ ?_
        rotate_left 1
        focus (intro w hSw; (try dsimp only at hSw); go_simp; (try with_reducible rfl))
        (try simp only [Act.put, List.setIfInBounds_toArray, List.set_cons_zero, List.set_cons_succ])
        refine row_free (v := ?_) (by rfl) ?_ ?_
        rotate_left 1
        focus (intro w hSw; (try dsimp only at hSw); go_simp; (try with_reducible rfl))
        (try simp only [Act.put, List.setIfInBounds_toArray, List.set_cons_zero, List.set_cons_succ])
        refine row_free (v := ?_) (by rfl) ?_ ?_
        rotate_left 1
        focus (intro w hSw; (try dsimp only at hSw); go_simp; (try with_reducible rfl))
        (try simp only [Act.put, List.setIfInBounds_toArray, List.set_cons_zero, List.set_cons_succ])
        refine row_free (v := ?_) (by rfl) ?_ ?_
        rotate_left 1
        focus (intro w hSw; (try dsimp only at hSw); go_simp; (try with_reducible rfl))
        (try simp only [Act.put, List.setIfInBounds_toArray, List.set_cons_zero, List.set_cons_succ])
        refine row_call (by rfl) (fun K hK => ?_)
        go_simp
        (refine (C5.out _ l2 _ (HIn.out.below hS.2.2) (by omega)).mono ?_; rintro e w4 ⟨rfl, hb4⟩)
        (try go_wp2_with fail)
        refine hK.out _ _ ?_ (fun hS' => ?_)
        · (try dsimp only); first | exact keepW (by assumption) (by assumption) | exact keepB (by assumption) (by assumption) | exact keepA (by assumption) | assumption
        clear hS hK K
        have hS := hS'
        clear hS'
        (try simp only [Act.put, List.setIfInBounds_toArray, List.set_cons_zero, List.set_cons_succ])
        refine row_call (by rfl) (fun K hK => ?_)
        go_simp
        (refine (rthings_any _ l2 _ (HV2r.out.below hS.2.2) (by omega)).mono ?_; rintro e w4 ⟨rfl, rfl⟩)
        (try go_wp2_with fail)
        refine hK.out _ _ ?_ (fun hS' => ?_)
        · (try dsimp only); first | exact keepW (by assumption) (by assumption) | exact keepB (by assumption) (by assumption) | exact keepA (by assumption) | assumption
        clear hS hK K
        have hS := hS'
        clear hS'
        (try simp only [Act.put, List.setIfInBounds_toArray, List.set_cons_zero, List.set_cons_succ])
        refine row_free (v := ?_) (by rfl) ?_ ?_
        rotate_left 1
        focus (intro w hSw; (try dsimp only at hSw); go_simp; (try with_reducible rfl))
        (try simp only [Act.put, List.setIfInBounds_toArray, List.set_cons_zero, List.set_cons_succ])
        refine row_free (v := ?_) (by rfl) ?_ ?_
        rotate_left 1
        focus (intro w hSw; (try dsimp only at hSw); go_simp; (try with_reducible rfl))
        (try simp only [Act.put, List.setIfInBounds_toArray, List.set_cons_zero, List.set_cons_succ])
        refine row_free (v := ?_) (by rfl) ?_ ?_
        rotate_left 1
        focus (intro w hSw; (try dsimp only at hSw); go_simp; (try with_reducible rfl))
        (try simp only [Act.put, List.setIfInBounds_toArray, List.set_cons_zero, List.set_cons_succ])
        refine row_free (v := ?_) (by rfl) ?_ ?_
        rotate_left 1
        focus (intro w hSw; (try dsimp only at hSw); go_simp; (try with_reducible rfl))
        (try simp only [Act.put, List.setIfInBounds_toArray, List.set_cons_zero, List.set_cons_succ])
        refine row_free (v := ?_) (by rfl) ?_ ?_
        rotate_left 1
        focus (intro w hSw; (try dsimp only at hSw); go_simp; (try with_reducible rfl))
        (try simp only [Act.put, List.setIfInBounds_toArray, List.set_cons_zero, List.set_cons_succ])
        refine row_call (by rfl) (fun K hK => ?_)
        go_simp
        (refine (C6.out _ l2 _ (HIn.out.below hS.2.2) (by omega)).mono ?_; rintro e w4 ⟨rfl, hb4⟩)
        (try go_wp2_with fail)
        refine hK.out _ _ ?_ (fun hS' => ?_)
        · (try dsimp only); first | exact keepW (by assumption) (by assumption) | exact keepB (by assumption) (by assumption) | exact keepA (by assumption) | assumption
        clear hS hK K
        have hS := hS'
        clear hS'
        (try simp only [Act.put, List.setIfInBounds_toArray, List.set_cons_zero, List.set_cons_succ])
        refine row_call (by rfl) (fun K hK => ?_)
        go_simp
        (refine (rsorted_any _ l2 _ (HV2r.out.below hS.2.2) (by omega)).mono ?_; rintro e w4 ⟨rfl, hb4⟩)
        (try go_wp2_with fail)
        refine hK.out _ _ ?_ (fun hS' => ?_)
        · (try dsimp only); first | exact keepW (by assumption) (by assumption) | exact keepB (by assumption) (by assumption) | exact keepA (by assumption) | assumption
        clear hS hK K
        have hS := hS'
        clear hS'
        (try simp only [Act.put, List.setIfInBounds_toArray, List.set_cons_zero, List.set_cons_succ])
        refine row_free (v := ?_) (by rfl) ?_ ?_
        rotate_left 1
        focus (intro w hSw; (try dsimp only at hSw); go_simp; (try with_reducible rfl))
        (try simp only [Act.put, List.setIfInBounds_toArray, List.set_cons_zero, List.set_cons_succ])
        refine row_free (v := ?_) (by rfl) ?_ ?_
        rotate_left 1
        focus (intro w hSw; (try dsimp only at hSw); go_simp; (try with_reducible rfl))
        (try simp only [Act.put, List.setIfInBounds_toArray, List.set_cons_zero, List.set_cons_succ])
        refine row_free (v := ?_) (by rfl) ?_ ?_
        rotate_left 1
        focus (intro w hSw; (try dsimp only at hSw); go_simp; (try with_reducible rfl))
        (try simp only [Act.put, List.setIfInBounds_toArray, List.set_cons_zero, List.set_cons_succ])
        refine row_free (v := ?_) (by rfl) ?_ ?_
        rotate_left 1
        focus (intro w hSw; (try dsimp only at hSw); go_simp; (try with_reducible rfl))
        (try simp only [Act.put, List.setIfInBounds_toArray, List.set_cons_zero, List.set_cons_succ])
        refine row_free (v := ?_) (by rfl) ?_ ?_
        rotate_left 1
        focus (intro w hSw; (try dsimp only at hSw); go_simp; (try with_reducible rfl))
        (try simp only [Act.put, List.setIfInBounds_toArray, List.set_cons_zero, List.set_cons_succ])
        refine row_free (v := ?_) (by rfl) ?_ ?_
        rotate_left 1
        focus (intro w hSw; (try dsimp only at hSw); go_simp; (try with_reducible rfl))
        (try simp only [Act.put, List.setIfInBounds_toArray, List.set_cons_zero, List.set_cons_succ])
        refine row_call (by rfl) (fun K hK => ?_)
        go_simp
        (refine (by have h := HKp.out _ g1 l2 e71 _ (HV2r.out.below hS.2.2) (HB1.out.below hS.2.2 HB1.out.lt) (by omega); rw [Hn.out] at h; exact h : Calls _ _ _ _ _).mono ?_; rintro e w4 ⟨rfl, hb4⟩)
        (try go_wp2_with fail)
        refine hK.out _ _ ?_ (fun hS' => ?_)
        · (try dsimp only); first | exact keepW (by assumption) (by assumption) | exact keepB (by assumption) (by assumption) | exact keepA (by assumption) | assumption
        clear hS hK K
        have hS := hS'
        clear hS'
        (try simp only [Act.put, List.setIfInBounds_toArray, List.set_cons_zero, List.set_cons_succ])
        refine row_free (v := ?_) (by rfl) ?_ ?_
        rotate_left 1
        focus (intro w hSw; (try dsimp only at hSw); go_simp; (try with_reducible rfl))
        (try simp only [Act.put, List.setIfInBounds_toArray, List.set_cons_zero, List.set_cons_succ])
        refine row_free (v := ?_) (by rfl) ?_ ?_
        rotate_left 1
        focus (intro w hSw; (try dsimp only at hSw); go_simp; (try with_reducible rfl))
        (try simp only [Act.put, List.setIfInBounds_toArray, List.set_cons_zero, List.set_cons_succ])
        refine row_free (v := ?_) (by rfl) ?_ ?_
        rotate_left 1
        focus (intro w hSw; (try dsimp only at hSw); go_simp; (try with_reducible rfl))
        (try simp only [Act.put, List.setIfInBounds_toArray, List.set_cons_zero, List.set_cons_succ])
        refine row_free (v := ?_) (by rfl) ?_ ?_
        rotate_left 1
        focus (intro w hSw; (try dsimp only at hSw); go_simp; (try with_reducible rfl))
        (try simp only [Act.put, List.setIfInBounds_toArray, List.set_cons_zero, List.set_cons_succ])
        refine row_free (v := ?_) (by rfl) ?_ ?_
        rotate_left 1
        focus (intro w hSw; (try dsimp only at hSw); go_simp; (try with_reducible rfl))
        (try simp only [Act.put, List.setIfInBounds_toArray, List.set_cons_zero, List.set_cons_succ])
        refine row_call (by rfl) (fun K hK => ?_)
        go_simp
        (refine (by have h := HKp.out _ g2 l3 e71 _ (HV3r.out.below hS.2.2) (HB2.out.below hS.2.2 HB2.out.lt) (by omega); rw [Hm.out] at h; exact h : Calls _ _ _ _ _).mono ?_; rintro e w4 ⟨rfl, hb4⟩)
        (try go_wp2_with fail)
        refine hK.out _ _ ?_ (fun hS' => ?_)
        · (try dsimp only); first | exact keepW (by assumption) (by assumption) | exact keepB (by assumption) (by assumption) | exact keepA (by assumption) | assumption
        clear hS hK K
        have hS := hS'
        clear hS'
        (try simp only [Act.put, List.setIfInBounds_toArray, List.set_cons_zero, List.set_cons_succ])
        refine row_free (v := ?_) (by rfl) ?_ ?_
        rotate_left 1
        focus (intro w hSw; (try dsimp only at hSw); go_simp; (try with_reducible rfl))
        (try simp only [Act.put, List.setIfInBounds_toArray, List.set_cons_zero, List.set_cons_succ])
        refine row_free (v := ?_) (by rfl) ?_ ?_
        rotate_left 1
        focus (intro w hSw; (try dsimp only at hSw); go_simp; (try with_reducible rfl))
        (try simp only [Act.put, List.setIfInBounds_toArray, List.set_cons_zero, List.set_cons_succ])
        refine row_done ?_
        go_wp2
        go_ret
        exact ⟨rfl, nextW HE.out hS.2.2⟩
  · by_cases h1 : n ≤ 40
    · have hd1 : decide ((40 : Int) < (n : Int)) = false := decide_eq_false (by omega)
      by_cases h2 : m ≤ 40
      · have hd2 : decide ((40 : Int) < (m : Int)) = false := decide_eq_false (by omega)
        have hd3 : decide ((40 : Int) < (len4 : Int)) = true := decide_eq_true (by omega)
        go_enter Try.func3, Try.ntmps3
        go_wp2_with fail
        refine (HA.out _).mono ?_
        rintro e v1 ⟨rfl, hbv1⟩
        obtain ⟨hcv1, hfv1⟩ := bcell hbv1
        have Hbv1 := Lib.hid hbv1
        clear hbv1
        go_wp2
        go_ret
        exact ⟨rfl, unbox (unbox Hbv1.out)⟩
      · have hd2 : decide ((40 : Int) < (m : Int)) = true := decide_eq_true (by omega)
        go_enter Try.func3, Try.ntmps3
        go_wp2_with fail
        refine (HA.out _).mono ?_
        rintro e v1 ⟨rfl, hbv1⟩
        obtain ⟨hcv1, hfv1⟩ := bcell hbv1
        have Hbv1 := Lib.hid hbv1
        clear hbv1
        go_wp2
        go_ret
        exact ⟨rfl, unbox (unbox Hbv1.out)⟩
    · have hd1 : decide ((40 : Int) < (n : Int)) = true := decide_eq_true (by omega)
      go_enter Try.func3, Try.ntmps3
      go_wp2_with fail
      refine (HA.out _).mono ?_
      rintro e v1 ⟨rfl, hbv1⟩
      obtain ⟨hcv1, hfv1⟩ := bcell hbv1
      have Hbv1 := Lib.hid hbv1
      clear hbv1
      go_wp2
      go_ret
      exact ⟨rfl, unbox (unbox Hbv1.out)⟩

set_option maxRecDepth 100000 in
theorem lifted (os : Os) (started : os.Started) (H : Type) (enc : TypeId × Value → H) :
    ReturnsInHanded {} Try.checked os 3 .any (Rows.entityTellsSpec.pre6 enc Try.prog Try.f3 Rows.entityTellsRow.domain false) (Rows.entityTellsSpec.post enc Try.prog Try.f3 false true false false) := by
  refine returnsInHanded_of_change (C := Try.checked) own started (by kernel_rfl) Try.func3
    (ChangeSpec.witness6 (enc := enc) (C := Try.checked) false ⟨#[], #[.agg #[.int .i64 0, .int .i64 0, .int .i64 0, .int .i64 0, .int .u64 0], .agg #[.int .i64 0, .int .i64 0, .int .i64 0, .int .i64 0, .int .i64 0, .int .i64 0, .int .i64 0, .int .i64 0, .int .i64 0], .slice none 0 0, .slice none 0 0, .slice none 0 0, .int .i64 0], []⟩ 8 (by kernel_rfl) (by kernel_rfl) (by kernel_rfl) (by kernel_rfl)) ?_
  intro W base args ds gs before hval0 hW hcnd _
  have hval : ∀ (j : Nat) t v, Try.f3.params[j]? = some t → args[j]? = some v → Value.okWide Try.prog W .any base t v := hval0
  have hW' := hW
  obtain ⟨p, q, hA0, hV, rfl, hfz, hnd⟩ := hW
  have hA : DataW.TrodAll enc Try.prog W 0 (fun _ => true) true Try.f3.params.toList args.toList ds p := hA0
  rw [Try.params3] at hA hval
  obtain ⟨v0, vs0, d0, ds0, p0, q0, hargs, rfl, rfl, h0, r0⟩ := trodAll_cons hA
  obtain ⟨v1, vs1, d1, ds1, p1, q1, rfl, rfl, rfl, h1, r1⟩ := trodAll_cons r0
  obtain ⟨v2, vs2, d2, ds2, p2, q2, rfl, rfl, rfl, h2, r2⟩ := trodAll_cons r1
  obtain ⟨v3, vs3, d3, ds3, p3, q3, rfl, rfl, rfl, h3, r3⟩ := trodAll_cons r2
  obtain ⟨v4, vs4, d4, ds4, p4, q4, rfl, rfl, rfl, h4, r4⟩ := trodAll_cons r3
  obtain ⟨v5, vs5, d5, ds5, p5, q5, rfl, rfl, rfl, h5, r5⟩ := trodAll_cons r4
  obtain ⟨rfl, rfl, rfl⟩ := trodAll_nil r5
  obtain rfl : args = #[v0, v1, v2, v3, v4, v5] := by cases args; simp_all
  obtain ⟨rfl, rfl⟩ := trodVars_none hV
  obtain ⟨cs0, rfl, -⟩ := okWide_struct Try.underlying24 (hval 0 24 v0 rfl rfl)
  have k0 := h0
  have lt0 : ∀ x ∈ p0, x.block < W.heap.size := by obtain ⟨m, hm⟩ := k0; exact DataW.trod_lt m _ _ _ hm
  obtain ⟨fuel0, hf0⟩ := h0
  obtain ⟨l0⟩ := cs0
  obtain ⟨a0_0, a0_1, a0_2, a0_3, a0_4, rfl, w0_0, w0_1, w0_2, w0_3, w0_4⟩ := open_T24 (cs := l0) hf0
  obtain ⟨cs1, rfl, -⟩ := okWide_struct Try.underlying26 (hval 1 26 v1 rfl rfl)
  have k1 := h1
  have lt1 : ∀ x ∈ p1, x.block < W.heap.size := by obtain ⟨m, hm⟩ := k1; exact DataW.trod_lt m _ _ _ hm
  obtain ⟨fuel1, hf1⟩ := h1
  obtain ⟨l1⟩ := cs1
  obtain ⟨a1_0, a1_1, a1_2, a1_3, a1_4, a1_5, a1_6, a1_7, a1_8, rfl, w1_0, w1_1, w1_2, w1_3, w1_4, w1_5, w1_6, w1_7, w1_8⟩ := open_T26 (cs := l1) hf1
  obtain ⟨A2, len2, cap2, rfl⟩ := okWide_slice Try.underlying27 (hval 2 27 v2 rfl rfl)
  have k2 := h2
  have lt2 : ∀ x ∈ p2, x.block < W.heap.size := by obtain ⟨m, hm⟩ := k2; exact DataW.trod_lt m _ _ _ hm
  obtain ⟨l2, w2, o2⟩ : ∃ l : List Fx.Ent, Fx.IsSl Fx.entC W (.slice A2 len2 cap2) l ∧ ∀ e ∈ l, Fx.Ent.ok e := by
    obtain ⟨fuel, hf⟩ := h2
    exact open_sl27 hf
  obtain ⟨A3, len3, cap3, rfl⟩ := okWide_slice Try.underlying27 (hval 3 27 v3 rfl rfl)
  have k3 := h3
  have lt3 : ∀ x ∈ p3, x.block < W.heap.size := by obtain ⟨m, hm⟩ := k3; exact DataW.trod_lt m _ _ _ hm
  obtain ⟨l3, w3, o3⟩ : ∃ l : List Fx.Ent, Fx.IsSl Fx.entC W (.slice A3 len3 cap3) l ∧ ∀ e ∈ l, Fx.Ent.ok e := by
    obtain ⟨fuel, hf⟩ := h3
    exact open_sl27 hf
  obtain ⟨a4, len4, cap4, rfl⟩ := okWide_slice Try.underlying28 (hval 4 28 v4 rfl rfl)
  have k4 := h4
  have lt4 : ∀ x ∈ p4, x.block < W.heap.size := by obtain ⟨m, hm⟩ := k4; exact DataW.trod_lt m _ _ _ hm
  obtain ⟨z4, w4⟩ : ∃ zs, IsRow .i64 W a4 len4 cap4 zs := by
    obtain ⟨fuel, hf⟩ := h4
    rcases open_ints Try.underlying28 Try.underlying3 (by kernel_rfl) hf with ⟨hcs, _⟩ | ⟨x, l, c, zs, hcs, _, hl, hm, hz, _, hcell, hwz⟩
    · simp [Value.cells] at hcs
      obtain ⟨rfl, rfl, rfl⟩ := hcs
      exact ⟨[], .inl ⟨rfl, rfl, rfl, rfl⟩⟩
    · simp [Value.cells] at hcs
      obtain ⟨rfl, rfl, rfl⟩ := hcs
      exact ⟨zs, .inr ⟨_, rfl, hl, hm, by simpa using hz, hcell, hwz⟩⟩
  obtain ⟨a5, rfl, rfl, rfl, w5⟩ := open_int Try.underlying3 (hval 5 3 v5 rfl rfl) h5
  clear hA0 hval0
  refine (walk a0_0 a0_1 a0_2 a0_3 a0_4 ⟨a1_0, a1_1, a1_2, a1_3, a1_4, a1_5, a1_6, a1_7, a1_8⟩ _ l2 _ l3 a4 len4 cap4 z4 a5 W w0_0 w0_1 w0_2 w0_3 w0_4 ⟨w1_0, w1_1, w1_2, w1_3, w1_4, w1_5, w1_6, w1_7, w1_8⟩ w2 o2 w3 o3 w4 w5).mono fun e W' ⟨he, bel⟩ => ?_
  subst he
  exact ⟨_, rfl, _, _, _, [], _, [], hW', trodAll_mk1 (shut_bool Try.underlying4 _), (trodAll_cons_mk (Below.trod laidOut (by kernel_rfl) (of_decide_eq_true (by kernel_rfl)) k0 bel lt0) (trodAll_cons_mk (Below.trod laidOut (by kernel_rfl) (of_decide_eq_true (by kernel_rfl)) k1 bel lt1) (trodAll_cons_mk (Below.trod laidOut (by kernel_rfl) (of_decide_eq_true (by kernel_rfl)) k2 bel lt2) (trodAll_cons_mk (Below.trod laidOut (by kernel_rfl) (of_decide_eq_true (by kernel_rfl)) k3 bel lt3) (trodAll_cons_mk (Below.trod laidOut (by kernel_rfl) (of_decide_eq_true (by kernel_rfl)) k4 bel lt4) (trodAll_cons_mk (shut_int Try.underlying3 w5) trodAll_mk0)))))), rfl, bel.frame _, fun h => by cases h⟩

theorem over : Rows.entityTellsRow.holds Try.pinned (OpenSpec.ofChange Rows.entityTellsSpec) :=
  OpenClaim.holds_of_wide 3 Try.f3 rfl rfl rfl rfl rfl rfl rfl ⟨rfl, rfl, rfl, rfl, rfl⟩ rfl rfl rfl rfl rfl (by kernel_rfl) Try.func3 (by kernel_rfl)
    (of_decide_eq_true (by kernel_rfl)) (by unfold Func.isWrapper; first | (rw [if_pos (by decide +kernel)]; kernel_rfl) | (rw [if_neg (by decide +kernel)]; exact ⟨rfl, rfl⟩))
    (fun os started H enc _ => lifted os started H enc)

end Go.Proofs.Ytcpmicghhmoefaa.entityTells
namespace Go.Proofs.Ytcpmicghhmoefaa
theorem entityTells_proved : Rows.EntityTellsSaid := entityTells.over
end Go.Proofs.Ytcpmicghhmoefaa
