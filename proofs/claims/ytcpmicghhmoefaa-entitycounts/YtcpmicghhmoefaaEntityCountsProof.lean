/- joustlaw05.EntityCounts returns true for every input; no conditions. -/
import Derived.Test.YtcpmicghhmoefaaEnAwake
import Derived.Test.YtcpmicghhmoefaaEnLeafP
import Derived.Test.YtcpmicghhmoefaaGOwnTEntity
import Derived.Test.YtcpmicghhmoefaaGNum
import Derived.Test.YtcpmicghhmoefaaRows
import Derived.WalkKit
import Derived.ProofKit
import Derived.OpenShut
import Derived.ShutString
import Derived.ChangeOld
import Derived.Below
import Derived.Deep.Slices
namespace Go.Proofs.Ytcpmicghhmoefaa.entityCounts
open Go.ChangeShapes Go.WideShapes Go.ChangeAt Go.RowKit
open Go.ChangeMaps (open_string shut_string)
set_option linter.unusedVariables false

theorem own : ownKnob Try.prog.godebug = none := by kernel_rfl
theorem laidOut : laidOutB Try.prog = true := by kernel_rfl
open Fx (IsRow)
theorem open_T26 {H : Type} {enc : TypeId × Value → H} {W : World} {fuel : Nat} {cs : List Value} {x : DataW H × List MemPlace} (h : DataW.trod enc Try.prog W 0 (fun _ => true) true fuel 26 cs = some x) :
    ∃ (a0 : Int) (a1 : Int) (a2 : Int) (a3 : Int) (a4 : Int) (a5 : Int) (a6 : Int) (a7 : Int) (a8 : Int), cs = [.int .i64 a0, .int .i64 a1, .int .i64 a2, .int .i64 a3, .int .i64 a4, .int .i64 a5, .int .i64 a6, .int .i64 a7, .int .i64 a8] ∧ (Lit.int .i64 a0).wf = true ∧ (Lit.int .i64 a1).wf = true ∧ (Lit.int .i64 a2).wf = true ∧ (Lit.int .i64 a3).wf = true ∧ (Lit.int .i64 a4).wf = true ∧ (Lit.int .i64 a5).wf = true ∧ (Lit.int .i64 a6).wf = true ∧ (Lit.int .i64 a7).wf = true ∧ (Lit.int .i64 a8).wf = true := by
  obtain ⟨xs, n, -, -, hl, hxl, hg⟩ := DataW.trod_struct Try.underlying26 h
  have hl' : cs.length = 9 := hl.trans (by kernel_rfl)
  have c3 : Try.prog.cellsOf 3 = 1 := by kernel_rfl
  clear hl h
  match cs, hl' with
  | [z0, z1, z2, z3, z4, z5, z6, z7, z8], _ =>
    have g0 : DataW.trod enc Try.prog W 0 (fun _ => true) true n 3 (([z0, z1, z2, z3, z4, z5, z6, z7, z8].drop 0).take (Try.prog.cellsOf 3)) = xs[0]? := hg 0 _ rfl
    rw [c3, List.getElem?_eq_getElem (show 0 < xs.length by rw [hxl]; decide)] at g0
    have g1 : DataW.trod enc Try.prog W 0 (fun _ => true) true n 3 (([z0, z1, z2, z3, z4, z5, z6, z7, z8].drop 1).take (Try.prog.cellsOf 3)) = xs[1]? := hg 1 _ rfl
    rw [c3, List.getElem?_eq_getElem (show 1 < xs.length by rw [hxl]; decide)] at g1
    have g2 : DataW.trod enc Try.prog W 0 (fun _ => true) true n 3 (([z0, z1, z2, z3, z4, z5, z6, z7, z8].drop 2).take (Try.prog.cellsOf 3)) = xs[2]? := hg 2 _ rfl
    rw [c3, List.getElem?_eq_getElem (show 2 < xs.length by rw [hxl]; decide)] at g2
    have g3 : DataW.trod enc Try.prog W 0 (fun _ => true) true n 3 (([z0, z1, z2, z3, z4, z5, z6, z7, z8].drop 3).take (Try.prog.cellsOf 3)) = xs[3]? := hg 3 _ rfl
    rw [c3, List.getElem?_eq_getElem (show 3 < xs.length by rw [hxl]; decide)] at g3
    have g4 : DataW.trod enc Try.prog W 0 (fun _ => true) true n 3 (([z0, z1, z2, z3, z4, z5, z6, z7, z8].drop 4).take (Try.prog.cellsOf 3)) = xs[4]? := hg 4 _ rfl
    rw [c3, List.getElem?_eq_getElem (show 4 < xs.length by rw [hxl]; decide)] at g4
    have g5 : DataW.trod enc Try.prog W 0 (fun _ => true) true n 3 (([z0, z1, z2, z3, z4, z5, z6, z7, z8].drop 5).take (Try.prog.cellsOf 3)) = xs[5]? := hg 5 _ rfl
    rw [c3, List.getElem?_eq_getElem (show 5 < xs.length by rw [hxl]; decide)] at g5
    have g6 : DataW.trod enc Try.prog W 0 (fun _ => true) true n 3 (([z0, z1, z2, z3, z4, z5, z6, z7, z8].drop 6).take (Try.prog.cellsOf 3)) = xs[6]? := hg 6 _ rfl
    rw [c3, List.getElem?_eq_getElem (show 6 < xs.length by rw [hxl]; decide)] at g6
    have g7 : DataW.trod enc Try.prog W 0 (fun _ => true) true n 3 (([z0, z1, z2, z3, z4, z5, z6, z7, z8].drop 7).take (Try.prog.cellsOf 3)) = xs[7]? := hg 7 _ rfl
    rw [c3, List.getElem?_eq_getElem (show 7 < xs.length by rw [hxl]; decide)] at g7
    have g8 : DataW.trod enc Try.prog W 0 (fun _ => true) true n 3 (([z0, z1, z2, z3, z4, z5, z6, z7, z8].drop 8).take (Try.prog.cellsOf 3)) = xs[8]? := hg 8 _ rfl
    rw [c3, List.getElem?_eq_getElem (show 8 < xs.length by rw [hxl]; decide)] at g8
    obtain ⟨a0, e0, -, w0⟩ := DataW.trod_int (cs := [z0]) Try.underlying3 g0
    simp only [List.cons.injEq, and_true] at e0
    subst e0
    clear g0
    obtain ⟨a1, e1, -, w1⟩ := DataW.trod_int (cs := [z1]) Try.underlying3 g1
    simp only [List.cons.injEq, and_true] at e1
    subst e1
    clear g1
    obtain ⟨a2, e2, -, w2⟩ := DataW.trod_int (cs := [z2]) Try.underlying3 g2
    simp only [List.cons.injEq, and_true] at e2
    subst e2
    clear g2
    obtain ⟨a3, e3, -, w3⟩ := DataW.trod_int (cs := [z3]) Try.underlying3 g3
    simp only [List.cons.injEq, and_true] at e3
    subst e3
    clear g3
    obtain ⟨a4, e4, -, w4⟩ := DataW.trod_int (cs := [z4]) Try.underlying3 g4
    simp only [List.cons.injEq, and_true] at e4
    subst e4
    clear g4
    obtain ⟨a5, e5, -, w5⟩ := DataW.trod_int (cs := [z5]) Try.underlying3 g5
    simp only [List.cons.injEq, and_true] at e5
    subst e5
    clear g5
    obtain ⟨a6, e6, -, w6⟩ := DataW.trod_int (cs := [z6]) Try.underlying3 g6
    simp only [List.cons.injEq, and_true] at e6
    subst e6
    clear g6
    obtain ⟨a7, e7, -, w7⟩ := DataW.trod_int (cs := [z7]) Try.underlying3 g7
    simp only [List.cons.injEq, and_true] at e7
    subst e7
    clear g7
    obtain ⟨a8, e8, -, w8⟩ := DataW.trod_int (cs := [z8]) Try.underlying3 g8
    simp only [List.cons.injEq, and_true] at e8
    subst e8
    clear g8
    exact ⟨a0, a1, a2, a3, a4, a5, a6, a7, a8, rfl, w0, w1, w2, w3, w4, w5, w6, w7, w8⟩

theorem open_sl27 {H : Type} {enc : TypeId × Value → H} {W : World} {fuel : Nat} {v : Value} {x : DataW H × List MemPlace} (h : DataW.trod enc Try.prog W 0 (fun _ => true) true fuel 27 [v] = some x) :
    ∃ l : List Fx.Ent, Fx.IsSl Fx.entC W v l ∧ ∀ e ∈ l, Fx.Ent.ok e := by
  rcases Go.Deep.open_slice Try.underlying27 h with ⟨hcs, _⟩ | ⟨a, len, cap, m, n, D, Pl, hcs, _, hl, hm, hmm, _, hel⟩
  · simp at hcs
    subst hcs
    exact ⟨[], Fx.IsSl.nil _ _, by simp⟩
  · simp at hcs
    subst hcs
    have hmc : m = cap := hmm
    have hce : Try.prog.cellsOf 26 = 9 := by kernel_rfl
    refine Fx.sl_of_cells (base := 0) default 9 Fx.entC_len (by omega) hl fun i hi => ?_
    obtain ⟨cs', hc, ht⟩ := hel i (by omega)
    rw [hce] at hc
    obtain ⟨a0, a1, a2, a3, a4, a5, a6, a7, a8, rfl, w0, w1, w2, w3, w4, w5, w6, w7, w8⟩ := open_T26 ht
    exact ⟨⟨a0, a1, a2, a3, a4, a5, a6, a7, a8⟩, ⟨w0, w1, w2, w3, w4, w5, w6, w7, w8⟩, hc⟩

open Fx

/-- How many are players. -/
def plys : List Ent → Int
  | [] => 0
  | e :: r => (if e.kind = 1 then 1 else 0) + plys r

theorem plys_things (l : List Ent) : things l + plys l = l.length := by
  induction l with
  | nil => rfl
  | cons e r ih => rw [things, plys, List.length_cons]; split <;> omega

theorem plys_bd (l : List Ent) : 0 ≤ plys l ∧ plys l ≤ l.length := by
  have := plys_things l
  have := things_bd l
  omega

set_option maxRecDepth 100000 in
set_option maxHeartbeats 2000000 in
theorem walk (v0 : Value) (l0 : List Fx.Ent) (a1 : Int) (w : World) (w0 : Fx.IsSl Fx.entC w v0 l0) (k0 : ∀ e ∈ l0, Fx.Ent.ok e) (w1 : (Lit.int .i64 a1).wf = true) :
    Calls Try.prog 6 #[v0, .int .i64 a1] w fun e w' => e = .returned (.bool true) ∧ Below w.heap.size w w' := by
  have C := enC
  clear k0 w1
  have HV := Lib.hid w0
  obtain ⟨A, c, rfl, hA, hcap, hat⟩ := w0
  have HA := Lib.hid (awake_en C)
  have HP := Lib.hid C.puts
  have HT := Lib.hid C.things
  have HD := Lib.hid C.drops
  have HSo := Lib.hid C.sorted
  clear C hA hcap hat
  obtain ⟨n, hnn⟩ : ∃ n, l0.length = n := ⟨_, rfl⟩
  rw [hnn] at HV ⊢
  have Hn := Lib.hid hnn
  clear hnn
  by_cases h40 : n ≤ 40
  · have HR := Lib.hid (show Rise (puts [] l0) from puts_rise (by unfold Rise; simp) l0)
    have HL := Lib.hid (show (puts [] l0).length ≤ n by have := puts_len [] l0; have := Hn.out; simp at *; omega)
    have HP1 := Lib.hid (fun w (hv : IsSl entC w (.slice A n c) l0) => HP.out _ [] _ l0 w (IsSl.nil _ _) (by simp) hv (by have := Hn.out; omega))
    have hd40 : decide ((40 : Int) < (n : Int)) = false := decide_eq_false (by omega)
    go_enter Try.func6, Try.ntmps6
    go_wp2_with fail
    refine (HP1.out _ HV.out).mono ?_
    clear HP1
    rintro e w1 ⟨v, rfl, hsl, hb1⟩
    generalize puts [] l0 = X at *
    have HX1 := Lib.hid hsl
    obtain ⟨B, d, rfl, -, -, -⟩ := hsl
    obtain ⟨N, hNN⟩ : ∃ N, X.length = N := ⟨_, rfl⟩
    rw [hNN] at HX1 ⊢
    have HN := Lib.hid hNN
    have hN40 : N ≤ 40 := by have := HL.out; omega
    have Hb1 := Lib.hid hb1
    have HPl := Lib.hid (show plys X = 0 + plys (X.drop 0) by simp)
    have HPT := Lib.hid (plys_things X)
    have hpb := plys_bd X
    have htb := things_bd X
    rw [hNN] at HPT hpb htb
    clear hb1 hNN HL HV
    go_wp2
    go_loop [6, 7] (fun m i => ∃ (k : Nat) (q : Int), k ≤ N ∧ i = .int .i64 k ∧ m = .int .i64 q ∧ 0 ≤ q ∧ q ≤ k ∧ plys X = q + plys (X.drop k)) (fun _ i => N - (intOf i).toNat)
    case atStart => exact ⟨0, 0, Nat.zero_le _, rfl, rfl, by omega, by omega, HPl.out⟩
    case round =>
      obtain ⟨k, q, hk, rfl, rfl, hq0, hq1, hr⟩ := hrel
      have Hr := Lib.hid hr
      clear hr
      by_cases hlt : k < N
      · obtain ⟨x, hx⟩ := getE X k N HN.out hlt
        have HXk := Lib.hid (drop_at hx)
        obtain ⟨b, off, rfl, hc⟩ := elem_Ent HX1.out.at hx
        have hck := hc.2.1
        clear hc hx
        by_cases hxy : x.kind = 1
        · go_wp2
          go_round
          case rel => exact ⟨k + 1, q + 1, by omega, by go_num, by go_num, by omega, by omega, by rw [Hr.out, HXk.out, plys, if_pos hxy]; omega⟩
          case measure => simp [intOf]; omega
        · have hxy' : (x.kind == 1) = false := by simpa using hxy
          go_wp2
          go_round
          case rel => exact ⟨k + 1, q, by omega, by go_num, rfl, hq0, by omega, by rw [Hr.out, HXk.out, plys, if_neg hxy]; omega⟩
          case measure => simp [intOf]; omega
      · obtain rfl : N = k := by omega
        have hq : q = plys X := by rw [Hr.out, List.drop_eq_nil_of_le (by have := HN.out; omega)]; simp [plys]
        subst hq
        clear Hr HPl hq0 hq1 hk
        go_wp2_with fail
        refine (HA.out _).mono ?_
        rintro e w2 ⟨rfl, hbw2⟩
        obtain ⟨hcw2, hfw2⟩ := bcell hbw2
        have Hbw2 := Lib.hid hbw2
        clear hbw2
        go_wp2_with fail
        refine (HT.out _ X _ (HX1.out.below Hbw2.out) (by have := HN.out; omega)).mono ?_
        rintro e w3 ⟨rfl, hb3⟩
        have Hb13 := Lib.hid (Hbw2.out.trans (hb3.mono Hbw2.out.size))
        have HX3 := Lib.hid (HX1.out.below Hb13.out)
        have Hb3 := Lib.hid (Hb1.out.trans (Hb13.out.mono Hb1.out.size))
        clear hb3 HX1 Hb1 Hbw2 Hb13 hcw2 hfw2
        have hsum : things X + plys X = (N : Int) := HPT.out
        generalize things X = t at *
        generalize plys X = q at *
        have hne : (t + q != (N : Int)) = false := by simp [hsum]
        by_cases h0 : N = 0
        · have h0' : ((N : Int) == 0) = true := by simp [h0]
          subst h0
          go_wp2
          go_ret
          exact ⟨rfl, Hb3.out⟩
        · have h0' : ((N : Int) == 0) = false := by simp [h0]
          obtain ⟨j, hjN, hj⟩ := uplace a1 N (by omega) (by omega)
          obtain ⟨z, hz⟩ := getE X j N HN.out hjN
          have HY1 := Lib.hid (drp_len HR.out hz)
          have HY2 := Lib.hid (put_back HR.out hz)
          have HY3 := Lib.hid (drp_twice X z.id)
          have HY4 := Lib.hid ((srt_iff _).2 (drp_rise HR.out [z.id]))
          obtain ⟨b, off, rfl, hc⟩ := elem_Ent HX3.out.at hz
          obtain ⟨c0, c1, c2, c3, c4, c5, c6, c7, c8⟩ := hc
          have hu : IntKind.u64.wrap (N : Int) = N := by rw [IntKind.wrap_u64]; omega
          have hjN' : (j : Int) < (N : Int) := by omega
          clear hz
          go_wp2_with fail
          refine (HD.out _ X _ 1 1 [z.id] _ ((HX3.out.keep fun p u hp => by rw [World.cell?_alloc_lt _ _ _ (by have := World.block_lt_of_cell? _ _ hp; simp; omega), World.cell?_alloc_lt _ _ _ (World.block_lt_of_cell? _ _ hp)]; exact hp)) (by have := HN.out; omega) (ints_new1 _ _ z.id _ (by simp)) (by omega)).mono ?_
          rintro e w4 ⟨v', rfl, hsl, hb4⟩
          have f0 : w4.cell? ⟨w3.heap.size, 0, none⟩ = some (.int .i64 z.id) := by rw [hb4.cell (p := ⟨w3.heap.size, 0, none⟩) (by simp; omega)]; simp
          have f1 : w4.cell? ⟨w3.heap.size, 1, none⟩ = some (.int .i64 z.kind) := by rw [hb4.cell (p := ⟨w3.heap.size, 1, none⟩) (by simp; omega)]; simp
          have f2 : w4.cell? ⟨w3.heap.size, 2, none⟩ = some (.int .i64 z.x) := by rw [hb4.cell (p := ⟨w3.heap.size, 2, none⟩) (by simp; omega)]; simp
          have f3 : w4.cell? ⟨w3.heap.size, 3, none⟩ = some (.int .i64 z.y) := by rw [hb4.cell (p := ⟨w3.heap.size, 3, none⟩) (by simp; omega)]; simp
          have f4 : w4.cell? ⟨w3.heap.size, 4, none⟩ = some (.int .i64 z.vx) := by rw [hb4.cell (p := ⟨w3.heap.size, 4, none⟩) (by simp; omega)]; simp
          have f5 : w4.cell? ⟨w3.heap.size, 5, none⟩ = some (.int .i64 z.vy) := by rw [hb4.cell (p := ⟨w3.heap.size, 5, none⟩) (by simp; omega)]; simp
          have f6 : w4.cell? ⟨w3.heap.size, 6, none⟩ = some (.int .i64 z.health) := by rw [hb4.cell (p := ⟨w3.heap.size, 6, none⟩) (by simp; omega)]; simp
          have f7 : w4.cell? ⟨w3.heap.size, 7, none⟩ = some (.int .i64 z.age) := by rw [hb4.cell (p := ⟨w3.heap.size, 7, none⟩) (by simp; omega)]; simp
          have f8 : w4.cell? ⟨w3.heap.size, 8, none⟩ = some (.int .i64 z.owner) := by rw [hb4.cell (p := ⟨w3.heap.size, 8, none⟩) (by simp; omega)]; simp
          have Hb34 := Lib.hid (unbox (unbox hb4))
          have Hb4 := Lib.hid (Hb3.out.trans (Hb34.out.mono Hb3.out.size))
          have HX4 := Lib.hid (HX3.out.below Hb34.out)
          have hz4 : w3.heap.size < w4.heap.size := by have := hb4.size; simp at this; omega
          clear hb4 HX3 Hb3 Hb34 c0 c1 c2 c3 c4 c5 c6 c7 c8 hu hj
          generalize drp X [z.id] = Y at *
          have HY := Lib.hid hsl
          obtain ⟨B2, d2, rfl, -, -, -⟩ := hsl
          obtain ⟨M, hMM⟩ : ∃ M, Y.length = M := ⟨_, rfl⟩
          rw [hMM] at HY ⊢
          have hMN : M + 1 = N := by have := HY1.out; have := HN.out; omega
          have HM := Lib.hid hMM
          clear hMM
          have hdm : ((M : Int) == (N : Int) - 1) = true := by simp; omega
          have HS := Lib.hid (Below.refl (w4).heap.size (w4))
          go_wp2_with fail
          refine (HP.out _ Y _ [z] _ (HY.out.keep fun p u hp => by rw [World.cell?_alloc_lt _ _ _ (World.block_lt_of_cell? _ _ hp)]; exact hp) (by have := HM.out; omega) (one_Ent w4 z _ 1 (by rfl) (by omega)) (by simp)).mono ?_
          rintro e w5 ⟨v2, rfl, hsl2, hb5⟩
          rw [show puts Y [z] = X from HY2.out] at hsl2
          have HX5 := Lib.hid hsl2
          replace HS := Lib.hid (nextW HS.out (by first | exact hb5 | exact unbox hb5 | exact unbox (unbox hb5)))
          clear hb5
          (try clear hSc hSf)
          obtain ⟨hSc, hSf⟩ := bcell HS.out
          obtain ⟨B3, d3, rfl, -, -, -⟩ := hsl2
          go_wp2_with fail
          refine (plain_Ent _ _ X _ HX5.out (HX4.out.below HS.out) (by have := HN.out; omega)).mono ?_
          rintro e w6 ⟨rfl, hb6⟩
          replace HS := Lib.hid (nextW HS.out (by first | exact hb6 | exact unbox hb6 | exact unbox (unbox hb6)))
          clear hb6
          (try clear hSc hSf)
          obtain ⟨hSc, hSf⟩ := bcell HS.out
          go_wp2_with fail
          refine (HD.out _ Y _ 2 2 [z.id, z.id] _ ((HY.out.below HS.out).keep fun p u hp => by rw [World.cell?_alloc_lt _ _ _ (World.block_lt_of_cell? _ _ hp)]; exact hp) (by have := HM.out; omega) (ints_new2 _ _ z.id z.id _ (by simp)) (by omega)).mono ?_
          rintro e w7 ⟨v3, rfl, hsl3, hb7⟩
          rw [HY3.out] at hsl3
          have HY7 := Lib.hid hsl3
          replace HS := Lib.hid (nextW HS.out (by first | exact hb7 | exact unbox hb7 | exact unbox (unbox hb7)))
          clear hb7
          (try clear hSc hSf)
          obtain ⟨hSc, hSf⟩ := bcell HS.out
          obtain ⟨B4, d4, rfl, -, -, -⟩ := hsl3
          go_wp2_with fail
          refine (plain_Ent _ _ Y _ HY7.out (HY.out.below HS.out) (by have := HM.out; omega)).mono ?_
          rintro e w8 ⟨rfl, hb8⟩
          replace HS := Lib.hid (nextW HS.out (by first | exact hb8 | exact unbox hb8 | exact unbox (unbox hb8)))
          clear hb8
          (try clear hSc hSf)
          obtain ⟨hSc, hSf⟩ := bcell HS.out
          go_wp2_with fail
          refine (HSo.out _ Y _ (HY.out.below HS.out) (by have := HM.out; omega)).mono ?_
          rintro e w9 ⟨rfl, hb9⟩
          rw [HY4.out]
          replace HS := Lib.hid (nextW HS.out (by first | exact hb9 | exact unbox hb9 | exact unbox (unbox hb9)))
          clear hb9
          (try clear hSc hSf)
          obtain ⟨hSc, hSf⟩ := bcell HS.out
          go_wp2
          go_ret
          exact ⟨rfl, Hb4.out.trans (HS.out.mono Hb4.out.size)⟩
  · go_enter Try.func6, Try.ntmps6
    go_wp2_with fail
    refine (HA.out _).mono ?_
    rintro e w1 ⟨rfl, hbw1⟩
    obtain ⟨hcw1, hfw1⟩ := bcell hbw1
    have Hbw1 := Lib.hid hbw1
    clear hbw1
    go_wp2
    go_ret
    exact ⟨rfl, Hbw1.out⟩

set_option maxRecDepth 100000 in
theorem lifted (os : Os) (started : os.Started) (H : Type) (enc : TypeId × Value → H) :
    ReturnsInHanded {} Try.checked os 6 .any (Rows.entityCountsSpec.pre6 enc Try.prog Try.f6 Rows.entityCountsRow.domain false) (Rows.entityCountsSpec.post enc Try.prog Try.f6 false true false false) := by
  refine returnsInHanded_of_change (C := Try.checked) own started (by kernel_rfl) Try.func6
    (ChangeSpec.witness6 (enc := enc) (C := Try.checked) false ⟨#[], #[.slice none 0 0, .int .i64 0], []⟩ 8 (by kernel_rfl) (by kernel_rfl) (by kernel_rfl) (by kernel_rfl)) ?_
  intro W base args ds gs before hval0 hW hcnd _
  have hval : ∀ (j : Nat) t v, Try.f6.params[j]? = some t → args[j]? = some v → Value.okWide Try.prog W .any base t v := hval0
  have hW' := hW
  obtain ⟨p, q, hA0, hV, rfl, hfz, hnd⟩ := hW
  have hA : DataW.TrodAll enc Try.prog W 0 (fun _ => true) true Try.f6.params.toList args.toList ds p := hA0
  rw [Try.params6] at hA hval
  obtain ⟨v0, vs0, d0, ds0, p0, q0, hargs, rfl, rfl, h0, r0⟩ := trodAll_cons hA
  obtain ⟨v1, vs1, d1, ds1, p1, q1, rfl, rfl, rfl, h1, r1⟩ := trodAll_cons r0
  obtain ⟨rfl, rfl, rfl⟩ := trodAll_nil r1
  obtain rfl : args = #[v0, v1] := by cases args; simp_all
  obtain ⟨rfl, rfl⟩ := trodVars_none hV
  obtain ⟨A0, len0, cap0, rfl⟩ := okWide_slice Try.underlying27 (hval 0 27 v0 rfl rfl)
  have k0 := h0
  have lt0 : ∀ x ∈ p0, x.block < W.heap.size := by obtain ⟨m, hm⟩ := k0; exact DataW.trod_lt m _ _ _ hm
  obtain ⟨l0, w0, o0⟩ : ∃ l : List Fx.Ent, Fx.IsSl Fx.entC W (.slice A0 len0 cap0) l ∧ ∀ e ∈ l, Fx.Ent.ok e := by
    obtain ⟨fuel, hf⟩ := h0
    exact open_sl27 hf
  obtain ⟨a1, rfl, rfl, rfl, w1⟩ := open_int Try.underlying3 (hval 1 3 v1 rfl rfl) h1
  clear hA0 hval0
  refine (walk _ l0 a1 W w0 o0 w1).mono fun e W' ⟨he, bel⟩ => ?_
  subst he
  exact ⟨_, rfl, _, _, _, [], _, [], hW', trodAll_mk1 (shut_bool Try.underlying4 _), (trodAll_cons_mk (Below.trod laidOut (by kernel_rfl) (of_decide_eq_true (by kernel_rfl)) k0 bel lt0) (trodAll_cons_mk (shut_int Try.underlying3 w1) trodAll_mk0)), rfl, bel.frame _, fun h => by cases h⟩

theorem over : Rows.entityCountsRow.holds Try.pinned (OpenSpec.ofChange Rows.entityCountsSpec) :=
  OpenClaim.holds_of_wide 6 Try.f6 rfl rfl rfl rfl rfl rfl rfl ⟨rfl, rfl, rfl, rfl, rfl⟩ rfl rfl rfl rfl rfl (by kernel_rfl) Try.func6 (by kernel_rfl)
    (of_decide_eq_true (by kernel_rfl)) (by unfold Func.isWrapper; first | (rw [if_pos (by decide +kernel)]; kernel_rfl) | (rw [if_neg (by decide +kernel)]; exact ⟨rfl, rfl⟩))
    (fun os started H enc _ => lifted os started H enc)

end Go.Proofs.Ytcpmicghhmoefaa.entityCounts
namespace Go.Proofs.Ytcpmicghhmoefaa
theorem entityCounts_proved : Rows.EntityCountsSaid := entityCounts.over
end Go.Proofs.Ytcpmicghhmoefaa
