/- joustlaw03.GridPlaces returns true for every input; no conditions. -/
import Derived.Test.YtoghnjbajhnpiaaGrLaw
import Derived.Test.YtoghnjbajhnpiaaRows
import Derived.WalkKit
import Derived.ProofKit
import Derived.OpenShut
import Derived.ShutString
import Derived.ChangeOld
import Derived.Below
namespace Go.Proofs.Ytoghnjbajhnpiaa.gridPlaces
open Go.ChangeShapes Go.WideShapes Go.ChangeAt Go.RowKit
open Go.ChangeMaps (open_string shut_string)
set_option linter.unusedVariables false

theorem own : ownKnob Try.prog.godebug = none := by kernel_rfl
theorem laidOut : laidOutB Try.prog = true := by kernel_rfl

theorem open_T24 {H : Type} {enc : TypeId × Value → H} {W : World} {fuel : Nat} {cs : List Value} {x : DataW H × List MemPlace} (h : DataW.trod enc Try.prog W 0 (fun _ => true) true fuel 24 cs = some x) :
    ∃ (a0 : Int) (a1 : Int) (a2 : Int) (a3 : Int) (a4 : Int), cs = [.int .i64 a0, .int .i64 a1, .int .i64 a2, .int .i64 a3, .int .u64 a4] ∧ (Lit.int .i64 a0).wf = true ∧ (Lit.int .i64 a1).wf = true ∧ (Lit.int .i64 a2).wf = true ∧ (Lit.int .i64 a3).wf = true ∧ (Lit.int .u64 a4).wf = true := by
  obtain ⟨xs, n, -, -, hl, hxl, hg⟩ := DataW.trod_struct Try.underlying24 h
  have hl' : cs.length = 5 := hl.trans (by kernel_rfl)
  have c3 : Try.prog.cellsOf 3 = 1 := by kernel_rfl
  have c22 : Try.prog.cellsOf 22 = 1 := by kernel_rfl
  clear hl h
  match cs, hl' with
  | [z0, z1, z2, z3, z4], _ =>
    have g0 : DataW.trod enc Try.prog W 0 (fun _ => true) true n 3 (([z0, z1, z2, z3, z4].drop 0).take (Try.prog.cellsOf 3)) = xs[0]? := hg 0 _ rfl
    rw [c3, List.getElem?_eq_getElem (show 0 < xs.length by rw [hxl]; decide)] at g0
    have g1 : DataW.trod enc Try.prog W 0 (fun _ => true) true n 3 (([z0, z1, z2, z3, z4].drop 1).take (Try.prog.cellsOf 3)) = xs[1]? := hg 1 _ rfl
    rw [c3, List.getElem?_eq_getElem (show 1 < xs.length by rw [hxl]; decide)] at g1
    have g2 : DataW.trod enc Try.prog W 0 (fun _ => true) true n 3 (([z0, z1, z2, z3, z4].drop 2).take (Try.prog.cellsOf 3)) = xs[2]? := hg 2 _ rfl
    rw [c3, List.getElem?_eq_getElem (show 2 < xs.length by rw [hxl]; decide)] at g2
    have g3 : DataW.trod enc Try.prog W 0 (fun _ => true) true n 3 (([z0, z1, z2, z3, z4].drop 3).take (Try.prog.cellsOf 3)) = xs[3]? := hg 3 _ rfl
    rw [c3, List.getElem?_eq_getElem (show 3 < xs.length by rw [hxl]; decide)] at g3
    have g4 : DataW.trod enc Try.prog W 0 (fun _ => true) true n 22 (([z0, z1, z2, z3, z4].drop 4).take (Try.prog.cellsOf 22)) = xs[4]? := hg 4 _ rfl
    rw [c22, List.getElem?_eq_getElem (show 4 < xs.length by rw [hxl]; decide)] at g4
    obtain ⟨a0, e0, -, w0⟩ := DataW.trod_int (cs := [z0]) Try.underlying3 g0
    simp only [List.cons.injEq, and_true] at e0
    subst e0
    clear g0
    obtain ⟨a1, e1, -, w1⟩ := DataW.trod_int (cs := [z1]) Try.underlying3 g1
    simp only [List.cons.injEq, and_true] at e1
    subst e1
    clear g1
    obtain ⟨a2, e2, -, w2⟩ := DataW.trod_int (cs := [z2]) Try.underlying3 g2
    simp only [List.cons.injEq, and_true] at e2
    subst e2
    clear g2
    obtain ⟨a3, e3, -, w3⟩ := DataW.trod_int (cs := [z3]) Try.underlying3 g3
    simp only [List.cons.injEq, and_true] at e3
    subst e3
    clear g3
    obtain ⟨a4, e4, -, w4⟩ := DataW.trod_int (cs := [z4]) Try.underlying22 g4
    simp only [List.cons.injEq, and_true] at e4
    subst e4
    clear g4
    exact ⟨a0, a1, a2, a3, a4, rfl, w0, w1, w2, w3, w4⟩

open Fx
theorem of_in {a b p n x y : Int} (h : rt a b p n = true) (x0 : 0 ≤ x) (x1 : x < a * 1024) (y0 : 0 ≤ y) (y1 : y < b * 1024) :
    ofr a b p n x y = y / 1024 * a + x / 1024 := by
  unfold ofr clamp
  rw [if_pos h, if_neg (by omega), if_neg (by omega), if_neg (by omega), if_neg (by omega)]
theorem tm (a : Int) : -1024 < a.tmod 1024 ∧ a.tmod 1024 < 1024 := by
  have h1 := Int.tmod_lt_of_pos a (show (0 : Int) < 1024 by decide)
  have h2 := Int.tmod_lt_of_pos (-a) (show (0 : Int) < 1024 by decide)
  rw [Int.neg_tmod] at h2
  omega
theorem clamp_near (x d hi : Int) (h0 : 0 ≤ x) (h1 : x ≤ hi) (d0 : -1024 < d) (d1 : d < 1024) : -1 ≤ clamp (x + d) 0 hi / 1024 - x / 1024 ∧ clamp (x + d) 0 hi / 1024 - x / 1024 ≤ 1 := by
  unfold clamp
  split
  · omega
  · split <;> omega

theorem walk (a0_0 : Int) (a0_1 : Int) (a0_2 : Int) (a0_3 : Int) (a0_4 : Int) (a1 : Int) (a2 : Int) (a3 : Int) (a4 : Int) (w : World) (w0_0 : (Lit.int .i64 a0_0).wf = true) (w0_1 : (Lit.int .i64 a0_1).wf = true) (w0_2 : (Lit.int .i64 a0_2).wf = true) (w0_3 : (Lit.int .i64 a0_3).wf = true) (w0_4 : (Lit.int .u64 a0_4).wf = true) (w1 : (Lit.int .i64 a1).wf = true) (w2 : (Lit.int .i64 a2).wf = true) (w3 : (Lit.int .i64 a3).wf = true) (w4 : (Lit.int .i64 a4).wf = true) :
    Calls Try.prog 5 #[.agg #[.int .i64 a0_0, .int .i64 a0_1, .int .i64 a0_2, .int .i64 a0_3, .int .u64 a0_4], .int .i64 a1, .int .i64 a2, .int .i64 a3, .int .i64 a4] w fun e w' => e = .returned (.bool true) ∧ Below w.heap.size w w' := by
  have b1 := bounds_i64 w1
  have b2 := bounds_i64 w2
  have b3 := tm a3
  have b4 := tm a4
  clear w0_0 w0_1 w0_2 w0_3 w0_4 w1 w2 w3 w4
  go_enter Try.func5, Try.ntmps5
  go_wp2_with fail
  refine (config_any _ _ _ _ _ _).mono ?_
  rintro e w1 ⟨a, b, p, n, rfl, hsm, hb1⟩
  obtain ⟨hrt, ha3, hb3, hp4⟩ := hsm
  obtain ⟨hc1, hf1⟩ := bcell hb1
  have hz1 : w.heap.size < w1.heap.size := by have := hb1.size; simp at this; omega
  have Hb1 := Lib.hid hb1
  have HN := Lib.hid (fun w => new_yes a b p n a0_4 w hrt)
  have Hrt := Lib.hid hrt
  clear hb1 hrt
  go_wp2_with fail
  refine (HN.out _).mono ?_
  rintro e w2 ⟨rfl, hb2⟩
  have Hb2 := Lib.hid (show Below w.heap.size w w2 from ((((((unbox Hb1.out).setCell (Nat.le_refl _) _).setCell (Nat.le_refl _) _).setCell (Nat.le_refl _) _).setCell (Nat.le_refl _) _).setCell (Nat.le_refl _) _).trans (hb2.mono (by simp [World.setCell]; omega)))
  clear hb2 hc1 hf1 hz1 Hb1 HN
  have hz2 : w.heap.size ≤ w2.heap.size := Hb2.out.size
  go_wp2_with fail
  refine (awake_any _).mono ?_
  rintro e w3 ⟨rfl, hbw3⟩
  obtain ⟨hcw3, hfw3⟩ := bcell hbw3
  have Hbw3 := Lib.hid hbw3
  clear hbw3
  have Hb3 := Lib.hid (show Below w.heap.size w w3 from Hb2.out.trans ((unbox Hbw3.out).mono hz2))
  have hzw3 : w2.heap.size < w3.heap.size := by have := Hbw3.out.size; (try simp at this); omega
  obtain ⟨r1, r2, r3, r4, r5, r6, r7, r8⟩ := rt_bd Hrt.out
  have HW := Lib.hid (fun w => width_any a b p n a0_4 w)
  have HH := Lib.hid (fun w => height_any a b p n a0_4 w)
  have hwi : wid a b p n = a * 1024 := by unfold wid; rw [if_pos Hrt.out]
  have hhe : hei a b p n = b * 1024 := by unfold hei; rw [if_pos Hrt.out]
  rw [hwi] at HW
  rw [hhe] at HH
  have HWi := Lib.hid hwi
  have HHe := Lib.hid hhe
  clear hwi hhe
  go_wp2_with fail
  have c0 : w3.cell? ⟨w2.heap.size, 0, none⟩ = some (.int .i64 a) := by rw [hcw3 _ _ (by simp)]; simp
  have c1 : w3.cell? ⟨w2.heap.size, 1, none⟩ = some (.int .i64 b) := by rw [hcw3 _ _ (by simp)]; simp
  have c2 : w3.cell? ⟨w2.heap.size, 2, none⟩ = some (.int .i64 p) := by rw [hcw3 _ _ (by simp)]; simp
  have c3 : w3.cell? ⟨w2.heap.size, 3, none⟩ = some (.int .i64 n) := by rw [hcw3 _ _ (by simp)]; simp
  have c4 : w3.cell? ⟨w2.heap.size, 4, none⟩ = some (.int .u64 a0_4) := by rw [hcw3 _ _ (by simp)]; simp
  clear hcw3 hfw3
  have e1 : IntKind.u64.wrap (a * 1024) = a * 1024 := by rw [IntKind.wrap_u64]; omega
  have e2 : (a * 1024 == 0) = false := beq_eq_false_iff_ne.2 (by omega)
  have e3 : ¬ a * 1024 = 0 := by omega
  have f1 : IntKind.u64.wrap (b * 1024) = b * 1024 := by rw [IntKind.wrap_u64]; omega
  have f2 : (b * 1024 == 0) = false := beq_eq_false_iff_ne.2 (by omega)
  have f3 : ¬ b * 1024 = 0 := by omega
  go_region_held3 (fun w' => w'.cell? ⟨w2.heap.size, 0, none⟩ = some (.int .i64 a) ∧ w'.cell? ⟨w2.heap.size, 1, none⟩ = some (.int .i64 b) ∧ w'.cell? ⟨w2.heap.size, 2, none⟩ = some (.int .i64 p) ∧ w'.cell? ⟨w2.heap.size, 3, none⟩ = some (.int .i64 n) ∧ w'.cell? ⟨w2.heap.size, 4, none⟩ = some (.int .u64 a0_4) ∧ Below w3.heap.size w3 w' ∧ w3.heap.size ≤ w'.heap.size)
    (first | exact keep5 (by assumption) (by assumption) | exact ⟨c0, c1, c2, c3, c4, (Below.refl _ _).drew, Nat.le_refl _⟩)
    (first | (go_at_call 14; refine (HW.out _).mono ?_; rintro e w4 ⟨rfl, hb4⟩) | (go_at_call 15; refine (HH.out _).mono ?_; rintro e w4 ⟨rfl, hb4⟩))
  rename_i hS
  obtain ⟨d0, d1, d2, d3, d4, hB4, hz4⟩ := hS
  have Hb4 := Lib.hid (show Below w.heap.size w w4 from Hb3.out.trans (hB4.mono Hb3.out.size))
  obtain ⟨x1, x2, x3⟩ := umodR a1 (a * 1024) (by omega) (by omega)
  obtain ⟨y1, y2, y3⟩ := umodR a2 (b * 1024) (by omega) (by omega)
  generalize IntKind.i64.wrap ((IntKind.u64.wrap a1).tmod (a * 1024)) = x at *
  generalize IntKind.i64.wrap ((IntKind.u64.wrap a2).tmod (b * 1024)) = y at *
  clear hB4 hb4 c0 c1 c2 c3 c4 e1 e2 e3 f1 f2 f3 x1 y1
  have HO := Lib.hid (of_has Hrt.out x y)
  have HO2 := Lib.hid (of_has Hrt.out (x + a3.tmod 1024) (y + a4.tmod 1024))
  have hk := HO.out
  have hxc : clamp x 0 (a * 1024 - 1) = x := by unfold clamp; omega
  have hyc : clamp y 0 (b * 1024 - 1) = y := by unfold clamp; omega
  rw [hxc, hyc] at hk
  have hn1 := clamp_near x (a3.tmod 1024) (a * 1024 - 1) x2 (by omega) b3.1 b3.2
  have hn2 := clamp_near y (a4.tmod 1024) (b * 1024 - 1) y2 (by omega) b4.1 b4.2
  have hmem : inB (nr a b p n (ofr a b p n x y)) (ofr a b p n (x + a3.tmod 1024) (y + a4.tmod 1024)) = true := by
    have hh : hasB a b p n (ofr a b p n x y) = true := by
      unfold hasB regs
      rw [if_pos Hrt.out]
      exact decide_eq_true ⟨hk.1, hk.2.1⟩
    unfold inB
    rw [decide_eq_true_iff, mem_nr hh]
    refine ⟨HO2.out.1, HO2.out.2.1, ?_⟩
    unfold nearB
    rw [HO2.out.2.2.1, HO2.out.2.2.2, hk.2.2.1, hk.2.2.2]
    exact decide_eq_true (by omega)
  have hcx : crx a b p n (ofr a b p n x y) = x / 1024 * 1024 := by
    unfold crx hasB regs
    rw [if_pos Hrt.out, if_pos (decide_eq_true ⟨hk.1, hk.2.1⟩), hk.2.2.1]
  have hcy : cry a b p n (ofr a b p n x y) = y / 1024 * 1024 := by
    unfold cry hasB regs
    rw [if_pos Hrt.out, if_pos (decide_eq_true ⟨hk.1, hk.2.1⟩), hk.2.2.2]
  have hin : ins a b p n x y = true := by
    unfold ins
    rw [HWi.out, HHe.out]
    exact decide_eq_true ⟨x2, x3, y2, y3⟩
  have Hof := Lib.hid (fun w => of_any a b p n a0_4 x y w)
  have Hof2 := Lib.hid (fun w => of_any a b p n a0_4 (x + a3.tmod 1024) (y + a4.tmod 1024) w)
  have Hcor := Lib.hid (fun w => corner_any a b p n a0_4 (ofr a b p n x y) w)
  rw [hcx, hcy] at Hcor
  have Hin := Lib.hid (fun w => inside_any a b p n a0_4 x y w)
  rw [hin] at Hin
  have Hnr := Lib.hid (fun w => near_any a b p n a0_4 (ofr a b p n x y) w)
  have Hmem := Lib.hid hmem
  have hl : (nr a b p n (ofr a b p n x y)).length ≤ 100 := by
    unfold nr
    split
    · have := nrTo_len a (ofr a b p n x y) (a * b).toNat
      have := mul_le4 r1 r2 r3 r4
      omega
    · simp
  clear hmem hcx hcy hin hn1 hn2 hxc hyc hk HO HO2
  generalize nr a b p n (ofr a b p n x y) = l at *
  generalize ofr a b p n x y = r at *
  generalize ofr a b p n (x + a3.tmod 1024) (y + a4.tmod 1024) = r' at *
  have hz4' : w2.heap.size < w4.heap.size := by omega
  go_wp2_with fail
  refine (Hof.out _).mono ?_
  rintro e w5 ⟨rfl, hbw5⟩
  obtain ⟨hcw5, hfw5⟩ := bcell hbw5
  have Hbw5 := Lib.hid hbw5
  clear hbw5
  have hz5 : w2.heap.size < w5.heap.size := by have := Hbw5.out.size; omega
  go_wp2_with fail
  refine (Hcor.out _).mono ?_
  rintro e w6 ⟨rfl, hbw6⟩
  obtain ⟨hcw6, hfw6⟩ := bcell hbw6
  have Hbw6 := Lib.hid hbw6
  clear hbw6
  have hz6 : w2.heap.size < w6.heap.size := by have := Hbw6.out.size; omega
  go_wp2_with fail
  refine (Hof2.out _).mono ?_
  rintro e w7 ⟨rfl, hbw7⟩
  obtain ⟨hcw7, hfw7⟩ := bcell hbw7
  have Hbw7 := Lib.hid hbw7
  clear hbw7
  have hz7 : w2.heap.size < w7.heap.size := by have := Hbw7.out.size; omega
  go_wp2_with fail
  refine (Hin.out _).mono ?_
  rintro e w8 ⟨rfl, hbw8⟩
  obtain ⟨hcw8, hfw8⟩ := bcell hbw8
  have Hbw8 := Lib.hid hbw8
  clear hbw8
  have hz8 : w2.heap.size < w8.heap.size := by have := Hbw8.out.size; omega
  go_wp2_with fail
  refine (Hnr.out _).mono ?_
  rintro e w9 ⟨A9, c9, rfl, hat9, hb9⟩
  have Hat9 := Lib.hid hat9
  have Hb9 := Lib.hid hb9
  clear hat9 hb9
  go_wp2_with fail
  refine (in_any A9 _ c9 l r' _ Hat9.out (by omega)).mono ?_
  rintro e w' ⟨rfl, rfl⟩
  rw [Hmem.out]
  go_wp2
  go_ret
  refine ⟨rfl, ?_⟩
  have g5 := Hb4.out.trans (Hbw5.out.mono Hb4.out.size)
  have g6 := g5.trans (Hbw6.out.mono g5.size)
  have g7 := g6.trans (Hbw7.out.mono g6.size)
  have g8 := g7.trans (Hbw8.out.mono g7.size)
  exact g8.trans (Hb9.out.mono g8.size)

set_option maxRecDepth 100000 in
theorem lifted (os : Os) (started : os.Started) (H : Type) (enc : TypeId × Value → H) :
    ReturnsInHanded {} Try.checked os 5 .any (Rows.gridPlacesSpec.pre6 enc Try.prog Try.f5 Rows.gridPlacesRow.domain false) (Rows.gridPlacesSpec.post enc Try.prog Try.f5 false true false false) := by
  refine returnsInHanded_of_change (C := Try.checked) own started (by kernel_rfl) Try.func5
    (ChangeSpec.witness6 (enc := enc) (C := Try.checked) false ⟨#[], #[.agg #[.int .i64 0, .int .i64 0, .int .i64 0, .int .i64 0, .int .u64 0], .int .i64 0, .int .i64 0, .int .i64 0, .int .i64 0], []⟩ 8 (by kernel_rfl) (by kernel_rfl) (by kernel_rfl) (by kernel_rfl)) ?_
  intro W base args ds gs before hval0 hW hcnd _
  have hval : ∀ (j : Nat) t v, Try.f5.params[j]? = some t → args[j]? = some v → Value.okWide Try.prog W .any base t v := hval0
  have hW' := hW
  obtain ⟨p, q, hA0, hV, rfl, hfz, hnd⟩ := hW
  have hA : DataW.TrodAll enc Try.prog W 0 (fun _ => true) true Try.f5.params.toList args.toList ds p := hA0
  rw [Try.params5] at hA hval
  obtain ⟨v0, vs0, d0, ds0, p0, q0, hargs, rfl, rfl, h0, r0⟩ := trodAll_cons hA
  obtain ⟨v1, vs1, d1, ds1, p1, q1, rfl, rfl, rfl, h1, r1⟩ := trodAll_cons r0
  obtain ⟨v2, vs2, d2, ds2, p2, q2, rfl, rfl, rfl, h2, r2⟩ := trodAll_cons r1
  obtain ⟨v3, vs3, d3, ds3, p3, q3, rfl, rfl, rfl, h3, r3⟩ := trodAll_cons r2
  obtain ⟨v4, vs4, d4, ds4, p4, q4, rfl, rfl, rfl, h4, r4⟩ := trodAll_cons r3
  obtain ⟨rfl, rfl, rfl⟩ := trodAll_nil r4
  obtain rfl : args = #[v0, v1, v2, v3, v4] := by cases args; simp_all
  obtain ⟨rfl, rfl⟩ := trodVars_none hV
  obtain ⟨cs0, rfl, -⟩ := okWide_struct Try.underlying24 (hval 0 24 v0 rfl rfl)
  have k0 := h0
  have lt0 : ∀ x ∈ p0, x.block < W.heap.size := by obtain ⟨m, hm⟩ := k0; exact DataW.trod_lt m _ _ _ hm
  obtain ⟨fuel0, hf0⟩ := h0
  obtain ⟨l0⟩ := cs0
  obtain ⟨a0_0, a0_1, a0_2, a0_3, a0_4, rfl, w0_0, w0_1, w0_2, w0_3, w0_4⟩ := open_T24 (cs := l0) hf0
  obtain ⟨a1, rfl, rfl, rfl, w1⟩ := open_int Try.underlying3 (hval 1 3 v1 rfl rfl) h1
  obtain ⟨a2, rfl, rfl, rfl, w2⟩ := open_int Try.underlying3 (hval 2 3 v2 rfl rfl) h2
  obtain ⟨a3, rfl, rfl, rfl, w3⟩ := open_int Try.underlying3 (hval 3 3 v3 rfl rfl) h3
  obtain ⟨a4, rfl, rfl, rfl, w4⟩ := open_int Try.underlying3 (hval 4 3 v4 rfl rfl) h4
  clear hA0 hval0
  refine (walk a0_0 a0_1 a0_2 a0_3 a0_4 a1 a2 a3 a4 W w0_0 w0_1 w0_2 w0_3 w0_4 w1 w2 w3 w4).mono fun e W' ⟨he, bel⟩ => ?_
  subst he
  exact ⟨_, rfl, _, _, _, [], _, [], hW', trodAll_mk1 (shut_bool Try.underlying4 _), (trodAll_cons_mk (Below.trod laidOut (by kernel_rfl) (of_decide_eq_true (by kernel_rfl)) k0 bel lt0) (trodAll_cons_mk (shut_int Try.underlying3 w1) (trodAll_cons_mk (shut_int Try.underlying3 w2) (trodAll_cons_mk (shut_int Try.underlying3 w3) (trodAll_cons_mk (shut_int Try.underlying3 w4) trodAll_mk0))))), rfl, bel.frame _, fun h => by cases h⟩

theorem over : Rows.gridPlacesRow.holds Try.pinned (OpenSpec.ofChange Rows.gridPlacesSpec) :=
  OpenClaim.holds_of_wide 5 Try.f5 rfl rfl rfl rfl rfl rfl rfl ⟨rfl, rfl, rfl, rfl, rfl⟩ rfl rfl rfl rfl rfl (by kernel_rfl) Try.func5 (by kernel_rfl)
    (of_decide_eq_true (by kernel_rfl)) (by unfold Func.isWrapper; first | (rw [if_pos (by decide +kernel)]; kernel_rfl) | (rw [if_neg (by decide +kernel)]; exact ⟨rfl, rfl⟩))
    (fun os started H enc _ => lifted os started H enc)

end Go.Proofs.Ytoghnjbajhnpiaa.gridPlaces
namespace Go.Proofs.Ytoghnjbajhnpiaa
theorem gridPlaces_proved : Rows.GridPlacesSaid := gridPlaces.over
end Go.Proofs.Ytoghnjbajhnpiaa
