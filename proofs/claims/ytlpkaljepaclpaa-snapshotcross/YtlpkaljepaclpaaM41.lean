/- Messages that plain lists make (joustplay.Inbox): each may come in. (As RgBox, without what a step asks for.) -/
import Derived.Test.YtlpkaljepaclpaaM38
import Derived.Test.YtlpkaljepaclpaaM39
import Derived.Test.YtlpkaljepaclpaaM36
import Derived.Test.YtlpkaljepaclpaaM37
import Derived.Test.YtlpkaljepaclpaaM40
import Derived.Test.YtlpkaljepaclpaaM16
namespace Go.Proofs.Ytlpkaljepaclpaa.Fx
open Go.ChangeShapes Go.WideShapes Go.ChangeAt Go.RowKit
set_option linter.unusedVariables false
set_option maxRecDepth 100000

def inOkS (a b p n r f : Int) (c : Crs) : Bool := crightB a b p n c && decide (c.dst = r) && decide (c.frame = f - 1)

theorem w64S (v : Int) : IntKind.i64.wrap v = wrap64 v := by rw [IntKind.wrap_i64, wrap64]

theorem grown_setS (w : World) (p o : Nat) (v : Value) : w.grownBy (w.setCell ⟨p, o, none⟩ v) (some p) :=
  ⟨rfl, rfl, rfl, by simp, fun k hk hne => Below.heap_setCell _ _ _ _ (by intro e; apply hne; rw [e])⟩

theorem near_selfS {a b p n r : Int} (h : hasB a b p n r = true) : r ∈ nr a b p n r := by
  obtain ⟨-, h0, h1, -⟩ := hasB_rt h
  exact (mem_nr h).2 ⟨h0, h1, by unfold nearB; exact decide_eq_true (by omega)⟩

theorem nr_leS (a b p n r : Int) : (nr a b p n r).length ≤ 16 := by
  unfold nr
  split
  · rename_i h
    obtain ⟨-, -, -, ha, ha4, hb, hb4, -⟩ := hasB_rt h
    have := nrTo_len a r (a * b).toNat
    have := mul_le4 ha ha4 hb hb4
    omega
  · simp

theorem own_farS {w : World} {base size n g : Nat} {e : TypeId} {v : Value} {xs : List Value} (h : w.ownsRow base e size v n xs) (hg : ∀ q, v.ownBlock = some q → q < g) (o : Nat) (x : Value) : (w.setCell ⟨g, o, none⟩ x).ownsRow base e size v n xs :=
  h.kept (grown_setS w g o x) (.inr fun hh => by have := hg g hh; omega)

set_option maxHeartbeats 16000000 in
theorem pinboxS_any (a b p n s r f : Int) (hh : hasB a b p n r = true) (hf : 0 ≤ f ∧ f ≤ 10000) (v : Value) (l : List Crs) (w : World) (hv : IsSl crsC w v l) :
    Calls Try.prog 8 #[.agg #[.int .i64 a, .int .i64 b, .int .i64 p, .int .i64 n, .int .u64 s], .int .i64 r, .int .i64 f, v] w fun z w' =>
      (∃ (vl : Value) (ib : List Crs), z = .returned vl ∧ w'.ownsRow w.heap.size 45 15 vl ib.length (ib.flatMap crsC) ∧ ib.length ≤ 12 ∧ (∀ c ∈ ib, inOkS a b p n r f c = true)) ∧ Below w.heap.size w w' := by
  have HN := Lib.hid (fun w => rnear_any a b p n s r w)
  have HC := Lib.hid (fun w => rcorner_any a b p n s r w)
  have HX := Lib.hid (fun c w => rcross_any a b p n s c w)
  obtain ⟨hrt, h0, h1, ha, ha4, hb, hb4, -⟩ := hasB_rt hh
  have HM0 := Lib.hid (show 0 < (nr a b p n r).length from List.length_pos_of_mem (near_selfS hh))
  have HM1 := Lib.hid (nr_leS a b p n r)
  have HV := Lib.hid hv
  obtain ⟨A, c, rfl, -⟩ := hv
  obtain ⟨N, hN⟩ : ∃ N, l.length = N := ⟨_, rfl⟩
  rw [hN] at HV ⊢
  have Hn := Lib.hid hN
  have hwf : wrap64 (f - 1) = f - 1 := IntWalk.wrap64_in _ (by omega)
  clear hN hh hrt h0 h1
  generalize crx a b p n r = cx at *
  generalize cry a b p n r = cy at *
  generalize nr a b p n r = R at *
  go_enter Try.func8, Try.ntmps8
  go_wp2
  go_loopw [9, 10] (fun v i wr => ∃ (k : Nat) (ib : List Crs), k ≤ N ∧ k ≤ 12 ∧ i = .int .i64 k ∧ ib.length ≤ k ∧ (∀ c ∈ ib, inOkS a b p n r f c = true) ∧ wr.ownsRow (w.heap.size + 1) 45 15 v ib.length (ib.flatMap crsC) ∧ CfgBox wr w.heap.size ⟨a, b, p, n, s⟩ ∧ Below w.heap.size w wr) (fun _ i _ => N - (intOf i).toNat)
  case atStart => exact ⟨0, [], Nat.zero_le _, Nat.zero_le _, rfl, Nat.zero_le _, by simp, World.ownsRow_nil _ _ _ _, CfgBox.n1 _ ⟨a, b, p, n, s⟩ _ rfl, (Below.refl _ _).alloc (Nat.le_refl _) _⟩
  case round =>
    obtain ⟨k, ib, hk, hk12, rfl, hlen, hall, hown, hbg, hbel⟩ := hrel
    have hrow := fun q hq => (hown.lt q hq).2
    have Hrow := Lib.hid hrow
    have Hall := Lib.hid hall
    have Hown := Lib.hid hown
    have Hlen := Lib.hid hlen
    have Hbel := Lib.hid hbel
    have BG := Lib.hid hbg
    clear hall hown hlen hbg hbel hrow
    by_cases hlt : k < N
    · have hd1 : decide ((k : Int) < (N : Int)) = true := decide_eq_true (by omega)
      by_cases hlt2 : k < 12
      · have hd2 : decide ((k : Int) < 12) = true := decide_eq_true (by omega)
        obtain ⟨x, hx⟩ := getE l k N Hn.out hlt
        obtain ⟨bb, off, rfl, hc⟩ := elem_Crs (HV.out.below Hbel.out).at hx
        obtain ⟨c0, c1, c2, c3, c4, c5, c6, c7, c8, c9, c10, c11, c12, c13, c14⟩ := hc
        obtain ⟨M, hM⟩ : ∃ M, R.length = M := ⟨_, rfl⟩
        have hM0 : 0 < M := hM ▸ HM0.out
        have hM1 : M ≤ 16 := hM ▸ HM1.out
        obtain ⟨j, hjM, hj⟩ := uplace x.src M hM0 (by omega)
        rw [w64S] at hj
        have hu : IntKind.u64.wrap (M : Int) = M := by rw [IntKind.wrap_u64]; omega
        have hMn : ¬ (M : Int) = 0 := by omega
        have HM := Lib.hid hM
        clear hx hM
        go_upto_region 6 with fail
        generalize hW : World.alloc _ _ = W2 at *
        have BX := Lib.hid (show CrsBox W2 wr.heap.size x from by rw [← hW]; exact CrsBox.n1 _ x _ rfl)
        have hgx : w.heap.size < wr.heap.size := BG.out.has
        replace Hown := Lib.hid (show W2.ownsRow _ _ _ _ _ _ from by rw [← hW]; exact Hown.out.alloc _)
        replace BG := Lib.hid (show CfgBox W2 w.heap.size ⟨a, b, p, n, s⟩ from by rw [← hW]; exact BG.out.alloc BG.out.has _)
        replace Hbel := Lib.hid (show Below w.heap.size w W2 from by rw [← hW]; exact Hbel.out.alloc Hbel.out.size _)
        generalize wr.heap.size = gx at *
        clear hW c0 c1 c2 c3 c4 c5 c6 c7 c8 c9 c10 c11 c12 c13 c14
        have hgg := BG.out.has
        have hxx := BX.out.has
        obtain ⟨g0, g1, g2, g3, g4, -⟩ := BG.out
        go_wp2_with fail
        refine (HN.out _).mono ?_
        rintro e w4 ⟨A4, d4, rfl, hI4, hb4⟩
        rw [HM.out] at hI4 ⊢
        obtain ⟨-, hat4⟩ := hI4
        obtain ⟨b4, off4, rfl, hc4⟩ := hat4 hM0
        have hcj := hc4 j hjM
        replace Hbel := Lib.hid (nextW Hbel.out hb4)
        replace BG := Lib.hid (BG.out.nx hb4)
        replace BX := Lib.hid (BX.out.nx hb4)
        replace Hown := Lib.hid (own_below Hown.out hb4)
        clear hb4 g0 g1 g2 g3 g4 hgg hxx hat4 hc4
        have hxx := BX.out.has
        obtain ⟨x0, x1, x2, x3, x4, x5, x6, x7, x8, x9, x10, x11, x12, x13, x14, f0, f1, f2, f3, f4, f5, f6, f7, f8, f9, f10, f11, f12, f13, f14⟩ := BX.out
        generalize gi R j = fr at *
        go_upto_region 8 with fail
        generalize hV : World.setCell _ _ _ = V1 at *
        replace BX := Lib.hid (show CrsBox V1 gx ⟨x.kind, fr, r, f - 1, x.e, x.x, x.y⟩ from by rw [← hV]; exact ((BX.out.set1 fr).set2 r).set3 (f - 1))
        replace BG := Lib.hid (show CfgBox V1 w.heap.size ⟨a, b, p, n, s⟩ from by rw [← hV]; exact ((BG.out.far (show gx ≠ w.heap.size by omega) _ _).far (show gx ≠ w.heap.size by omega) _ _).far (show gx ≠ w.heap.size by omega) _ _)
        replace Hown := Lib.hid (show V1.ownsRow _ _ _ _ _ _ from by rw [← hV]; exact own_farS (own_farS (own_farS Hown.out Hrow.out 1 _) Hrow.out 2 _) Hrow.out 3 _)
        replace Hbel := Lib.hid (show Below w.heap.size w V1 from by rw [← hV]; exact ((Hbel.out.setCell (show w.heap.size ≤ gx by omega) _).setCell (show w.heap.size ≤ gx by omega) _).setCell (show w.heap.size ≤ gx by omega) _)
        clear hV x0 x1 x2 x3 x4 x5 x6 x7 x8 x9 x10 x11 x12 x13 x14 f0 f1 f2 f3 f4 f5 f6 f7 f8 f9 f10 f11 f12 f13 f14 hxx hcj
        have hxx := BX.out.has
        obtain ⟨x0, x1, x2, x3, x4, x5, x6, x7, x8, x9, x10, x11, x12, x13, x14, f0, f1, f2, f3, f4, f5, f6, f7, f8, f9, f10, f11, f12, f13, f14⟩ := BX.out
        by_cases hk1 : x.kind = 1
        · have hk' : (x.kind != 1) = false := by simpa using hk1
          have hgg := BG.out.has
          obtain ⟨g0, g1, g2, g3, g4, -⟩ := BG.out
          go_wp2_with fail
          refine (HC.out _).mono ?_
          rintro e w6 ⟨rfl, hb6⟩
          replace Hbel := Lib.hid (nextW Hbel.out hb6)
          replace BG := Lib.hid (BG.out.nx hb6)
          replace BX := Lib.hid (BX.out.nx hb6)
          replace Hown := Lib.hid (own_below Hown.out hb6)
          clear hb6 g0 g1 g2 g3 g4 hgg f0 f1 f2 f3 f4 f5 f6 f7 f8 f9 f10 f11 f12 f13 f14 x0 x1 x2 x3 x4 x5 x6 x7 x8 x9 x10 x11 x12 x13 x14 hxx
          have hxx := BX.out.has
          obtain ⟨x0, x1, x2, x3, x4, x5, x6, x7, x8, x9, x10, x11, x12, x13, x14, f0, f1, f2, f3, f4, f5, f6, f7, f8, f9, f10, f11, f12, f13, f14⟩ := BX.out
          go_upto_region 14 with fail
          generalize hV : World.setCell _ _ _ = V9 at *
          replace BG := Lib.hid (show CfgBox V9 w.heap.size ⟨a, b, p, n, s⟩ from by rw [← hV]; exact ((((BG.out).far (show gx ≠ w.heap.size by omega) _ _).far (show gx ≠ w.heap.size by omega) _ _).far (show gx ≠ w.heap.size by omega) _ _).far (show gx ≠ w.heap.size by omega) _ _)
          replace Hown := Lib.hid (show V9.ownsRow _ _ _ _ _ _ from by rw [← hV]; exact own_farS (own_farS (own_farS (own_farS (Hown.out) Hrow.out 13 _) Hrow.out 14 _) Hrow.out 6 _) Hrow.out 7 _)
          replace Hbel := Lib.hid (show Below w.heap.size w V9 from by rw [← hV]; exact ((((Hbel.out).setCell (show w.heap.size ≤ gx by omega) _).setCell (show w.heap.size ≤ gx by omega) _).setCell (show w.heap.size ≤ gx by omega) _).setCell (show w.heap.size ≤ gx by omega) _)
          obtain ⟨m, hbm, hmd⟩ : ∃ m : Crs, CrsBox V9 gx m ∧ (m.dst = r ∧ m.frame = f - 1) := by rw [← hV]; exact ⟨_, ((((BX.out).set13 _).set14 _).set6 _).set7 _, rfl, rfl⟩
          replace BX := Lib.hid hbm
          have Hmd := Lib.hid hmd
          clear hbm hmd hV f0 f1 f2 f3 f4 f5 f6 f7 f8 f9 f10 f11 f12 f13 f14 x0 x1 x2 x3 x4 x5 x6 x7 x8 x9 x10 x11 x12 x13 x14 hxx
          have HXm := Lib.hid (fun w => HX.out m w)
          have hgg := BG.out.has
          have hxx := BX.out.has
          obtain ⟨g0, g1, g2, g3, g4, -⟩ := BG.out
          obtain ⟨x0, x1, x2, x3, x4, x5, x6, x7, x8, x9, x10, x11, x12, x13, x14, -⟩ := BX.out
          obtain ⟨q, hq⟩ : ∃ q, crightB a b p n m = q := ⟨_, rfl⟩
          rw [hq] at HXm
          have Hq := Lib.hid hq
          clear hq
          go_wp2_with fail
          refine (HXm.out _).mono ?_
          rintro e w8 ⟨rfl, hb8⟩
          replace Hbel := Lib.hid (nextW Hbel.out hb8)
          replace BG := Lib.hid (BG.out.nx hb8)
          replace BX := Lib.hid (BX.out.nx hb8)
          replace Hown := Lib.hid (own_below Hown.out hb8)
          clear hb8 g0 g1 g2 g3 g4 x0 x1 x2 x3 x4 x5 x6 x7 x8 x9 x10 x11 x12 x13 x14 hgg hxx HXm
          cases q with
          | false =>
            go_wp2
            go_roundw
            case rel => exact ⟨k + 1, ib, by omega, by omega, by go_num, by have := Hlen.out; omega, Hall.out, Hown.out, BG.out, Hbel.out⟩
            case measure => simp [intOf]; omega
          | true =>
            have Hall2 := Lib.hid (show ∀ c ∈ ib ++ [m], inOkS a b p n r f c = true from fun c hc => by
              rcases List.mem_append.1 hc with h | h
              · exact Hall.out c h
              · rw [List.mem_singleton.1 h]; unfold inOkS; rw [Hq.out, Hmd.out.1, Hmd.out.2]; simp)
            have HS1 := Lib.hid (show w.heap.size + 1 ≤ w8.heap.size from BG.out.has)
            obtain ⟨x0, x1, x2, x3, x4, x5, x6, x7, x8, x9, x10, x11, x12, x13, x14, -⟩ := BX.out
            go_wp2_with (at_builtin; go_must (refine appL_Crs (by rfl) (.tmp 106) (.tmp 108) (by rfl) (w.heap.size + 1) _ ib (by rfl) (Hown.out.alloc _) _ [m] (by rfl) (one_Crs _ m _ 1 (by first | rfl | simp) (by omega)) (by have := Hlen.out; simp; omega) (by have := HS1.out; simp; omega) ?_))
            intro v9 w9 hown9 hb9 _
            have HO9 := Lib.hid hown9
            have HB9 := Lib.hid ((Hbel.out.alloc Hbel.out.size _).trans (hb9.mono (Nat.le_succ _)))
            have HG9 := Lib.hid ((BG.out.alloc BG.out.has _).below hb9 (Nat.lt_succ_self _))
            clear hown9 hb9
            go_wp2
            go_roundw
            case rel => exact ⟨k + 1, ib ++ [m], by omega, by omega, by go_num, by have := Hlen.out; simp; omega, Hall2.out, by simpa using HO9.out, HG9.out, HB9.out⟩
            case measure => simp [intOf]; omega
        · have hk' : (x.kind != 1) = true := by simpa using hk1
          go_upto_region 10 with fail
          generalize hV : World.setCell _ _ _ = V5 at *
          replace BG := Lib.hid (show CfgBox V5 w.heap.size ⟨a, b, p, n, s⟩ from by rw [← hV]; exact ((((((((((BG.out).far (show gx ≠ w.heap.size by omega) _ _).far (show gx ≠ w.heap.size by omega) _ _).far (show gx ≠ w.heap.size by omega) _ _).far (show gx ≠ w.heap.size by omega) _ _).far (show gx ≠ w.heap.size by omega) _ _).far (show gx ≠ w.heap.size by omega) _ _).far (show gx ≠ w.heap.size by omega) _ _).far (show gx ≠ w.heap.size by omega) _ _).far (show gx ≠ w.heap.size by omega) _ _).far (show gx ≠ w.heap.size by omega) _ _)
          replace Hown := Lib.hid (show V5.ownsRow _ _ _ _ _ _ from by rw [← hV]; exact own_farS (own_farS (own_farS (own_farS (own_farS (own_farS (own_farS (own_farS (own_farS (own_farS (Hown.out) Hrow.out 0 _) Hrow.out 4 _) Hrow.out 5 _) Hrow.out 6 _) Hrow.out 7 _) Hrow.out 8 _) Hrow.out 9 _) Hrow.out 10 _) Hrow.out 11 _) Hrow.out 12 _)
          replace Hbel := Lib.hid (show Below w.heap.size w V5 from by rw [← hV]; exact ((((((((((Hbel.out).setCell (show w.heap.size ≤ gx by omega) _).setCell (show w.heap.size ≤ gx by omega) _).setCell (show w.heap.size ≤ gx by omega) _).setCell (show w.heap.size ≤ gx by omega) _).setCell (show w.heap.size ≤ gx by omega) _).setCell (show w.heap.size ≤ gx by omega) _).setCell (show w.heap.size ≤ gx by omega) _).setCell (show w.heap.size ≤ gx by omega) _).setCell (show w.heap.size ≤ gx by omega) _).setCell (show w.heap.size ≤ gx by omega) _)
          obtain ⟨m, hbm, hmd⟩ : ∃ m : Crs, CrsBox V5 gx m ∧ (m.dst = r ∧ m.frame = f - 1) := by rw [← hV]; exact ⟨_, ((((((((((BX.out).set0 _).set4 _).set5 _).set6 _).set7 _).set8 _).set9 _).set10 _).set11 _).set12 _, rfl, rfl⟩
          replace BX := Lib.hid hbm
          have Hmd := Lib.hid hmd
          clear hbm hmd hV f0 f1 f2 f3 f4 f5 f6 f7 f8 f9 f10 f11 f12 f13 f14 x0 x1 x2 x3 x4 x5 x6 x7 x8 x9 x10 x11 x12 x13 x14 hxx
          have hxx := BX.out.has
          obtain ⟨x0, x1, x2, x3, x4, x5, x6, x7, x8, x9, x10, x11, x12, x13, x14, f0, f1, f2, f3, f4, f5, f6, f7, f8, f9, f10, f11, f12, f13, f14⟩ := BX.out
          have hgg := BG.out.has
          obtain ⟨g0, g1, g2, g3, g4, -⟩ := BG.out
          have hua : IntKind.u64.wrap (IntKind.i64.wrap (a * 1024)) = a * 1024 := by rw [IntKind.wrap_i64, IntKind.wrap_u64]; omega
          have hub : IntKind.u64.wrap (IntKind.i64.wrap (b * 1024)) = b * 1024 := by rw [IntKind.wrap_i64, IntKind.wrap_u64]; omega
          have hna : ¬ a * 1024 = 0 := by omega
          have hnb : ¬ b * 1024 = 0 := by omega
          refine turn_region (S1 := fun w' => w'.cell? ⟨gx, 13, none⟩ = V5.cell? ⟨gx, 13, none⟩ ∧ w'.cell? ⟨gx, 14, none⟩ = V5.cell? ⟨gx, 14, none⟩ ∧ w'.cell? ⟨w.heap.size, 0, none⟩ = some (.int .i64 a) ∧ w'.cell? ⟨w.heap.size, 1, none⟩ = some (.int .i64 b)) (S2 := fun w' => w'.cell? ⟨w.heap.size, 1, none⟩ = some (.int .i64 b)) 19 20 (.free 0 (.free 1 (.free 2 (.free 3 (.free 4 (.free 5 (.free 6 (.free 7 (.free 8 (.free 9 (.free 10 (.freeB 11 (.freeB 12 (.freeB 13 (.freeB 14 (.freeB 15 (.freeB 16 (.freeB 17 (.free 18 (.turn 19 .tail)))))))))))))))))))) (by kernel_rfl) (by kernel_rfl) (fun _ _ d _ _ h => by cases d <;> exact h) (⟨rfl, rfl, g0, g1⟩) (g1) ?_
          skip
          skip
          simp only [writtenU, List.drop_succ_cons, List.drop_zero, List.getElem?_cons_succ, List.getElem?_cons_zero]
          iterate 11
           refine ru_free (v := ?_) (by rfl) ?_ ?_; rotate_left 1; focus (intro w hSw; (try dsimp only at hSw); go_simp; (try with_reducible rfl))
           (try simp only [Act.put, tA, tB, tC])
          iterate 7
           refine ru_freeB (v := ?_) (by rfl) ?_ ?_; rotate_left 1; focus (intro w hSw; (try dsimp only at hSw); go_simp; (try with_reducible rfl))
           (try simp only [Act.put, tA, tB, tC])
          refine ru_free (v := ?_) (by rfl) ?_ ?_; rotate_left 1; focus (intro w hSw; (try dsimp only at hSw); go_simp; (try with_reducible rfl))
          (try simp only [Act.put, tA, tB, tC])
          refine ru_turn (by rfl) (fun K hK => ?_)
          go_simp
          (try go_wp2_with fail)
          refine hK.out _ _ ?_ ?_
          · (try dsimp only); simp [go_sem, g1]
          clear hK K
          (try simp only [Act.put, tA, tB, tC])
          refine ru_done ?_
          go_upto_region 14 with fail
          generalize hV : World.drew _ = V9
          replace BG := Lib.hid (show CfgBox V9 w.heap.size ⟨a, b, p, n, s⟩ from by rw [← hV]; exact (((BG.out).far (show gx ≠ w.heap.size by omega) _ _).far (show gx ≠ w.heap.size by omega) _ _).drew)
          replace Hown := Lib.hid (show V9.ownsRow _ _ _ _ _ _ from by rw [← hV]; exact own_farS (own_farS (Hown.out) Hrow.out 13 _) Hrow.out 14 _)
          replace Hbel := Lib.hid (show Below w.heap.size w V9 from by rw [← hV]; exact (((Hbel.out).setCell (show w.heap.size ≤ gx by omega) _).setCell (show w.heap.size ≤ gx by omega) _).drew)
          obtain ⟨m', hbm, hmd⟩ : ∃ m' : Crs, CrsBox V9 gx m' ∧ (m'.dst = r ∧ m'.frame = f - 1) := by rw [← hV]; exact ⟨_, (((BX.out).set13 _).set14 _).drew, Hmd.out.1, Hmd.out.2⟩
          replace BX := Lib.hid hbm
          replace Hmd := Lib.hid hmd
          clear hbm hmd hV f0 f1 f2 f3 f4 f5 f6 f7 f8 f9 f10 f11 f12 f13 f14 x0 x1 x2 x3 x4 x5 x6 x7 x8 x9 x10 x11 x12 x13 x14 hxx g0 g1 g2 g3 g4 hgg hua hub hna hnb
          have HXm := Lib.hid (fun w => HX.out m' w)
          have hgg := BG.out.has
          have hxx := BX.out.has
          obtain ⟨g0, g1, g2, g3, g4, -⟩ := BG.out
          obtain ⟨x0, x1, x2, x3, x4, x5, x6, x7, x8, x9, x10, x11, x12, x13, x14, -⟩ := BX.out
          obtain ⟨q, hq⟩ : ∃ q, crightB a b p n m' = q := ⟨_, rfl⟩
          rw [hq] at HXm
          have Hq := Lib.hid hq
          clear hq
          go_wp2_with fail
          refine (HXm.out _).mono ?_
          rintro e w8 ⟨rfl, hb8⟩
          replace Hbel := Lib.hid (nextW Hbel.out hb8)
          replace BG := Lib.hid (BG.out.nx hb8)
          replace BX := Lib.hid (BX.out.nx hb8)
          replace Hown := Lib.hid (own_below Hown.out hb8)
          clear hb8 g0 g1 g2 g3 g4 x0 x1 x2 x3 x4 x5 x6 x7 x8 x9 x10 x11 x12 x13 x14 hgg hxx HXm
          cases q with
          | false =>
            go_wp2
            go_roundw
            case rel => exact ⟨k + 1, ib, by omega, by omega, by go_num, by have := Hlen.out; omega, Hall.out, Hown.out, BG.out, Hbel.out⟩
            case measure => simp [intOf]; omega
          | true =>
            have Hall2 := Lib.hid (show ∀ c ∈ ib ++ [m'], inOkS a b p n r f c = true from fun c hc => by
              rcases List.mem_append.1 hc with h | h
              · exact Hall.out c h
              · rw [List.mem_singleton.1 h]; unfold inOkS; rw [Hq.out, Hmd.out.1, Hmd.out.2]; simp)
            have HS1 := Lib.hid (show w.heap.size + 1 ≤ w8.heap.size from BG.out.has)
            obtain ⟨x0, x1, x2, x3, x4, x5, x6, x7, x8, x9, x10, x11, x12, x13, x14, -⟩ := BX.out
            go_wp2_with (at_builtin; go_must (refine appL_Crs (by rfl) (.tmp 106) (.tmp 108) (by rfl) (w.heap.size + 1) _ ib (by rfl) (Hown.out.alloc _) _ [m'] (by rfl) (one_Crs _ m' _ 1 (by first | rfl | simp) (by omega)) (by have := Hlen.out; simp; omega) (by have := HS1.out; simp; omega) ?_))
            intro v9 w9 hown9 hb9 _
            have HO9 := Lib.hid hown9
            have HB9 := Lib.hid ((Hbel.out.alloc Hbel.out.size _).trans (hb9.mono (Nat.le_succ _)))
            have HG9 := Lib.hid ((BG.out.alloc BG.out.has _).below hb9 (Nat.lt_succ_self _))
            clear hown9 hb9
            go_wp2
            go_roundw
            case rel => exact ⟨k + 1, ib ++ [m'], by omega, by omega, by go_num, by have := Hlen.out; simp; omega, Hall2.out, by simpa using HO9.out, HG9.out, HB9.out⟩
            case measure => simp [intOf]; omega
      · have hd2 : decide ((k : Int) < 12) = false := decide_eq_false (by omega)
        go_wp2
        go_ret
        exact ⟨⟨_, ib, rfl, Hown.out.mono (Nat.le_succ _), by have := Hlen.out; omega, Hall.out⟩, Hbel.out⟩
    · have hd1 : decide ((k : Int) < (N : Int)) = false := decide_eq_false (by omega)
      go_wp2
      go_ret
      exact ⟨⟨_, ib, rfl, Hown.out.mono (Nat.le_succ _), by have := Hlen.out; omega, Hall.out⟩, Hbel.out⟩

end Go.Proofs.Ytlpkaljepaclpaa.Fx
