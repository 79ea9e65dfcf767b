/- The document's own Right of a region (joustref09.Right). -/
import Derived.Test.YtlpkaljepaclpaaGreatM18
import Derived.Test.YtlpkaljepaclpaaGreatM09
import Derived.Test.YtlpkaljepaclpaaGreatM08
import Derived.Test.YtlpkaljepaclpaaGreatM32
import Derived.Test.YtlpkaljepaclpaaGreatM20
namespace Go.Proofs.YtlpkaljepaclpaaGreat.Fx
open Go.ChangeShapes Go.WideShapes Go.ChangeAt Go.RowKit
set_option linter.unusedVariables false
set_option maxRecDepth 100000

set_option maxHeartbeats 8000000 in
theorem rrgright_any (a b p n s r f : Int) (v : Value) (l : List Ent) (w : World) (hv : IsSl entC w v l) (hn : l.length ≤ 1000) :
    Calls Tryz.prog 89 #[.agg #[.int .i64 a, .int .i64 b, .int .i64 p, .int .i64 n, .int .u64 s], .int .i64 r, .agg #[.int .i64 f, v]] w fun z w' => z = .returned (.bool (rgB a b p n r f l)) ∧ Below w.heap.size w w' := by
  have HH := Lib.hid (fun w => is_any a b p n s r w)
  have HS := Lib.hid (fun w1 hv => rsorted_any v l w1 hv (by omega))
  have HT := Lib.hid (fun w1 hv => rthings_any v l w1 hv (by omega))
  have HR := Lib.hid (fun y w => rright_any a b p n s y w)
  have HO := Lib.hid (fun x y w => rof_any a b p n s x y w)
  have HQ := Lib.hid (show rgB a b p n r f l = (hasB a b p n r && decide (0 ≤ f ∧ f ≤ 10000) && srt l && decide (things l ≤ 24) && l.all (hereOk a b p n r)) from rfl)
  have HF := Lib.hid (show l.all (hereOk a b p n r) = (l.drop 0).all (hereOk a b p n r) from by simp)
  have HOk := Lib.hid (fun y : Ent => show hereOk a b p n r y = (erightB a b p n y && decide (ofr a b p n y.x y.y = r)) from rfl)
  have HV := Lib.hid hv
  obtain ⟨A, c, rfl, -⟩ := hv
  generalize rgB a b p n r f l = z at *
  generalize hasB a b p n r = q1 at *
  generalize srt l = q3 at *
  generalize things l = q4 at *
  generalize l.all (hereOk a b p n r) = q5 at *
  obtain ⟨N, hN⟩ : ∃ N, l.length = N := ⟨_, rfl⟩
  rw [hN] at hn HV ⊢
  rw [hN] at HS HT
  have Hn := Lib.hid hN
  clear hN
  go_enter Tryz.func89, Tryz.ntmps89
  go_upto_region 1 with fail
  generalize hW : World.alloc _ _ = W
  have BG := Lib.hid (show CfgBox W w.heap.size ⟨a, b, p, n, s⟩ from by rw [← hW]; exact CfgBox.n2a _ ⟨a, b, p, n, s⟩ _ _ rfl)
  have BS := Lib.hid (show RegBox W (w.heap.size + 1) ⟨f, .slice A N c⟩ from by rw [← hW]; exact RegBox.n2b _ ⟨f, .slice A N c⟩ _ _ rfl)
  have HB := Lib.hid (show Below w.heap.size w W from by rw [← hW]; exact ((Below.refl _ _).alloc (Nat.le_refl _) _).alloc (by simp) _)
  clear hW
  have hgg := BG.out.has
  obtain ⟨g0, g1, g2, g3, g4, -⟩ := BG.out
  go_wp2_with fail
  refine (HH.out _).mono ?_
  rintro e w1 ⟨rfl, hb1⟩
  replace HB := Lib.hid (nextW HB.out hb1)
  replace BG := Lib.hid (BG.out.nx hb1)
  replace BS := Lib.hid (BS.out.nx hb1)
  clear hb1 g0 g1 g2 g3 g4 hgg HH
  cases q1 with
  | false =>
    go_wp2
    go_ret
    exact ⟨ret_bool (by rw [HQ.out]; simp), HB.out⟩
  | true =>
    have hss := BS.out.has
    obtain ⟨s0, s1, -⟩ := BS.out
    by_cases hf0 : f < 0
    · have hd0 : decide (f < 0) = true := decide_eq_true hf0
      have Hf := Lib.hid (show decide (0 ≤ f ∧ f ≤ 10000) = false from decide_eq_false (by omega))
      go_wp2
      go_ret
      exact ⟨ret_bool (by rw [HQ.out, Hf.out]; simp), HB.out⟩
    · have hd0 : decide (f < 0) = false := decide_eq_false hf0
      by_cases hf1 : 10000 < f
      · have hd1 : decide (10000 < f) = true := decide_eq_true hf1
        have Hf := Lib.hid (show decide (0 ≤ f ∧ f ≤ 10000) = false from decide_eq_false (by omega))
        go_wp2
        go_ret
        exact ⟨ret_bool (by rw [HQ.out, Hf.out]; simp), HB.out⟩
      · have hd1 : decide (10000 < f) = false := decide_eq_false hf1
        have Hf := Lib.hid (show decide (0 ≤ f ∧ f ≤ 10000) = true from decide_eq_true (by omega))
        rw [Hf.out] at HQ
        clear hf0 hf1
        go_wp2_with fail
        refine (HS.out _ (by have := HV.out.below HB.out; exact this)).mono ?_
        rintro e w2 ⟨rfl, hb2⟩
        replace HB := Lib.hid (nextW HB.out hb2)
        replace BG := Lib.hid (BG.out.nx hb2)
        replace BS := Lib.hid (BS.out.nx hb2)
        clear hb2 s0 s1 hss HS
        cases q3 with
        | false =>
          go_wp2
          go_ret
          exact ⟨ret_bool (by rw [HQ.out]; simp), HB.out⟩
        | true =>
          have hss := BS.out.has
          obtain ⟨s0, s1, -⟩ := BS.out
          go_wp2_with fail
          refine (HT.out _ (HV.out.below HB.out)).mono ?_
          rintro e w3 ⟨rfl, rfl⟩
          by_cases hq4 : 24 < q4
          · have hd4 : decide (24 < q4) = true := decide_eq_true hq4
            have H4 := Lib.hid (show decide (q4 ≤ 24) = false from decide_eq_false (by omega))
            go_wp2
            go_ret
            exact ⟨ret_bool (by rw [HQ.out, H4.out]; simp), HB.out⟩
          · have hd4 : decide (24 < q4) = false := decide_eq_false hq4
            have H4 := Lib.hid (show decide (q4 ≤ 24) = true from decide_eq_true (by omega))
            rw [H4.out, Bool.true_and, Bool.true_and, Bool.true_and, Bool.true_and] at HQ
            clear hq4
            go_wp2_with fail
            go_loopw [7] (fun i wr => ∃ k : Nat, k ≤ N ∧ i = .int .i64 k ∧ q5 = (l.drop k).all (hereOk a b p n r) ∧ CfgBox wr w.heap.size ⟨a, b, p, n, s⟩ ∧ RegBox wr (w.heap.size + 1) ⟨f, .slice A N c⟩ ∧ Below w.heap.size w wr) (fun i _ => N - (intOf i).toNat)
            case atStart => exact ⟨0, Nat.zero_le _, rfl, HF.out, BG.out, BS.out, HB.out⟩
            case round =>
              clear s0 s1 hss HF
              obtain ⟨k, hk, rfl, hr, hbg, hbs, hbel⟩ := hrel
              have Hr := Lib.hid hr
              have Hbel := Lib.hid hbel
              replace BG := Lib.hid hbg
              replace BS := Lib.hid hbs
              clear hr hbel hbg hbs HB
              have hss := BS.out.has
              obtain ⟨s0, s1, -⟩ := BS.out
              by_cases hlt : k < N
              · obtain ⟨x, hx⟩ := getE l k N Hn.out hlt
                have HX := Lib.hid (drop_at hx)
                obtain ⟨bb, off, rfl, hc⟩ := elem_Ent (HV.out.below Hbel.out).at hx
                obtain ⟨c0, c1, c2, c3, c4, c5, c6, c7, c8⟩ := hc
                have HRx := Lib.hid (fun w => HR.out x w)
                have HOx := Lib.hid (fun w => HO.out x.x x.y w)
                have HOkx := Lib.hid (HOk.out x)
                clear hx
                go_upto_region 7 with fail
                generalize hW : World.alloc _ _ = W2 at *
                have BX := Lib.hid (show EntBox W2 wr.heap.size x from by rw [← hW]; exact EntBox.n1 _ x _ rfl)
                replace Hbel := Lib.hid (show Below w.heap.size w W2 from by rw [← hW]; exact Hbel.out.alloc Hbel.out.size _)
                replace BG := Lib.hid (show CfgBox W2 w.heap.size ⟨a, b, p, n, s⟩ from by rw [← hW]; exact BG.out.alloc BG.out.has _)
                replace BS := Lib.hid (hW ▸ BS.out.alloc BS.out.has _)
                generalize wr.heap.size = gx at *
                clear hW c0 c1 c2 c3 c4 c5 c6 c7 c8 s0 s1 hss
                have hgg := BG.out.has
                have hxx := BX.out.has
                obtain ⟨g0, g1, g2, g3, g4, -⟩ := BG.out
                obtain ⟨x0, x1, x2, x3, x4, x5, x6, x7, x8, -⟩ := BX.out
                generalize erightB a b p n x = e1 at *
                generalize ofr a b p n x.x x.y = o1 at *
                go_wp2_with fail
                refine (HRx.out _).mono ?_
                rintro e w4 ⟨rfl, hb4⟩
                replace Hbel := Lib.hid (nextW Hbel.out hb4)
                replace BG := Lib.hid (BG.out.nx hb4)
                replace BS := Lib.hid (BS.out.nx hb4)
                replace BX := Lib.hid (BX.out.nx hb4)
                clear hb4 g0 g1 g2 g3 g4 x0 x1 x2 x3 x4 x5 x6 x7 x8 hgg hxx
                cases e1 with
                | false =>
                  go_wp2
                  go_ret
                  exact ⟨ret_bool (by rw [HQ.out, Hr.out, HX.out, List.all_cons, HOkx.out]; simp), Hbel.out⟩
                | true =>
                  have hgg := BG.out.has
                  have hxx := BX.out.has
                  obtain ⟨g0, g1, g2, g3, g4, -⟩ := BG.out
                  obtain ⟨x0, x1, x2, x3, x4, x5, x6, x7, x8, -⟩ := BX.out
                  go_wp2_with fail
                  refine (HOx.out _).mono ?_
                  rintro e w5 ⟨rfl, hb5⟩
                  replace Hbel := Lib.hid (nextW Hbel.out hb5)
                  replace BG := Lib.hid (BG.out.nx hb5)
                  replace BS := Lib.hid (BS.out.nx hb5)
                  clear hb5 g0 g1 g2 g3 g4 x0 x1 x2 x3 x4 x5 x6 x7 x8 hgg hxx
                  by_cases ho : o1 = r
                  · have ho' : (o1 != r) = false := by simpa using ho
                    rw [decide_eq_true ho] at HOkx
                    clear ho
                    go_wp2
                    go_roundw
                    case rel => exact ⟨k + 1, by omega, by go_num, by rw [Hr.out, HX.out, List.all_cons, HOkx.out]; simp, BG.out, BS.out, Hbel.out⟩
                    case measure => simp [intOf]; omega
                  · have ho' : (o1 != r) = true := by simpa using ho
                    rw [decide_eq_false ho] at HOkx
                    clear ho
                    go_wp2
                    go_ret
                    exact ⟨ret_bool (by rw [HQ.out, Hr.out, HX.out, List.all_cons, HOkx.out]; simp), Hbel.out⟩
              · obtain rfl : k = N := by omega
                go_wp2
                go_ret
                exact ⟨ret_bool (by rw [HQ.out, Hr.out, List.drop_eq_nil_of_le (by have := Hn.out; omega)]; simp), Hbel.out⟩

end Go.Proofs.YtlpkaljepaclpaaGreat.Fx
