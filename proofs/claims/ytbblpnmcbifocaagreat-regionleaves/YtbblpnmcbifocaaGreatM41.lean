/- The document's own Right of a region (joustref09.Right). Regions that plain lists make (joustplay.Region): each is right. -/
import Derived.Test.YtbblpnmcbifocaaGreatM39
import Derived.Test.YtbblpnmcbifocaaGreatM01
namespace Go.Proofs.YtbblpnmcbifocaaGreat.Fx
open Go.ChangeShapes Go.WideShapes Go.ChangeAt Go.RowKit
set_option linter.unusedVariables false
set_option maxRecDepth 100000

set_option maxHeartbeats 8000000 in
theorem rrgright_any (a b p n s r f : Int) (v : Value) (l : List Ent) (w : World) (hv : IsSl entC w v l) (hn : l.length ≤ 1000) :
    Calls Tryz.prog 21 #[.agg #[.int .i64 a, .int .i64 b, .int .i64 p, .int .i64 n, .int .u64 s], .int .i64 r, .agg #[.int .i64 f, v]] w fun z w' => z = .returned (.bool (rgB a b p n r f l)) ∧ Below w.heap.size w w' := by
  have HH := Lib.hid (fun w => is_any a b p n s r w)
  have HS := Lib.hid (fun w1 hv => rsorted_any v l w1 hv (by omega))
  have HT := Lib.hid (fun w1 hv => rthings_any v l w1 hv (by omega))
  have HR := Lib.hid (fun y w => rright_any a b p n s y w)
  have HO := Lib.hid (fun x y w => rof_any a b p n s x y w)
  have HQ := Lib.hid (show rgB a b p n r f l = (hasB a b p n r && decide (0 ≤ f ∧ f ≤ 10000) && srt l && decide (things l ≤ 24) && l.all (hereOk a b p n r)) from rfl)
  have HF := Lib.hid (show l.all (hereOk a b p n r) = (l.drop 0).all (hereOk a b p n r) from by simp)
  have HOk := Lib.hid (fun y : Ent => show hereOk a b p n r y = (erightB a b p n y && decide (ofr a b p n y.x y.y = r)) from rfl)
  have HV := Lib.hid hv
  obtain ⟨A, c, rfl, -⟩ := hv
  generalize rgB a b p n r f l = z at *
  generalize hasB a b p n r = q1 at *
  generalize srt l = q3 at *
  generalize things l = q4 at *
  generalize l.all (hereOk a b p n r) = q5 at *
  obtain ⟨N, hN⟩ : ∃ N, l.length = N := ⟨_, rfl⟩
  rw [hN] at hn HV ⊢
  rw [hN] at HS HT
  have Hn := Lib.hid hN
  clear hN
  go_enter Tryz.func21, Tryz.ntmps21
  go_upto_region 1 with fail
  generalize hW : World.alloc _ _ = W
  have BG := Lib.hid (show CfgBox W w.heap.size ⟨a, b, p, n, s⟩ from by rw [← hW]; exact CfgBox.n2a _ ⟨a, b, p, n, s⟩ _ _ rfl)
  have BS := Lib.hid (show RegBox W (w.heap.size + 1) ⟨f, .slice A N c⟩ from by rw [← hW]; exact RegBox.n2b _ ⟨f, .slice A N c⟩ _ _ rfl)
  have HB := Lib.hid (show Below w.heap.size w W from by rw [← hW]; exact ((Below.refl _ _).alloc (Nat.le_refl _) _).alloc (by simp) _)
  clear hW
  have hgg := BG.out.has
  obtain ⟨g0, g1, g2, g3, g4, -⟩ := BG.out
  go_wp2_with fail
  refine (HH.out _).mono ?_
  rintro e w1 ⟨rfl, hb1⟩
  replace HB := Lib.hid (nextW HB.out hb1)
  replace BG := Lib.hid (BG.out.nx hb1)
  replace BS := Lib.hid (BS.out.nx hb1)
  clear hb1 g0 g1 g2 g3 g4 hgg HH
  cases q1 with
  | false =>
    go_wp2
    go_ret
    exact ⟨ret_bool (by rw [HQ.out]; simp), HB.out⟩
  | true =>
    have hss := BS.out.has
    obtain ⟨s0, s1, -⟩ := BS.out
    by_cases hf0 : f < 0
    · have hd0 : decide (f < 0) = true := decide_eq_true hf0
      have Hf := Lib.hid (show decide (0 ≤ f ∧ f ≤ 10000) = false from decide_eq_false (by omega))
      go_wp2
      go_ret
      exact ⟨ret_bool (by rw [HQ.out, Hf.out]; simp), HB.out⟩
    · have hd0 : decide (f < 0) = false := decide_eq_false hf0
      by_cases hf1 : 10000 < f
      · have hd1 : decide (10000 < f) = true := decide_eq_true hf1
        have Hf := Lib.hid (show decide (0 ≤ f ∧ f ≤ 10000) = false from decide_eq_false (by omega))
        go_wp2
        go_ret
        exact ⟨ret_bool (by rw [HQ.out, Hf.out]; simp), HB.out⟩
      · have hd1 : decide (10000 < f) = false := decide_eq_false hf1
        have Hf := Lib.hid (show decide (0 ≤ f ∧ f ≤ 10000) = true from decide_eq_true (by omega))
        rw [Hf.out] at HQ
        clear hf0 hf1
        go_wp2_with fail
        refine (HS.out _ (by have := HV.out.below HB.out; exact this)).mono ?_
        rintro e w2 ⟨rfl, hb2⟩
        replace HB := Lib.hid (nextW HB.out hb2)
        replace BG := Lib.hid (BG.out.nx hb2)
        replace BS := Lib.hid (BS.out.nx hb2)
        clear hb2 s0 s1 hss HS
        cases q3 with
        | false =>
          go_wp2
          go_ret
          exact ⟨ret_bool (by rw [HQ.out]; simp), HB.out⟩
        | true =>
          have hss := BS.out.has
          obtain ⟨s0, s1, -⟩ := BS.out
          go_wp2_with fail
          refine (HT.out _ (HV.out.below HB.out)).mono ?_
          rintro e w3 ⟨rfl, rfl⟩
          by_cases hq4 : 24 < q4
          · have hd4 : decide (24 < q4) = true := decide_eq_true hq4
            have H4 := Lib.hid (show decide (q4 ≤ 24) = false from decide_eq_false (by omega))
            go_wp2
            go_ret
            exact ⟨ret_bool (by rw [HQ.out, H4.out]; simp), HB.out⟩
          · have hd4 : decide (24 < q4) = false := decide_eq_false hq4
            have H4 := Lib.hid (show decide (q4 ≤ 24) = true from decide_eq_true (by omega))
            rw [H4.out, Bool.true_and, Bool.true_and, Bool.true_and, Bool.true_and] at HQ
            clear hq4
            go_wp2_with fail
            go_loopw [7] (fun i wr => ∃ k : Nat, k ≤ N ∧ i = .int .i64 k ∧ q5 = (l.drop k).all (hereOk a b p n r) ∧ CfgBox wr w.heap.size ⟨a, b, p, n, s⟩ ∧ RegBox wr (w.heap.size + 1) ⟨f, .slice A N c⟩ ∧ Below w.heap.size w wr) (fun i _ => N - (intOf i).toNat)
            case atStart => exact ⟨0, Nat.zero_le _, rfl, HF.out, BG.out, BS.out, HB.out⟩
            case round =>
              clear s0 s1 hss HF
              obtain ⟨k, hk, rfl, hr, hbg, hbs, hbel⟩ := hrel
              have Hr := Lib.hid hr
              have Hbel := Lib.hid hbel
              replace BG := Lib.hid hbg
              replace BS := Lib.hid hbs
              clear hr hbel hbg hbs HB
              have hss := BS.out.has
              obtain ⟨s0, s1, -⟩ := BS.out
              by_cases hlt : k < N
              · obtain ⟨x, hx⟩ := getE l k N Hn.out hlt
                have HX := Lib.hid (drop_at hx)
                obtain ⟨bb, off, rfl, hc⟩ := elem_Ent (HV.out.below Hbel.out).at hx
                obtain ⟨c0, c1, c2, c3, c4, c5, c6, c7, c8⟩ := hc
                have HRx := Lib.hid (fun w => HR.out x w)
                have HOx := Lib.hid (fun w => HO.out x.x x.y w)
                have HOkx := Lib.hid (HOk.out x)
                clear hx
                go_upto_region 7 with fail
                generalize hW : World.alloc _ _ = W2 at *
                have BX := Lib.hid (show EntBox W2 wr.heap.size x from by rw [← hW]; exact EntBox.n1 _ x _ rfl)
                replace Hbel := Lib.hid (show Below w.heap.size w W2 from by rw [← hW]; exact Hbel.out.alloc Hbel.out.size _)
                replace BG := Lib.hid (show CfgBox W2 w.heap.size ⟨a, b, p, n, s⟩ from by rw [← hW]; exact BG.out.alloc BG.out.has _)
                replace BS := Lib.hid (hW ▸ BS.out.alloc BS.out.has _)
                generalize wr.heap.size = gx at *
                clear hW c0 c1 c2 c3 c4 c5 c6 c7 c8 s0 s1 hss
                have hgg := BG.out.has
                have hxx := BX.out.has
                obtain ⟨g0, g1, g2, g3, g4, -⟩ := BG.out
                obtain ⟨x0, x1, x2, x3, x4, x5, x6, x7, x8, -⟩ := BX.out
                generalize erightB a b p n x = e1 at *
                generalize ofr a b p n x.x x.y = o1 at *
                go_wp2_with fail
                refine (HRx.out _).mono ?_
                rintro e w4 ⟨rfl, hb4⟩
                replace Hbel := Lib.hid (nextW Hbel.out hb4)
                replace BG := Lib.hid (BG.out.nx hb4)
                replace BS := Lib.hid (BS.out.nx hb4)
                replace BX := Lib.hid (BX.out.nx hb4)
                clear hb4 g0 g1 g2 g3 g4 x0 x1 x2 x3 x4 x5 x6 x7 x8 hgg hxx
                cases e1 with
                | false =>
                  go_wp2
                  go_ret
                  exact ⟨ret_bool (by rw [HQ.out, Hr.out, HX.out, List.all_cons, HOkx.out]; simp), Hbel.out⟩
                | true =>
                  have hgg := BG.out.has
                  have hxx := BX.out.has
                  obtain ⟨g0, g1, g2, g3, g4, -⟩ := BG.out
                  obtain ⟨x0, x1, x2, x3, x4, x5, x6, x7, x8, -⟩ := BX.out
                  go_wp2_with fail
                  refine (HOx.out _).mono ?_
                  rintro e w5 ⟨rfl, hb5⟩
                  replace Hbel := Lib.hid (nextW Hbel.out hb5)
                  replace BG := Lib.hid (BG.out.nx hb5)
                  replace BS := Lib.hid (BS.out.nx hb5)
                  clear hb5 g0 g1 g2 g3 g4 x0 x1 x2 x3 x4 x5 x6 x7 x8 hgg hxx
                  by_cases ho : o1 = r
                  · have ho' : (o1 != r) = false := by simpa using ho
                    rw [decide_eq_true ho] at HOkx
                    clear ho
                    go_wp2
                    go_roundw
                    case rel => exact ⟨k + 1, by omega, by go_num, by rw [Hr.out, HX.out, List.all_cons, HOkx.out]; simp, BG.out, BS.out, Hbel.out⟩
                    case measure => simp [intOf]; omega
                  · have ho' : (o1 != r) = true := by simpa using ho
                    rw [decide_eq_false ho] at HOkx
                    clear ho
                    go_wp2
                    go_ret
                    exact ⟨ret_bool (by rw [HQ.out, Hr.out, HX.out, List.all_cons, HOkx.out]; simp), Hbel.out⟩
              · obtain rfl : k = N := by omega
                go_wp2
                go_ret
                exact ⟨ret_bool (by rw [HQ.out, Hr.out, List.drop_eq_nil_of_le (by have := Hn.out; omega)]; simp), Hbel.out⟩

end Go.Proofs.YtbblpnmcbifocaaGreat.Fx
namespace Go.Proofs.YtbblpnmcbifocaaGreat.Fx
open Go.ChangeShapes Go.WideShapes Go.ChangeAt Go.RowKit
set_option linter.unusedVariables false
set_option maxRecDepth 100000

theorem put_okl {a b p n r : Int} {L : List Ent} (h : Okl a b p n L) (hh : Here a b p n r L) {e : Ent} (he : erightB a b p n e = true) (ho : ofr a b p n e.x e.y = r) : Okl a b p n (put L e) ∧ Here a b p n r (put L e) := by
  refine ⟨⟨put_rise h.rise _, fun x hx => ?_⟩, fun x hx => ?_⟩
  · rcases (put_mem _ _ _).1 hx with h3 | ⟨rfl, -⟩
    · exact h.right x h3
    · exact he
  · rcases (put_mem _ _ _).1 hx with h3 | ⟨rfl, -⟩
    · exact hh x h3
    · exact ho

/-- A place in the region r. -/
theorem in_place {a b p n r : Int} (h : hasB a b p n r = true) (x y : Int) :
    ∃ X Y, wrap64 (crx a b p n r + wrap64 ((IntKind.u64.wrap x).tmod 1024)) = X ∧ wrap64 (cry a b p n r + wrap64 ((IntKind.u64.wrap y).tmod 1024)) = Y ∧ ins a b p n X Y = true ∧ ofr a b p n X Y = r := by
  have h1 := umod x 1024 (by decide) (by decide)
  have h2 := umod y 1024 (by decide) (by decide)
  have hb := corner_bd a b p n r
  have hc := corner_in h (u := wrap64 ((IntKind.u64.wrap x).tmod 1024)) (v := wrap64 ((IntKind.u64.wrap y).tmod 1024)) (by omega) (by omega)
  refine ⟨_, _, rfl, rfl, ?_⟩
  rw [IntWalk.wrap64_in (crx a b p n r + wrap64 ((IntKind.u64.wrap x).tmod 1024)) (by omega), IntWalk.wrap64_in (cry a b p n r + wrap64 ((IntKind.u64.wrap y).tmod 1024)) (by omega)]
  exact hc

theorem reg_apart {w : World} {b p o : Nat} {t : TypeId} {cur : Array Value} (h : Blk w b t cur) (hp : p ≠ b) (v : Value) : Blk (w.setCell ⟨p, o, none⟩ v) b t cur := h.kept (grown_set w p o v) (fun e => hp (Option.some.inj e).symm)

theorem blk_put9 {w V : World} {b g : Nat} {t : TypeId} {cur : Array Value} (h : Blk w b t cur) (hp : g ≠ b) (z : Ent)
    (hV : (((((((((w.setCell ⟨g, 0, none⟩ (.int .i64 z.id)).setCell ⟨g, 1, none⟩ (.int .i64 z.kind)).setCell ⟨g, 2, none⟩ (.int .i64 z.x)).setCell ⟨g, 3, none⟩ (.int .i64 z.y)).setCell ⟨g, 4, none⟩ (.int .i64 z.vx)).setCell ⟨g, 5, none⟩ (.int .i64 z.vy)).setCell ⟨g, 6, none⟩ (.int .i64 z.health)).setCell ⟨g, 7, none⟩ (.int .i64 z.age)).setCell ⟨g, 8, none⟩ (.int .i64 z.owner)) = V) : Blk V.drew b t cur := by
  subst hV
  have h1 := reg_apart (o := 0) h hp (.int .i64 z.id)
  have h2 := reg_apart (o := 1) h1 hp (.int .i64 z.kind)
  have h3 := reg_apart (o := 2) h2 hp (.int .i64 z.x)
  have h4 := reg_apart (o := 3) h3 hp (.int .i64 z.y)
  have h5 := reg_apart (o := 4) h4 hp (.int .i64 z.vx)
  have h6 := reg_apart (o := 5) h5 hp (.int .i64 z.vy)
  have h7 := reg_apart (o := 6) h6 hp (.int .i64 z.health)
  have h8 := reg_apart (o := 7) h7 hp (.int .i64 z.age)
  have h9 := reg_apart (o := 8) h8 hp (.int .i64 z.owner)
  exact h9.drew

theorem w64 (v : Int) : IntKind.i64.wrap v = wrap64 v := by rw [IntKind.wrap_i64, wrap64]

/-- A player, of whatever numbers. -/
theorem in_player {p : Int} (hp : 1 ≤ p ∧ p ≤ 6) (x : Ent) : ∃ I H G, IntKind.i64.wrap (1 + IntKind.i64.wrap ((IntKind.u64.wrap x.id).tmod p)) = I ∧ IntKind.i64.wrap (1 + IntKind.i64.wrap ((IntKind.u64.wrap x.health).tmod 100)) = H ∧ IntKind.i64.wrap ((IntKind.u64.wrap x.age).tmod 7) = G ∧ (1 ≤ I ∧ I ≤ p) ∧ (1 ≤ H ∧ H ≤ 100) ∧ (0 ≤ G ∧ G ≤ 6) := by
  have h1 := umod1 x.id p hp.1 (by omega)
  have h2 := umod1 x.health 100 (by decide) (by decide)
  have h3 := umodR x.age 7 (by decide) (by decide)
  refine ⟨_, _, _, rfl, rfl, rfl, ?_, ?_, ?_⟩
  · rw [w64, w64]; exact h1
  · rw [w64, w64]; exact h2
  · omega

/-- A list of entities does not lie in a region's box. -/
theorem IsSl.far_reg {w : World} {v : Value} {L : List Ent} {g o : Nat} {x y : Value} (h : IsSl entC w v L) (hb : Blk w g 38 #[x, y]) (u : Value) : IsSl entC (w.setCell ⟨g, o, none⟩ u) v L := by
  obtain ⟨A, c, rfl, h2, h3, hat⟩ := h
  refine ⟨A, c, rfl, h2, h3, fun hne => ?_⟩
  obtain ⟨b, off, rfl, hc⟩ := hat hne
  refine ⟨b, off, rfl, fun i z hz => ?_⟩
  have hbg : g ≠ b := by
    intro e
    subst e
    cases L with
    | nil => exact hne rfl
    | cons e t =>
      have h8 := hc 8 (.int .i64 e.owner) (by rfl)
      rw [hb.cell, Array.getElem?_eq_none (by simp)] at h8
      cases h8
  rw [World.cell?_setCell_other _ _ _ _ (by intro hh; exact hbg (congrArg Addr.block hh))]
  exact hc i z hz

set_option maxHeartbeats 8000000 in
theorem pregion_any (a b p n s r f0 : Int) (hh : hasB a b p n r = true) (hp : 1 ≤ p ∧ p ≤ 6) (v : Value) (l : List Ent) (w : World) (hv : IsSl entC w v l) :
    Calls Tryz.prog 17 #[.agg #[.int .i64 a, .int .i64 b, .int .i64 p, .int .i64 n, .int .u64 s], .int .i64 r, .int .i64 f0, v] w fun z w' =>
      (∃ F L vl, z = .returned (.agg #[.int .i64 F, vl]) ∧ (1 ≤ F ∧ F ≤ 100) ∧ Okl a b p n L ∧ Here a b p n r L ∧ L.length ≤ 20 ∧ IsSl entC w' vl L) ∧ Below w.heap.size w w' := by
  have HC := Lib.hid (fun w => rcorner_any a b p n s r w)
  have HPl := Lib.hid (fun x y => in_place hh x y)
  have HR := Lib.hid (fun y w => rright_any a b p n s y w)
  have HP := Lib.hid (fun v l y w hv hn => rput_any v l y w hv hn)
  have HV := Lib.hid hv
  have HZ := Lib.hid (fun x => in_player hp x)
  have HU := Lib.hid (show IntKind.u64.wrap p = p from by rw [IntKind.wrap_u64]; omega)
  obtain ⟨A, c, rfl, -⟩ := hv
  obtain ⟨N, hN⟩ : ∃ N, l.length = N := ⟨_, rfl⟩
  rw [hN] at HV ⊢
  have Hn := Lib.hid hN
  have hfb := umod1 f0 100 (by decide) (by decide)
  obtain ⟨F, hF⟩ : ∃ F, wrap64 (1 + wrap64 ((IntKind.u64.wrap f0).tmod 100)) = F := ⟨_, rfl⟩
  rw [hF] at hfb
  clear hN
  go_enter Tryz.func17, Tryz.ntmps17
  go_upto_region 2 with fail
  simp only [hF]
  clear hF
  generalize hW : World.alloc _ _ = W
  have BG := Lib.hid (show CfgBox W w.heap.size ⟨a, b, p, n, s⟩ from by rw [← hW]; exact CfgBox.n3a _ ⟨a, b, p, n, s⟩ _ _ _ rfl)
  have BR := Lib.hid (show Blk W (w.heap.size + 1) 38 #[.int .i64 0, .slice none 0 0] from by rw [← hW]; exact Blk.nx (Blk.new' _ _ _ (by simp)) ((Below.refl _ _).alloc (Nat.le_refl _) _))
  have BS := Lib.hid (show Blk W (w.heap.size + 1 + 1) 38 #[.int .i64 F, .slice none 0 0] from by rw [← hW]; exact Blk.new' _ _ _ (by simp))
  have HB := Lib.hid (show Below w.heap.size w W from by rw [← hW]; exact (((Below.refl _ _).alloc (Nat.le_refl _) _).alloc (by simp) _).alloc (by simp; omega) _)
  clear hW
  have hgg := BG.out.has
  obtain ⟨g0, g1, g2, g3, g4, -⟩ := BG.out
  go_wp2_with fail
  refine (HC.out _).mono ?_
  rintro e w1 ⟨rfl, hb1⟩
  replace HB := Lib.hid (nextW HB.out hb1)
  replace BG := Lib.hid (BG.out.nx hb1)
  replace BR := Lib.hid (BR.out.nx hb1)
  replace BS := Lib.hid (BS.out.nx hb1)
  clear hb1 g0 g1 g2 g3 g4 hgg HC
  generalize crx a b p n r = cx at *
  generalize cry a b p n r = cy at *
  go_wp2_with fail
  go_loopw [12] (fun i wr => ∃ (k : Nat) (L : List Ent) (vl : Value), k ≤ N ∧ k ≤ 20 ∧ i = .int .i64 k ∧ Okl a b p n L ∧ Here a b p n r L ∧ L.length ≤ k ∧ IsSl entC wr vl L ∧ CfgBox wr w.heap.size ⟨a, b, p, n, s⟩ ∧ Blk wr (w.heap.size + 1) 38 #[.int .i64 0, .slice none 0 0] ∧ Blk wr (w.heap.size + 1 + 1) 38 #[.int .i64 F, vl] ∧ Below w.heap.size w wr) (fun i _ => N - (intOf i).toNat)
  case atStart => exact ⟨0, [], .slice none 0 0, Nat.zero_le _, Nat.zero_le _, rfl, ⟨List.Pairwise.nil, by simp⟩, by intro e he; simp at he, Nat.zero_le _, IsSl.nil _ _, BG.out, BR.out, BS.out, HB.out⟩
  case round =>
    obtain ⟨k, L, vl, hk, hk20, rfl, hok, hhere, hlen, hsl, hbg, hbr, hbs, hbel⟩ := hrel
    have HOk := Lib.hid hok
    have HHe := Lib.hid hhere
    have HSl := Lib.hid hsl
    have Hlen := Lib.hid hlen
    have Hbel := Lib.hid hbel
    replace BG := Lib.hid hbg
    replace BR := Lib.hid hbr
    replace BS := Lib.hid hbs
    clear hok hhere hlen hsl hbg hbr hbs hbel HB
    by_cases hlt : k < N
    · have hd1 : decide ((k : Int) < (N : Int)) = true := decide_eq_true (by omega)
      by_cases hlt2 : k < 20
      · have hd2 : decide ((k : Int) < 20) = true := decide_eq_true (by omega)
        obtain ⟨x, hx⟩ := getE l k N Hn.out hlt
        obtain ⟨bb, off, rfl, hc⟩ := elem_Ent (HV.out.below Hbel.out).at hx
        obtain ⟨c0, c1, c2, c3, c4, c5, c6, c7, c8⟩ := hc
        obtain ⟨X, Y, hX, hY, hins, hof⟩ := HPl.out x.x x.y
        have HGX := Lib.hid BS.out.lt
        have Hins := Lib.hid hins
        have Hof := Lib.hid hof
        clear hx hins hof
        go_upto_region 8 with fail
        (try simp only [hX, hY])
        have HRx := Lib.hid (HR.out ⟨x.id, x.kind, X, Y, x.vx, x.vy, x.health, x.age, x.owner⟩)
        have BX := Lib.hid (EntBox.n1 wr ⟨x.id, x.kind, X, Y, x.vx, x.vy, x.health, x.age, x.owner⟩ 48 rfl)
        have AL := Lib.hid (show Below wr.heap.size wr (wr.alloc (.cells #[.int .i64 x.id, .int .i64 x.kind, .int .i64 X, .int .i64 Y, .int .i64 x.vx, .int .i64 x.vy, .int .i64 x.health, .int .i64 x.age, .int .i64 x.owner] 48)) from (Below.refl _ _).alloc (Nat.le_refl _) _)
        generalize hW : World.alloc _ _ = W2 at *
        replace Hbel := Lib.hid (nextW Hbel.out AL.out)
        replace BG := Lib.hid (BG.out.nx AL.out)
        replace BR := Lib.hid (BR.out.nx AL.out)
        replace BS := Lib.hid (BS.out.nx AL.out)
        have HSl0 := HSl
        replace HSl := Lib.hid (HSl.out.below AL.out)
        have hgx : w.heap.size + 1 + 1 < wr.heap.size := by
          have h1 := BS.out.lt
          have h2 : W2.heap.size = wr.heap.size + 1 := by rw [← hW]; simp
          have h3 := HGX.out
          omega
        have HSw := Lib.hid (show ∀ W5, Below wr.heap.size wr W5 → IsSl entC W5 vl L from fun W5 h => HSl0.out.below h)
        generalize wr.heap.size = gx at *
        clear hW HSl0 c0 c1 c2 c3 c4 c5 c6 c7 c8 hX hY
        have hgg := BG.out.has
        have hxx := BX.out.has
        obtain ⟨g0, g1, g2, g3, g4, -⟩ := BG.out
        obtain ⟨x0, x1, x2, x3, x4, x5, x6, x7, x8, -⟩ := BX.out
        obtain ⟨q, hq⟩ : ∃ q, erightB a b p n ⟨x.id, x.kind, X, Y, x.vx, x.vy, x.health, x.age, x.owner⟩ = q := ⟨_, rfl⟩
        rw [hq] at HRx
        have Hq := Lib.hid hq
        clear hq
        go_wp2_with fail
        refine (HRx.out _).mono ?_
        rintro e w4 ⟨rfl, hb4⟩
        replace Hbel := Lib.hid (nextW Hbel.out hb4)
        replace BG := Lib.hid (BG.out.nx hb4)
        replace BR := Lib.hid (BR.out.nx hb4)
        replace BS := Lib.hid (BS.out.nx hb4)
        replace BX := Lib.hid (BX.out.nx hb4)
        replace HSl := Lib.hid (HSl.out.below hb4)
        replace AL := Lib.hid (AL.out.trans (hb4.mono (Nat.le_of_lt hxx)))
        clear hb4 g0 g1 g2 g3 g4 x0 x1 x2 x3 x4 x5 x6 x7 x8 hgg hxx HRx
        cases q with
        | true =>
          obtain ⟨hok1, hhe1⟩ := put_okl HOk.out HHe.out Hq.out (show ofr a b p n X Y = r from Hof.out)
          have HOk1 := Lib.hid hok1
          have HHe1 := Lib.hid hhe1
          have HPx := Lib.hid (HP.out vl L ⟨x.id, x.kind, X, Y, x.vx, x.vy, x.health, x.age, x.owner⟩ w4 HSl.out (by have := Hlen.out; omega))
          have hpl := put_le L ⟨x.id, x.kind, X, Y, x.vx, x.vy, x.health, x.age, x.owner⟩
          clear hok1 hhe1
          generalize put L ⟨x.id, x.kind, X, Y, x.vx, x.vy, x.health, x.age, x.owner⟩ = L' at *
          have hss := BS.out.lt
          have hxx := BX.out.has
          have s1 : w4.cell? ⟨w.heap.size + 1 + 1, 1, none⟩ = some vl := BS.out.cell 1
          obtain ⟨x0, x1, x2, x3, x4, x5, x6, x7, x8, -⟩ := BX.out
          go_wp2_with fail
          refine HPx.out.mono ?_
          rintro e w6 ⟨v6, rfl, hs6, hb6⟩
          obtain ⟨A6, c6, rfl, -⟩ : ∃ A c, v6 = .slice A L'.length c ∧ True := by obtain ⟨A, c, e, -⟩ := hs6; exact ⟨A, c, e, trivial⟩
          replace Hbel := Lib.hid (nextW Hbel.out hb6)
          replace BG := Lib.hid (BG.out.nx hb6)
          replace BR := Lib.hid (BR.out.nx hb6)
          replace BS := Lib.hid (BS.out.nx hb6)
          have HS6 := Lib.hid (hs6.far_reg BS.out (o := 1) (.slice A6 L'.length c6))
          clear hs6 hb6 s1 x0 x1 x2 x3 x4 x5 x6 x7 x8 hss hxx HPx
          have s1 : w6.cell? ⟨w.heap.size + 1 + 1, 1, none⟩ = some vl := BS.out.cell 1
          have sf := BS.out.frozen 1
          have BG6 := Lib.hid (BG.out.far (show w.heap.size + 1 + 1 ≠ w.heap.size by omega) 1 (.slice A6 L'.length c6))
          have BR6 := Lib.hid (reg_apart BR.out (show w.heap.size + 1 + 1 ≠ w.heap.size + 1 by omega) (o := 1) (.slice A6 L'.length c6))
          have BS6 := Lib.hid (show Blk (w6.setCell ⟨w.heap.size + 1 + 1, 1, none⟩ (.slice A6 L'.length c6)) (w.heap.size + 1 + 1) 38 #[.int .i64 F, .slice A6 L'.length c6] from BS.out.put 1 (.slice A6 L'.length c6))
          have HB6 := Lib.hid (show Below w.heap.size w (w6.setCell ⟨w.heap.size + 1 + 1, 1, none⟩ (.slice A6 L'.length c6)) from Hbel.out.setCell (show w.heap.size ≤ w.heap.size + 1 + 1 by omega) (.slice A6 L'.length c6))
          go_wp2
          go_roundw
          case rel => exact ⟨k + 1, L', .slice A6 L'.length c6, by omega, by omega, by go_num, HOk1.out, HHe1.out, by have := Hlen.out; omega, HS6.out, BG6.out, BR6.out, BS6.out, HB6.out⟩
          case measure => simp [intOf]; omega
        | false =>
          obtain ⟨I, H, G, hI, hH, hG, hbz⟩ := HZ.out x
          have HZr := Lib.hid (show erightB a b p n ⟨I, 1, X, Y, 0, 0, H, G, 0⟩ = true from player_right rfl Hins.out ⟨by have := hbz; simp only; omega, by simp only; omega, by simp only; omega, by have := hbz; simp only; omega, by have := hbz; simp only; omega, rfl⟩)
          clear hbz
          have hgg := BG.out.has
          have hxx := BX.out.has
          obtain ⟨g0, g1, g2, g3, g4, -⟩ := BG.out
          obtain ⟨x0, x1, x2, x3, x4, x5, x6, x7, x8, e0', e1, e2, e3, e4, e5, e6, e7, e8⟩ := BX.out
          have hu := HU.out
          have hpn : ¬ p = 0 := by omega
          go_upto_region 9 with fail
          refine tail_region (S := (fun w' => (∀ b o, b < (w4).heap.size → w'.cell? ⟨b, o, none⟩ = (w4).cell? ⟨b, o, none⟩) ∧ (∀ b o, b < (w4).heap.size → w'.frozen? ⟨b, o, none⟩ = (w4).frozen? ⟨b, o, none⟩) ∧ Below (w4).heap.size (w4) w')) 25 (.free 0 (.free 1 (.free 2 (.free 3 (.free 4 (.free 5 (.free 6 (.free 7 (.free 8 (.free 9 (.free 10 (.free 11 (.free 12 (.free 13 (.free 14 (.free 15 (.free 16 (.free 17 (.free 18 (.free 19 (.free 20 (.free 21 (.free 22 (.free 23 (.free 24 .tail))))))))))))))))))))))))) (by kernel_rfl) (by kernel_rfl) (fun _ _ d _ _ h => by cases d <;> exact h) (keepW0 _) (fun hS => ?_)
          simp only [writtenT, List.drop_succ_cons, List.drop_zero, List.getElem?_cons_succ, List.getElem?_cons_zero]
          refine rz_free (v := ?_) (by rfl) ?_ ?_; rotate_left 1; focus (intro w hSw; (try dsimp only at hSw); go_simp; (try with_reducible rfl))
          (try simp only [Act.put, tA, tB, tC])
          refine rz_free (v := ?_) (by rfl) ?_ ?_; rotate_left 1; focus (intro w hSw; (try dsimp only at hSw); go_simp; (try with_reducible rfl))
          (try simp only [Act.put, tA, tB, tC])
          refine rz_free (v := ?_) (by rfl) ?_ ?_; rotate_left 1; focus (intro w hSw; (try dsimp only at hSw); go_simp; (try with_reducible rfl))
          (try simp only [Act.put, tA, tB, tC])
          refine rz_free (v := ?_) (by rfl) ?_ ?_; rotate_left 1; focus (intro w hSw; (try dsimp only at hSw); go_simp; (try with_reducible rfl))
          (try simp only [Act.put, tA, tB, tC])
          refine rz_free (v := ?_) (by rfl) ?_ ?_; rotate_left 1; focus (intro w hSw; (try dsimp only at hSw); go_simp; (try with_reducible rfl))
          (try simp only [Act.put, tA, tB, tC])
          refine rz_free (v := ?_) (by rfl) ?_ ?_; rotate_left 1; focus (intro w hSw; (try dsimp only at hSw); go_simp; (try with_reducible rfl))
          (try simp only [Act.put, tA, tB, tC])
          refine rz_free (v := ?_) (by rfl) ?_ ?_; rotate_left 1; focus (intro w hSw; (try dsimp only at hSw); go_simp; (try with_reducible rfl))
          (try simp only [Act.put, tA, tB, tC])
          refine rz_free (v := ?_) (by rfl) ?_ ?_; rotate_left 1; focus (intro w hSw; (try dsimp only at hSw); go_simp; (try with_reducible rfl))
          (try simp only [Act.put, tA, tB, tC])
          refine rz_free (v := ?_) (by rfl) ?_ ?_; rotate_left 1; focus (intro w hSw; (try dsimp only at hSw); go_simp; (try with_reducible rfl))
          (try simp only [Act.put, tA, tB, tC])
          refine rz_free (v := ?_) (by rfl) ?_ ?_; rotate_left 1; focus (intro w hSw; (try dsimp only at hSw); go_simp; (try with_reducible rfl))
          (try simp only [Act.put, tA, tB, tC])
          refine rz_free (v := ?_) (by rfl) ?_ ?_; rotate_left 1; focus (intro w hSw; (try dsimp only at hSw); go_simp; (try with_reducible rfl))
          (try simp only [Act.put, tA, tB, tC])
          refine rz_free (v := ?_) (by rfl) ?_ ?_; rotate_left 1; focus (intro w hSw; (try dsimp only at hSw); go_simp; (try with_reducible rfl))
          (try simp only [Act.put, tA, tB, tC])
          refine rz_free (v := ?_) (by rfl) ?_ ?_; rotate_left 1; focus (intro w hSw; (try dsimp only at hSw); go_simp; (try with_reducible rfl))
          (try simp only [Act.put, tA, tB, tC])
          refine rz_free (v := ?_) (by rfl) ?_ ?_; rotate_left 1; focus (intro w hSw; (try dsimp only at hSw); go_simp; (try with_reducible rfl))
          (try simp only [Act.put, tA, tB, tC])
          refine rz_free (v := ?_) (by rfl) ?_ ?_; rotate_left 1; focus (intro w hSw; (try dsimp only at hSw); go_simp; (try with_reducible rfl))
          (try simp only [Act.put, tA, tB, tC])
          refine rz_free (v := ?_) (by rfl) ?_ ?_; rotate_left 1; focus (intro w hSw; (try dsimp only at hSw); go_simp; (try with_reducible rfl))
          (try simp only [Act.put, tA, tB, tC])
          refine rz_free (v := ?_) (by rfl) ?_ ?_; rotate_left 1; focus (intro w hSw; (try dsimp only at hSw); go_simp; (try with_reducible rfl))
          (try simp only [Act.put, tA, tB, tC])
          refine rz_free (v := ?_) (by rfl) ?_ ?_; rotate_left 1; focus (intro w hSw; (try dsimp only at hSw); go_simp; (try with_reducible rfl))
          (try simp only [Act.put, tA, tB, tC])
          refine rz_free (v := ?_) (by rfl) ?_ ?_; rotate_left 1; focus (intro w hSw; (try dsimp only at hSw); go_simp; (try with_reducible rfl))
          (try simp only [Act.put, tA, tB, tC])
          refine rz_free (v := ?_) (by rfl) ?_ ?_; rotate_left 1; focus (intro w hSw; (try dsimp only at hSw); go_simp; (try with_reducible rfl))
          (try simp only [Act.put, tA, tB, tC])
          refine rz_free (v := ?_) (by rfl) ?_ ?_; rotate_left 1; focus (intro w hSw; (try dsimp only at hSw); go_simp; (try with_reducible rfl))
          (try simp only [Act.put, tA, tB, tC])
          refine rz_free (v := ?_) (by rfl) ?_ ?_; rotate_left 1; focus (intro w hSw; (try dsimp only at hSw); go_simp; (try with_reducible rfl))
          (try simp only [Act.put, tA, tB, tC])
          refine rz_free (v := ?_) (by rfl) ?_ ?_; rotate_left 1; focus (intro w hSw; (try dsimp only at hSw); go_simp; (try with_reducible rfl))
          (try simp only [Act.put, tA, tB, tC])
          refine rz_free (v := ?_) (by rfl) ?_ ?_; rotate_left 1; focus (intro w hSw; (try dsimp only at hSw); go_simp; (try with_reducible rfl))
          (try simp only [Act.put, tA, tB, tC])
          refine rz_free (v := ?_) (by rfl) ?_ ?_; rotate_left 1; focus (intro w hSw; (try dsimp only at hSw); go_simp; (try with_reducible rfl))
          (try simp only [Act.put, tA, tB, tC])
          refine rz_done ?_
          go_upto_region 10 with fail
          generalize hV : World.setCell _ _ _ = V at *
          generalize hW : World.drew V = w5 at *
          have hB1 := EntBox.bel Hbel.out ⟨I, 1, X, Y, 0, 0, H, G, 0⟩ (show w.heap.size ≤ gx by omega) hV
          replace Hbel := Lib.hid (show Below w.heap.size w w5 from hW ▸ hB1.drew)
          have hA1 := EntBox.bel AL.out ⟨I, 1, X, Y, 0, 0, H, G, 0⟩ (Nat.le_refl gx) hV
          replace AL := Lib.hid (show Below gx wr w5 from hW ▸ hA1.drew)
          have hO1 := EntBox.off ⟨I, 1, X, Y, 0, 0, H, G, 0⟩ hV
          have hX1 := BX.out.nxs (Below.refl _ _) ⟨I, 1, X, Y, 0, 0, H, G, 0⟩ hV
          replace BX := Lib.hid (show EntBox w5 gx ⟨I, 1, X, Y, 0, 0, H, G, 0⟩ from hW ▸ hX1.drew)
          have hG1 := BG.out.nf hO1 (show gx ≠ w.heap.size by omega)
          replace BG := Lib.hid (show CfgBox w5 w.heap.size ⟨a, b, p, n, s⟩ from hW ▸ hG1.drew)
          have hR1 := blk_put9 BR.out (show gx ≠ w.heap.size + 1 by omega) ⟨I, 1, X, Y, 0, 0, H, G, 0⟩ hV
          replace BR := Lib.hid (show Blk w5 (w.heap.size + 1) 38 #[.int .i64 0, .slice none 0 0] from hW ▸ hR1)
          have hS1 := blk_put9 BS.out (show gx ≠ w.heap.size + 1 + 1 by omega) ⟨I, 1, X, Y, 0, 0, H, G, 0⟩ hV
          replace BS := Lib.hid (show Blk w5 (w.heap.size + 1 + 1) 38 #[.int .i64 F, vl] from hW ▸ hS1)
          replace HSl := Lib.hid (HSw.out w5 AL.out)
          clear hW hV hB1 hA1 hO1 hX1 hG1 hR1 hS1 hS g0 g1 g2 g3 g4 x0 x1 x2 x3 x4 x5 x6 x7 x8 e0' e1 e2 e3 e4 e5 e6 e7 e8 hgg hxx hu hpn hI hH hG
          obtain ⟨hok1, hhe1⟩ := put_okl HOk.out HHe.out HZr.out (show ofr a b p n X Y = r from Hof.out)
          have HOk1 := Lib.hid hok1
          have HHe1 := Lib.hid hhe1
          have HPx := Lib.hid (HP.out vl L ⟨I, 1, X, Y, 0, 0, H, G, 0⟩ w5 HSl.out (by have := Hlen.out; omega))
          have hpl := put_le L ⟨I, 1, X, Y, 0, 0, H, G, 0⟩
          clear hok1 hhe1
          generalize put L ⟨I, 1, X, Y, 0, 0, H, G, 0⟩ = L' at *
          have hss := BS.out.lt
          have hxx := BX.out.has
          have s1 : w5.cell? ⟨w.heap.size + 1 + 1, 1, none⟩ = some vl := BS.out.cell 1
          obtain ⟨x0, x1, x2, x3, x4, x5, x6, x7, x8, -⟩ := BX.out
          go_wp2_with fail
          refine HPx.out.mono ?_
          rintro e w6 ⟨v6, rfl, hs6, hb6⟩
          obtain ⟨A6, c6, rfl, -⟩ : ∃ A c, v6 = .slice A L'.length c ∧ True := by obtain ⟨A, c, e, -⟩ := hs6; exact ⟨A, c, e, trivial⟩
          replace Hbel := Lib.hid (nextW Hbel.out hb6)
          replace BG := Lib.hid (BG.out.nx hb6)
          replace BR := Lib.hid (BR.out.nx hb6)
          replace BS := Lib.hid (BS.out.nx hb6)
          have HS6 := Lib.hid (hs6.far_reg BS.out (o := 1) (.slice A6 L'.length c6))
          clear hs6 hb6 s1 x0 x1 x2 x3 x4 x5 x6 x7 x8 hss hxx HPx
          have s1 : w6.cell? ⟨w.heap.size + 1 + 1, 1, none⟩ = some vl := BS.out.cell 1
          have sf := BS.out.frozen 1
          have BG6 := Lib.hid (BG.out.far (show w.heap.size + 1 + 1 ≠ w.heap.size by omega) 1 (.slice A6 L'.length c6))
          have BR6 := Lib.hid (reg_apart BR.out (show w.heap.size + 1 + 1 ≠ w.heap.size + 1 by omega) (o := 1) (.slice A6 L'.length c6))
          have BS6 := Lib.hid (show Blk (w6.setCell ⟨w.heap.size + 1 + 1, 1, none⟩ (.slice A6 L'.length c6)) (w.heap.size + 1 + 1) 38 #[.int .i64 F, .slice A6 L'.length c6] from BS.out.put 1 (.slice A6 L'.length c6))
          have HB6 := Lib.hid (show Below w.heap.size w (w6.setCell ⟨w.heap.size + 1 + 1, 1, none⟩ (.slice A6 L'.length c6)) from Hbel.out.setCell (show w.heap.size ≤ w.heap.size + 1 + 1 by omega) (.slice A6 L'.length c6))
          go_wp2
          go_roundw
          case rel => exact ⟨k + 1, L', .slice A6 L'.length c6, by omega, by omega, by go_num, HOk1.out, HHe1.out, by have := Hlen.out; omega, HS6.out, BG6.out, BR6.out, BS6.out, HB6.out⟩
          case measure => simp [intOf]; omega
      · have hd2 : decide ((k : Int) < 20) = false := decide_eq_false (by omega)
        have hss := BS.out.lt
        have hrr := BR.out.lt
        have s0 : wr.cell? ⟨w.heap.size + 1 + 1, 0, none⟩ = some (.int .i64 F) := BS.out.cell 0
        have s1 : wr.cell? ⟨w.heap.size + 1 + 1, 1, none⟩ = some vl := BS.out.cell 1
        have r0 : wr.cell? ⟨w.heap.size + 1, 0, none⟩ = some (.int .i64 0) := BR.out.cell 0
        have r1 : wr.cell? ⟨w.heap.size + 1, 1, none⟩ = some (.slice none 0 0) := BR.out.cell 1
        have rf := BR.out.frozen
        obtain ⟨A6, c6, rfl, -⟩ : ∃ A c, vl = .slice A L.length c ∧ True := by obtain ⟨A, c, e, -⟩ := HSl.out; exact ⟨A, c, e, trivial⟩
        have HS7 := Lib.hid ((HSl.out.far_reg BR.out (o := 0) (.int .i64 F)).far_reg (BR.out.put 0 (.int .i64 F)) (o := 1) (.slice A6 L.length c6))
        have HB7 := Lib.hid (RegBox.bel Hbel.out ⟨F, .slice A6 L.length c6⟩ (show w.heap.size ≤ w.heap.size + 1 by omega) rfl)
        have HR7 := Lib.hid (((BR.out.reg (T := ⟨0, .slice none 0 0⟩))).put ⟨F, .slice A6 L.length c6⟩)
        go_wp2
        obtain ⟨z0, z1, -⟩ := HR7.out
        refine bodyPost_ret (v := .agg #[.int .i64 F, .slice A6 L.length c6]) (by simp [results, Tryz.results17, go_sem, z0, z1]) rfl ?_
        exact ⟨⟨F, L, _, rfl, hfb, HOk.out, HHe.out, by have := Hlen.out; omega, HS7.out⟩, HB7.out⟩
    · have hd1 : decide ((k : Int) < (N : Int)) = false := decide_eq_false (by omega)
      have hss := BS.out.lt
      have hrr := BR.out.lt
      have s0 : wr.cell? ⟨w.heap.size + 1 + 1, 0, none⟩ = some (.int .i64 F) := BS.out.cell 0
      have s1 : wr.cell? ⟨w.heap.size + 1 + 1, 1, none⟩ = some vl := BS.out.cell 1
      have r0 : wr.cell? ⟨w.heap.size + 1, 0, none⟩ = some (.int .i64 0) := BR.out.cell 0
      have r1 : wr.cell? ⟨w.heap.size + 1, 1, none⟩ = some (.slice none 0 0) := BR.out.cell 1
      have rf := BR.out.frozen
      obtain ⟨A6, c6, rfl, -⟩ : ∃ A c, vl = .slice A L.length c ∧ True := by obtain ⟨A, c, e, -⟩ := HSl.out; exact ⟨A, c, e, trivial⟩
      have HS7 := Lib.hid ((HSl.out.far_reg BR.out (o := 0) (.int .i64 F)).far_reg (BR.out.put 0 (.int .i64 F)) (o := 1) (.slice A6 L.length c6))
      have HB7 := Lib.hid (RegBox.bel Hbel.out ⟨F, .slice A6 L.length c6⟩ (show w.heap.size ≤ w.heap.size + 1 by omega) rfl)
      have HR7 := Lib.hid (((BR.out.reg (T := ⟨0, .slice none 0 0⟩))).put ⟨F, .slice A6 L.length c6⟩)
      go_wp2
      obtain ⟨z0, z1, -⟩ := HR7.out
      refine bodyPost_ret (v := .agg #[.int .i64 F, .slice A6 L.length c6]) (by simp [results, Tryz.results17, go_sem, z0, z1]) rfl ?_
      exact ⟨⟨F, L, _, rfl, hfb, HOk.out, HHe.out, by have := Hlen.out; omega, HS7.out⟩, HB7.out⟩

end Go.Proofs.YtbblpnmcbifocaaGreat.Fx
