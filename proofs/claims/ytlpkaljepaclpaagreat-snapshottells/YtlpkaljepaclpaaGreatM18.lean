/- Package region: Right, what may be asked (rightInputs, rightInbox, refusal). Which bases may be, plainly. What is older than a world's end reads as in it. -/
import Derived.Test.YtlpkaljepaclpaaGreatM14
import Derived.Test.YtlpkaljepaclpaaGreatM15
import Derived.Test.YtlpkaljepaclpaaGreatM16
import Derived.Test.YtlpkaljepaclpaaGreatM10
import Derived.Test.YtlpkaljepaclpaaGreatM17
import Derived.Test.YtlpkaljepaclpaaGreatM04
import Derived.Test.YtlpkaljepaclpaaGreatM11
import Derived.Test.YtlpkaljepaclpaaGreatM01
namespace Go.Proofs.YtlpkaljepaclpaaGreat.Fx
open Go.ChangeShapes Go.WideShapes Go.ChangeAt Go.RowKit
set_option linter.unusedVariables false
set_option maxRecDepth 100000

/-- Is an entity right, and there? -/
def hereOk (a b p n r : Int) (e : Ent) : Bool := erightB a b p n e && decide (ofr a b p n e.x e.y = r)

set_option maxHeartbeats 2000000 in
theorem strays_any (a b p n s r : Int) (y : Ent) (g h : Nat) (w : World) (hg : CfgBox w g ⟨a, b, p, n, s⟩) (hh : w.cell? ⟨h, 0, none⟩ = some (.int .i64 r)) :
    Calls Tryz.prog 151 #[.agg #[.int .i64 y.id, .int .i64 y.kind, .int .i64 y.x, .int .i64 y.y, .int .i64 y.vx, .int .i64 y.vy, .int .i64 y.health, .int .i64 y.age, .int .i64 y.owner], .pointer (some ⟨g, 0, none⟩), .pointer (some ⟨h, 0, none⟩)] w fun z w' => z = .returned (.bool (!hereOk a b p n r y)) ∧ Below w.heap.size w w' := by
  have HR := Lib.hid (fun w => eright_any a b p n s y w)
  have HO := Lib.hid (fun w => of_any a b p n s y.x y.y w)
  have HQ := Lib.hid (show hereOk a b p n r y = (erightB a b p n y && decide (ofr a b p n y.x y.y = r)) from rfl)
  generalize hereOk a b p n r y = z at *
  generalize erightB a b p n y = e at *
  generalize ofr a b p n y.x y.y = q at *
  have BX := Lib.hid (EntBox.n1 w y 45 rfl)
  have HB := Lib.hid (show Below w.heap.size w (w.alloc (.cells (entC y).toArray 45)) from (Below.refl _ _).alloc (Nat.le_refl _) _)
  have hlh : h < w.heap.size := World.block_lt_of_cell? _ _ hh
  have hlg : g < w.heap.size := hg.has
  have Hh := Lib.hid (show (w.alloc (.cells (entC y).toArray 45)).cell? ⟨h, 0, none⟩ = _ from (World.cell?_alloc_lt _ _ _ hlh).trans hh)
  have Hg := Lib.hid (hg.alloc hlg (.cells (entC y).toArray 45))
  simp only [entC] at HB Hh Hg
  clear hg hh
  go_enter Tryz.func151, Tryz.ntmps151
  go_upto_region 1 with fail
  generalize hW : World.alloc _ _ = W at *
  have hgx := BX.out.has
  have hgg := Hg.out.has
  have hh := Hh.out
  have hhh := World.block_lt_of_cell? _ _ hh
  clear hW hlh hlg
  obtain ⟨g0, g1, g2, g3, g4, -⟩ := Hg.out
  obtain ⟨x0, x1, x2, x3, x4, x5, x6, x7, x8, -⟩ := BX.out
  cases e with
  | false =>
    refine plan_region' (S := (fun w' => (∀ b o, b < (W).heap.size → w'.cell? ⟨b, o, none⟩ = (W).cell? ⟨b, o, none⟩) ∧ (∀ b o, b < (W).heap.size → w'.frozen? ⟨b, o, none⟩ = (W).frozen? ⟨b, o, none⟩) ∧ Below (W).heap.size (W) w')) [(0, true), (1, true), (2, false), (3, true), (4, true), (5, true), (6, true), (7, true), (8, true), (9, true), (11, true), (10, false), (12, true), (13, true), (14, true)] (by kernel_rfl) (by kernel_rfl) (fun _ _ d _ _ h => by cases d <;> exact h) (keepW0 _) (fun hS => ?_)
    simp only [picked, List.getElem?_cons_succ, List.getElem?_cons_zero]
    iterate 2
     refine row_free (v := ?_) (by rfl) ?_ ?_; rotate_left 1; focus (intro w hSw; (try dsimp only at hSw); go_simp; (try with_reducible rfl))
     (try simp only [Act.put, tA, tB, tC])
    refine row_call (by rfl) (fun K hK => ?_)
    go_simp
    (refine (HR.out _).mono ?_; rintro e w5 ⟨rfl, hb5⟩)
    (try go_wp2_with fail)
    refine hK.out _ _ ?_ (fun hS' => ?_)
    · (try dsimp only); first | exact keepW (by assumption) (by assumption) | exact keepB (by assumption) (by assumption) | exact keepA (by assumption) | assumption
    clear hS hK K
    have hS := hS'
    clear hS'
    iterate 2
     (try simp only [Act.put, tA, tB, tC])
     refine row_free (v := ?_) (by rfl) ?_ ?_; rotate_left 1; focus (intro w hSw; (try dsimp only at hSw); go_simp; (try with_reducible rfl))
    iterate 6
     (try simp only [Act.put, tA, tB, tC])
     refine row_off (by rfl) ?_
    (try simp only [Act.put, tA, tB, tC])
    refine row_off' (by rfl) hS ?_
    (try simp only [Act.put, tA, tB, tC])
    refine row_off (by rfl) ?_
    iterate 2
     (try simp only [Act.put, tA, tB, tC])
     refine row_free (v := ?_) (by rfl) ?_ ?_; rotate_left 1; focus (intro w hSw; (try dsimp only at hSw); go_simp; (try with_reducible rfl))
    (try simp only [Act.put, tA, tB, tC])
    refine row_done ?_
    have HB5 := Lib.hid (nextW HB.out hS.2.2)
    clear hS hb5
    go_wp2
    go_ret
    exact ⟨ret_bool (by rw [HQ.out]; simp), HB5.out⟩
  | true =>
    obtain ⟨t, ht⟩ : ∃ t, decide (q = r) = t := ⟨_, rfl⟩
    have htn : (q != r) = !t := by rw [← ht]; cases h : decide (q = r) <;> simp_all
    have Ht := Lib.hid ht
    clear ht
    cases t with
    | true =>
      refine plan_region' (S := (fun w' => (∀ b o, b < (W).heap.size → w'.cell? ⟨b, o, none⟩ = (W).cell? ⟨b, o, none⟩) ∧ (∀ b o, b < (W).heap.size → w'.frozen? ⟨b, o, none⟩ = (W).frozen? ⟨b, o, none⟩) ∧ Below (W).heap.size (W) w')) [(0, true), (1, true), (2, false), (3, true), (4, true), (5, true), (6, true), (7, true), (8, true), (9, true), (11, true), (10, false), (12, true), (13, true), (14, true)] (by kernel_rfl) (by kernel_rfl) (fun _ _ d _ _ h => by cases d <;> exact h) (keepW0 _) (fun hS => ?_)
      simp only [picked, List.getElem?_cons_succ, List.getElem?_cons_zero]
      iterate 2
       refine row_free (v := ?_) (by rfl) ?_ ?_; rotate_left 1; focus (intro w hSw; (try dsimp only at hSw); go_simp; (try with_reducible rfl))
       (try simp only [Act.put, tA, tB, tC])
      refine row_call (by rfl) (fun K hK => ?_)
      go_simp
      (refine (HR.out _).mono ?_; rintro e w5 ⟨rfl, hb5⟩)
      (try go_wp2_with fail)
      refine hK.out _ _ ?_ (fun hS' => ?_)
      · (try dsimp only); first | exact keepW (by assumption) (by assumption) | exact keepB (by assumption) (by assumption) | exact keepA (by assumption) | assumption
      clear hS hK K
      have hS := hS'
      clear hS'
      iterate 8
       (try simp only [Act.put, tA, tB, tC])
       refine row_free (v := ?_) (by rfl) ?_ ?_; rotate_left 1; focus (intro w hSw; (try dsimp only at hSw); go_simp; (try with_reducible rfl))
      (try simp only [Act.put, tA, tB, tC])
      refine row_call (by rfl) (fun K hK => ?_)
      go_simp
      (refine (HO.out _).mono ?_; rintro e w6 ⟨rfl, hb6⟩)
      (try go_wp2_with fail)
      refine hK.out _ _ ?_ (fun hS' => ?_)
      · (try dsimp only); first | exact keepW (by assumption) (by assumption) | exact keepB (by assumption) (by assumption) | exact keepA (by assumption) | assumption
      clear hS hK K
      have hS := hS'
      clear hS'
      iterate 3
       (try simp only [Act.put, tA, tB, tC])
       refine row_free (v := ?_) (by rfl) ?_ ?_; rotate_left 1; focus (intro w hSw; (try dsimp only at hSw); go_simp; (try with_reducible rfl))
      (try simp only [Act.put, tA, tB, tC])
      refine row_done ?_
      have HB5 := Lib.hid (nextW HB.out hS.2.2)
      clear hS hb5 hb6
      go_wp2
      go_ret
      exact ⟨ret_bool (by rw [HQ.out, Ht.out]; simp), HB5.out⟩
    | false =>
      refine plan_region' (S := (fun w' => (∀ b o, b < (W).heap.size → w'.cell? ⟨b, o, none⟩ = (W).cell? ⟨b, o, none⟩) ∧ (∀ b o, b < (W).heap.size → w'.frozen? ⟨b, o, none⟩ = (W).frozen? ⟨b, o, none⟩) ∧ Below (W).heap.size (W) w')) [(0, true), (1, true), (2, false), (3, true), (4, true), (5, true), (6, true), (7, true), (8, true), (9, true), (11, true), (10, false), (12, true), (13, true), (14, true)] (by kernel_rfl) (by kernel_rfl) (fun _ _ d _ _ h => by cases d <;> exact h) (keepW0 _) (fun hS => ?_)
      simp only [picked, List.getElem?_cons_succ, List.getElem?_cons_zero]
      iterate 2
       refine row_free (v := ?_) (by rfl) ?_ ?_; rotate_left 1; focus (intro w hSw; (try dsimp only at hSw); go_simp; (try with_reducible rfl))
       (try simp only [Act.put, tA, tB, tC])
      refine row_call (by rfl) (fun K hK => ?_)
      go_simp
      (refine (HR.out _).mono ?_; rintro e w5 ⟨rfl, hb5⟩)
      (try go_wp2_with fail)
      refine hK.out _ _ ?_ (fun hS' => ?_)
      · (try dsimp only); first | exact keepW (by assumption) (by assumption) | exact keepB (by assumption) (by assumption) | exact keepA (by assumption) | assumption
      clear hS hK K
      have hS := hS'
      clear hS'
      iterate 8
       (try simp only [Act.put, tA, tB, tC])
       refine row_free (v := ?_) (by rfl) ?_ ?_; rotate_left 1; focus (intro w hSw; (try dsimp only at hSw); go_simp; (try with_reducible rfl))
      (try simp only [Act.put, tA, tB, tC])
      refine row_call (by rfl) (fun K hK => ?_)
      go_simp
      (refine (HO.out _).mono ?_; rintro e w6 ⟨rfl, hb6⟩)
      (try go_wp2_with fail)
      refine hK.out _ _ ?_ (fun hS' => ?_)
      · (try dsimp only); first | exact keepW (by assumption) (by assumption) | exact keepB (by assumption) (by assumption) | exact keepA (by assumption) | assumption
      clear hS hK K
      have hS := hS'
      clear hS'
      iterate 3
       (try simp only [Act.put, tA, tB, tC])
       refine row_free (v := ?_) (by rfl) ?_ ?_; rotate_left 1; focus (intro w hSw; (try dsimp only at hSw); go_simp; (try with_reducible rfl))
      (try simp only [Act.put, tA, tB, tC])
      refine row_done ?_
      have HB5 := Lib.hid (nextW HB.out hS.2.2)
      clear hS hb5 hb6
      go_wp2
      go_ret
      exact ⟨ret_bool (by rw [HQ.out, Ht.out]; simp), HB5.out⟩

set_option maxHeartbeats 2000000 in
theorem anystray_any (a b p n s r : Int) (v : Value) (l : List Ent) (g h : Nat) (w : World) (hv : IsSl entC w v l) (hn : l.length ≤ 1000000) (hg : CfgBox w g ⟨a, b, p, n, s⟩) (hh : w.cell? ⟨h, 0, none⟩ = some (.int .i64 r)) :
    Calls Tryz.prog 154 #[v, .func (.func 151) #[] #[.pointer (some ⟨g, 0, none⟩), .pointer (some ⟨h, 0, none⟩)]] w
      fun z w' => z = .returned (.bool (!l.all (hereOk a b p n r))) ∧ Below w.heap.size w w' := by
  obtain ⟨A, c, rfl, -, -, hat⟩ := hv
  have Hat := Lib.hid hat
  obtain ⟨N, hnn⟩ : ∃ N, l.length = N := ⟨_, rfl⟩
  rw [hnn] at hn ⊢
  have Hn := Lib.hid hnn
  clear hat hnn
  have HF := Lib.hid (show l.all (hereOk a b p n r) = (l.drop 0).all (hereOk a b p n r) from by simp)
  generalize l.all (hereOk a b p n r) = q at *
  have HT := Lib.hid (fun y w hg hh => strays_any a b p n s r y g h w hg hh)
  have Hg := Lib.hid hg
  have Hh := Lib.hid hh
  clear hg hh
  go_enter Tryz.func154, Tryz.ntmps154
  go_wp2_with (go_at_call 210; go_in)
  go_loopw [8] (fun i wr => ∃ k : Nat, k ≤ N ∧ i = .int .i64 k ∧ q = (l.drop k).all (hereOk a b p n r) ∧ Below w.heap.size w wr) (fun i _ => N - (intOf i).toNat)
  case atStart => exact ⟨0, Nat.zero_le _, rfl, HF.out, Below.refl _ _⟩
  case round =>
    obtain ⟨k, hk, rfl, hr, hbel⟩ := hrel
    have Hr := Lib.hid hr
    have Hbel := Lib.hid hbel
    clear hr hbel
    by_cases hlt : k < N
    · obtain ⟨x, hx⟩ := getE l k N Hn.out hlt
      have HX := Lib.hid (drop_at hx)
      obtain ⟨bb, off, rfl, hc⟩ := elem_Ent (Hat.out.below Hbel.out) hx
      obtain ⟨c0, c1, c2, c3, c4, c5, c6, c7, c8⟩ := hc
      clear hx
      go_wp2_with fail
      refine (HT.out x _ (Hg.out.below Hbel.out Hg.out.has) ((Hbel.out.cell (p := ⟨h, 0, none⟩) (World.block_lt_of_cell? _ _ Hh.out)).trans Hh.out)).mono ?_
      rintro e w4 ⟨rfl, hb4⟩
      have Hb4 := Lib.hid (nextW Hbel.out hb4)
      clear hb4 c0 c1 c2 c3 c4 c5 c6 c7 c8 HT
      cases hxy : hereOk a b p n r x with
      | false =>
        have Hxy := Lib.hid hxy
        clear hxy
        go_wp2
        go_ret
        exact ⟨ret_bool (by rw [Hr.out, HX.out, List.all_cons, Hxy.out]; simp), Hb4.out⟩
      | true =>
        have Hxy := Lib.hid hxy
        clear hxy
        go_wp2
        go_roundw
        case rel => exact ⟨k + 1, by omega, by go_num, by rw [Hr.out, HX.out, List.all_cons, Hxy.out, Bool.true_and], Hb4.out⟩
        case measure => simp [intOf]; omega
    · obtain rfl : k = N := by omega
      go_wp2
      go_ret
      exact ⟨ret_bool (by rw [Hr.out, List.drop_eq_nil_of_le (by have := Hn.out; omega)]; simp), Hbel.out⟩

/-- May a region be? -/
def rgB (a b p n r f : Int) (l : List Ent) : Bool := hasB a b p n r && decide (0 ≤ f ∧ f ≤ 10000) && srt l && decide (things l ≤ 24) && l.all (hereOk a b p n r)

set_option maxHeartbeats 4000000 in
theorem rgright_any (a b p n s r f : Int) (v : Value) (l : List Ent) (w : World) (hv : IsSl entC w v l) (hn : l.length ≤ 1000) :
    Calls Tryz.prog 86 #[.agg #[.int .i64 a, .int .i64 b, .int .i64 p, .int .i64 n, .int .u64 s], .int .i64 r, .agg #[.int .i64 f, v]] w fun z w' => z = .returned (.bool (rgB a b p n r f l)) ∧ Below w.heap.size w w' := by
  have HH := Lib.hid (fun w => rhas_any a b p n s r w)
  have HS := Lib.hid (fun w1 hv => sorted_any v l w1 hv hn)
  have HT := Lib.hid (fun w1 hv => things_any v l w1 hv hn)
  have HA := Lib.hid (fun g h w1 hv hg hh => anystray_any a b p n s r v l g h w1 hv (by omega) hg hh)
  have HQ := Lib.hid (show rgB a b p n r f l = (hasB a b p n r && decide (0 ≤ f ∧ f ≤ 10000) && srt l && decide (things l ≤ 24) && l.all (hereOk a b p n r)) from rfl)
  have HV := Lib.hid hv
  obtain ⟨A, c, rfl, -⟩ := hv
  generalize rgB a b p n r f l = z at *
  generalize hasB a b p n r = q1 at *
  generalize srt l = q3 at *
  generalize things l = q4 at *
  generalize l.all (hereOk a b p n r) = q5 at *
  go_enter Tryz.func86, Tryz.ntmps86
  go_upto_region 1 with fail
  generalize hW : World.alloc _ _ = W
  have BG := Lib.hid (show CfgBox W w.heap.size ⟨a, b, p, n, s⟩ from by rw [← hW]; exact CfgBox.n3a _ ⟨a, b, p, n, s⟩ _ _ _ rfl)
  have BS := Lib.hid (show RegBox W (w.heap.size + 1 + 1) ⟨f, .slice A l.length c⟩ from by rw [← hW]; exact RegBox.n3c _ ⟨f, .slice A l.length c⟩ _ _ _ rfl)
  have HB := Lib.hid (show Below w.heap.size w W from by rw [← hW]; exact (((Below.refl _ _).alloc (Nat.le_refl _) _).alloc (by simp) _).alloc (by simp; omega) _)
  have Hh := Lib.hid (show W.cell? ⟨w.heap.size + 1, 0, none⟩ = some (.int .i64 r) from by rw [← hW, World.cell?_alloc_lt _ _ _ (by simp), cell_box _ _ _ _ _ (by simp)]; rfl)
  clear hW
  have hh := Hh.out
  have hhh := World.block_lt_of_cell? _ _ hh
  have hgg := BG.out.has
  have hss := BS.out.has
  obtain ⟨g0, g1, g2, g3, g4, -⟩ := BG.out
  go_wp2_with fail
  refine (HH.out _).mono ?_
  rintro e w1 ⟨rfl, hb1⟩
  replace HB := Lib.hid (nextW HB.out hb1)
  replace BG := Lib.hid (BG.out.nx hb1)
  replace BS := Lib.hid (BS.out.nx hb1)
  replace Hh := Lib.hid ((hb1.cell (p := ⟨w.heap.size + 1, 0, none⟩) hhh).trans Hh.out)
  clear hb1 g0 g1 g2 g3 g4 hh hhh hgg hss HH
  cases q1 with
  | false =>
    go_wp2
    go_ret
    exact ⟨ret_bool (by rw [HQ.out]; simp), HB.out⟩
  | true =>
    have hss := BS.out.has
    obtain ⟨s0, s1, -⟩ := BS.out
    by_cases hf0 : f < 0
    · have hd0 : decide (f < 0) = true := decide_eq_true hf0
      have Hf := Lib.hid (show decide (0 ≤ f ∧ f ≤ 10000) = false from decide_eq_false (by omega))
      go_wp2
      go_ret
      exact ⟨ret_bool (by rw [HQ.out, Hf.out]; simp), HB.out⟩
    · have hd0 : decide (f < 0) = false := decide_eq_false hf0
      by_cases hf1 : 10000 < f
      · have hd1 : decide (10000 < f) = true := decide_eq_true hf1
        have Hf := Lib.hid (show decide (0 ≤ f ∧ f ≤ 10000) = false from decide_eq_false (by omega))
        go_wp2
        go_ret
        exact ⟨ret_bool (by rw [HQ.out, Hf.out]; simp), HB.out⟩
      · have hd1 : decide (10000 < f) = false := decide_eq_false hf1
        have Hf := Lib.hid (show decide (0 ≤ f ∧ f ≤ 10000) = true from decide_eq_true (by omega))
        rw [Hf.out] at HQ
        clear hf0 hf1
        go_wp2_with fail
        refine (HS.out _ (HV.out.below HB.out)).mono ?_
        rintro e w2 ⟨rfl, hb2⟩
        replace HB := Lib.hid (nextW HB.out hb2)
        replace BG := Lib.hid (BG.out.nx hb2)
        replace Hh := Lib.hid ((hb2.cell (p := ⟨w.heap.size + 1, 0, none⟩) (World.block_lt_of_cell? _ _ Hh.out)).trans Hh.out)
        replace BS := Lib.hid (BS.out.nx hb2)
        clear hb2 s0 s1 hss HS
        cases q3 with
        | false =>
          go_wp2
          go_ret
          exact ⟨ret_bool (by rw [HQ.out]; simp), HB.out⟩
        | true =>
          have hss := BS.out.has
          obtain ⟨s0, s1, -⟩ := BS.out
          go_wp2_with fail
          refine (HT.out _ (HV.out.below HB.out)).mono ?_
          rintro e w3 ⟨rfl, hb3⟩
          replace HB := Lib.hid (nextW HB.out hb3)
          replace BG := Lib.hid (BG.out.nx hb3)
          replace Hh := Lib.hid ((hb3.cell (p := ⟨w.heap.size + 1, 0, none⟩) (World.block_lt_of_cell? _ _ Hh.out)).trans Hh.out)
          replace BS := Lib.hid (BS.out.nx hb3)
          clear hb3 s0 s1 hss HT
          by_cases hq4 : 24 < q4
          · have hd4 : decide (24 < q4) = true := decide_eq_true hq4
            have H4 := Lib.hid (show decide (q4 ≤ 24) = false from decide_eq_false (by omega))
            go_wp2
            go_ret
            exact ⟨ret_bool (by rw [HQ.out, H4.out]; simp), HB.out⟩
          · have hd4 : decide (24 < q4) = false := decide_eq_false hq4
            have H4 := Lib.hid (show decide (q4 ≤ 24) = true from decide_eq_true (by omega))
            have hss := BS.out.has
            obtain ⟨s0, s1, -⟩ := BS.out
            go_wp2_with fail
            refine (HA.out _ _ _ (HV.out.below HB.out) BG.out Hh.out).mono ?_
            rintro e w4 ⟨rfl, hb4⟩
            replace HB := Lib.hid (nextW HB.out hb4)
            clear hb4 s0 s1 hss HA BG BS Hh
            go_wp2
            go_ret
            exact ⟨ret_bool (by rw [HQ.out, H4.out]; simp), HB.out⟩

end Go.Proofs.YtlpkaljepaclpaaGreat.Fx
namespace Go.Proofs.YtlpkaljepaclpaaGreat.Fx
open Go.ChangeShapes Go.WideShapes Go.ChangeAt Go.RowKit
set_option linter.unusedVariables false
set_option maxRecDepth 100000

def ordB (x y : Crs) : Bool := !(decide (y.src < x.src) || (decide (x.src = y.src) && lessB y x))
def inOrd : List Crs → Bool
  | [] => true
  | [_] => true
  | x :: y :: l => ordB x y && inOrd (y :: l)
def mayB (a b p n r f : Int) (es : List Ent) (l : List Crs) : Bool := rgB a b p n r f es && (l.all (crightB a b p n) && (l.all (fun c => decide (c.dst = r ∧ c.frame = f - 1)) && inOrd l))

def tkB (a b p n r : Int) (x : List Int) : Rb × Int :=
  if (Rd.base ⟨x, 0⟩).2.e ≠ 0 then (⟨0, [], []⟩, (Rd.base ⟨x, 0⟩).2.e)
  else if (Rd.base ⟨x, 0⟩).2.l ≠ [] then (⟨0, [], []⟩, 4)
  else if mayB a b p n r (Rd.base ⟨x, 0⟩).1.f (Rd.base ⟨x, 0⟩).1.es (Rd.base ⟨x, 0⟩).1.l then ((Rd.base ⟨x, 0⟩).1, 0) else (⟨0, [], []⟩, 4)

end Go.Proofs.YtlpkaljepaclpaaGreat.Fx
namespace Go.Proofs.YtlpkaljepaclpaaGreat.Fx
open Go.ChangeShapes Go.WideShapes Go.ChangeAt Go.RowKit

theorem keepOf {W w : World} (h3 : Below W.heap.size W w) :
    (∀ c p, c < W.heap.size → w.cell? ⟨c, p, none⟩ = W.cell? ⟨c, p, none⟩) ∧ (∀ c p, c < W.heap.size → w.frozen? ⟨c, p, none⟩ = W.frozen? ⟨c, p, none⟩) ∧ Below W.heap.size W w :=
  ⟨fun b o hlt => h3.cell (p := ⟨b, o, none⟩) hlt, fun b o hlt => h3.frozen (p := ⟨b, o, none⟩) hlt, h3⟩

end Go.Proofs.YtlpkaljepaclpaaGreat.Fx
