/- The document's own May. -/
import Derived.Test.YtlpkaljepaclpaaGreatM40
import Derived.Test.YtlpkaljepaclpaaGreatM21
import Derived.Test.YtlpkaljepaclpaaGreatM41
namespace Go.Proofs.YtlpkaljepaclpaaGreat.Fx
open Go.ChangeShapes Go.WideShapes Go.ChangeAt Go.RowKit
set_option linter.unusedVariables false
set_option maxRecDepth 100000

theorem rgB_fx {a b p n r f : Int} {es : List Ent} (h : rgB a b p n r f es = true) : 0 ≤ f ∧ f ≤ 10000 := by
  unfold rgB at h
  simp only [Bool.and_eq_true, decide_eq_true_eq] at h
  exact h.1.1.1.2

/-- What is still to be asked, from message k on. -/
def restB (R F : Crs → Bool) (l : List Crs) (k : Nat) : Bool := (l.drop k).all R && ((l.drop k).all F && inOrd (l.drop (k - 1)))

theorem rest_end {R F : Crs → Bool} {l : List Crs} {k : Nat} (h : l.length ≤ k) : restB R F l k = true := by
  unfold restB
  rw [List.drop_eq_nil_of_le h, inOrd_short (by rw [List.length_drop]; omega)]
  simp

theorem rest_first {R F : Crs → Bool} {l : List Crs} {x : Crs} (h : l[0]? = some x) : restB R F l 0 = (R x && (F x && restB R F l 1)) := by
  cases l with
  | nil => simp at h
  | cons y t =>
    simp only [List.getElem?_cons_zero, Option.some.injEq] at h
    subst h
    show ((y :: t).all R && ((y :: t).all F && inOrd (y :: t))) = (R y && (F y && (t.all R && (t.all F && inOrd (y :: t)))))
    rw [List.all_cons, List.all_cons]
    cases R y <;> cases F y <;> simp

theorem rest_next {R F : Crs → Bool} {l : List Crs} {k : Nat} {x y : Crs} (h0 : 0 < k) (hy : l[k - 1]? = some y) (h : l[k]? = some x) : restB R F l k = (R x && (F x && (ordB y x && restB R F l (k + 1)))) := by
  unfold restB
  have hd := drop_at h
  have he := drop_at hy
  rw [show k - 1 + 1 = k by omega] at he
  rw [he, hd, inOrd_cons, List.all_cons, List.all_cons, Nat.add_sub_cancel, hd]
  cases R x <;> cases F x <;> cases ordB y x <;> simp

set_option maxHeartbeats 8000000 in
theorem fmay_any (a b p n s r f : Int) (vE : Value) (es : List Ent) (vL : Value) (l : List Crs) (w : World) (hE : IsSl entC w vE es) (hne : es.length ≤ 1000) (hL : IsSl crsC w vL l) (hnl : l.length ≤ 1000000) :
    Calls Tryz.prog 39 #[.agg #[.int .i64 a, .int .i64 b, .int .i64 p, .int .i64 n, .int .u64 s], .int .i64 r, .agg #[.int .i64 f, vE, vL]] w fun z w' => z = .returned (.bool (mayB a b p n r f es l)) ∧ Below w.heap.size w w' := by
  have HR := Lib.hid (fun w1 hv => rrgright_any a b p n s r f vE es w1 hv hne)
  have HX := Lib.hid (fun x w => rcross_any a b p n s x w)
  have HLe := Lib.hid rless_any
  have HF := Lib.hid (fun h => rgB_fx (a := a) (b := b) (p := p) (n := n) (r := r) (f := f) (es := es) h)
  obtain ⟨F, hF⟩ : ∃ F : Crs → Bool, F = (fun c => decide (c.dst = r ∧ c.frame = f - 1)) := ⟨_, rfl⟩
  have HQ := Lib.hid (show mayB a b p n r f es l = (rgB a b p n r f es && restB (crightB a b p n) F l 0) from by rw [hF]; rfl)
  have HFx := Lib.hid (show ∀ c, F c = decide (c.dst = r ∧ c.frame = f - 1) from fun c => by rw [hF])
  have HE := Lib.hid hE
  have HL := Lib.hid hL
  obtain ⟨AE, cE, rfl, -⟩ := hE
  obtain ⟨AL, cL, rfl, -⟩ := hL
  obtain ⟨nE, hnE⟩ : ∃ n, es.length = n := ⟨_, rfl⟩
  rw [hnE] at HE HR ⊢
  obtain ⟨N, hN⟩ : ∃ n, l.length = n := ⟨_, rfl⟩
  have Hn := Lib.hid hN
  rw [hN] at HL hnl ⊢
  generalize mayB a b p n r f es l = z at *
  generalize rgB a b p n r f es = q1 at *
  clear hF hnE hN hne
  go_enter Tryz.func39, Tryz.ntmps39
  go_upto_region 1 with fail
  generalize hW : World.alloc _ _ = W
  have BG := Lib.hid (show CfgBox W w.heap.size ⟨a, b, p, n, s⟩ from by rw [← hW]; exact CfgBox.n2a _ ⟨a, b, p, n, s⟩ _ _ rfl)
  have BS := Lib.hid (show Blk W (w.heap.size + 1) 63 #[.int .i64 f, .slice AE nE cE, .slice AL N cL] from by rw [← hW]; exact Blk.new' _ _ _ (by simp))
  have HB := Lib.hid (show Below w.heap.size w W from by rw [← hW]; exact ((Below.refl _ _).alloc (Nat.le_refl _) _).alloc (by simp) _)
  clear hW
  have hgg := BG.out.has
  have hss := BS.out.lt
  have s0 : W.cell? ⟨w.heap.size + 1, 0, none⟩ = some (.int .i64 f) := BS.out.cell 0
  have s1 : W.cell? ⟨w.heap.size + 1, 1, none⟩ = some (.slice AE nE cE) := BS.out.cell 1
  obtain ⟨g0, g1, g2, g3, g4, -⟩ := BG.out
  go_wp2_with fail
  refine (HR.out _ (HE.out.below HB.out)).mono ?_
  rintro e w1 ⟨rfl, hb1⟩
  have NX := nextW HB.out hb1
  replace HB := Lib.hid NX
  replace BG := Lib.hid (BG.out.nx hb1)
  replace BS := Lib.hid (BS.out.below hb1 hss)
  clear NX hb1 g0 g1 g2 g3 g4 hgg hss HR s0 s1
  cases q1 with
  | false =>
    go_wp2
    go_ret
    exact ⟨ret_bool (by rw [HQ.out]; simp), HB.out⟩
  | true =>
    have hf := HF.out rfl
    have hwf : wrap64 (f - 1) = f - 1 := IntWalk.wrap64_in _ (by omega)
    have hwf' : IntKind.i64.wrap (f - 1) = f - 1 := by rw [IntKind.wrap_i64]; omega
    have HQ1 := Lib.hid (show z = restB (crightB a b p n) F l 0 from by rw [HQ.out]; simp)
    clear HQ
    go_wp2
    go_loopw [7] (fun i wr => ∃ k : Nat, k ≤ N ∧ i = .int .i64 k ∧ z = restB (crightB a b p n) F l k ∧ CfgBox wr w.heap.size ⟨a, b, p, n, s⟩ ∧ Blk wr (w.heap.size + 1) 63 #[.int .i64 f, .slice AE nE cE, .slice AL N cL] ∧ Below w.heap.size w wr) (fun i _ => N - (intOf i).toNat)
    case atStart => exact ⟨0, Nat.zero_le _, rfl, HQ1.out, BG.out, BS.out, HB.out⟩
    case round =>
      clear HQ1 BG BS HB
      obtain ⟨k, hk, rfl, hr, hg, hs, hbel⟩ := hrel
      have Hr := Lib.hid hr
      have BG := Lib.hid hg
      have BS := Lib.hid hs
      have HB := Lib.hid hbel
      have hsl := hs.lt
      have s0 : wr.cell? ⟨w.heap.size + 1, 0, none⟩ = some (.int .i64 f) := hs.cell 0
      have s2 : wr.cell? ⟨w.heap.size + 1, 2, none⟩ = some (.slice AL N cL) := hs.cell 2
      clear hr hg hs hbel
      by_cases hlt : k < N
      · obtain ⟨x, hx⟩ := getE l k N Hn.out hlt
        have HGx := Lib.hid hx
        obtain ⟨bb, off, rfl, hc⟩ := elem_Crs (HL.out.below HB.out).at hx
        obtain ⟨c0, c1, c2, c3, c4, c5, c6, c7, c8, c9, c10, c11, c12, c13, c14⟩ := hc
        have hki : (k : Int) < (N : Int) := by omega
        clear hx
        go_upto_region 7 with fail
        generalize hW : World.alloc _ _ = W2 at *
        have BX := Lib.hid (show CrsBox W2 wr.heap.size x from by rw [← hW]; exact CrsBox.n1 _ x _ rfl)
        have hal : Below wr.heap.size wr W2 := by rw [← hW]; exact (Below.refl _ _).alloc (Nat.le_refl _) _
        have NX := nextW HB.out hal
        replace HB := Lib.hid NX
        replace BG := Lib.hid (BG.out.nx hal)
        replace BS := Lib.hid (BS.out.below hal hsl)
        clear hW hal NX c0 c1 c2 c3 c4 c5 c6 c7 c8 c9 c10 c11 c12 c13 c14 s0 s2 hsl
        generalize wr.heap.size = gx at *
        have hgx := BX.out.has
        have hgg := BG.out.has
        obtain ⟨c0, c1, c2, c3, c4, c5, c6, c7, c8, c9, c10, c11, c12, c13, c14, -⟩ := BX.out
        obtain ⟨g0, g1, g2, g3, g4, -⟩ := BG.out
        have hq := HX.out x W2
        obtain ⟨q, hqq⟩ : ∃ q, crightB a b p n x = q := ⟨_, rfl⟩
        rw [hqq] at hq
        have Hq := Lib.hid hq
        have HRx := Lib.hid hqq
        clear hq hqq
        have hsl := BS.out.lt
        have s0 : W2.cell? ⟨w.heap.size + 1, 0, none⟩ = some (.int .i64 f) := BS.out.cell 0
        go_wp2_with fail
        refine Hq.out.mono ?_
        rintro e w5 ⟨rfl, hb5⟩
        have NX := nextW HB.out hb5
        replace HB := Lib.hid NX
        replace BG := Lib.hid (BG.out.nx hb5)
        replace BS := Lib.hid (BS.out.below hb5 hsl)
        replace BX := Lib.hid (BX.out.nx hb5)
        clear hb5 NX c0 c1 c2 c3 c4 c5 c6 c7 c8 c9 c10 c11 c12 c13 c14 g0 g1 g2 g3 g4 hgg hgx hsl s0 Hq
        have hgx := BX.out.has
        obtain ⟨c0, c1, c2, c3, c4, c5, c6, c7, c8, c9, c10, c11, c12, c13, c14, -⟩ := BX.out
        have hsl := BS.out.lt
        have s0 : w5.cell? ⟨w.heap.size + 1, 0, none⟩ = some (.int .i64 f) := BS.out.cell 0
        have s2 : w5.cell? ⟨w.heap.size + 1, 2, none⟩ = some (.slice (some ⟨bb, off, none⟩) N cL) := BS.out.cell 2
        have HRF := Lib.hid (show (crightB a b p n x && F x) = false → z = false from fun h => by
          rcases Nat.eq_zero_or_pos k with h0 | h0
          · subst h0
            rw [Hr.out, rest_first HGx.out, ← Bool.and_assoc, h]; rfl
          · obtain ⟨y, hy⟩ := getE l (k - 1) N Hn.out (by omega)
            rw [Hr.out, rest_next h0 hy HGx.out, ← Bool.and_assoc, h]; rfl)
        cases q with
        | false =>
          have HY := Lib.hid (show z = false from HRF.out (by rw [HRx.out]; rfl))
          go_wp2
          go_ret
          exact ⟨ret_bool (by rw [HY.out]; first | done | simp), HB.out⟩
        | true =>
          by_cases h1 : x.dst = r
          · have h1' : (x.dst != r) = false := by simpa using h1
            by_cases h2 : x.frame = f - 1
            · have h2' : (x.frame != f - 1) = false := by simpa using h2
              have HFt := Lib.hid (show F x = true from by rw [HFx.out]; exact decide_eq_true ⟨h1, h2⟩)
              clear h1 h2 HRF
              by_cases h0 : k = 0
              · have HY := Lib.hid (show z = restB (crightB a b p n) F l (k + 1) from by
                  have h9 := HGx.out
                  have h8 := Hr.out
                  rw [h0] at h9 h8 ⊢
                  rw [h8, rest_first h9, HRx.out, HFt.out]; simp)
                have hk0 : decide ((0 : Int) < (k : Int)) = false := decide_eq_false (by omega)
                have hk0n : decide (0 < k) = false := decide_eq_false (by omega)
                clear h0
                go_upto_region 9 with fail
                refine plan_region' (S := (fun w' => (∀ b o, b < (w5).heap.size → w'.cell? ⟨b, o, none⟩ = (w5).cell? ⟨b, o, none⟩) ∧ (∀ b o, b < (w5).heap.size → w'.frozen? ⟨b, o, none⟩ = (w5).frozen? ⟨b, o, none⟩) ∧ Below (w5).heap.size (w5) w')) [(0, true), (1, true), (2, true), (3, true), (4, true), (5, true), (6, true), (7, true), (8, true), (9, true), (10, true), (11, true), (12, true), (13, true), (14, true), (15, true), (16, true), (17, true), (18, true), (19, true), (20, true), (21, true), (22, true), (23, true), (24, true), (25, true), (26, true), (27, true), (28, true), (29, true), (30, true), (31, true), (32, false), (33, true), (34, true), (35, true)] (by kernel_rfl) (by kernel_rfl) (fun _ _ d _ _ h => by cases d <;> exact h) (keepW0 _) (fun hS => ?_)
                simp only [picked, List.getElem?_cons_succ, List.getElem?_cons_zero]
                iterate 3
                 refine row_free (v := ?_) (by rfl) ?_ ?_; rotate_left 1; focus (intro w hSw; (try dsimp only at hSw); go_simp; (try with_reducible rfl))
                 (try simp only [Act.put, tA, tB, tC])
                iterate 29
                 refine row_off (by rfl) ?_
                 (try simp only [Act.put, tA, tB, tC])
                refine row_off' (by rfl) hS ?_
                iterate 2
                 (try simp only [Act.put, tA, tB, tC])
                 refine row_off (by rfl) ?_
                (try simp only [Act.put, tA, tB, tC])
                refine row_free (v := ?_) (by rfl) ?_ ?_; rotate_left 1; focus (intro w hSw; (try dsimp only at hSw); go_simp; (try with_reducible rfl))
                (try simp only [Act.put, tA, tB, tC])
                refine row_done ?_
                have NX := nextW HB.out hS.2.2
                have BG9 := Lib.hid (BG.out.nx hS.2.2)
                have BS9 := Lib.hid (BS.out.below hS.2.2 hsl)
                clear hS c0 c1 c2 c3 c4 c5 c6 c7 c8 c9 c10 c11 c12 c13 c14
                go_wp2
                go_roundw
                case rel => exact ⟨k + 1, by omega, by go_num, HY.out, BG9.out, BS9.out, NX⟩
                case measure => simp [intOf]; omega

              · have hkp : decide ((0 : Int) < (k : Int)) = true := decide_eq_true (by omega)
                have hkpn : decide (0 < k) = true := decide_eq_true (by omega)
                obtain ⟨y, hy⟩ := getE l (k - 1) N Hn.out (by omega)
                have HN := Lib.hid (show z = (ordB y x && restB (crightB a b p n) F l (k + 1)) from by rw [Hr.out, rest_next (by omega) hy HGx.out, HRx.out, HFt.out]; simp)
                have HO := Lib.hid (show ordB y x = !(decide (x.src < y.src) || (decide (y.src = x.src) && lessB x y)) from rfl)
                obtain ⟨b2, off2, hb2, hd⟩ := elem_Crs (HL.out.below HB.out).at hy
                cases hb2
                have hbw : bb < w5.heap.size := World.block_lt_of_cell? _ _ hd.1
                obtain ⟨d0, d1, d2, d3, d4, d5, d6, d7, d8, d9, d10, d11, d12, d13, d14⟩ := hd
                have hki : (k : Int) < (N : Int) := by omega
                have hq1 : ((k : Int) - 1).toNat = k - 1 := by omega
                have hq2 : (1 : Int) ≤ (k : Int) := by omega
                have hq3 : (k : Int) - 1 < (N : Int) := by omega
                have hq4 : IntKind.i64.wrap ((k : Int) - 1) = (k : Int) - 1 := by rw [IntKind.wrap_i64]; omega
                clear hy
                by_cases h3 : x.src < y.src
                · have h3' : decide (x.src < y.src) = true := decide_eq_true h3
                  have HY := Lib.hid (show z = false from by rw [HN.out, HO.out, h3']; rfl)
                  clear h3
                  go_upto_region 9 with fail
                  refine plan_region' (S := (fun w' => (∀ b o, b < (w5).heap.size → w'.cell? ⟨b, o, none⟩ = (w5).cell? ⟨b, o, none⟩) ∧ (∀ b o, b < (w5).heap.size → w'.frozen? ⟨b, o, none⟩ = (w5).frozen? ⟨b, o, none⟩) ∧ Below (w5).heap.size (w5) w')) [(0, true), (1, true), (2, true), (3, true), (4, true), (5, true), (6, true), (7, true), (8, true), (9, true), (10, true), (11, true), (12, true), (13, true), (14, true), (15, true), (16, true), (17, true), (18, true), (19, true), (20, true), (21, true), (22, true), (23, true), (24, true), (25, true), (26, true), (27, true), (28, true), (29, true), (30, true), (31, true), (32, false), (33, true), (34, true), (35, true)] (by kernel_rfl) (by kernel_rfl) (fun _ _ d _ _ h => by cases d <;> exact h) (keepW0 _) (fun hS => ?_)
                  simp only [picked, List.getElem?_cons_succ, List.getElem?_cons_zero]
                  iterate 14
                   refine row_free (v := ?_) (by rfl) ?_ ?_; rotate_left 1; focus (intro w hSw; (try dsimp only at hSw); go_simp; (try with_reducible rfl))
                   (try simp only [Act.put, tA, tB, tC])
                  iterate 18
                   refine row_off (by rfl) ?_
                   (try simp only [Act.put, tA, tB, tC])
                  refine row_off' (by rfl) hS ?_
                  (try simp only [Act.put, tA, tB, tC])
                  refine row_off (by rfl) ?_
                  iterate 2
                   (try simp only [Act.put, tA, tB, tC])
                   refine row_free (v := ?_) (by rfl) ?_ ?_; rotate_left 1; focus (intro w hSw; (try dsimp only at hSw); go_simp; (try with_reducible rfl))
                  (try simp only [Act.put, tA, tB, tC])
                  refine row_done ?_
                  have NX := nextW HB.out hS.2.2
                  clear hS c0 c1 c2 c3 c4 c5 c6 c7 c8 c9 c10 c11 c12 c13 c14
                  go_wp2
                  go_ret
                  exact ⟨ret_bool (by rw [HY.out]; first | done | simp), NX⟩

                · have h3' : decide (x.src < y.src) = false := decide_eq_false h3
                  by_cases h4 : x.src = y.src
                  · have h4' : (x.src == y.src) = true := by simpa using h4
                    have hO2 : ordB y x = !lessB x y := by rw [HO.out, h3', decide_eq_true h4.symm]; simp
                    obtain ⟨t, ht⟩ : ∃ t, lessB x y = t := ⟨_, rfl⟩
                    have HL2 := Lib.hid (show ∀ w, Calls Tryz.prog 90 #[.agg #[.int .i64 x.kind, .int .i64 x.src, .int .i64 x.dst, .int .i64 x.frame, .int .i64 x.e.id, .int .i64 x.e.kind, .int .i64 x.e.x, .int .i64 x.e.y, .int .i64 x.e.vx, .int .i64 x.e.vy, .int .i64 x.e.health, .int .i64 x.e.age, .int .i64 x.e.owner, .int .i64 x.x, .int .i64 x.y], .agg #[.int .i64 y.kind, .int .i64 y.src, .int .i64 y.dst, .int .i64 y.frame, .int .i64 y.e.id, .int .i64 y.e.kind, .int .i64 y.e.x, .int .i64 y.e.y, .int .i64 y.e.vx, .int .i64 y.e.vy, .int .i64 y.e.health, .int .i64 y.e.age, .int .i64 y.e.owner, .int .i64 y.x, .int .i64 y.y]] w (fun e w' => e = .returned (.bool t) ∧ Below w.heap.size w w') from fun w => by rw [← ht]; exact HLe.out x y w)
                    rw [ht] at hO2
                    have HO2 := Lib.hid hO2
                    clear h4 h3 ht hO2
                    cases t with
                    | true =>
                      have HY := Lib.hid (show z = false from by rw [HN.out, HO2.out]; rfl)
                      go_upto_region 9 with fail
                      refine plan_region' (S := (fun w' => (∀ b o, b < (w5).heap.size → w'.cell? ⟨b, o, none⟩ = (w5).cell? ⟨b, o, none⟩) ∧ (∀ b o, b < (w5).heap.size → w'.frozen? ⟨b, o, none⟩ = (w5).frozen? ⟨b, o, none⟩) ∧ Below (w5).heap.size (w5) w')) [(0, true), (1, true), (2, true), (3, true), (4, true), (5, true), (6, true), (7, true), (8, true), (9, true), (10, true), (11, true), (12, true), (13, true), (14, true), (15, true), (16, true), (17, true), (18, true), (19, true), (20, true), (21, true), (22, true), (23, true), (24, true), (25, true), (26, true), (27, true), (28, true), (29, true), (30, true), (31, true), (32, false), (33, true), (34, true), (35, true)] (by kernel_rfl) (by kernel_rfl) (fun _ _ d _ _ h => by cases d <;> exact h) (keepW0 _) (fun hS => ?_)
                      simp only [picked, List.getElem?_cons_succ, List.getElem?_cons_zero]
                      iterate 32
                       refine row_free (v := ?_) (by rfl) ?_ ?_; rotate_left 1; focus (intro w hSw; (try dsimp only at hSw); go_simp; (try with_reducible rfl))
                       (try simp only [Act.put, tA, tB, tC])
                      refine row_call (by rfl) (fun K hK => ?_)
                      go_simp
                      (refine (HL2.out _).mono ?_; rintro e w9 ⟨rfl, hb9⟩)
                      (try go_wp2_with fail)
                      refine hK.out _ _ ?_ (fun hS' => ?_)
                      · (try dsimp only); first | exact keepW (by assumption) (by assumption) | exact keepB (by assumption) (by assumption) | exact keepA (by assumption) | assumption
                      clear hS hK K
                      have hS := hS'
                      clear hS'
                      iterate 3
                       (try simp only [Act.put, tA, tB, tC])
                       refine row_free (v := ?_) (by rfl) ?_ ?_; rotate_left 1; focus (intro w hSw; (try dsimp only at hSw); go_simp; (try with_reducible rfl))
                      (try simp only [Act.put, tA, tB, tC])
                      refine row_done ?_
                      have NX := nextW HB.out hS.2.2
                      clear hS c0 c1 c2 c3 c4 c5 c6 c7 c8 c9 c10 c11 c12 c13 c14
                      go_wp2
                      go_ret
                      exact ⟨ret_bool (by rw [HY.out]; first | done | simp), NX⟩

                    | false =>
                      have HY := Lib.hid (show z = restB (crightB a b p n) F l (k + 1) from by rw [HN.out, HO2.out]; simp)
                      go_upto_region 9 with fail
                      refine plan_region' (S := (fun w' => (∀ b o, b < (w5).heap.size → w'.cell? ⟨b, o, none⟩ = (w5).cell? ⟨b, o, none⟩) ∧ (∀ b o, b < (w5).heap.size → w'.frozen? ⟨b, o, none⟩ = (w5).frozen? ⟨b, o, none⟩) ∧ Below (w5).heap.size (w5) w')) [(0, true), (1, true), (2, true), (3, true), (4, true), (5, true), (6, true), (7, true), (8, true), (9, true), (10, true), (11, true), (12, true), (13, true), (14, true), (15, true), (16, true), (17, true), (18, true), (19, true), (20, true), (21, true), (22, true), (23, true), (24, true), (25, true), (26, true), (27, true), (28, true), (29, true), (30, true), (31, true), (32, false), (33, true), (34, true), (35, true)] (by kernel_rfl) (by kernel_rfl) (fun _ _ d _ _ h => by cases d <;> exact h) (keepW0 _) (fun hS => ?_)
                      simp only [picked, List.getElem?_cons_succ, List.getElem?_cons_zero]
                      iterate 32
                       refine row_free (v := ?_) (by rfl) ?_ ?_; rotate_left 1; focus (intro w hSw; (try dsimp only at hSw); go_simp; (try with_reducible rfl))
                       (try simp only [Act.put, tA, tB, tC])
                      refine row_call (by rfl) (fun K hK => ?_)
                      go_simp
                      (refine (HL2.out _).mono ?_; rintro e w9 ⟨rfl, hb9⟩)
                      (try go_wp2_with fail)
                      refine hK.out _ _ ?_ (fun hS' => ?_)
                      · (try dsimp only); first | exact keepW (by assumption) (by assumption) | exact keepB (by assumption) (by assumption) | exact keepA (by assumption) | assumption
                      clear hS hK K
                      have hS := hS'
                      clear hS'
                      iterate 3
                       (try simp only [Act.put, tA, tB, tC])
                       refine row_free (v := ?_) (by rfl) ?_ ?_; rotate_left 1; focus (intro w hSw; (try dsimp only at hSw); go_simp; (try with_reducible rfl))
                      (try simp only [Act.put, tA, tB, tC])
                      refine row_done ?_
                      have NX := nextW HB.out hS.2.2
                      have BG9 := Lib.hid (BG.out.nx hS.2.2)
                      have BS9 := Lib.hid (BS.out.below hS.2.2 hsl)
                      clear hS c0 c1 c2 c3 c4 c5 c6 c7 c8 c9 c10 c11 c12 c13 c14
                      go_wp2
                      go_roundw
                      case rel => exact ⟨k + 1, by omega, by go_num, HY.out, BG9.out, BS9.out, NX⟩
                      case measure => simp [intOf]; omega

                  · have h4' : (x.src == y.src) = false := by simpa using h4
                    have HY := Lib.hid (show z = restB (crightB a b p n) F l (k + 1) from by rw [HN.out, HO.out, h3', decide_eq_false (fun h => h4 h.symm)]; simp)
                    clear h3 h4
                    go_upto_region 9 with fail
                    refine plan_region' (S := (fun w' => (∀ b o, b < (w5).heap.size → w'.cell? ⟨b, o, none⟩ = (w5).cell? ⟨b, o, none⟩) ∧ (∀ b o, b < (w5).heap.size → w'.frozen? ⟨b, o, none⟩ = (w5).frozen? ⟨b, o, none⟩) ∧ Below (w5).heap.size (w5) w')) [(0, true), (1, true), (2, true), (3, true), (4, true), (5, true), (6, true), (7, true), (8, true), (9, true), (10, true), (11, true), (12, true), (13, true), (14, true), (15, true), (16, true), (17, true), (18, true), (19, true), (20, true), (21, true), (22, true), (23, true), (24, true), (25, true), (26, true), (27, true), (28, true), (29, true), (30, true), (31, true), (32, false), (33, true), (34, true), (35, true)] (by kernel_rfl) (by kernel_rfl) (fun _ _ d _ _ h => by cases d <;> exact h) (keepW0 _) (fun hS => ?_)
                    simp only [picked, List.getElem?_cons_succ, List.getElem?_cons_zero]
                    iterate 25
                     refine row_free (v := ?_) (by rfl) ?_ ?_; rotate_left 1; focus (intro w hSw; (try dsimp only at hSw); go_simp; (try with_reducible rfl))
                     (try simp only [Act.put, tA, tB, tC])
                    iterate 7
                     refine row_off (by rfl) ?_
                     (try simp only [Act.put, tA, tB, tC])
                    refine row_off' (by rfl) hS ?_
                    iterate 3
                     (try simp only [Act.put, tA, tB, tC])
                     refine row_free (v := ?_) (by rfl) ?_ ?_; rotate_left 1; focus (intro w hSw; (try dsimp only at hSw); go_simp; (try with_reducible rfl))
                    (try simp only [Act.put, tA, tB, tC])
                    refine row_done ?_
                    have NX := nextW HB.out hS.2.2
                    have BG9 := Lib.hid (BG.out.nx hS.2.2)
                    have BS9 := Lib.hid (BS.out.below hS.2.2 hsl)
                    clear hS c0 c1 c2 c3 c4 c5 c6 c7 c8 c9 c10 c11 c12 c13 c14
                    go_wp2
                    go_roundw
                    case rel => exact ⟨k + 1, by omega, by go_num, HY.out, BG9.out, BS9.out, NX⟩
                    case measure => simp [intOf]; omega

            · have h2' : (x.frame != f - 1) = true := by simpa using h2
              have HY := Lib.hid (show z = false from HRF.out (by rw [HRx.out, HFx.out, decide_eq_false (fun h => h2 h.2)]; rfl))
              clear h1 h2
              go_wp2
              go_ret
              exact ⟨ret_bool (by rw [HY.out]; first | done | simp), HB.out⟩
          · have h1' : (x.dst != r) = true := by simpa using h1
            have HY := Lib.hid (show z = false from HRF.out (by rw [HRx.out, HFx.out, decide_eq_false (fun h => h1 h.1)]; rfl))
            clear h1
            go_wp2
            go_ret
            exact ⟨ret_bool (by rw [HY.out]; first | done | simp), HB.out⟩
      · obtain rfl : k = N := by omega
        have HY := Lib.hid (show z = true from by rw [Hr.out]; exact rest_end (by rw [Hn.out]; exact Nat.le_refl _))
        go_wp2
        go_ret
        exact ⟨ret_bool (by rw [HY.out]; first | done | simp), HB.out⟩

end Go.Proofs.YtlpkaljepaclpaaGreat.Fx
