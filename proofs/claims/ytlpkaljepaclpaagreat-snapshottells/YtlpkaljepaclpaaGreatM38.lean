/- The document's own reading of entities; PackCross. -/
import Derived.Test.YtlpkaljepaclpaaGreatM36
import Derived.Test.YtlpkaljepaclpaaGreatM37
import Derived.Test.YtlpkaljepaclpaaGreatM15
import Derived.Test.YtlpkaljepaclpaaGreatM16
import Derived.Test.YtlpkaljepaclpaaGreatM20
namespace Go.Proofs.YtlpkaljepaclpaaGreat.Fx
open Go.ChangeShapes Go.WideShapes Go.ChangeAt Go.RowKit
set_option linter.unusedVariables false
set_option maxRecDepth 100000

/-- Bytes and a number, of the call's own. -/
def RetPk (l : List Int) (q : Int) (w : World) (e : Ending) (w' : World) : Prop := ∃ v, e = .returned (.tuple #[v, .int .i64 q]) ∧ ownB w.heap.size w' v l ∧ Below w.heap.size w w'

def fpkC (a b p n : Int) (l : List Crs) : List Int × Int := if l.all (crightB a b p n) then (packM l, 0) else ([], 4)

set_option maxHeartbeats 4000000 in
theorem fpack_any (a b p n s : Int) (u : Value) (l : List Crs) (w : World) (hu : IsSl crsC w u l) (hn : l.length ≤ 5000) :
    Calls Tryz.prog 29 #[.agg #[.int .i64 a, .int .i64 b, .int .i64 p, .int .i64 n, .int .u64 s], u] w (RetPk (fpkC a b p n l).1 (fpkC a b p n l).2 w) := by
  have HX := Lib.hid (fun x w => rcross_any a b p n s x w)
  have HC := Lib.hid (fun w1 hb hv => fcrosses_any w.heap.size (.slice none 0 0) [] u l w1 (ownB.nil _ _) hb (by simp) hv hn)
  have HQ := Lib.hid (show fpkC a b p n l = if l.all (crightB a b p n) then (packM l, 0) else ([], 4) from rfl)
  have HU := Lib.hid hu
  obtain ⟨B, d, rfl, -⟩ := hu
  obtain ⟨N, hnn⟩ : ∃ n, l.length = n := ⟨_, rfl⟩
  have Hn := Lib.hid hnn
  rw [hnn] at HU HC hn ⊢
  have HF := Lib.hid (show l.all (crightB a b p n) = (l.drop 0).all (crightB a b p n) from by simp)
  generalize l.all (crightB a b p n) = q at *
  generalize fpkC a b p n l = Q at *
  generalize packM l = M at *
  clear hnn
  go_enter Tryz.func29, Tryz.ntmps29
  go_wp2
  go_loopw [6] (fun i wr => ∃ k : Nat, k ≤ N ∧ i = .int .i64 k ∧ q = (l.drop k).all (crightB a b p n) ∧ CfgBox wr w.heap.size ⟨a, b, p, n, s⟩ ∧ Below w.heap.size w wr) (fun i _ => N - (intOf i).toNat)
  case atStart => exact ⟨0, Nat.zero_le _, rfl, HF.out, CfgBox.n1 _ ⟨a, b, p, n, s⟩ _ rfl, (Below.refl _ _).alloc (Nat.le_refl _) _⟩
  case round =>
    obtain ⟨k, hk, rfl, hr, hg, hbel⟩ := hrel
    have Hr := Lib.hid hr
    have BG := Lib.hid hg
    have Hbel := Lib.hid hbel
    clear hr hg hbel
    by_cases hlt : k < N
    · obtain ⟨x, hx⟩ := getE l k N Hn.out hlt
      have HD := Lib.hid (drop_at hx)
      obtain ⟨bb, off, rfl, hc⟩ := elem_Crs (HU.out.below Hbel.out).at hx
      have hbw : bb < wr.heap.size := World.block_lt_of_cell? _ _ hc.1
      obtain ⟨c0, c1, c2, c3, c4, c5, c6, c7, c8, c9, c10, c11, c12, c13, c14⟩ := hc
      have hgl := BG.out.has
      obtain ⟨g0, g1, g2, g3, g4, -⟩ := BG.out
      have hki : (k : Int) < (N : Int) := by omega
      clear hx
      go_upto_region 4 with fail
      refine plan_region' (S := (fun w' => (∀ b o, b < (wr).heap.size → w'.cell? ⟨b, o, none⟩ = (wr).cell? ⟨b, o, none⟩) ∧ (∀ b o, b < (wr).heap.size → w'.frozen? ⟨b, o, none⟩ = (wr).frozen? ⟨b, o, none⟩) ∧ Below (wr).heap.size (wr) w')) [(0, true), (1, true), (2, true), (3, true), (4, true), (5, false), (6, true)] (by kernel_rfl) (by kernel_rfl) (fun _ _ d _ _ h => by cases d <;> exact h) (keepW0 _) (fun hS => ?_)
      simp only [picked, List.getElem?_cons_succ, List.getElem?_cons_zero]
      iterate 5
       refine row_free (v := ?_) (by rfl) ?_ ?_; rotate_left 1; focus (intro w hSw; (try dsimp only at hSw); go_simp; (try with_reducible rfl))
       (try simp only [Act.put, tA, tB, tC])
      refine row_call (by rfl) (fun K hK => ?_)
      go_simp
      (refine (HX.out x _).mono ?_; rintro e w5 ⟨rfl, hb5⟩)
      (try go_wp2_with fail)
      refine hK.out _ _ ?_ (fun hS' => ?_)
      · (try dsimp only); first | exact keepW (by assumption) (by assumption) | exact keepB (by assumption) (by assumption) | exact keepA (by assumption) | assumption
      clear hS hK K
      have hS := hS'
      clear hS'
      (try simp only [Act.put, tA, tB, tC])
      refine row_free (v := ?_) (by rfl) ?_ ?_; rotate_left 1; focus (intro w hSw; (try dsimp only at hSw); go_simp; (try with_reducible rfl))
      (try simp only [Act.put, tA, tB, tC])
      refine row_done ?_
      have NX := nextW Hbel.out hS.2.2
      replace BG := Lib.hid (BG.out.nx hS.2.2)
      clear hS hb5 c0 c1 c2 c3 c4 c5 c6 c7 c8 c9 c10 c11 c12 c13 c14 g0 g1 g2 g3 g4 hgl
      cases hxy : crightB a b p n x with
      | false =>
        have HY := Lib.hid (show q = false from by rw [Hr.out, HD.out, List.all_cons, hxy]; rfl)
        rw [HY.out] at HQ
        clear hxy
        go_wp2
        refine bodyPost_ret (v := .tuple #[.slice none 0 0, .int .i64 4]) (by simp [results, Tryz.results29, go_sem]) rfl ⟨.slice none 0 0, by rw [HQ.out]; first | done | rfl, by rw [HQ.out]; exact ownB.nil _ _, NX⟩
      | true =>
        have HY := Lib.hid (show q = (l.drop (k + 1)).all (crightB a b p n) from by rw [Hr.out, HD.out, List.all_cons, hxy]; rfl)
        clear hxy
        go_wp2
        go_roundw
        case rel => exact ⟨k + 1, by omega, by go_num, HY.out, BG.out, NX⟩
        case measure => simp [intOf]; omega
    · obtain rfl : k = N := by omega
      have HY := Lib.hid (show q = true from by rw [Hr.out, List.drop_eq_nil_of_le (by rw [Hn.out]; exact Nat.le_refl _)]; rfl)
      rw [HY.out] at HQ
      go_wp2_with fail
      refine (HC.out _ Hbel.out.size (HU.out.below Hbel.out)).mono ?_
      rintro e w5 ⟨v5, rfl, ho5, hb5⟩
      have HO5 := Lib.hid ho5
      have NX := nextW Hbel.out hb5
      clear ho5 hb5
      go_wp2
      refine bodyPost_ret (v := .tuple #[v5, .int .i64 0]) (by simp [results, Tryz.results29, go_sem]) rfl ⟨v5, by rw [HQ.out]; first | done | rfl, by rw [HQ.out]; simpa using HO5.out, NX⟩

/-- The document's reader in block c, over bytes that lie ahead of it. -/
def Rx (w : World) (c : Nat) (v : Value) (L : List Int) (r : Rd) : Prop := (∃ p, RfAt w c v L p r) ∧ ∀ a n k, v = .slice (some a) n k → 0 < n → a.block < c

theorem Rx.bel {w w' : World} {c : Nat} {v : Value} {L : List Int} {r : Rd} (h : Rx w c v L r) (hb : Below w.heap.size w w') : Rx w' c v L r := by
  obtain ⟨⟨p, h⟩, hv⟩ := h
  exact ⟨⟨p, h.below hb⟩, hv⟩

theorem Rx.to {w w' : World} {c : Nat} {v : Value} {L : List Int} {r r' : Rd} (h : Rx w c v L r) (h' : ∃ p, RfAt w' c v L p r') : Rx w' c v L r' := ⟨h', h.2⟩

theorem grown_setX (w : World) (c o : Nat) (v : Value) : w.grownBy (w.setCell ⟨c, o, none⟩ v) (some c) :=
  ⟨rfl, rfl, rfl, by simp, fun k hk hne => Below.heap_setCell _ _ _ _ (by intro e; apply hne; rw [e])⟩

theorem Rx.far {w : World} {c : Nat} {v : Value} {L : List Int} {r : Rd} (h : Rx w c v L r) {d : Nat} (hd : c < d) (o : Nat) (x : Value) : Rx (w.setCell ⟨d, o, none⟩ x) c v L r := by
  obtain ⟨⟨p, h⟩, hv⟩ := h
  exact ⟨⟨p, h.grown (grown_setX w d o x) (by omega) (fun a n k e h0 => by have := hv a n k e h0; omega)⟩, hv⟩

theorem Rx.row {w w' : World} {c : Nat} {v : Value} {L : List Int} {r : Rd} (h : Rx w c v L r) {row : Option Nat} (hg : w.grownBy w' row) (hr : ∀ p, row = some p → c < p) : Rx w' c v L r := by
  cases row with
  | none => exact h.bel ⟨hg.os, hg.tape, hg.output, hg.size, fun k hk => hg.block k hk (by simp)⟩
  | some d =>
    have hd := hr d rfl
    obtain ⟨⟨p, h⟩, hv⟩ := h
    exact ⟨⟨p, h.grown hg (by omega) (fun a n k e h0 => by have := hv a n k e h0; omega)⟩, hv⟩

theorem Rx.lt {w : World} {c : Nat} {v : Value} {L : List Int} {r : Rd} (h : Rx w c v L r) : c < w.heap.size := by
  obtain ⟨⟨p, h⟩, -⟩ := h
  exact h.lt

/-- All but the block c stays. -/
theorem grown_bel {w0 w w' : World} {c : Nat} (h : Below w0.heap.size w0 w) (hg : w.grownBy w' (some c)) (hc : w0.heap.size ≤ c) : Below w0.heap.size w0 w' :=
  h.trans ⟨hg.os, hg.tape, hg.output, hg.size, fun k hk => by
    rcases Nat.lt_or_ge k w.heap.size with h1 | h1
    · exact hg.block k h1 (by simp; omega)
    · have := h.size; omega⟩

theorem EntBox.oth2 {w w' : World} {g b : Nat} {y : Ent} (h : EntBox w g y) (hg : w.grownBy w' (some b)) (hne : g ≠ b) : EntBox w' g y :=
  EntBox.of (fun q => World.cell?_of_block (a := ⟨g, q, none⟩) (hg.block g h.has (by simpa using hne))) (fun q => World.frozen?_of_block (a := ⟨g, q, none⟩) (hg.block g h.has (by simpa using hne))) h

theorem grown_new {w w1 w2 : World} {c d : Nat} (h : w.grownBy w1 (some c)) (hg : w1.grownBy w2 (some d)) (hd : w.heap.size ≤ d) : w.grownBy w2 (some c) :=
  ⟨hg.os.trans h.os, hg.tape.trans h.tape, hg.output.trans h.output, Nat.le_trans h.size hg.size, fun k hk hne => (hg.block k (Nat.lt_of_lt_of_le hk h.size) (by simp; omega)).trans (h.block k hk hne)⟩

theorem fint_nx (c : Nat) (v : Value) (L : List Int) (r : Rd) (hok : ByOk L) (hL : L.length ≤ 1000000) (k k' : Nat) (hk : k' = k + 1) (w : World) (h : Rx w c v L (r.nx k)) :
    Calls Tryz.prog 82 #[.pointer (some ⟨c, 0, none⟩)] w fun e w' => e = .returned (.int .i64 (r.num k)) ∧ Rx w' c v L (r.nx k') ∧ w.grownBy w' (some c) := by
  subst hk
  obtain ⟨⟨p, h1⟩, hv⟩ := h
  exact (fint_any c v L p (r.nx k) w h1 hok hL).mono fun e w' ⟨a1, a2, a3⟩ => ⟨a1, ⟨a2, hv⟩, a3⟩

set_option maxHeartbeats 4000000 in
theorem fentityT_any (c : Nat) (v : Value) (L : List Int) (hok : ByOk L) (hL : L.length ≤ 1000000) (r : Rd) (w : World) (h : Rx w c v L r) :
    Calls Tryz.prog 84 #[.pointer (some ⟨c, 0, none⟩)] w fun z w' => z = .returned (.agg #[.int .i64 r.ent.1.id, .int .i64 r.ent.1.kind, .int .i64 r.ent.1.x, .int .i64 r.ent.1.y, .int .i64 r.ent.1.vx, .int .i64 r.ent.1.vy, .int .i64 r.ent.1.health, .int .i64 r.ent.1.age, .int .i64 r.ent.1.owner]) ∧ Rx w' c v L r.ent.2 ∧ w.grownBy w' (some c) := by
  have HI := Lib.hid (fint_nx c v L r hok hL)
  have HE := Lib.hid (show r.ent = (⟨r.num 0, r.num 1, r.num 2, r.num 3, r.num 4, r.num 5, r.num 6, r.num 7, r.num 8⟩, r.nx 9) from rfl)
  have H0 := Lib.hid (show Rx w c v L (r.nx 0) from h)
  have hcl := h.lt
  generalize r.ent = RE at *
  clear h
  go_enter Tryz.func84, Tryz.ntmps84
  go_upto_region 1 with fail
  generalize hW : World.alloc _ _ = W
  have BE0 := Lib.hid (show EntBox W w.heap.size ⟨0, 0, 0, 0, 0, 0, 0, 0, 0⟩ from by rw [← hW]; exact EntBox.n1 _ ⟨0, 0, 0, 0, 0, 0, 0, 0, 0⟩ _ rfl)
  have HG0 := Lib.hid (show w.grownBy W (some c) from by rw [← hW]; exact grown_below ((Below.refl _ _).alloc (Nat.le_refl _) _))
  replace H0 := Lib.hid (show Rx W c v L (r.nx 0) from by rw [← hW]; exact H0.out.bel ((Below.refl _ _).alloc (Nat.le_refl _) _))
  clear hW
  go_wp2_with fail
  refine (HI.out 0 1 rfl _ H0.out).mono ?_
  rintro e w1 ⟨rfl, h1, hg1⟩
  have H1 := Lib.hid h1
  have HG1 := Lib.hid (grown_trans HG0.out hg1)
  have BE1 := Lib.hid (BE0.out.oth2 hg1 (by omega))
  clear h1 hg1 H0 HG0 BE0
  go_wp2_with fail
  refine (HI.out 1 2 rfl _ H1.out).mono ?_
  rintro e w2 ⟨rfl, h2, hg2⟩
  have H2 := Lib.hid h2
  have HG2 := Lib.hid (grown_trans HG1.out hg2)
  have BE2 := Lib.hid (BE1.out.oth2 hg2 (by omega))
  clear h2 hg2 H1 HG1 BE1
  go_wp2_with fail
  refine (HI.out 2 3 rfl _ H2.out).mono ?_
  rintro e w3 ⟨rfl, h3, hg3⟩
  have H3 := Lib.hid h3
  have HG3 := Lib.hid (grown_trans HG2.out hg3)
  have BE3 := Lib.hid (BE2.out.oth2 hg3 (by omega))
  clear h3 hg3 H2 HG2 BE2
  go_wp2_with fail
  refine (HI.out 3 4 rfl _ H3.out).mono ?_
  rintro e w4 ⟨rfl, h4, hg4⟩
  have H4 := Lib.hid h4
  have HG4 := Lib.hid (grown_trans HG3.out hg4)
  have BE4 := Lib.hid (BE3.out.oth2 hg4 (by omega))
  clear h4 hg4 H3 HG3 BE3
  go_wp2_with fail
  refine (HI.out 4 5 rfl _ H4.out).mono ?_
  rintro e w5 ⟨rfl, h5, hg5⟩
  have H5 := Lib.hid h5
  have HG5 := Lib.hid (grown_trans HG4.out hg5)
  have BE5 := Lib.hid (BE4.out.oth2 hg5 (by omega))
  clear h5 hg5 H4 HG4 BE4
  go_wp2_with fail
  refine (HI.out 5 6 rfl _ H5.out).mono ?_
  rintro e w6 ⟨rfl, h6, hg6⟩
  have H6 := Lib.hid h6
  have HG6 := Lib.hid (grown_trans HG5.out hg6)
  have BE6 := Lib.hid (BE5.out.oth2 hg6 (by omega))
  clear h6 hg6 H5 HG5 BE5
  go_wp2_with fail
  refine (HI.out 6 7 rfl _ H6.out).mono ?_
  rintro e w7 ⟨rfl, h7, hg7⟩
  have H7 := Lib.hid h7
  have HG7 := Lib.hid (grown_trans HG6.out hg7)
  have BE7 := Lib.hid (BE6.out.oth2 hg7 (by omega))
  clear h7 hg7 H6 HG6 BE6
  go_wp2_with fail
  refine (HI.out 7 8 rfl _ H7.out).mono ?_
  rintro e w8 ⟨rfl, h8, hg8⟩
  have H8 := Lib.hid h8
  have HG8 := Lib.hid (grown_trans HG7.out hg8)
  have BE8 := Lib.hid (BE7.out.oth2 hg8 (by omega))
  clear h8 hg8 H7 HG7 BE7
  go_wp2_with fail
  refine (HI.out 8 9 rfl _ H8.out).mono ?_
  rintro e w9 ⟨rfl, h9, hg9⟩
  have H9 := Lib.hid h9
  have HG9 := Lib.hid (grown_trans HG8.out hg9)
  have BE9 := Lib.hid (BE8.out.oth2 hg9 (by omega))
  clear h9 hg9 H8 HG8 BE8
  have hgl := BE9.out.has
  generalize hgx : w.heap.size = gx at *
  obtain ⟨c0, c1, c2, c3, c4, c5, c6, c7, c8, f0, f1, f2, f3, f4, f5, f6, f7, f8⟩ := BE9.out
  generalize r.num 0 = n0 at *
  generalize r.num 1 = n1 at *
  generalize r.num 2 = n2 at *
  generalize r.num 3 = n3 at *
  generalize r.num 4 = n4 at *
  generalize r.num 5 = n5 at *
  generalize r.num 6 = n6 at *
  generalize r.num 7 = n7 at *
  generalize r.num 8 = n8 at *
  go_wp2
  refine bodyPost_ret (v := .agg #[.int .i64 (⟨n0, n1, n2, n3, n4, n5, n6, n7, n8⟩ : Ent).id, .int .i64 (⟨n0, n1, n2, n3, n4, n5, n6, n7, n8⟩ : Ent).kind, .int .i64 (⟨n0, n1, n2, n3, n4, n5, n6, n7, n8⟩ : Ent).x, .int .i64 (⟨n0, n1, n2, n3, n4, n5, n6, n7, n8⟩ : Ent).y, .int .i64 (⟨n0, n1, n2, n3, n4, n5, n6, n7, n8⟩ : Ent).vx, .int .i64 (⟨n0, n1, n2, n3, n4, n5, n6, n7, n8⟩ : Ent).vy, .int .i64 (⟨n0, n1, n2, n3, n4, n5, n6, n7, n8⟩ : Ent).health, .int .i64 (⟨n0, n1, n2, n3, n4, n5, n6, n7, n8⟩ : Ent).age, .int .i64 (⟨n0, n1, n2, n3, n4, n5, n6, n7, n8⟩ : Ent).owner]) (by simp [results, Tryz.results84, go_sem, c0, c1, c2, c3, c4, c5, c6, c7, c8]) rfl ⟨by rw [HE.out], ?_, ?_⟩
  · rw [HE.out]
    iterate 9 (refine Rx.far ?_ (by omega) _ _)
    exact H9.out
  · iterate 9 (refine grown_new ?_ (grown_setX _ _ _ _) (by omega))
    exact HG9.out

end Go.Proofs.YtlpkaljepaclpaaGreat.Fx
