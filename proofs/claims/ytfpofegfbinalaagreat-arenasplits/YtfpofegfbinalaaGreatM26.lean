/- The turn's call raise: those who fell blow up where they are, and begin anew. -/
import Derived.Test.YtfpofegfbinalaaGreatM25
import Derived.Test.YtfpofegfbinalaaGreatM24
import Derived.Test.YtfpofegfbinalaaGreatM18
import Derived.Test.YtfpofegfbinalaaGreatM16
import Derived.Test.YtfpofegfbinalaaGreatM15
import Derived.Test.YtfpofegfbinalaaGreatM04
namespace Go.Proofs.YtfpofegfbinalaaGreat.Fx
open Go.ChangeShapes Go.WideShapes Go.ChangeAt Go.RowKit
set_option linter.unusedVariables false
set_option maxRecDepth 100000

theorem nr_le (a b p n r : Int) : (nr a b p n r).length ≤ 16 := by
  unfold nr
  split
  · rename_i h
    obtain ⟨-, -, -, ha, ha4, hb, hb4, -⟩ := hasB_rt h
    have := nrTo_len a r (a * b).toNat
    have := mul_le4 ha ha4 hb hb4
    omega
  · simp

/-- Those who fell so far. -/
def stF (a b p n s r f : Int) (L : List Ent) (k : Nat) : List Ent × List Crs := ((fallenL L).take k).foldl (fall1 a b p n s r f) (L, [])

theorem stF_succ {a b p n s r f : Int} {L : List Ent} {k : Nat} (h : k < (fallenL L).length) : stF a b p n s r f L (k + 1) = fall1 a b p n s r f (stF a b p n s r f L k) (gi (fallenL L) k) := by
  unfold stF
  rw [take_gi _ h, List.foldl_append]
  rfl

theorem turn_ids {l : List Ent} {id : Int} {z : Ent} (hz : z.id = id) : (turn l id z).map Ent.id = l.map Ent.id := by
  unfold turn
  rw [List.map_map]
  refine List.map_congr_left fun e _ => ?_
  simp only [Function.comp_apply]
  split <;> omega

theorem fall1_yes {a b p n s r f : Int} {st : List Ent × List Crs} {e : Ent} (hr : Rise st.1) (he : e ∈ st.1) : fall1 a b p n s r f st e.id = (turn st.1 e.id (anew a b p n s r f e), st.2 ++ (nr a b p n r).map fun t => ⟨2, r, t, f, e0, e.x, e.y⟩) := by
  unfold fall1
  rw [ofId_mem hr he]

theorem stF_ok {a b p n s r f : Int} {L : List Ent} (h : Rise L) (k : Nat) : Rise (stF a b p n s r f L k).1 ∧ (stF a b p n s r f L k).1.map Ent.id = L.map Ent.id ∧ (stF a b p n s r f L k).2.length ≤ ((fallenL L).take k).length * 16 := by
  unfold stF
  have key : ∀ (ids : List Int) (st : List Ent × List Crs), Rise st.1 → st.1.map Ent.id = L.map Ent.id → Rise (ids.foldl (fall1 a b p n s r f) st).1 ∧ (ids.foldl (fall1 a b p n s r f) st).1.map Ent.id = L.map Ent.id ∧ (ids.foldl (fall1 a b p n s r f) st).2.length ≤ st.2.length + ids.length * 16 := by
    intro ids
    induction ids with
    | nil => exact fun st h1 h2 => ⟨h1, h2, by simp⟩
    | cons i t ih =>
      intro st h1 h2
      rw [List.foldl_cons]
      cases hx : ofId st.1 i with
      | none =>
        rw [show fall1 a b p n s r f st i = st from by unfold fall1; rw [hx]]
        obtain ⟨r1, r2, r3⟩ := ih st h1 h2
        exact ⟨r1, r2, by rw [List.length_cons]; omega⟩
      | some e =>
        obtain ⟨he, rfl⟩ := ofId_some hx
        rw [fall1_yes h1 he]
        obtain ⟨r1, r2, r3⟩ := ih (turn st.1 e.id (anew a b p n s r f e), st.2 ++ (nr a b p n r).map fun t => ⟨2, r, t, f, e0, e.x, e.y⟩) (turn_rise h1 rfl) (by show (turn st.1 e.id (anew a b p n s r f e)).map Ent.id = _; exact (turn_ids (l := st.1) (id := e.id) (z := anew a b p n s r f e) rfl).trans h2)
        refine ⟨r1, r2, Nat.le_trans r3 ?_⟩
        have := nr_le a b p n r
        rw [List.length_append, List.length_map, List.length_cons]
        omega
  have := key ((fallenL L).take k) (L, []) h rfl
  simpa using this

theorem fallen_mem {L : List Ent} {id : Int} (h : id ∈ fallenL L) : id ∈ L.map Ent.id := by
  unfold fallenL at h
  obtain ⟨e, he, rfl⟩ := List.mem_map.1 h
  exact List.mem_map.2 ⟨e, (List.mem_filter.1 he).1, rfl⟩

theorem own_four {w : World} {base n g cap : Nat} {es : List Ent} (h : w.ownsRow base 45 9 (.slice (some ⟨g, 0, none⟩) n cap) n (es.flatMap entC)) {k : Nat} {y : Ent} (hk : es[k]? = some y) {W : World}
    (hW : ((((w.setCell ⟨g, k * 9 + 6, none⟩ (.int .i64 100)).setCell ⟨g, k * 9 + 4, none⟩ (.int .i64 0)).setCell ⟨g, k * 9 + 5, none⟩ (.int .i64 0)).setCell ⟨g, k * 9 + 7, none⟩ (.int .i64 0)) = W) :
    W.ownsRow base 45 9 (.slice (some ⟨g, 0, none⟩) n cap) n ((es.set k ⟨y.id, y.kind, y.x, y.y, 0, 0, 100, 0, y.owner⟩).flatMap entC) ∧ w.grownBy W (some g) := by
  subst hW
  have hl := (List.getElem?_eq_some_iff.1 hk).1
  obtain ⟨h1, g1⟩ := own_put_Ent h (z := ⟨y.id, y.kind, y.x, y.y, y.vx, y.vy, 100, y.age, y.owner⟩) hk (show 6 < 9 by omega) rfl
  obtain ⟨h2, g2⟩ := own_put_Ent h1 (z := ⟨y.id, y.kind, y.x, y.y, 0, y.vy, 100, y.age, y.owner⟩) (List.getElem?_set_self hl) (show 4 < 9 by omega) rfl
  rw [List.set_set] at h2
  obtain ⟨h3, g3⟩ := own_put_Ent h2 (z := ⟨y.id, y.kind, y.x, y.y, 0, 0, 100, y.age, y.owner⟩) (List.getElem?_set_self hl) (show 5 < 9 by omega) rfl
  rw [List.set_set] at h3
  obtain ⟨h4, g4⟩ := own_put_Ent h3 (z := ⟨y.id, y.kind, y.x, y.y, 0, 0, 100, 0, y.owner⟩) (List.getElem?_set_self hl) (show 7 < 9 by omega) rfl
  rw [List.set_set] at h4
  exact ⟨h4, grown_trans (grown_trans (grown_trans g1 g2) g3) g4⟩

theorem own_two {w : World} {base n g cap : Nat} {es : List Ent} (h : w.ownsRow base 45 9 (.slice (some ⟨g, 0, none⟩) n cap) n (es.flatMap entC)) {k : Nat} {y : Ent} (hk : es[k]? = some y) (X Y : Int) {W : World}
    (hW : ((w.setCell ⟨g, k * 9 + 2, none⟩ (.int .i64 X)).setCell ⟨g, k * 9 + 3, none⟩ (.int .i64 Y)) = W) :
    W.ownsRow base 45 9 (.slice (some ⟨g, 0, none⟩) n cap) n ((es.set k ⟨y.id, y.kind, X, Y, y.vx, y.vy, y.health, y.age, y.owner⟩).flatMap entC) ∧ w.grownBy W (some g) := by
  subst hW
  have hl := (List.getElem?_eq_some_iff.1 hk).1
  obtain ⟨h1, g1⟩ := own_put_Ent h (z := ⟨y.id, y.kind, X, y.y, y.vx, y.vy, y.health, y.age, y.owner⟩) hk (show 2 < 9 by omega) rfl
  obtain ⟨h2, g2⟩ := own_put_Ent h1 (z := ⟨y.id, y.kind, X, Y, y.vx, y.vy, y.health, y.age, y.owner⟩) (List.getElem?_set_self hl) (show 3 < 9 by omega) rfl
  rw [List.set_set] at h2
  exact ⟨h2, grown_trans g1 g2⟩

set_option maxHeartbeats 8000000 in
theorem traise_any {B b : Nat} {w : World} {T : Trn} {L : List Ent} {O : List Crs} (h : Turn B w b T L O) (hr : Rise L) (hn : L.length ≤ 1000) (hO : O.length ≤ 1000) (hs : 0 ≤ T.seed ∧ T.seed < 18446744073709551616) :
    Calls Tryz.prog 57 #[.pointer (some ⟨b, 0, none⟩)] w fun z w' => z = .returned (.tuple #[]) ∧
      (∃ vo, Turn B w' b ⟨T.cols, T.rows, T.players, T.window, T.seed, T.reg, T.frame, T.list, T.made, vo⟩ (falls T.cols T.rows T.players T.window T.seed T.reg T.frame L).1 (O ++ (falls T.cols T.rows T.players T.window T.seed T.reg T.frame L).2)) ∧ Kept B w w' := by
  have HF := Lib.hid (fun w1 hv => fallenH_any T.list L w1 hv hn)
  have HOK := Lib.hid (fun k => stF_ok (a := T.cols) (b := T.rows) (p := T.players) (n := T.window) (s := T.seed) (r := T.reg) (f := T.frame) hr k)
  have HSU := Lib.hid (fun k h => stF_succ (a := T.cols) (b := T.rows) (p := T.players) (n := T.window) (s := T.seed) (r := T.reg) (f := T.frame) (L := L) (k := k) h)
  have HEND := Lib.hid (show falls T.cols T.rows T.players T.window T.seed T.reg T.frame L = stF T.cols T.rows T.players T.window T.seed T.reg T.frame L (fallenL L).length from by unfold falls stF; rw [List.take_length])
  have HPL := Lib.hid (fallen_le L)
  have HNl := Lib.hid (nr_le T.cols T.rows T.players T.window T.reg)
  have HY := Lib.hid h
  have c7 := h.box.c7
  have hbw := h.blk.lt
  obtain ⟨n, hnn⟩ : ∃ n, (fallenL L).length = n := ⟨_, rfl⟩
  have Hn := Lib.hid hnn
  have Hll := Lib.hid (show ∀ k, (stF T.cols T.rows T.players T.window T.seed T.reg T.frame L k).1.length ≤ 1000 from fun k => by
    have := congrArg List.length (stF_ok (a := T.cols) (b := T.rows) (p := T.players) (n := T.window) (s := T.seed) (r := T.reg) (f := T.frame) hr k).2.1
    rw [List.length_map, List.length_map] at this; omega)
  have Hlo := Lib.hid (show ∀ k, k ≤ n → (O ++ (stF T.cols T.rows T.players T.window T.seed T.reg T.frame L k).2).length ≤ 1000 + 16000 from fun k hk => by
    have h1 := (stF_ok (a := T.cols) (b := T.rows) (p := T.players) (n := T.window) (s := T.seed) (r := T.reg) (f := T.frame) hr k).2.2
    have h2 := fallen_le L
    rw [List.length_take] at h1
    rw [List.length_append]; omega)
  have hnb : n ≤ 1000 := by have := fallen_le L; omega
  rw [hnn] at HEND HPL
  clear h hr hn hnn
  go_enter Tryz.func57, Tryz.ntmps57
  go_wp2_with fail
  refine (HF.out _ HY.out.sl).mono ?_
  rintro q w1 ⟨v', rfl, ho1, hb1⟩
  have HZ1 := Lib.hid (Kept.of_below B hb1)
  have HY1 := Lib.hid (HY.out.nx hb1)
  rw [Hn.out] at ho1
  have Ho1 := Lib.hid ho1
  obtain ⟨A1, d1, rfl, -⟩ := owned_ints (by rw [← Hn.out] at ho1; exact ho1)
  rw [Hn.out] at Ho1
  rw [Hn.out]
  clear ho1 hb1 c7 HF
  have HY0 := Lib.hid (show Turn B w1 b ⟨T.cols, T.rows, T.players, T.window, T.seed, T.reg, T.frame, T.list, T.made, T.out⟩ (stF T.cols T.rows T.players T.window T.seed T.reg T.frame L 0).1 (O ++ (stF T.cols T.rows T.players T.window T.seed T.reg T.frame L 0).2) from by
    have e : stF T.cols T.rows T.players T.window T.seed T.reg T.frame L 0 = (L, []) := rfl
    rw [e, List.append_nil]; exact HY1.out)
  clear HY1 HY
  go_wp2_with fail
  go_loopw [13] (fun i wr => ∃ (k : Nat) (vo : Value), k ≤ n ∧ i = .int .i64 k ∧ Turn B wr b ⟨T.cols, T.rows, T.players, T.window, T.seed, T.reg, T.frame, T.list, T.made, vo⟩ (stF T.cols T.rows T.players T.window T.seed T.reg T.frame L k).1 (O ++ (stF T.cols T.rows T.players T.window T.seed T.reg T.frame L k).2) ∧ wr.ownsRow w.heap.size 3 1 (.slice A1 n d1) n ((fallenL L).map (Value.int .i64)) ∧ Kept B w wr) (fun i _ => n - (intOf i).toNat)
  case atStart => exact ⟨0, _, Nat.zero_le _, rfl, HY0.out, Ho1.out, HZ1.out⟩
  case round =>
    obtain ⟨k, vo, hk, rfl, ht, ho, hz⟩ := hrel
    have HT := Lib.hid ht
    have HO := Lib.hid ho
    have HZ := Lib.hid hz
    clear ht ho hz HY0 HZ1 Ho1
    by_cases hlt : k < n
    · have hd : decide ((k : Int) < (n : Int)) = true := decide_eq_true (by omega)
      have Hst := Lib.hid (HOK.out k)
      have Hl := Lib.hid (Hll.out k)
      have Hol := Lib.hid (Hlo.out k hk)
      have HS := Lib.hid (HSU.out k (by have := Hn.out; omega))
      have Hmem := Lib.hid (gi_mem (fallenL L) (k := k) (by have := Hn.out; omega))
      obtain ⟨A2, d2, hA2, hl2, hat2⟩ := owned_ints (by have := HO.out; rw [← Hn.out] at this; exact this)
      rw [Hn.out] at hA2 hl2 hat2
      cases hA2
      obtain ⟨b2, off2, rfl, hc2⟩ := hat2 (by omega)
      have hck := hc2 k hlt
      clear hc2 hat2 hl2
      generalize stF T.cols T.rows T.players T.window T.seed T.reg T.frame L k = st at *
      generalize gi (fallenL L) k = id at *
      obtain ⟨e, he, hei⟩ := List.mem_map.1 (show id ∈ st.1.map Ent.id by rw [Hst.out.2.1]; exact fallen_mem Hmem.out)
      subst hei
      rw [fall1_yes Hst.out.1 he] at HS
      obtain ⟨j, x, hfd, hjx, hxi⟩ := fnd_yes he
      obtain rfl : x = e := rise_one Hst.out.1 (List.mem_of_getElem? hjx) he hxi
      have hjl : j < st.1.length := (List.getElem?_eq_some_iff.1 hjx).1
      have Hset := Lib.hid (fun z => set_turn Hst.out.1 hjx z)
      have Hjx := Lib.hid hjx
      have HNr := Lib.hid (fun w => near_own T.cols T.rows T.players T.window T.seed T.reg w)
      obtain ⟨N, hN⟩ : ∃ N, (nr T.cols T.rows T.players T.window T.reg).length = N := ⟨_, rfl⟩
      have HN := Lib.hid hN
      have hN16 : N ≤ 16 := hN ▸ HNl.out
      have HE := Lib.hid (fun w1 vo O' h (hl : O'.length ≤ 1000000) t => emit_any (B := B) (b := b) (w := w1) (T := ⟨T.cols, T.rows, T.players, T.window, T.seed, T.reg, T.frame, T.list, T.made, vo⟩) (L := st.1) (O := O') h hl ⟨2, 0, t, 0, e0, x.x, x.y⟩)
      have HPc := Lib.hid (fun w1 vo O' L' h => tplace_any (B := B) (b := b) (w := w1) (T := ⟨T.cols, T.rows, T.players, T.window, T.seed, T.reg, T.frame, T.list, T.made, vo⟩) (L := L') (O := O') h hs 1 2 x.id)
      have HAN := Lib.hid (show anew T.cols T.rows T.players T.window T.seed T.reg T.frame x = ⟨x.id, x.kind, crx T.cols T.rows T.players T.window T.reg + bel 1024 T.seed [1, T.frame, x.id], cry T.cols T.rows T.players T.window T.reg + bel 1024 T.seed [2, T.frame, x.id], 0, 0, 100, 0, x.owner⟩ from rfl)
      generalize anew T.cols T.rows T.players T.window T.seed T.reg T.frame x = ax at *
      simp only at HPc
      generalize crx T.cols T.rows T.players T.window T.reg + bel 1024 T.seed [1, T.frame, x.id] = px at *
      generalize cry T.cols T.rows T.players T.window T.reg + bel 1024 T.seed [2, T.frame, x.id] = py at *
      obtain ⟨g, cap, hTl, hBg, hgw, -, hcs, -⟩ := own_at_Ent HT.out.list Hjx.out
      have HTl := Lib.hid (show T.list = _ from hTl)
      have HFd := Lib.hid (fun w1 hv => hfd ▸ find_any (.slice (some ⟨g, 0, none⟩) st.1.length cap) st.1 x.id w1 hv (by have := Hl.out; omega))
      have hbr := HT.out.blk.lt
      have c7 := HT.out.box.c7
      simp only at c7
      rw [HTl.out] at c7
      clear hcs hTl hgw hN hxi hjx hfd he
      go_upto_region 3 with fail
      clear hck
      refine plan_region' (S := (fun w' => (∀ b o, b < (wr).heap.size → w'.cell? ⟨b, o, none⟩ = (wr).cell? ⟨b, o, none⟩) ∧ (∀ b o, b < (wr).heap.size → w'.frozen? ⟨b, o, none⟩ = (wr).frozen? ⟨b, o, none⟩) ∧ Below (wr).heap.size (wr) w')) [(0, true), (1, true), (2, true), (3, true), (4, true), (5, true), (6, true), (7, true), (8, true), (9, false), (10, true), (11, true)] (by kernel_rfl) (by kernel_rfl) (fun _ _ d _ _ h => by cases d <;> exact h) (keepW0 _) (fun hS => ?_)
      simp only [picked, List.getElem?_cons_succ, List.getElem?_cons_zero]
      iterate 9
       refine row_free (v := ?_) (by rfl) ?_ ?_; rotate_left 1; focus (intro w hSw; (try dsimp only at hSw); go_simp; (try with_reducible rfl))
       (try simp only [Act.put, tA, tB, tC])
      refine row_call (by rfl) (fun K hK => ?_)
      go_simp
      (refine (HFd.out _ (by have := HT.out.drew.sl; simp only at this; rw [HTl.out] at this; exact this)).mono ?_; rintro q w5 ⟨rfl, hb5⟩)
      (try go_wp2_with fail)
      refine hK.out _ _ ?_ (fun hS' => ?_)
      · (try dsimp only); first | exact keepW (by assumption) (by assumption) | exact keepB (by assumption) (by assumption) | exact keepA (by assumption) | assumption
      clear hS hK K
      have hS := hS'
      clear hS'
      iterate 2
       (try simp only [Act.put, tA, tB, tC])
       refine row_free (v := ?_) (by rfl) ?_ ?_; rotate_left 1; focus (intro w hSw; (try dsimp only at hSw); go_simp; (try with_reducible rfl))
      (try simp only [Act.put, tA, tB, tC])
      refine row_done ?_
      replace HZ := Lib.hid (HZ.out.below hS.2.2)
      replace HO := Lib.hid (own_below HO.out hS.2.2)
      replace HT := Lib.hid (HT.out.nx hS.2.2)
      clear hS hb5 c7 HFd hbr
      have HTc := Lib.hid HT.out.list
      simp only at HTc
      rw [HTl.out] at HTc
      obtain ⟨t0, t1, t2, t3, t4, t5, -⟩ := HT.out.box
      have hbr := HT.out.blk.lt
      obtain ⟨W3, hW3⟩ : ∃ W3 : World, W3 = w5 := ⟨_, rfl⟩
      go_upto_region 4 with fail
      refine plan_region' (S := (fun w' => (∀ b o, b < (w5).heap.size → w'.cell? ⟨b, o, none⟩ = (w5).cell? ⟨b, o, none⟩) ∧ (∀ b o, b < (w5).heap.size → w'.frozen? ⟨b, o, none⟩ = (w5).frozen? ⟨b, o, none⟩) ∧ Below (w5).heap.size (w5) w')) [(0, true), (1, true), (2, true), (3, true), (4, true), (5, true), (6, true), (7, true), (10, true), (8, false), (9, true)] (by kernel_rfl) (by kernel_rfl) (fun _ _ d _ _ h => by cases d <;> exact h) (keepW0 _) (fun hS => ?_)
      simp only [picked, List.getElem?_cons_succ, List.getElem?_cons_zero]
      iterate 9
       refine row_free (v := ?_) (by rfl) ?_ ?_; rotate_left 1; focus (intro w hSw; (try dsimp only at hSw); go_simp; (try with_reducible rfl))
       (try simp only [Act.put, tA, tB, tC])
      refine row_call (by rfl) (fun K hK => ?_)
      go_simp
      (refine (HNr.out _).mono ?_; rintro q w6 ⟨v6, rfl, ho6, hb6⟩; obtain ⟨A6, d6, rfl, -⟩ := owned_ints ho6)
      (try go_wp2_with fail)
      refine hK.out _ _ ?_ (fun hS' => ?_)
      · (try dsimp only); first | exact keepW (by assumption) (by assumption) | exact keepB (by assumption) (by assumption) | exact keepA (by assumption) | assumption
      clear hS hK K
      have hS := hS'
      clear hS'
      (try simp only [Act.put, tA, tB, tC])
      refine row_free (v := ?_) (by rfl) ?_ ?_; rotate_left 1; focus (intro w hSw; (try dsimp only at hSw); go_simp; (try with_reducible rfl))
      (try simp only [Act.put, tA, tB, tC])
      refine row_done ?_
      have HKr := Lib.hid (ho6.mono (Nat.zero_le _))
      replace HZ := Lib.hid (HZ.out.below hS.2.2)
      replace HO := Lib.hid (own_below HO.out hS.2.2)
      replace HT := Lib.hid (HT.out.nx hS.2.2)
      rw [HN.out] at HKr
      rw [HN.out]
      clear hS hb6 ho6 t0 t1 t2 t3 t4 t5 hbr HTc HNr hW3 W3
      obtain ⟨wo, rfl⟩ : ∃ wo : World, wo = wr := ⟨_, rfl⟩
      go_wp2_with fail
      go_loopw [38] (fun i wi => ∃ (m : Nat) (vo' : Value), m ≤ N ∧ i = .int .i64 m ∧ Turn B wi b ⟨T.cols, T.rows, T.players, T.window, T.seed, T.reg, T.frame, T.list, T.made, vo'⟩ st.1 ((O ++ st.2) ++ ((nr T.cols T.rows T.players T.window T.reg).take m).map fun t => ⟨2, T.reg, t, T.frame, e0, x.x, x.y⟩) ∧ wi.ownsRow 0 3 1 (.slice A6 N d6) N ((nr T.cols T.rows T.players T.window T.reg).map (Value.int .i64)) ∧ wi.ownsRow w.heap.size 3 1 (.slice (some ⟨b2, off2, none⟩) n d1) n ((fallenL L).map (Value.int .i64)) ∧ Kept B w wi) (fun i _ => N - (intOf i).toNat)
      case atStart => exact ⟨0, _, Nat.zero_le _, rfl, by simpa using HT.out, HKr.out, HO.out, HZ.out⟩
      case round =>
        obtain ⟨m, vo', hm, rfl, ht, hkr, ho, hz⟩ := hrel
        clear HT HO HZ HKr
        have HT := Lib.hid ht
        have HO := Lib.hid ho
        have HZ := Lib.hid hz
        have HKr := Lib.hid hkr
        clear ht hkr ho hz
        by_cases hmN : m < N
        · have HT2 := Lib.hid (take_gi (nr T.cols T.rows T.players T.window T.reg) (k := m) (by rw [HN.out]; exact hmN))
          have Hml := Lib.hid (show ((O ++ st.2) ++ ((nr T.cols T.rows T.players T.window T.reg).take m).map fun t => (⟨2, T.reg, t, T.frame, e0, x.x, x.y⟩ : Crs)).length ≤ 1000000 from by
            have := Hol.out
            rw [List.length_append, List.length_map, List.length_take]; omega)
          obtain ⟨A7, d7, hA7, hl7, hat7⟩ := owned_ints (by have := HKr.out; rw [← HN.out] at this; exact this)
          rw [HN.out] at hA7 hl7 hat7
          cases hA7
          obtain ⟨b7, off7, rfl, hc7⟩ := hat7 (by omega)
          have hcm := hc7 m hmN
          clear hc7 hat7 hl7
          generalize gi (nr T.cols T.rows T.players T.window T.reg) m = tt at *
          obtain ⟨g', cap', hTl', -, hgw, -, hcs, -⟩ := own_at_Ent HT.out.list Hjx.out
          have e1 := HTl.out.symm.trans hTl'
          cases e1
          simp only [Nat.zero_add] at hcs
          obtain ⟨x0, x1, x2, x3, x4, x5, x6, x7, x8⟩ := hcs
          clear hTl'
          go_upto_region 7 with fail
          refine tail_region (S := (fun w' => (∀ b o, b < (wr).heap.size → w'.cell? ⟨b, o, none⟩ = (wr).cell? ⟨b, o, none⟩) ∧ (∀ b o, b < (wr).heap.size → w'.frozen? ⟨b, o, none⟩ = (wr).frozen? ⟨b, o, none⟩) ∧ Below (wr).heap.size (wr) w')) 11 (.free 0 (.free 1 (.free 2 (.free 3 (.free 4 (.free 5 (.free 6 (.free 7 (.free 8 (.free 9 (.free 10 .tail))))))))))) (by kernel_rfl) (by kernel_rfl) (fun _ _ d _ _ h => by cases d <;> exact h) (keepW0 _) (fun hS => ?_)
          simp only [writtenT, List.drop_succ_cons, List.drop_zero, List.getElem?_cons_succ, List.getElem?_cons_zero]
          iterate 11
           refine rz_free (v := ?_) (by rfl) ?_ ?_; rotate_left 1; focus (intro w hSw; (try dsimp only at hSw); go_simp; (try with_reducible rfl))
           (try simp only [Act.put, tA, tB, tC])
          refine rz_done ?_
          replace HZ := Lib.hid (HZ.out.below hS.2.2)
          replace HO := Lib.hid (own_below HO.out hS.2.2)
          replace HKr := Lib.hid (own_below HKr.out hS.2.2)
          replace HT := Lib.hid (HT.out.nx hS.2.2)
          clear hS hcm hgw x0 x1 x2 x3 x4 x5 x6 x7 x8
          go_wp2_with fail
          refine (HE.out _ _ _ HT.out Hml.out tt).mono ?_
          rintro q w7 ⟨rfl, ⟨vo7, ht7⟩, hk7, -⟩
          have HT7 := Lib.hid ht7
          rw [List.append_assoc (O ++ st.2), ← List.map_singleton (f := fun t => (⟨2, T.reg, t, T.frame, e0, x.x, x.y⟩ : Crs)), ← List.map_append, ← HT2.out] at HT7
          have HZ7 := Lib.hid (HZ.out.trans hk7)
          have HO7 := Lib.hid (hk7.row HO.out (by decide) (by decide) (by decide))
          have HK7 := Lib.hid (hk7.row HKr.out (by decide) (by decide) (by decide))
          clear ht7 hk7
          go_wp2
          go_roundw
          case rel => exact ⟨m + 1, vo7, by omega, by go_num, HT7.out, HK7.out, HO7.out, HZ7.out⟩
          case measure => simp [intOf]; omega
        · obtain rfl : m = N := by omega
          rw [List.take_of_length_le (Nat.le_of_eq HN.out)] at HT
          clear HKr HE
          obtain ⟨g', cap', hTl', -, hgw, -, hcs, hfz⟩ := own_at_Ent HT.out.list Hjx.out
          have e1 := HTl.out.symm.trans hTl'
          cases e1
          simp only [Nat.zero_add] at hcs
          obtain ⟨x0, x1, x2, x3, x4, x5, x6, x7, x8⟩ := hcs
          clear hTl'
          go_upto_region 10 with fail
          generalize hW : World.setCell _ _ _ = W9 at *
          obtain ⟨hl9, hg9⟩ := own_four (by have := HT.out.list; simp only at this; rw [HTl.out] at this; exact this) Hjx.out hW
          have Hk9 := Lib.hid (Kept.of_grown hg9 (fun p hp _ => HT.out.mineL p (by show T.list.ownBlock = some p; rw [HTl.out]; exact hp)))
          replace HT := Lib.hid (HT.out.putL (w' := W9) (L' := st.1.set j ⟨x.id, x.kind, x.x, x.y, 0, 0, 100, 0, x.owner⟩) (by show World.grownBy _ _ T.list.ownBlock; rw [HTl.out]; exact hg9) (by show World.ownsRow _ _ _ _ T.list _ _; rw [HTl.out, List.length_set]; exact hl9))
          replace HO := Lib.hid (Hk9.out.row HO.out (by decide) (by decide) (by decide))
          replace HZ := Lib.hid (HZ.out.trans Hk9.out)
          clear hW hl9 hg9 Hk9 x0 x1 x2 x3 x4 x5 x6 x7 x8 hfz hgw
          go_wp2_with fail
          refine (HPc.out _ _ _ _ HT.out).mono ?_
          rintro q w8 ⟨rfl, hb8⟩
          replace HZ := Lib.hid (HZ.out.below hb8)
          replace HO := Lib.hid (own_below HO.out hb8)
          replace HT := Lib.hid (HT.out.nx hb8)
          clear hb8 HPc
          have Hj9 := Lib.hid (List.getElem?_set_self (a := (⟨x.id, x.kind, x.x, x.y, 0, 0, 100, 0, x.owner⟩ : Ent)) hjl)
          obtain ⟨g', cap', hTl', -, hgw, -, hcs, hfz⟩ := own_at_Ent HT.out.list Hj9.out
          have e1 := HTl.out.symm.trans hTl'
          simp only [List.length_set] at e1
          cases e1
          simp only [Nat.zero_add] at hcs
          obtain ⟨x0, x1, x2, x3, x4, x5, x6, x7, x8⟩ := hcs
          clear hTl'
          go_upto_region 11 with fail
          generalize hW : World.setCell _ _ _ = W11 at *
          obtain ⟨hl9, hg9⟩ := own_two (by have := HT.out.list; simp only [List.length_set] at this; rw [HTl.out] at this; exact this) Hj9.out px py hW
          rw [List.set_set] at hl9
          simp only at hl9
          rw [← HAN.out, Hset.out] at hl9
          have Hk9 := Lib.hid (Kept.of_grown hg9 (fun p hp _ => HT.out.mineL p (by show T.list.ownBlock = some p; rw [HTl.out]; exact hp)))
          replace HT := Lib.hid (HT.out.putL (w' := W11) (L' := turn st.1 x.id ax) (by show World.grownBy _ _ T.list.ownBlock; rw [HTl.out]; exact hg9) (by show World.ownsRow _ _ _ _ T.list _ _; rw [HTl.out, turn_len]; exact hl9))
          replace HO := Lib.hid (Hk9.out.row HO.out (by decide) (by decide) (by decide))
          replace HZ := Lib.hid (HZ.out.trans Hk9.out)
          rw [List.append_assoc] at HT
          clear hW hl9 hg9 Hk9 x0 x1 x2 x3 x4 x5 x6 x7 x8 hfz hgw
          go_wp2
          go_roundw
          case rel => exact ⟨k + 1, vo', by omega, by go_num, by rw [HS.out]; exact HT.out, HO.out, HZ.out⟩
          case measure => simp [intOf]; omega
    · obtain rfl : k = n := by omega
      rw [← HEND.out] at HT
      go_wp2
      (try simp only [Exit.inBlock, Exit.then])
      refine bodyPost_end (results_none rfl _ _ _) rfl ?_
      exact ⟨rfl, ⟨vo, HT.out⟩, HZ.out⟩

end Go.Proofs.YtfpofegfbinalaaGreat.Fx
