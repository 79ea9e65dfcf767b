/- Package region: Step, one region one frame later. -/
import Derived.Test.YtfpofegfbinalaaGreatM30
import Derived.Test.YtfpofegfbinalaaGreatM19
import Derived.Test.YtfpofegfbinalaaGreatM24
import Derived.Test.YtfpofegfbinalaaGreatM21
import Derived.Test.YtfpofegfbinalaaGreatM25
import Derived.Test.YtfpofegfbinalaaGreatM26
import Derived.Test.YtfpofegfbinalaaGreatM27
import Derived.Test.YtfpofegfbinalaaGreatM36
import Derived.Deep.DeepCutAuto
namespace Go.Proofs.YtfpofegfbinalaaGreat.Fx
open Go.ChangeShapes Go.WideShapes Go.ChangeAt Go.RowKit
set_option linter.unusedVariables false
set_option maxRecDepth 100000

theorem Kept.reg {B : Nat} {w w' : World} (h : Kept B w w') {b : Nat} {cur : Array Value} (hb : Blk w b 59 cur) : Blk w' b 59 cur := by
  unfold Blk at *
  rw [h.block b (Array.getElem?_eq_some_iff.1 hb).1 (.inr ?_)]
  · exact hb
  · rintro ⟨t, c, hblk, ht⟩
    unfold Blk at hblk
    rw [hblk] at hb
    simp only [Option.some.injEq, Obj.cells.injEq] at hb
    obtain ⟨-, rfl, -⟩ := hb
    rcases ht with ht | ht | ht <;> revert ht <;> decide

theorem Blk.trn {w : World} {b : Nat} {T : Trn} (h : Blk w b 95 (trnC T).toArray) : TrnBox w b T := by
  constructor
  all_goals first | exact h.frozen _ | (rw [h.cell]; rfl)

theorem Blk.reg {w : World} {b : Nat} {T : Reg} (h : Blk w b 59 (regC T).toArray) : RegBox w b T := by
  constructor
  all_goals first | exact h.frozen _ | (rw [h.cell]; rfl)

/-- A turn that nothing was put into. -/
def t0 : Trn := ⟨0, 0, 0, 0, 0, 0, 0, .slice none 0 0, 0, .slice none 0 0⟩

theorem trn_put {w : World} {b : Nat} (h : Blk w b 95 (trnC t0).toArray) (z : Trn) :
    Blk ((((((((((w.setCell ⟨b, 0, none⟩ (.int .i64 z.cols)).setCell ⟨b, 1, none⟩ (.int .i64 z.rows)).setCell ⟨b, 2, none⟩ (.int .i64 z.players)).setCell ⟨b, 3, none⟩ (.int .i64 z.window)).setCell ⟨b, 4, none⟩ (.int .u64 z.seed)).setCell ⟨b, 5, none⟩ (.int .i64 z.reg)).setCell ⟨b, 6, none⟩ (.int .i64 z.frame)).setCell ⟨b, 7, none⟩ z.list).setCell ⟨b, 8, none⟩ (.int .i64 z.made)).setCell ⟨b, 9, none⟩ z.out) b 95 (trnC z).toArray := by
  have := (((((((((h.put 0 (.int .i64 z.cols)).put 1 (.int .i64 z.rows)).put 2 (.int .i64 z.players)).put 3 (.int .i64 z.window)).put 4 (.int .u64 z.seed)).put 5 (.int .i64 z.reg)).put 6 (.int .i64 z.frame)).put 7 z.list).put 8 (.int .i64 z.made)).put 9 z.out
  simp only [List.setIfInBounds_toArray, trnC, t0, List.set_cons_zero, List.set_cons_succ] at this
  exact this

theorem zturnD (w : World) : Blk (w.alloc (.cells #[.int .i64 0, .int .i64 0, .int .i64 0, .int .i64 0, .int .u64 0, .int .i64 0, .int .i64 0, .slice none 0 0, .int .i64 0, .slice none 0 0] 95)).drew w.heap.size 95 (trnC t0).toArray := Blk.new w _ _

/-- What a player does, of the inputs of all. -/
def inpOf (ins : List Inp) (i : Int) : Inp := ins.getD (i - 1).toNat default

theorem inpOf_at {ins : List Inp} {k : Nat} {x : Inp} (h : ins[k]? = some x) : inpOf ins (k + 1) = x := by
  unfold inpOf
  rw [show ((k : Int) + 1 - 1).toNat = k by omega, List.getD_eq_getElem?_getD, h]
  rfl

theorem why_zero {a b p n r f : Int} {l : List Ent} {ins : List Inp} {ib : List Crs} (h : whyNot a b p n r f l ins ib = 0) : hasB a b p n r = true ∧ rgB a b p n r f l = true ∧ inpsB p ins = true ∧ ib.all (inOk a b p n r f) = true ∧ ¬ f = 10000 := by
  unfold whyNot at h
  split at h
  · rename_i h1
    split at h
    · rename_i h2
      split at h
      · rename_i h3
        split at h
        · rename_i h4
          split at h
          · omega
          · rename_i h5
            exact ⟨h1, h2, h3, h4, h5⟩
        · omega
      · omega
    · omega
  · omega

theorem asked_of {a b p n r f : Int} {l : List Ent} {ins : List Inp} {ib : List Crs} (h : whyNot a b p n r f l ins ib = 0) : Asked a b p n r f l ib := by
  obtain ⟨h1, h2, h3, h4, h5⟩ := why_zero h
  have hf := rgB_frame h2
  unfold rgB at h2
  simp only [Bool.and_eq_true, decide_eq_true_eq] at h2
  obtain ⟨⟨⟨⟨-, -⟩, hs⟩, ht⟩, ha⟩ := h2
  have hall : ∀ e ∈ l, erightB a b p n e = true ∧ ofr a b p n e.x e.y = r := fun e he => by
    have := List.all_eq_true.1 ha e he
    unfold hereOk at this
    simpa [Bool.and_eq_true] using this
  refine ⟨h1, ⟨hf.1, by omega⟩, ⟨(srt_iff l).1 hs, fun e he => (hall e he).1⟩, fun e he => (hall e he).2, ht, fun c hc => ?_⟩
  have := List.all_eq_true.1 h4 c hc
  unfold inOk at this
  simp only [Bool.and_eq_true, decide_eq_true_eq] at this
  exact ⟨this.1.1, this.1.2⟩

theorem steers_len {a b p n r f : Int} {inp : Int → Inp} {L : List Ent} (h : Okl a b p n L) (hh : Here a b p n r L) (ht : things L ≤ 24) (hf : 0 ≤ f ∧ f ≤ 10000) (hr : 0 ≤ r ∧ r ≤ 16) :
    ((steers (regs a b p n) r f inp L (pids L)).1.length : Int) ≤ 24 + (pids L).length := by
  have S := steers_ok (inp := inp) h hh ht hf hr
  have h1 := len_things (steers (regs a b p n) r f inp L (pids L)).1
  have h2 := S.few
  have h3 := S.ids
  rw [h3] at h1
  omega

theorem goL_len (a b p n : Int) (l : List Ent) : (goL a b p n l).length ≤ l.length := goL_le a b p n l

theorem blasts_le (l : List Ent) (bs : List Crs) : (blastsL (gemsL (shotsL l)) bs).length ≤ l.length := by
  rw [blasts_len]
  exact Nat.le_trans (touchL_le _ _ _ _) (touchL_le _ _ _ _)

theorem falls_len {a b p n s r f : Int} {L : List Ent} (h : Rise L) : (falls a b p n s r f L).1.length = L.length ∧ (falls a b p n s r f L).2.length ≤ L.length * 16 := by
  have e : falls a b p n s r f L = stF a b p n s r f L (fallenL L).length := by unfold falls stF; rw [List.take_length]
  rw [e]
  obtain ⟨-, h2, h3⟩ := stF_ok (a := a) (b := b) (p := p) (n := n) (s := s) (r := r) (f := f) h (fallenL L).length
  have h4 := congrArg List.length h2
  rw [List.length_map, List.length_map] at h4
  have h5 := fallen_le L
  rw [List.take_length] at h3
  exact ⟨h4, by omega⟩

theorem gemsIn_len (a b p n s r f : Int) (l : List Ent) (m : Int) : (gemsIn a b p n s r f l m).length ≤ l.length + 1 := by
  unfold gemsIn
  split
  · exact put_le _ _
  · omega

theorem vals_one (w : World) (v : Value) (t g : Nat) (hg : g = w.heap.size) : IsSl oneV (w.alloc (.cells #[v] t)) (.slice (some ⟨g, 0, none⟩) 1 1) [v] := by
  subst hg
  refine ⟨_, _, rfl, fun h => (by cases h), Nat.le_refl _, fun _ => ⟨_, _, rfl, fun i u hu => ?_⟩⟩
  rw [flat_oneV] at hu
  rw [Nat.zero_add, World.cell?_alloc_new]
  simpa using hu

theorem turn_of_alloc {B : Nat} {w : World} {T : Trn} {L : List Ent} (ho : w.ownsRow B 45 9 T.list L.length (L.flatMap entC)) (hB : B ≤ w.heap.size) (hT : T.out = .slice none 0 0) {A : Array Value} (hA : A = (trnC T).toArray) : Turn B (w.alloc (.cells A 95)) w.heap.size T L [] :=
  hA ▸ ⟨Blk.new _ _ _, hB, own_below ho ((Below.refl _ _).alloc (Nat.le_refl _) _), hT ▸ World.ownsRow_nil _ _ _ _⟩

theorem turn_of_put {B b : Nat} {w W : World} {T : Trn} {L : List Ent} (hb : Blk w b 95 (trnC t0).toArray) (hB : B ≤ b) (ho : w.ownsRow B 45 9 T.list L.length (L.flatMap entC)) (hT : T.out = .slice none 0 0)
    (hW : ((((((((((w.setCell ⟨b, 0, none⟩ (.int .i64 T.cols)).setCell ⟨b, 1, none⟩ (.int .i64 T.rows)).setCell ⟨b, 2, none⟩ (.int .i64 T.players)).setCell ⟨b, 3, none⟩ (.int .i64 T.window)).setCell ⟨b, 4, none⟩ (.int .u64 T.seed)).setCell ⟨b, 5, none⟩ (.int .i64 T.reg)).setCell ⟨b, 6, none⟩ (.int .i64 T.frame)).setCell ⟨b, 7, none⟩ T.list).setCell ⟨b, 8, none⟩ (.int .i64 T.made)).setCell ⟨b, 9, none⟩ T.out) = W) : Turn B W b T L [] := by
  subst hW
  have g0 := grown_trans (grown_trans (grown_trans (grown_trans (grown_trans (grown_trans (grown_trans (grown_trans (grown_trans (grown_set w b 0 (.int .i64 T.cols)) (grown_set _ b 1 (.int .i64 T.rows))) (grown_set _ b 2 (.int .i64 T.players))) (grown_set _ b 3 (.int .i64 T.window))) (grown_set _ b 4 (.int .u64 T.seed))) (grown_set _ b 5 (.int .i64 T.reg))) (grown_set _ b 6 (.int .i64 T.frame))) (grown_set _ b 7 T.list)) (grown_set _ b 8 (.int .i64 T.made))) (grown_set _ b 9 T.out)
  exact ⟨trn_put hb T, hB, ho.kept g0 (.inr (Ne.symm (own_ne ho hb (by decide)))), hT ▸ World.ownsRow_nil _ _ _ _⟩

/-- All but the last turns of a step. -/
theorem upTo_parts {a b p n s r f : Int} {inp : Int → Inp} {l : List Ent} {ib : List Crs} (h : Asked a b p n r f l ib) :
    (Okl a b p n (arriveL l ib) ∧ Here a b p n r (arriveL l ib) ∧ things (arriveL l ib) ≤ 24) ∧ (0 ≤ r ∧ r ≤ 16) ∧ (0 ≤ (steers (regs a b p n) r f inp (arriveL l ib) (pids (arriveL l ib))).2 ∧ (steers (regs a b p n) r f inp (arriveL l ib) (pids (arriveL l ib))).2 ≤ 8) ∧
      ((steers (regs a b p n) r f inp (arriveL l ib) (pids (arriveL l ib))).1.length : Int) ≤ 24 + (pids (arriveL l ib)).length ∧
      Rise (blastsL (gemsL (shotsL (goL a b p n (steers (regs a b p n) r f inp (arriveL l ib) (pids (arriveL l ib))).1))) ib) := by
  obtain ⟨hrt, h0, -, -, -, -, -, -, -, -, -, h15⟩ := hasB_rt h.has
  obtain ⟨a1, a2, a3⟩ := arrive_ok ib h.ok h.here h.few h.hands
  have hf : 0 ≤ f ∧ f ≤ 10000 := ⟨h.frame.1, by have := h.frame.2; omega⟩
  have S := steers_ok (f := f) (inp := inp) a1 a2 a3 hf ⟨h0, by omega⟩
  have hl := steers_len (inp := inp) a1 a2 a3 hf (show 0 ≤ r ∧ r ≤ 16 from ⟨h0, by omega⟩)
  obtain ⟨g1, g2⟩ := goL_ok hrt S.ok S.here
  obtain ⟨t1, -⟩ := hits_ok g1 g2 ib
  exact ⟨⟨a1, a2, a3⟩, ⟨h0, by omega⟩, S.made, hl, t1⟩

set_option maxHeartbeats 16000000 in
theorem rgstep_no (a b p n s r f : Int) (hs : 0 ≤ s ∧ s < 18446744073709551616) (v : Value) (l : List Ent) (t : Value) (ins : List Inp) (u : Value) (ib : List Crs) (w : World) (hv : IsSl entC w v l) (hn : l.length ≤ 100) (ht : IsSl inpC w t ins) (hk : ins.length ≤ 1000) (hu : IsSl crsC w u ib) (hm : ib.length ≤ 100)
    (F q : Int) (X : List Ent) (Y : List Crs) (hwz : ¬ q = 0) (hq : whyNot a b p n r f l ins ib = q) (hF : F = if q = 0 then f + 1 else 0) (hX : X = if q = 0 then stayL a b p n s r f (inpOf ins) l ib else []) (hY : Y = if q = 0 then st lessB (outsL a b p n s r f (inpOf ins) l ib) else []) :
    Calls Tryz.prog 26 #[.agg #[.int .i64 a, .int .i64 b, .int .i64 p, .int .i64 n, .int .u64 s], .int .i64 r, .agg #[.int .i64 f, v], t, u] w fun z w' =>
      (∃ vl vo, z = .returned (.tuple #[.agg #[.int .i64 F, vl], vo, .int .i64 q]) ∧
        w'.ownsRow w.heap.size 45 9 vl X.length (X.flatMap entC) ∧
        w'.ownsRow w.heap.size 50 15 vo Y.length (Y.flatMap crsC)) ∧ Below w.heap.size w w' := by
  have HW := Lib.hid (fun w1 (hb : Below w.heap.size w w1) => hq ▸ refusal_any a b p n s r f v l t ins u ib w1 (hv.below hb) (by omega) (ht.below hb) hk (hu.below hb) (by omega))
  have HA := Lib.hid (fun w1 (hb : Below w.heap.size w w1) => arrive_any a b p n s r f v l u ib w1 (hv.below hb) (by omega) (hu.below hb) hm)
  have HV := Lib.hid hv
  have HT := Lib.hid ht
  have HU := Lib.hid hu
  have HX := Lib.hid hX
  have HY := Lib.hid hY
  have HF := Lib.hid hF
  have HQ := Lib.hid hq
  clear hX hY hF hq
  obtain ⟨A, c, rfl, -⟩ := hv
  obtain ⟨A', c', rfl, -⟩ := ht
  obtain ⟨A'', c'', rfl, -⟩ := hu
  go_enter Tryz.func26, Tryz.ntmps26
  go_upto_region 1 with fail
  generalize hW : World.alloc _ _ = W
  have BG := Lib.hid (show CfgBox W w.heap.size ⟨a, b, p, n, s⟩ from by rw [← hW]; exact CfgBox.n3a _ ⟨a, b, p, n, s⟩ _ _ _ rfl)
  have BS := Lib.hid (show Blk W (w.heap.size + 1) 59 (regC ⟨f, .slice A l.length c⟩).toArray from by rw [← hW]; exact (Blk.new' _ _ _ (by simp)).below ((Below.refl _ _).alloc (Nat.le_refl _) _) (by simp))
  have BR := Lib.hid (show Blk W (w.heap.size + 1 + 1) 59 (regC ⟨0, .slice none 0 0⟩).toArray from by rw [← hW]; exact Blk.new' _ _ _ (by simp))
  have HB := Lib.hid (show Below w.heap.size w W from by rw [← hW]; exact (((Below.refl _ _).alloc (Nat.le_refl _) _).alloc (by simp) _).alloc (by simp; omega) _)
  clear hW
  have hgg := BG.out.has
  have hss := BS.out.lt
  obtain ⟨g0, g1, g2, g3, g4, -⟩ := BG.out
  obtain ⟨s0, s1, -⟩ := BS.out.reg
  go_wp2_with fail
  refine (HW.out _ HB.out).mono ?_
  rintro e w1 ⟨rfl, hb1⟩
  replace HB := Lib.hid (nextW HB.out hb1)
  replace BG := Lib.hid (BG.out.nx hb1)
  replace BS := Lib.hid (BS.out.nx hb1)
  replace BR := Lib.hid (BR.out.nx hb1)
  clear hb1 g0 g1 g2 g3 g4 hgg hss s0 s1 HW
  have hwz' : (q != 0) = true := by simpa using hwz
  rw [if_neg hwz] at HX HY HF
  clear hwz HA HQ
  obtain ⟨r0, r1, q0, q1⟩ := BR.out.reg
  have hrr := BR.out.lt
  have HB2 := Lib.hid (RegBox.bel HB.out ⟨0, .slice none 0 0⟩ (show w.heap.size ≤ w.heap.size + 1 + 1 by omega) rfl)
  have HR2 := Lib.hid (BR.out.reg.put ⟨0, .slice none 0 0⟩)
  go_wp2
  obtain ⟨z0, z1, -⟩ := HR2.out
  refine bodyPost_ret (v := .tuple #[.agg #[.int .i64 0, .slice none 0 0], .slice none 0 0, .int .i64 q]) (by simp [results, Tryz.results26, go_sem, z0, z1]) rfl ?_
  rw [HX.out, HY.out, HF.out]
  exact ⟨⟨_, _, rfl, World.ownsRow_nil _ _ _ _, World.ownsRow_nil _ _ _ _⟩, HB2.out⟩

end Go.Proofs.YtfpofegfbinalaaGreat.Fx
