/- Package snapshot: May, Pack, Take. int(uint(x)%m): what it is. -/
import Derived.Test.YtlpkaljepaclpaaGreatM21
import Derived.Test.YtlpkaljepaclpaaGreatM32
import Derived.Test.YtlpkaljepaclpaaGreatM01
namespace Go.Proofs.YtlpkaljepaclpaaGreat.Fx
open Go.ChangeShapes Go.WideShapes Go.ChangeAt Go.RowKit
set_option linter.unusedVariables false
set_option maxRecDepth 100000

theorem rgB_fr {a b p n r f : Int} {es : List Ent} (h : rgB a b p n r f es = true) : 0 ≤ f ∧ f ≤ 10000 := by
  unfold rgB at h
  simp only [Bool.and_eq_true, decide_eq_true_eq] at h
  exact h.1.1.1.2

set_option maxHeartbeats 4000000 in
theorem may_any (a b p n s r f : Int) (vE : Value) (es : List Ent) (vL : Value) (l : List Crs) (w : World) (hE : IsSl entC w vE es) (hne : es.length ≤ 1000) (hL : IsSl crsC w vL l) (hnl : l.length ≤ 1000000) :
    Calls Tryz.prog 38 #[.agg #[.int .i64 a, .int .i64 b, .int .i64 p, .int .i64 n, .int .u64 s], .int .i64 r, .agg #[.int .i64 f, vE, vL]] w fun z w' => z = .returned (.bool (mayB a b p n r f es l)) ∧ Below w.heap.size w w' := by
  have HR := Lib.hid (fun w1 hv => rgright_any a b p n s r f vE es w1 hv hne)
  have HM := Lib.hid (fun w1 hv => rightm_any a b p n s vL l w1 hv hnl)
  have HSt := Lib.hid (fun hf w1 hv h g hh hg => anystrays_any r f hf vL l w1 hv hnl h g hh hg)
  have HO := Lib.hid (fun w1 hv => inorder_any vL l w1 hv hnl)
  have HQ := Lib.hid (show mayB a b p n r f es l = (rgB a b p n r f es && (l.all (crightB a b p n) && (l.all (fun c => decide (c.dst = r ∧ c.frame = f - 1)) && inOrd l))) from rfl)
  have HF := Lib.hid (fun h => rgB_fr (a := a) (b := b) (p := p) (n := n) (r := r) (f := f) (es := es) h)
  have HE := Lib.hid hE
  have HL := Lib.hid hL
  obtain ⟨AE, cE, rfl, -⟩ := hE
  obtain ⟨AL, cL, rfl, -⟩ := hL
  generalize mayB a b p n r f es l = z at *
  generalize rgB a b p n r f es = q1 at *
  generalize l.all (crightB a b p n) = q2 at *
  generalize l.all (fun c => decide (c.dst = r ∧ c.frame = f - 1)) = q3 at *
  generalize inOrd l = q4 at *
  generalize es.length = nE at *
  generalize l.length = nL at *
  go_enter Tryz.func38, Tryz.ntmps38
  go_upto_region 1 with fail
  generalize hW : World.alloc _ _ = W
  have BG := Lib.hid (show CfgBox W w.heap.size ⟨a, b, p, n, s⟩ from by rw [← hW]; exact CfgBox.n3a _ ⟨a, b, p, n, s⟩ _ _ _ rfl)
  have BS := Lib.hid (show Blk W (w.heap.size + 1 + 1) 63 #[.int .i64 f, .slice AE nE cE, .slice AL nL cL] from by rw [← hW]; exact Blk.new' _ _ _ (by simp))
  have HB := Lib.hid (show Below w.heap.size w W from by rw [← hW]; exact (((Below.refl _ _).alloc (Nat.le_refl _) _).alloc (by simp) _).alloc (by simp; omega) _)
  have Hh := Lib.hid (show W.cell? ⟨w.heap.size + 1, 0, none⟩ = some (.int .i64 r) from by rw [← hW, World.cell?_alloc_lt _ _ _ (by simp), cell_box _ _ _ _ _ (by simp)]; rfl)
  clear hW
  have hh := Hh.out
  have hhh := World.block_lt_of_cell? _ _ hh
  have hgg := BG.out.has
  have hss := BS.out.lt
  have s0 : W.cell? ⟨w.heap.size + 1 + 1, 0, none⟩ = some (.int .i64 f) := BS.out.cell 0
  have s1 : W.cell? ⟨w.heap.size + 1 + 1, 1, none⟩ = some (.slice AE nE cE) := BS.out.cell 1
  have s2 : W.cell? ⟨w.heap.size + 1 + 1, 2, none⟩ = some (.slice AL nL cL) := BS.out.cell 2
  obtain ⟨g0, g1, g2, g3, g4, -⟩ := BG.out
  go_wp2_with fail
  refine (HR.out _ (HE.out.below HB.out)).mono ?_
  rintro e w1 ⟨rfl, hb1⟩
  have NX := nextW HB.out hb1
  replace HB := Lib.hid NX
  replace BG := Lib.hid (BG.out.nx hb1)
  replace BS := Lib.hid (BS.out.below hb1 hss)
  replace Hh := Lib.hid ((hb1.cell (p := ⟨w.heap.size + 1, 0, none⟩) hhh).trans Hh.out)
  clear NX hb1 g0 g1 g2 g3 g4 hh hhh hgg hss HR s0 s1 s2
  cases q1 with
  | false =>
    go_wp2
    go_ret
    exact ⟨ret_bool (by rw [HQ.out]; simp), HB.out⟩
  | true =>
    have hf := HF.out rfl
    have hgg := BG.out.has
    have hss := BS.out.lt
    have hhh := World.block_lt_of_cell? _ _ Hh.out
    have s0 : w1.cell? ⟨w.heap.size + 1 + 1, 0, none⟩ = some (.int .i64 f) := BS.out.cell 0
    have s1 : w1.cell? ⟨w.heap.size + 1 + 1, 1, none⟩ = some (.slice AE nE cE) := BS.out.cell 1
    have s2 : w1.cell? ⟨w.heap.size + 1 + 1, 2, none⟩ = some (.slice AL nL cL) := BS.out.cell 2
    obtain ⟨g0, g1, g2, g3, g4, -⟩ := BG.out
    go_wp2_with fail
    refine (HM.out _ (HL.out.below HB.out)).mono ?_
    rintro e w2 ⟨rfl, hb2⟩
    have NX := nextW HB.out hb2
    replace HB := Lib.hid NX
    replace BS := Lib.hid (BS.out.below hb2 hss)
    replace Hh := Lib.hid ((hb2.cell (p := ⟨w.heap.size + 1, 0, none⟩) hhh).trans Hh.out)
    clear NX hb2 g0 g1 g2 g3 g4 hgg hss hhh HM s0 s1 s2 BG
    cases q2 with
    | false =>
      go_wp2
      go_ret
      exact ⟨ret_bool (by rw [HQ.out]; simp), HB.out⟩
    | true =>
      have hss := BS.out.lt
      have s0 : w2.cell? ⟨w.heap.size + 1 + 1, 0, none⟩ = some (.int .i64 f) := BS.out.cell 0
      have s2 : w2.cell? ⟨w.heap.size + 1 + 1, 2, none⟩ = some (.slice AL nL cL) := BS.out.cell 2
      go_wp2_with fail
      refine (HSt.out hf _ (HL.out.below HB.out) _ _ Hh.out s0).mono ?_
      rintro e w3 ⟨rfl, hb3⟩
      have NX := nextW HB.out hb3
      replace HB := Lib.hid NX
      replace BS := Lib.hid (BS.out.below hb3 hss)
      clear NX hb3 hss HSt s0 s2
      cases q3 with
      | false =>
        go_wp2
        go_ret
        exact ⟨ret_bool (by rw [HQ.out]; simp), HB.out⟩
      | true =>
        have hss := BS.out.lt
        have s2 : w3.cell? ⟨w.heap.size + 1 + 1, 2, none⟩ = some (.slice AL nL cL) := BS.out.cell 2
        go_wp2_with fail
        refine (HO.out _ (HL.out.below HB.out)).mono ?_
        rintro e w4 ⟨rfl, hb4⟩
        have NX := nextW HB.out hb4
        clear hb4 HO hss s2
        go_wp2
        go_ret
        exact ⟨ret_bool (by rw [HQ.out]; simp), NX⟩

def pkB (a b p n r f : Int) (es : List Ent) (l : List Crs) : List Int × Int := if mayB a b p n r f es l then (packB f es l, 0) else ([], 4)

set_option maxHeartbeats 4000000 in
theorem pack_any (a b p n s r f : Int) (vE : Value) (es : List Ent) (vL : Value) (l : List Crs) (w : World) (hE : IsSl entC w vE es) (hne : es.length ≤ 1000) (hL : IsSl crsC w vL l) (hnl : l.length ≤ 5000) :
    Calls Tryz.prog 32 #[.agg #[.int .i64 a, .int .i64 b, .int .i64 p, .int .i64 n, .int .u64 s], .int .i64 r, .agg #[.int .i64 f, vE, vL]] w (RetPack (pkB a b p n r f es l).1 (pkB a b p n r f es l).2 w) := by
  have HM := Lib.hid (fun w1 h1 h2 => may_any a b p n s r f vE es vL l w1 h1 hne h2 (by omega))
  have HQ := Lib.hid (show pkB a b p n r f es l = if mayB a b p n r f es l then (packB f es l, 0) else ([], 4) from rfl)
  have HP := Lib.hid (fun B b => putw_any B b [])
  have HWe := Lib.hid (fun B b ds w1 hw hb h => wentities_any B b ds vE es w w1 hw hE hb h (by omega))
  have HWm := Lib.hid (fun B b ds w1 hw hb h => wmessages_any B b ds vL l w w1 hw hL hb h (by omega))
  have hlen : (packB f es l).length ≤ 1000000 := by
    have h1 := packE_len es
    have h2 := packM_len l
    have h3 := (nums_len f).2
    unfold packB
    rw [List.length_append, List.length_append]; omega
  have HB := Lib.hid (fun B b w1 hw => wbytes_any B b (packB f es l) w1 hw hlen)
  have HD := Lib.hid (show packB f es l = [] ++ numsL [f] ++ packE es ++ packM l from by simp [packB, numsL])
  have HE := Lib.hid hE
  have HL := Lib.hid hL
  obtain ⟨AE, cE, rfl, -⟩ := hE
  obtain ⟨AL, cL, rfl, -⟩ := hL
  clear hlen
  generalize packB f es l = M at *
  generalize packE es = ME at *
  generalize packM l = MM at *
  generalize pkB a b p n r f es l = Q at *
  generalize mayB a b p n r f es l = q at *
  generalize es.length = nE at *
  generalize l.length = nL at *
  go_enter Tryz.func32, Tryz.ntmps32
  go_upto_region 1 with fail
  generalize hW : World.alloc _ _ = W
  have BG := Lib.hid (show CfgBox W w.heap.size ⟨a, b, p, n, s⟩ from by rw [← hW]; exact CfgBox.n2a _ ⟨a, b, p, n, s⟩ _ _ rfl)
  have BS := Lib.hid (show Blk W (w.heap.size + 1) 63 #[.int .i64 f, .slice AE nE cE, .slice AL nL cL] from by rw [← hW]; exact Blk.new' _ _ _ (by simp))
  have HBw := Lib.hid (show Below w.heap.size w W from by rw [← hW]; exact ((Below.refl _ _).alloc (Nat.le_refl _) _).alloc (by simp) _)
  clear hW
  have hgg := BG.out.has
  have hss := BS.out.lt
  have s0 : W.cell? ⟨w.heap.size + 1, 0, none⟩ = some (.int .i64 f) := BS.out.cell 0
  have s1 : W.cell? ⟨w.heap.size + 1, 1, none⟩ = some (.slice AE nE cE) := BS.out.cell 1
  have s2 : W.cell? ⟨w.heap.size + 1, 2, none⟩ = some (.slice AL nL cL) := BS.out.cell 2
  obtain ⟨g0, g1, g2, g3, g4, -⟩ := BG.out
  go_wp2_with fail
  refine (HM.out _ (HE.out.below HBw.out) (HL.out.below HBw.out)).mono ?_
  rintro e w1 ⟨rfl, hb1⟩
  have NX := nextW HBw.out hb1
  replace HBw := Lib.hid NX
  replace BS := Lib.hid (BS.out.below hb1 hss)
  clear NX hb1 g0 g1 g2 g3 g4 hgg hss HM s0 s1 s2 BG
  cases q with
  | false =>
    go_wp2
    refine bodyPost_ret (v := .tuple #[.slice none 0 0, .int .i64 4]) (by simp [results, Tryz.results32, go_sem]) rfl ⟨.slice none 0 0, by rw [HQ.out]; rfl, by rw [HQ.out]; exact ownB.nil _ _, HBw.out⟩
  | true =>
    have hss := BS.out.lt
    have hws := HBw.out.size
    have s0 : w1.cell? ⟨w.heap.size + 1, 0, none⟩ = some (.int .i64 f) := BS.out.cell 0
    go_upto_region 4 with fail
    generalize hW : World.alloc _ _ = W1
    have HWr := Lib.hid (show WrAt (w1.heap.size + 1) W1 w1.heap.size [] from by rw [← hW]; exact WrAt.new w1 _)
    have HW1 := Lib.hid (show Below w1.heap.size w1 W1 from by rw [← hW]; exact (Below.refl _ _).alloc (Nat.le_refl _) _)
    have hsz : w1.heap.size < W1.heap.size := by rw [← hW]; simp
    clear hW
    have BS1 := Lib.hid (BS.out.below HW1.out hss)
    have s0 : W1.cell? ⟨w.heap.size + 1, 0, none⟩ = some (.int .i64 f) := BS1.out.cell 0
    have hss1 := BS1.out.lt
    go_wp2_with fail
    refine (HP.out _ _ _ _ _ [f] _ (HWr.out.below ((Below.refl _ _).alloc (Nat.le_refl _) _)) (ints_new1 _ _ _ _ rfl) (by omega)).mono ?_
    rintro e w2 ⟨rfl, hw2, hg2⟩
    have HG2 := Lib.hid (below_grownB ((HW1.out).alloc (Nat.le_of_lt hsz) _) hg2)
    have HW2 := Lib.hid hw2
    have BS2 := Lib.hid (show Blk w2 (w.heap.size + 1) 63 #[.int .i64 f, .slice AE nE cE, .slice AL nL cL] from (HG2.out.block _ hss (by simp; omega)).trans BS.out)
    clear hw2 hg2 s0 HWr HW1 BS1
    have hs2 := BS2.out.lt
    have s1 : w2.cell? ⟨w.heap.size + 1, 1, none⟩ = some (.slice AE nE cE) := BS2.out.cell 1
    go_wp2_with fail
    refine (HWe.out _ _ _ _ HW2.out (below_row HBw.out HG2.out hws) hws).mono ?_
    rintro e w3 ⟨rfl, hw3, hg3⟩
    have HG3 := Lib.hid (grown_trans HG2.out hg3)
    have HW3 := Lib.hid hw3
    have BS3 := Lib.hid (show Blk w3 (w.heap.size + 1) 63 #[.int .i64 f, .slice AE nE cE, .slice AL nL cL] from (HG3.out.block _ hss (by simp; omega)).trans BS.out)
    clear hw3 hg3 s1 HW2 BS2 HG2 hs2
    have hs3 := BS3.out.lt
    have s2 : w3.cell? ⟨w.heap.size + 1, 2, none⟩ = some (.slice AL nL cL) := BS3.out.cell 2
    go_wp2_with fail
    refine (HWm.out _ _ _ _ HW3.out (below_row HBw.out HG3.out hws) hws).mono ?_
    rintro e w4 ⟨rfl, hw4, hg4⟩
    have HG4 := Lib.hid (grown_trans HG3.out hg4)
    have HW4 := Lib.hid (show WrAt (w1.heap.size + 1) w4 w1.heap.size M from by rw [HD.out]; exact hw4)
    have HB4 := Lib.hid (below_row HBw.out HG4.out hws)
    clear hw4 hg4 s2 HW3 BS3 HG3 hs3
    go_wp2_with fail
    refine (HB.out _ _ _ HW4.out).mono ?_
    rintro e w5 ⟨v5, rfl, ho5, hb5⟩
    have HO5 := Lib.hid (own_mono_by HB4.out.size ho5)
    have HB5 := Lib.hid (nextW HB4.out hb5)
    clear ho5 hb5
    go_wp2
    refine bodyPost_ret (v := .tuple #[v5, .int .i64 0]) (by simp [results, Tryz.results32, go_sem]) rfl ⟨v5, by rw [HQ.out]; rfl, by rw [HQ.out]; exact HO5.out, HB5.out⟩

/-- A base and a number. -/
def RetBase (q : Rb) (z : Int) (w : World) (e : Ending) (w' : World) : Prop := ∃ vE vL, e = .returned (.tuple #[.agg #[.int .i64 q.f, vE, vL], .int .i64 z]) ∧ w'.ownsRow w.heap.size 45 9 vE q.es.length (q.es.flatMap entC) ∧ w'.ownsRow w.heap.size 50 15 vL q.l.length (q.l.flatMap crsC) ∧ Below w.heap.size w w'

theorem tkB_why (a b p n r : Int) (x : List Int) : tkB a b p n r x = if (Rd.base ⟨x, 0⟩).2.why ≠ 0 then (⟨0, [], []⟩, (Rd.base ⟨x, 0⟩).2.why) else if mayB a b p n r (Rd.base ⟨x, 0⟩).1.f (Rd.base ⟨x, 0⟩).1.es (Rd.base ⟨x, 0⟩).1.l then ((Rd.base ⟨x, 0⟩).1, 0) else (⟨0, [], []⟩, 4) := by
  unfold tkB Rd.why
  generalize Rd.base ⟨x, 0⟩ = L
  by_cases h1 : L.2.e = 0
  · by_cases h2 : L.2.l = []
    · simp [h1, h2]
    · have h3 : 0 < L.2.l.length := List.length_pos_iff.2 h2
      simp [h1, h2, h3]
  · simp [h1]

theorem list_le {α : Type} (one : Rd → α × Rd) (r : Rd) : (Rd.list one r).1.length ≤ 1000 := Nat.le_trans (many_len _ _ _) (by have := count_bd r 1000 (by omega); omega)

set_option maxHeartbeats 4000000 in
theorem take_any (a b p n s r : Int) (v : Value) (x : List Int) (w : World) (hv : IsSl byC w v x) (hok : ByOk x) (hn : x.length ≤ 1000000) :
    Calls Tryz.prog 34 #[.agg #[.int .i64 a, .int .i64 b, .int .i64 p, .int .i64 n, .int .u64 s], .int .i64 r, v] w (RetBase (tkB a b p n r x).1 (tkB a b p n r x).2 w) := by
  have HRd := Lib.hid (fun w1 hv => read_sn v x w1 hv hn)
  have HBs := Lib.hid (fun b g w1 h => sbase_any b g ⟨x, 0⟩ w1 h ⟨hok, hn⟩)
  have HQ := Lib.hid (tkB_why a b p n r x)
  have hle : (Rd.base ⟨x, 0⟩).1.es.length ≤ 1000 := list_le _ _
  have hll : (Rd.base ⟨x, 0⟩).1.l.length ≤ 1000 := list_le _ _
  have HV := Lib.hid hv
  obtain ⟨A, c, rfl, -⟩ := hv
  generalize tkB a b p n r x = Q at *
  generalize Rd.base ⟨x, 0⟩ = L at *
  have HM := Lib.hid (fun vE vL w1 h1 h2 => may_any a b p n s r L.1.f vE L.1.es vL L.1.l w1 h1 hle h2 (by omega))
  have HE := Lib.hid (fun b g w1 h => send_any b g L.2 w1 h)
  generalize L.2.why = z at *
  generalize x.length = nx at *
  clear hle hll
  go_enter Tryz.func34, Tryz.ntmps34
  go_upto_region 1 with fail
  generalize hW : World.alloc _ _ = W
  have BG := Lib.hid (show CfgBox W w.heap.size ⟨a, b, p, n, s⟩ from by rw [← hW]; exact CfgBox.n2a _ ⟨a, b, p, n, s⟩ _ _ rfl)
  have BS := Lib.hid (show Blk W (w.heap.size + 1) 63 #[.int .i64 0, .slice none 0 0, .slice none 0 0] from by rw [← hW]; exact Blk.new' _ _ _ (by simp))
  have HB := Lib.hid (show Below w.heap.size w W from by rw [← hW]; exact ((Below.refl _ _).alloc (Nat.le_refl _) _).alloc (by simp) _)
  clear hW
  have hss := BS.out.lt
  go_wp2_with fail
  refine (HRd.out _ (HV.out.below HB.out)).mono ?_
  rintro e w1 ⟨b1, g1, rfl, hg1, hs1, hb1⟩
  have HS1 := Lib.hid hs1
  replace BG := Lib.hid (BG.out.nx hb1)
  replace BS := Lib.hid (BS.out.below hb1 hss)
  have hgb1 := hs1.ne
  have NX := nextW HB.out hb1
  replace HB := Lib.hid NX
  clear hs1 hb1 HRd NX
  have hz1 : w.heap.size + 1 + 1 ≤ w1.heap.size := BS.out.lt
  go_wp2_with fail
  refine (HBs.out _ _ _ HS1.out).mono ?_
  rintro e w2 ⟨vE, vL, rfl, hoE, hoL, hs2, hk2⟩
  have HS2 := Lib.hid hs2
  have HOE := Lib.hid (own_lower hoE hz1)
  have HOL := Lib.hid (own_lower hoL hz1)
  have NX := hk2.below HB.out (by omega) (by omega) HB.out.size
  replace HB := Lib.hid NX
  replace BG := Lib.hid (CfgBox.of (fun q => World.cell?_of_block (a := ⟨w.heap.size, q, none⟩) (hk2.block w.heap.size BG.out.has (by omega) (by omega))) (fun q => World.frozen?_of_block (a := ⟨w.heap.size, q, none⟩) (hk2.block w.heap.size BG.out.has (by omega) (by omega))) BG.out)
  replace BS := Lib.hid (BS.out.kp hk2 (by omega) (by omega))
  clear hs2 hoE hoL hk2 HS1 HBs NX
  obtain ⟨AE, cE, hvE⟩ := slLen_own HOE.out
  subst hvE
  obtain ⟨AL, cL, hvL⟩ := slLen_own HOL.out
  subst hvL
  obtain ⟨NE, hNE⟩ : ∃ N, L.1.es.length = N := ⟨_, rfl⟩
  have HNE := Lib.hid hNE
  obtain ⟨NL, hNL⟩ : ∃ N, L.1.l.length = N := ⟨_, rfl⟩
  have HNL := Lib.hid hNL
  have HsE := Lib.hid (owned_sl HOE.out)
  have HsL := Lib.hid (owned_sl HOL.out)
  rw [hNE] at HOE HsE
  rw [hNL] at HOL HsL
  simp only [hNE, hNL]
  obtain ⟨F, hF⟩ : ∃ F, L.1.f = F := ⟨_, rfl⟩
  have HF := Lib.hid hF
  rw [hF] at HM
  simp only [hF]
  clear hNE hNL hF
  go_upto_region 3 with fail
  generalize hW : World.alloc _ _ = W2
  have BS2 := Lib.hid (show Blk W2 w2.heap.size 63 #[.int .i64 F, .slice AE NE cE, .slice AL NL cL] from by rw [← hW]; exact Blk.new' _ _ _ rfl)
  have hal : Below w2.heap.size w2 W2 := by rw [← hW]; exact (Below.refl _ _).alloc (Nat.le_refl _) _
  clear hW
  have hss2 := BS.out.lt
  replace BS := Lib.hid (BS.out.below hal hss2)
  replace BG := Lib.hid (BG.out.nx hal)
  have NX := nextW HB.out hal
  replace HB := Lib.hid NX
  replace HS2 := Lib.hid (HS2.out.bel hal)
  replace HOE := Lib.hid (own_below HOE.out hal)
  replace HOL := Lib.hid (own_below HOL.out hal)
  replace HsE := Lib.hid (HsE.out.below hal)
  replace HsL := Lib.hid (HsL.out.below hal)
  clear hal NX
  generalize w2.heap.size = gq at *
  go_wp2_with fail
  refine (HE.out _ _ _ HS2.out).mono ?_
  rintro e w3 ⟨rfl, rfl⟩
  have hq2 := BS.out.lt
  have r0 : W2.cell? ⟨w.heap.size + 1, 0, none⟩ = some (.int .i64 0) := BS.out.cell 0
  have r1 : W2.cell? ⟨w.heap.size + 1, 1, none⟩ = some (.slice none 0 0) := BS.out.cell 1
  have r2 : W2.cell? ⟨w.heap.size + 1, 2, none⟩ = some (.slice none 0 0) := BS.out.cell 2
  have e0 := BS.out.frozen 0
  have e1 := BS.out.frozen 1
  have e2 := BS.out.frozen 2
  by_cases hz : z = 0
  · subst hz
    rw [if_neg (by simp)] at HQ
    have hgl := BG.out.has
    have hbl := BS2.out.lt
    obtain ⟨g0, g1', g2, g3, g4, -⟩ := BG.out
    have s0 : W2.cell? ⟨gq, 0, none⟩ = some (.int .i64 F) := BS2.out.cell 0
    have s1 : W2.cell? ⟨gq, 1, none⟩ = some (.slice AE NE cE) := BS2.out.cell 1
    have s2 : W2.cell? ⟨gq, 2, none⟩ = some (.slice AL NL cL) := BS2.out.cell 2
    go_wp2_with fail
    refine (HM.out _ _ _ HsE.out HsL.out).mono ?_
    rintro e w4 ⟨rfl, hb4⟩
    have NX := nextW HB.out hb4
    replace HB := Lib.hid NX
    replace HOE := Lib.hid (own_below HOE.out hb4)
    replace HOL := Lib.hid (own_below HOL.out hb4)
    replace BS := Lib.hid (BS.out.below hb4 hq2)
    replace BS2 := Lib.hid (BS2.out.below hb4 hbl)
    clear hb4 NX g0 g1' g2 g3 g4 s0 s1 s2 r0 r1 r2 e0 e1 e2 hq2 hbl hgl
    have hq2 := BS.out.lt
    have hbl := BS2.out.lt
    have s0 : w4.cell? ⟨gq, 0, none⟩ = some (.int .i64 F) := BS2.out.cell 0
    have s1 : w4.cell? ⟨gq, 1, none⟩ = some (.slice AE NE cE) := BS2.out.cell 1
    have s2 : w4.cell? ⟨gq, 2, none⟩ = some (.slice AL NL cL) := BS2.out.cell 2
    have r0 : w4.cell? ⟨w.heap.size + 1, 0, none⟩ = some (.int .i64 0) := BS.out.cell 0
    have r1 : w4.cell? ⟨w.heap.size + 1, 1, none⟩ = some (.slice none 0 0) := BS.out.cell 1
    have r2 : w4.cell? ⟨w.heap.size + 1, 2, none⟩ = some (.slice none 0 0) := BS.out.cell 2
    have e0 := BS.out.frozen 0
    have e1 := BS.out.frozen 1
    have e2 := BS.out.frozen 2
    cases hq : mayB a b p n r F L.1.es L.1.l with
    | true =>
      rw [show L.1.f = F from HF.out, hq, if_pos rfl] at HQ
      clear hq
      go_wp2
      refine bodyPost_ret (v := .tuple #[.agg #[.int .i64 F, .slice AE NE cE, .slice AL NL cL], .int .i64 0]) (by simp [results, Tryz.results34, go_sem, r0, r1, r2]) rfl ⟨.slice AE NE cE, .slice AL NL cL, by rw [HQ.out, HF.out], ?_, ?_, ?_⟩
      · rw [HQ.out]
        have h := own_gt (own_gt (own_gt HOE.out (Nat.lt_succ_self _) 0 (.int .i64 F)) (Nat.lt_succ_self _) 1 (.slice AE NE cE)) (Nat.lt_succ_self _) 2 (.slice AL NL cL)
        rw [← HNE.out] at h ⊢
        exact own_lower h (by omega)
      · rw [HQ.out]
        have h := own_gt (own_gt (own_gt HOL.out (Nat.lt_succ_self _) 0 (.int .i64 F)) (Nat.lt_succ_self _) 1 (.slice AE NE cE)) (Nat.lt_succ_self _) 2 (.slice AL NL cL)
        rw [← HNL.out] at h ⊢
        exact own_lower h (by omega)
      · exact ((HB.out.setCell (Nat.le_succ _) _).setCell (Nat.le_succ _) _).setCell (Nat.le_succ _) _
    | false =>
      rw [show L.1.f = F from HF.out, hq, if_neg (by simp)] at HQ
      clear hq
      go_wp2
      refine bodyPost_ret (v := .tuple #[.agg #[.int .i64 0, .slice none 0 0, .slice none 0 0], .int .i64 4]) (by simp [results, Tryz.results34, go_sem, r0, r1, r2]) rfl ⟨.slice none 0 0, .slice none 0 0, by rw [HQ.out], ?_, ?_, ?_⟩
      · rw [HQ.out]; exact own_none _ _ _ _
      · rw [HQ.out]; exact own_none _ _ _ _
      · exact ((HB.out.setCell (Nat.le_succ _) _).setCell (Nat.le_succ _) _).setCell (Nat.le_succ _) _
  · have hz' : (z != 0) = true := by simpa using hz
    rw [if_pos hz] at HQ
    clear hz
    go_wp2
    refine bodyPost_ret (v := .tuple #[.agg #[.int .i64 0, .slice none 0 0, .slice none 0 0], .int .i64 z]) (by simp [results, Tryz.results34, go_sem, r0, r1, r2]) rfl ⟨.slice none 0 0, .slice none 0 0, by rw [HQ.out], ?_, ?_, ?_⟩
    · rw [HQ.out]; exact own_none _ _ _ _
    · rw [HQ.out]; exact own_none _ _ _ _
    · exact ((HB.out.setCell (Nat.le_succ _) _).setCell (Nat.le_succ _) _).setCell (Nat.le_succ _) _

end Go.Proofs.YtlpkaljepaclpaaGreat.Fx
namespace Go.Proofs.YtlpkaljepaclpaaGreat.Fx
open Go.ChangeShapes Go.WideShapes Go.ChangeAt Go.RowKit

theorem umod (x m : Int) (hm : 1 ≤ m) (hm2 : m ≤ 1000000) : wrap64 ((IntKind.u64.wrap x).tmod m) = IntKind.u64.wrap x % m ∧ 0 ≤ IntKind.u64.wrap x % m ∧ IntKind.u64.wrap x % m < m := by
  have h0 : 0 ≤ IntKind.u64.wrap x := by rw [IntKind.wrap_u64]; omega
  have h1 := Int.emod_nonneg (IntKind.u64.wrap x) (show m ≠ 0 by omega)
  have h2 := Int.emod_lt_of_pos (IntKind.u64.wrap x) (show 0 < m by omega)
  rw [Int.tmod_eq_emod_of_nonneg h0, IntWalk.wrap64_in _ (by omega)]
  exact ⟨rfl, h1, h2⟩

theorem umodR (x R : Int) (h1 : 1 ≤ R) (h2 : R ≤ 1000000) : IntKind.i64.wrap ((IntKind.u64.wrap x).tmod R) = IntKind.u64.wrap x % R ∧ 0 ≤ IntKind.i64.wrap ((IntKind.u64.wrap x).tmod R) ∧ IntKind.i64.wrap ((IntKind.u64.wrap x).tmod R) < R := by
  obtain ⟨h, h3, h4⟩ := umod x R h1 h2
  have : IntKind.i64.wrap ((IntKind.u64.wrap x).tmod R) = IntKind.u64.wrap x % R := by rw [← h, IntKind.wrap_i64, wrap64]
  rw [this]
  exact ⟨rfl, h3, h4⟩

theorem umod1 (x m : Int) (hm : 1 ≤ m) (hm2 : m ≤ 1000000) : 1 ≤ wrap64 (1 + wrap64 ((IntKind.u64.wrap x).tmod m)) ∧ wrap64 (1 + wrap64 ((IntKind.u64.wrap x).tmod m)) ≤ m := by
  obtain ⟨h, h1, h2⟩ := umod x m hm hm2
  rw [h, IntWalk.wrap64_in _ (by omega)]
  omega

/-- The place that int(uint(x)%uint(n)) is, of n places. -/
theorem uplace (x : Int) (n : Nat) (h0 : 0 < n) (h1 : n ≤ 1000000) : ∃ j : Nat, j < n ∧ IntKind.i64.wrap ((IntKind.u64.wrap x).tmod n) = j := by
  obtain ⟨h, h2, h3⟩ := umodR x n (by omega) (by omega)
  exact ⟨(IntKind.i64.wrap ((IntKind.u64.wrap x).tmod n)).toNat, by omega, by omega⟩

end Go.Proofs.YtlpkaljepaclpaaGreat.Fx
