/- The document's own Pack. -/
import Derived.Test.YtlpkaljepaclpaaGreatM42
namespace Go.Proofs.YtlpkaljepaclpaaGreat.Fx
open Go.ChangeShapes Go.WideShapes Go.ChangeAt Go.RowKit
set_option linter.unusedVariables false
set_option maxRecDepth 100000

def fpkB (a b p n r f : Int) (es : List Ent) (l : List Crs) : List Int × Int := if mayB a b p n r f es l then (packB f es l, 0) else ([], 4)

theorem enP_tk {l : List Ent} {k : Nat} {x : Ent} (h : l[k]? = some x) : (l.take (k + 1)).flatMap enP = (l.take k).flatMap enP ++ enP x := by
  rw [take_at h, List.flatMap_append]; simp

theorem enP_le (l : List Ent) : (l.flatMap enP).length ≤ 81 * l.length := by
  have h1 : ∀ c, (enP c).length ≤ 81 := fun c => by
    have h := numsL_le (enN c)
    have h2 : (enN c).length = 9 := rfl
    unfold enP; omega
  induction l with
  | nil => simp
  | cons c l ih => rw [List.flatMap_cons, List.length_append, List.length_cons]; have := h1 c; omega

set_option maxHeartbeats 8000000 in
theorem fpackB_any (a b p n s r f : Int) (vE : Value) (es : List Ent) (vL : Value) (l : List Crs) (w : World) (hE : IsSl entC w vE es) (hne : es.length ≤ 1000) (hL : IsSl crsC w vL l) (hnl : l.length ≤ 5000) :
    Calls Tryz.prog 33 #[.agg #[.int .i64 a, .int .i64 b, .int .i64 p, .int .i64 n, .int .u64 s], .int .i64 r, .agg #[.int .i64 f, vE, vL]] w (RetPk (fpkB a b p n r f es l).1 (fpkB a b p n r f es l).2 w) := by
  have HM := Lib.hid (fun w1 h1 h2 => fmay_any a b p n s r f vE es vL l w1 h1 hne h2 (by omega))
  have HQ := Lib.hid (show fpkB a b p n r f es l = if mayB a b p n r f es l then (packB f es l, 0) else ([], 4) from rfl)
  have HA := Lib.hid (fun v bs A n c l w1 hv hb hbs hl hn => fall_any w.heap.size v bs A n c l w1 hv hb hbs hl hn)
  have HC := Lib.hid (fun v bs w1 hv hb hbs hu => fcrosses_any w.heap.size v bs vL l w1 hv hb hbs hu hnl)
  have HEn := Lib.hid fentity_any
  have HE := Lib.hid hE
  have HL := Lib.hid hL
  obtain ⟨AE, cE, rfl, -⟩ := hE
  obtain ⟨AL, cL, rfl, -⟩ := hL
  obtain ⟨N, hN⟩ : ∃ n, es.length = n := ⟨_, rfl⟩
  have Hn := Lib.hid hN
  rw [hN] at HE HM hne ⊢
  have HPk := Lib.hid (show packB f es l = (numsL [f, (N : Int)] ++ es.flatMap enP) ++ packM l from by rw [← hN]; simp [packB, packE, numsL])
  have HT := Lib.hid (fun k x (h : es[k]? = some x) => enP_tk h)
  have HLn := Lib.hid (show ∀ k, (numsL [f, (N : Int)] ++ (es.take k).flatMap enP).length ≤ 100000 from fun k => by
    have h1 := enP_le (es.take k)
    have h2 := numsL_le [f, (N : Int)]
    rw [List.length_take] at h1
    simp only [List.length_cons, List.length_nil] at h2
    rw [List.length_append]; omega)
  generalize packB f es l = M at *
  generalize fpkB a b p n r f es l = Q at *
  generalize mayB a b p n r f es l = q at *
  generalize l.length = nL at *
  clear hN
  go_enter Tryz.func33, Tryz.ntmps33
  go_upto_region 1 with fail
  generalize hW : World.alloc _ _ = W
  have BG := Lib.hid (show CfgBox W w.heap.size ⟨a, b, p, n, s⟩ from by rw [← hW]; exact CfgBox.n2a _ ⟨a, b, p, n, s⟩ _ _ rfl)
  have BS := Lib.hid (show Blk W (w.heap.size + 1) 63 #[.int .i64 f, .slice AE N cE, .slice AL nL cL] from by rw [← hW]; exact Blk.new' _ _ _ (by simp))
  have HB := Lib.hid (show Below w.heap.size w W from by rw [← hW]; exact ((Below.refl _ _).alloc (Nat.le_refl _) _).alloc (by simp) _)
  clear hW
  have hgg := BG.out.has
  have hss := BS.out.lt
  have s0 : W.cell? ⟨w.heap.size + 1, 0, none⟩ = some (.int .i64 f) := BS.out.cell 0
  have s1 : W.cell? ⟨w.heap.size + 1, 1, none⟩ = some (.slice AE N cE) := BS.out.cell 1
  have s2 : W.cell? ⟨w.heap.size + 1, 2, none⟩ = some (.slice AL nL cL) := BS.out.cell 2
  obtain ⟨g0, g1, g2, g3, g4, -⟩ := BG.out
  go_wp2_with fail
  refine (HM.out _ (HE.out.below HB.out) (HL.out.below HB.out)).mono ?_
  rintro e w1 ⟨rfl, hb1⟩
  have NX := nextW HB.out hb1
  replace HB := Lib.hid NX
  replace BS := Lib.hid (BS.out.below hb1 hss)
  clear NX hb1 g0 g1 g2 g3 g4 hgg hss HM s0 s1 s2 BG
  cases q with
  | false =>
    go_wp2
    refine bodyPost_ret (v := .tuple #[.slice none 0 0, .int .i64 4]) (by simp [results, Tryz.results33, go_sem]) rfl ⟨.slice none 0 0, by rw [HQ.out]; first | done | rfl, by rw [HQ.out]; exact ownB.nil _ _, HB.out⟩
  | true =>
    have hss := BS.out.lt
    have hbw := HB.out.size
    have s0 : w1.cell? ⟨w.heap.size + 1, 0, none⟩ = some (.int .i64 f) := BS.out.cell 0
    have s1 : w1.cell? ⟨w.heap.size + 1, 1, none⟩ = some (.slice AE N cE) := BS.out.cell 1
    go_wp2_with fail
    refine (HA.out _ [] _ _ _ [f, (N : Int)] _ (ownB.nil _ _) (by simp; omega) (by simp) (ints_of' w1 _ [f, (N : Int)] _ 2 _ rfl rfl rfl) (by omega)).mono ?_
    rintro e w2 ⟨v2, rfl, ho2, hb2⟩
    have hb2' := unbox hb2
    have HO2 := Lib.hid (show ownB w.heap.size w2 v2 (numsL [f, (N : Int)] ++ (es.take 0).flatMap enP) from by simpa using ho2)
    have NX := nextW HB.out hb2'
    have HB2 := Lib.hid NX
    have BS2 := Lib.hid (BS.out.below hb2' hss)
    clear NX ho2 hb2 hb2' HB BS hss s0 s1 hbw
    go_wp2
    go_loopw [8, 9] (fun v i wr => ∃ k : Nat, k ≤ N ∧ i = .int .i64 k ∧ ownB w.heap.size wr v (numsL [f, (N : Int)] ++ (es.take k).flatMap enP) ∧ Blk wr (w.heap.size + 1) 63 #[.int .i64 f, .slice AE N cE, .slice AL nL cL] ∧ Below w.heap.size w wr) (fun _ i _ => N - (intOf i).toNat)
    case atStart => exact ⟨0, Nat.zero_le _, rfl, HO2.out, BS2.out, HB2.out⟩
    case round =>
      clear HO2 BS2 HB2
      obtain ⟨k, hk, rfl, ho, hs, hbel⟩ := hrel
      have Ho := Lib.hid ho
      have BS := Lib.hid hs
      have HB := Lib.hid hbel
      have hsl := hs.lt
      have s1 : wr.cell? ⟨w.heap.size + 1, 1, none⟩ = some (.slice AE N cE) := hs.cell 1
      have s2 : wr.cell? ⟨w.heap.size + 1, 2, none⟩ = some (.slice AL nL cL) := hs.cell 2
      obtain ⟨A1, c1, hv1, -⟩ := ho.sl
      have HLk := Lib.hid (HLn.out k)
      generalize (numsL [f, (N : Int)] ++ (es.take k).flatMap enP).length = m at hv1
      subst hv1
      clear ho hs hbel
      by_cases hlt : k < N
      · obtain ⟨x, hx⟩ := getE es k N Hn.out hlt
        have HX := Lib.hid (HT.out k x hx)
        obtain ⟨bb, off, rfl, hc⟩ := elem_Ent (HE.out.below HB.out).at hx
        obtain ⟨c0, c1, c2, c3, c4, c5, c6, c7, c8⟩ := hc
        have hki : (k : Int) < (N : Int) := by omega
        clear hx
        go_wp2_with fail
        refine (HEn.out x _).mono ?_
        rintro e w3 ⟨A3, c3', rfl, hi3, hb3⟩
        have HI3 := Lib.hid hi3
        have HO3 := Lib.hid (own_below Ho.out hb3)
        have HB3 := Lib.hid (nextW HB.out hb3)
        have BS3 := Lib.hid (BS.out.below hb3 hsl)
        clear hi3 hb3 Ho HB BS hsl s1 s2 c0 c1 c2 c3 c4 c5 c6 c7 c8
        have hsl := BS3.out.lt
        go_wp2_with fail
        refine (HA.out _ (numsL [f, (N : Int)] ++ (es.take k).flatMap enP) _ _ _ (enN x) _ HO3.out HB3.out.size (by have := HLk.out; omega) HI3.out (by omega)).mono ?_
        rintro e w4 ⟨v4, rfl, ho4, hb4⟩
        have HO4 := Lib.hid (show ownB w.heap.size w4 v4 (numsL [f, (N : Int)] ++ (es.take (k + 1)).flatMap enP) from by rw [HX.out, ← List.append_assoc]; exact ho4)
        have HB4 := Lib.hid (nextW HB3.out hb4)
        have BS4 := Lib.hid (BS3.out.below hb4 hsl)
        clear ho4 hb4 HO3 HB3 BS3 HI3 hsl
        go_wp2
        go_roundw
        case rel => exact ⟨k + 1, by omega, by go_num, HO4.out, BS4.out, HB4.out⟩
        case measure => simp [intOf]; omega
      · obtain rfl : k = N := by omega
        rw [List.take_of_length_le (by rw [Hn.out]; exact Nat.le_refl _)] at Ho HLk
        go_wp2_with fail
        refine (HC.out _ _ _ Ho.out HB.out.size (by have := HLk.out; omega) (HL.out.below HB.out)).mono ?_
        rintro e w5 ⟨v5, rfl, ho5, hb5⟩
        have HO5 := Lib.hid (show ownB w.heap.size w5 v5 M from by rw [HPk.out]; exact ho5)
        have NX := nextW HB.out hb5
        clear ho5 hb5
        go_wp2
        refine bodyPost_ret (v := .tuple #[v5, .int .i64 0]) (by simp [results, Tryz.results33, go_sem]) rfl ⟨v5, by rw [HQ.out]; first | done | rfl, by rw [HQ.out]; exact HO5.out, NX⟩

end Go.Proofs.YtlpkaljepaclpaaGreat.Fx
