/- Package snapshot: PackCross, TakeCross. A region that nothing was put into, in a new box. Package snapshot: May, Pack, Take. int(uint(x)%m): what it is. -/
import Derived.Test.YtlpkaljepaclpaaM22
import Derived.Test.YtlpkaljepaclpaaM34
import Derived.Test.YtlpkaljepaclpaaM35
import Derived.Test.YtlpkaljepaclpaaM16
import Derived.Test.YtlpkaljepaclpaaM17
import Derived.Test.YtlpkaljepaclpaaM24
import Derived.Test.YtlpkaljepaclpaaM01
namespace Go.Proofs.Ytlpkaljepaclpaa.Fx
open Go.ChangeShapes Go.WideShapes Go.ChangeAt Go.RowKit
set_option linter.unusedVariables false
set_option maxRecDepth 100000

/-- Bytes and a number. -/
def RetPack (l : List Int) (q : Int) (w : World) (e : Ending) (w' : World) : Prop := ∃ v, e = .returned (.tuple #[v, .int .i64 q]) ∧ ownB w.heap.size w' v l ∧ Below w.heap.size w w'

def pkC (a b p n : Int) (l : List Crs) : List Int × Int := if l.all (crightB a b p n) then (packM l, 0) else ([], 4)

theorem packM_len (l : List Crs) : (packM l).length ≤ 9 + 117 * l.length := by
  have h1 : ∀ c, (crP c).length ≤ 117 := fun c => by
    have h := numsL_len (crN c)
    have h2 : (crN c).length ≤ 13 := by unfold crN crT enN; split <;> simp
    unfold crP; omega
  have h2 : (l.flatMap crP).length ≤ 117 * l.length := by
    induction l with
    | nil => simp
    | cons c l ih => rw [List.flatMap_cons, List.length_append, List.length_cons]; have := h1 c; omega
  unfold packM
  rw [List.length_append]
  have := (nums_len (l.length : Int)).2
  omega

theorem packcross_any (a b p n s : Int) (v : Value) (l : List Crs) (w : World) (hv : IsSl crsC w v l) (hn : l.length ≤ 5000) :
    Calls Try.prog 9 #[.agg #[.int .i64 a, .int .i64 b, .int .i64 p, .int .i64 n, .int .u64 s], v] w (RetPack (pkC a b p n l).1 (pkC a b p n l).2 w) := by
  have HR := Lib.hid (fun w1 hv => rightm_any a b p n s v l w1 hv (by omega))
  have HQ := Lib.hid (show pkC a b p n l = if l.all (crightB a b p n) then (packM l, 0) else ([], 4) from rfl)
  have HW := Lib.hid (fun B b w1 hw hb h => wmessages_any B b [] v l w w1 hw hv hb h (by omega))
  have HB := Lib.hid (fun B b w1 hw => wbytes_any B b (packM l) w1 hw (by have := packM_len l; omega))
  have HV := Lib.hid hv
  obtain ⟨A, c, rfl, -⟩ := hv
  generalize packM l = M at *
  generalize pkC a b p n l = Q at *
  generalize l.all (crightB a b p n) = q at *
  generalize l.length = nL at *
  go_enter Try.func9, Try.ntmps9
  go_wp2_with fail
  refine (HR.out _ (HV.out.below ((Below.refl _ _).alloc (Nat.le_refl _) _))).mono ?_
  rintro e w1 ⟨rfl, hb1⟩
  have HB1 := Lib.hid (show Below w.heap.size w w1 from unbox hb1)
  clear hb1 HR
  cases q with
  | false =>
    go_wp2
    refine bodyPost_ret (v := .tuple #[.slice none 0 0, .int .i64 4]) (by simp [results, Try.results9, go_sem]) rfl ⟨.slice none 0 0, by rw [HQ.out]; rfl, by rw [HQ.out]; exact ownB.nil _ _, HB1.out⟩
  | true =>
    go_wp2_with fail
    generalize hW : World.alloc _ _ = W
    have HWr := Lib.hid (show WrAt (w1.heap.size + 1) W w1.heap.size [] from by rw [← hW]; exact WrAt.new w1 _)
    have HBW := Lib.hid (show Below w.heap.size w W from by rw [← hW]; exact HB1.out.alloc HB1.out.size _)
    clear hW
    have hws := HB1.out.size
    refine (HW.out _ _ _ HWr.out HBW.out hws).mono ?_
    rintro e w2 ⟨rfl, hw2, hg2⟩
    have HB2 := Lib.hid (below_row HBW.out hg2 hws)
    have HW2 := Lib.hid hw2
    clear hw2 hg2 HWr HBW
    go_wp2_with fail
    refine (HB.out _ _ _ HW2.out).mono ?_
    rintro e w3 ⟨v3, rfl, ho3, hb3⟩
    have HO3 := Lib.hid (own_mono_by HB2.out.size ho3)
    have HB3 := Lib.hid (nextW HB2.out hb3)
    clear ho3 hb3
    go_wp2
    refine bodyPost_ret (v := .tuple #[v3, .int .i64 0]) (by simp [results, Try.results9, go_sem]) rfl ⟨v3, by rw [HQ.out]; rfl, by rw [HQ.out]; exact HO3.out, HB3.out⟩

/-- Messages and a number. -/
def RetTake (l : List Crs) (q : Int) (w : World) (e : Ending) (w' : World) : Prop := ∃ v, e = .returned (.tuple #[v, .int .i64 q]) ∧ w'.ownsRow w.heap.size 45 15 v l.length (l.flatMap crsC) ∧ Below w.heap.size w w'

theorem own_none (base : Nat) (e : TypeId) (size : Nat) (w : World) : w.ownsRow base e size (.slice none 0 0) 0 [] := World.ownsRow_nil _ _ _ _

theorem tkC_why (a b p n : Int) (x : List Int) : tkC a b p n x = if (Rd.list Rd.crs ⟨x, 0⟩).2.why ≠ 0 then ([], (Rd.list Rd.crs ⟨x, 0⟩).2.why) else if (Rd.list Rd.crs ⟨x, 0⟩).1.all (crightB a b p n) then ((Rd.list Rd.crs ⟨x, 0⟩).1, 0) else ([], 4) := by
  unfold tkC Rd.why
  generalize Rd.list Rd.crs ⟨x, 0⟩ = L
  by_cases h1 : L.2.e = 0
  · by_cases h2 : L.2.l = []
    · simp [h1, h2]
    · have h3 : 0 < L.2.l.length := List.length_pos_iff.2 h2
      simp [h1, h2, h3]
  · simp [h1]

set_option maxHeartbeats 2000000 in
theorem takecross_any (a b p n s : Int) (v : Value) (x : List Int) (w : World) (hv : IsSl byC w v x) (hok : ByOk x) (hn : x.length ≤ 1000000) :
    Calls Try.prog 10 #[.agg #[.int .i64 a, .int .i64 b, .int .i64 p, .int .i64 n, .int .u64 s], v] w (RetTake (tkC a b p n x).1 (tkC a b p n x).2 w) := by
  have HRd := Lib.hid (fun w1 hv => read_sn v x w1 hv hn)
  have HLs := Lib.hid (fun b g w1 h => slistC_any b g ⟨x, 0⟩ w1 h ⟨hok, hn⟩)
  have HLl := Lib.hid (show (Rd.list Rd.crs ⟨x, 0⟩).1.length ≤ 1000 from Nat.le_trans (many_len _ _ _) (by have := count_bd ⟨x, 0⟩ 1000 (by omega); omega))
  have HQ := Lib.hid (tkC_why a b p n x)
  have HV := Lib.hid hv
  obtain ⟨A, c, rfl, -⟩ := hv
  generalize tkC a b p n x = Q at *
  generalize Rd.list Rd.crs ⟨x, 0⟩ = L at *
  have HR := Lib.hid (fun v w1 hv => rightm_any a b p n s v L.1 w1 hv (by have := HLl.out; omega))
  have HE := Lib.hid (fun b g w1 h => send_any b g L.2 w1 h)
  generalize L.2.why = z at *
  generalize x.length = nx at *
  go_enter Try.func10, Try.ntmps10
  go_wp2_with fail
  refine (HRd.out _ (HV.out.below ((Below.refl _ _).alloc (Nat.le_refl _) _))).mono ?_
  rintro e w1 ⟨b1, g1, rfl, hg1, hs1, hb1⟩
  have HS1 := Lib.hid hs1
  have BG1 := Lib.hid ((CfgBox.n1 w ⟨a, b, p, n, s⟩ 29 rfl).nx hb1)
  have hgw : w.heap.size < g1 := by simp at hg1; omega
  have hgb1 := hs1.ne
  have HB1 := Lib.hid (show Below w.heap.size w w1 from unbox hb1)
  clear hs1 hb1 HRd hg1
  go_wp2_with fail
  refine (HLs.out _ _ _ HS1.out).mono ?_
  rintro e w2 ⟨v2, rfl, ho2, hs2, hk2⟩
  have HS2 := Lib.hid hs2
  have HO2 := Lib.hid (own_lower ho2 HB1.out.size)
  have HB2 := Lib.hid (hk2.below HB1.out (by omega) (by omega) HB1.out.size)
  have BG2 := Lib.hid (CfgBox.of (fun q => World.cell?_of_block (a := ⟨w.heap.size, q, none⟩) (hk2.block w.heap.size BG1.out.has (by omega) (by omega))) (fun q => World.frozen?_of_block (a := ⟨w.heap.size, q, none⟩) (hk2.block w.heap.size BG1.out.has (by omega) (by omega))) BG1.out)
  clear hs2 ho2 hk2 HS1 HB1 BG1 HLs
  obtain ⟨A2, c2, hv2⟩ := slLen_own HO2.out
  subst hv2
  obtain ⟨N, hN⟩ : ∃ N, L.1.length = N := ⟨_, rfl⟩
  have HN := Lib.hid hN
  rw [hN] at HO2
  simp only [hN]
  clear hN
  go_wp2_with fail
  refine (HE.out _ _ _ HS2.out).mono ?_
  rintro e w3 ⟨rfl, rfl⟩
  by_cases hz : z = 0
  · subst hz
    rw [if_neg (by simp)] at HQ
    have hgl := BG2.out.has
    obtain ⟨g0, g1', g2, g3, g4, -⟩ := BG2.out
    have HsL := Lib.hid (show IsSl crsC w2 (.slice A2 N c2) L.1 from by have h := HO2.out; rw [← HN.out] at h ⊢; exact owned_sl h)
    go_wp2_with fail
    refine (HR.out _ _ HsL.out).mono ?_
    rintro e w4 ⟨rfl, hb4⟩
    have HB4 := Lib.hid (nextW HB2.out hb4)
    have HO4 := Lib.hid (own_below HO2.out hb4)
    clear hb4
    cases hq : L.1.all (crightB a b p n) with
    | true =>
      rw [hq, if_pos rfl] at HQ
      clear hq
      go_wp2
      refine bodyPost_ret (v := .tuple #[.slice A2 N c2, .int .i64 0]) (by simp [results, Try.results10, go_sem]) rfl ⟨.slice A2 N c2, by rw [HQ.out], ?_, HB4.out⟩
      rw [HQ.out]
      have h := HO4.out
      rw [← HN.out] at h ⊢
      exact h
    | false =>
      rw [hq, if_neg (by simp)] at HQ
      clear hq
      go_wp2
      refine bodyPost_ret (v := .tuple #[.slice none 0 0, .int .i64 4]) (by simp [results, Try.results10, go_sem]) rfl ⟨.slice none 0 0, by rw [HQ.out], ?_, HB4.out⟩
      rw [HQ.out]
      exact own_none _ _ _ _
  · have hz' : (z != 0) = true := by simpa using hz
    rw [if_pos hz] at HQ
    clear hz
    go_wp2
    refine bodyPost_ret (v := .tuple #[.slice none 0 0, .int .i64 z]) (by simp [results, Try.results10, go_sem]) rfl ⟨.slice none 0 0, by rw [HQ.out]; first | done | rfl, ?_, HB2.out⟩
    rw [HQ.out]
    exact own_none _ _ _ _

end Go.Proofs.Ytlpkaljepaclpaa.Fx
namespace Go.Proofs.Ytlpkaljepaclpaa.Fx
open Go.ChangeShapes Go.WideShapes Go.ChangeAt Go.RowKit
set_option linter.unusedVariables false
set_option maxRecDepth 100000

theorem Blk.nx {w w' : World} {g : Nat} {t : TypeId} {cur : Array Value} (h : Blk w g t cur) (hb : Below w.heap.size w w') : Blk w' g t cur := h.below hb h.lt

theorem Blk.drew {w : World} {g : Nat} {t : TypeId} {cur : Array Value} (h : Blk w g t cur) : Blk w.drew g t cur := h

theorem Blk.new (w : World) (cur : Array Value) (t : TypeId) : Blk (w.alloc (.cells cur t)) w.heap.size t cur := heap_alloc_new w _

theorem Blk.new' (w : World) (cur : Array Value) (t : TypeId) {g : Nat} (hg : g = w.heap.size) : Blk (w.alloc (.cells cur t)) g t cur := hg ▸ Blk.new w cur t

/-- A region that nothing was put into. -/
def r0 : Reg := ⟨0, .slice none 0 0⟩

end Go.Proofs.Ytlpkaljepaclpaa.Fx
namespace Go.Proofs.Ytlpkaljepaclpaa.Fx
open Go.ChangeShapes Go.WideShapes Go.ChangeAt Go.RowKit
set_option linter.unusedVariables false
set_option maxRecDepth 100000

theorem rgB_fr {a b p n r f : Int} {es : List Ent} (h : rgB a b p n r f es = true) : 0 ≤ f ∧ f ≤ 10000 := by
  unfold rgB at h
  simp only [Bool.and_eq_true, decide_eq_true_eq] at h
  exact h.1.1.1.2

set_option maxHeartbeats 4000000 in
theorem may_any (a b p n s r f : Int) (vE : Value) (es : List Ent) (vL : Value) (l : List Crs) (w : World) (hE : IsSl entC w vE es) (hne : es.length ≤ 1000) (hL : IsSl crsC w vL l) (hnl : l.length ≤ 1000000) :
    Calls Try.prog 14 #[.agg #[.int .i64 a, .int .i64 b, .int .i64 p, .int .i64 n, .int .u64 s], .int .i64 r, .agg #[.int .i64 f, vE, vL]] w fun z w' => z = .returned (.bool (mayB a b p n r f es l)) ∧ Below w.heap.size w w' := by
  have HR := Lib.hid (fun w1 hv => rgright_any a b p n s r f vE es w1 hv hne)
  have HM := Lib.hid (fun w1 hv => rightm_any a b p n s vL l w1 hv hnl)
  have HSt := Lib.hid (fun hf w1 hv h g hh hg => anystrays_any r f hf vL l w1 hv hnl h g hh hg)
  have HO := Lib.hid (fun w1 hv => inorder_any vL l w1 hv hnl)
  have HQ := Lib.hid (show mayB a b p n r f es l = (rgB a b p n r f es && (l.all (crightB a b p n) && (l.all (fun c => decide (c.dst = r ∧ c.frame = f - 1)) && inOrd l))) from rfl)
  have HF := Lib.hid (fun h => rgB_fr (a := a) (b := b) (p := p) (n := n) (r := r) (f := f) (es := es) h)
  have HE := Lib.hid hE
  have HL := Lib.hid hL
  obtain ⟨AE, cE, rfl, -⟩ := hE
  obtain ⟨AL, cL, rfl, -⟩ := hL
  generalize mayB a b p n r f es l = z at *
  generalize rgB a b p n r f es = q1 at *
  generalize l.all (crightB a b p n) = q2 at *
  generalize l.all (fun c => decide (c.dst = r ∧ c.frame = f - 1)) = q3 at *
  generalize inOrd l = q4 at *
  generalize es.length = nE at *
  generalize l.length = nL at *
  go_enter Try.func14, Try.ntmps14
  go_upto_region 1 with fail
  generalize hW : World.alloc _ _ = W
  have BG := Lib.hid (show CfgBox W w.heap.size ⟨a, b, p, n, s⟩ from by rw [← hW]; exact CfgBox.n3a _ ⟨a, b, p, n, s⟩ _ _ _ rfl)
  have BS := Lib.hid (show Blk W (w.heap.size + 1 + 1) 54 #[.int .i64 f, .slice AE nE cE, .slice AL nL cL] from by rw [← hW]; exact Blk.new' _ _ _ (by simp))
  have HB := Lib.hid (show Below w.heap.size w W from by rw [← hW]; exact (((Below.refl _ _).alloc (Nat.le_refl _) _).alloc (by simp) _).alloc (by simp; omega) _)
  have Hh := Lib.hid (show W.cell? ⟨w.heap.size + 1, 0, none⟩ = some (.int .i64 r) from by rw [← hW, World.cell?_alloc_lt _ _ _ (by simp), cell_box _ _ _ _ _ (by simp)]; rfl)
  clear hW
  have hh := Hh.out
  have hhh := World.block_lt_of_cell? _ _ hh
  have hgg := BG.out.has
  have hss := BS.out.lt
  have s0 : W.cell? ⟨w.heap.size + 1 + 1, 0, none⟩ = some (.int .i64 f) := BS.out.cell 0
  have s1 : W.cell? ⟨w.heap.size + 1 + 1, 1, none⟩ = some (.slice AE nE cE) := BS.out.cell 1
  have s2 : W.cell? ⟨w.heap.size + 1 + 1, 2, none⟩ = some (.slice AL nL cL) := BS.out.cell 2
  obtain ⟨g0, g1, g2, g3, g4, -⟩ := BG.out
  go_wp2_with fail
  refine (HR.out _ (HE.out.below HB.out)).mono ?_
  rintro e w1 ⟨rfl, hb1⟩
  have NX := nextW HB.out hb1
  replace HB := Lib.hid NX
  replace BG := Lib.hid (BG.out.nx hb1)
  replace BS := Lib.hid (BS.out.below hb1 hss)
  replace Hh := Lib.hid ((hb1.cell (p := ⟨w.heap.size + 1, 0, none⟩) hhh).trans Hh.out)
  clear NX hb1 g0 g1 g2 g3 g4 hh hhh hgg hss HR s0 s1 s2
  cases q1 with
  | false =>
    go_wp2
    go_ret
    exact ⟨ret_bool (by rw [HQ.out]; simp), HB.out⟩
  | true =>
    have hf := HF.out rfl
    have hgg := BG.out.has
    have hss := BS.out.lt
    have hhh := World.block_lt_of_cell? _ _ Hh.out
    have s0 : w1.cell? ⟨w.heap.size + 1 + 1, 0, none⟩ = some (.int .i64 f) := BS.out.cell 0
    have s1 : w1.cell? ⟨w.heap.size + 1 + 1, 1, none⟩ = some (.slice AE nE cE) := BS.out.cell 1
    have s2 : w1.cell? ⟨w.heap.size + 1 + 1, 2, none⟩ = some (.slice AL nL cL) := BS.out.cell 2
    obtain ⟨g0, g1, g2, g3, g4, -⟩ := BG.out
    go_wp2_with fail
    refine (HM.out _ (HL.out.below HB.out)).mono ?_
    rintro e w2 ⟨rfl, hb2⟩
    have NX := nextW HB.out hb2
    replace HB := Lib.hid NX
    replace BS := Lib.hid (BS.out.below hb2 hss)
    replace Hh := Lib.hid ((hb2.cell (p := ⟨w.heap.size + 1, 0, none⟩) hhh).trans Hh.out)
    clear NX hb2 g0 g1 g2 g3 g4 hgg hss hhh HM s0 s1 s2 BG
    cases q2 with
    | false =>
      go_wp2
      go_ret
      exact ⟨ret_bool (by rw [HQ.out]; simp), HB.out⟩
    | true =>
      have hss := BS.out.lt
      have s0 : w2.cell? ⟨w.heap.size + 1 + 1, 0, none⟩ = some (.int .i64 f) := BS.out.cell 0
      have s2 : w2.cell? ⟨w.heap.size + 1 + 1, 2, none⟩ = some (.slice AL nL cL) := BS.out.cell 2
      go_wp2_with fail
      refine (HSt.out hf _ (HL.out.below HB.out) _ _ Hh.out s0).mono ?_
      rintro e w3 ⟨rfl, hb3⟩
      have NX := nextW HB.out hb3
      replace HB := Lib.hid NX
      replace BS := Lib.hid (BS.out.below hb3 hss)
      clear NX hb3 hss HSt s0 s2
      cases q3 with
      | false =>
        go_wp2
        go_ret
        exact ⟨ret_bool (by rw [HQ.out]; simp), HB.out⟩
      | true =>
        have hss := BS.out.lt
        have s2 : w3.cell? ⟨w.heap.size + 1 + 1, 2, none⟩ = some (.slice AL nL cL) := BS.out.cell 2
        go_wp2_with fail
        refine (HO.out _ (HL.out.below HB.out)).mono ?_
        rintro e w4 ⟨rfl, hb4⟩
        have NX := nextW HB.out hb4
        clear hb4 HO hss s2
        go_wp2
        go_ret
        exact ⟨ret_bool (by rw [HQ.out]; simp), NX⟩

def pkB (a b p n r f : Int) (es : List Ent) (l : List Crs) : List Int × Int := if mayB a b p n r f es l then (packB f es l, 0) else ([], 4)

/-- A base and a number. -/
def RetBase (q : Rb) (z : Int) (w : World) (e : Ending) (w' : World) : Prop := ∃ vE vL, e = .returned (.tuple #[.agg #[.int .i64 q.f, vE, vL], .int .i64 z]) ∧ w'.ownsRow w.heap.size 43 9 vE q.es.length (q.es.flatMap entC) ∧ w'.ownsRow w.heap.size 45 15 vL q.l.length (q.l.flatMap crsC) ∧ Below w.heap.size w w'

end Go.Proofs.Ytlpkaljepaclpaa.Fx
namespace Go.Proofs.Ytlpkaljepaclpaa.Fx
open Go.ChangeShapes Go.WideShapes Go.ChangeAt Go.RowKit

theorem umod (x m : Int) (hm : 1 ≤ m) (hm2 : m ≤ 1000000) : wrap64 ((IntKind.u64.wrap x).tmod m) = IntKind.u64.wrap x % m ∧ 0 ≤ IntKind.u64.wrap x % m ∧ IntKind.u64.wrap x % m < m := by
  have h0 : 0 ≤ IntKind.u64.wrap x := by rw [IntKind.wrap_u64]; omega
  have h1 := Int.emod_nonneg (IntKind.u64.wrap x) (show m ≠ 0 by omega)
  have h2 := Int.emod_lt_of_pos (IntKind.u64.wrap x) (show 0 < m by omega)
  rw [Int.tmod_eq_emod_of_nonneg h0, IntWalk.wrap64_in _ (by omega)]
  exact ⟨rfl, h1, h2⟩

theorem umodR (x R : Int) (h1 : 1 ≤ R) (h2 : R ≤ 1000000) : IntKind.i64.wrap ((IntKind.u64.wrap x).tmod R) = IntKind.u64.wrap x % R ∧ 0 ≤ IntKind.i64.wrap ((IntKind.u64.wrap x).tmod R) ∧ IntKind.i64.wrap ((IntKind.u64.wrap x).tmod R) < R := by
  obtain ⟨h, h3, h4⟩ := umod x R h1 h2
  have : IntKind.i64.wrap ((IntKind.u64.wrap x).tmod R) = IntKind.u64.wrap x % R := by rw [← h, IntKind.wrap_i64, wrap64]
  rw [this]
  exact ⟨rfl, h3, h4⟩

theorem umod1 (x m : Int) (hm : 1 ≤ m) (hm2 : m ≤ 1000000) : 1 ≤ wrap64 (1 + wrap64 ((IntKind.u64.wrap x).tmod m)) ∧ wrap64 (1 + wrap64 ((IntKind.u64.wrap x).tmod m)) ≤ m := by
  obtain ⟨h, h1, h2⟩ := umod x m hm hm2
  rw [h, IntWalk.wrap64_in _ (by omega)]
  omega

/-- The place that int(uint(x)%uint(n)) is, of n places. -/
theorem uplace (x : Int) (n : Nat) (h0 : 0 < n) (h1 : n ≤ 1000000) : ∃ j : Nat, j < n ∧ IntKind.i64.wrap ((IntKind.u64.wrap x).tmod n) = j := by
  obtain ⟨h, h2, h3⟩ := umodR x n (by omega) (by omega)
  exact ⟨(IntKind.i64.wrap ((IntKind.u64.wrap x).tmod n)).toNat, by omega, by omega⟩

end Go.Proofs.Ytlpkaljepaclpaa.Fx
