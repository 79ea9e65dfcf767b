/- Package snapshot: PackCross, TakeCross. A region that nothing was put into, in a new box. -/
import Derived.Test.YtlpkaljepaclpaaGreatM20
import Derived.Test.YtlpkaljepaclpaaGreatM30
import Derived.Test.YtlpkaljepaclpaaGreatM31
import Derived.Test.YtlpkaljepaclpaaGreatM16
namespace Go.Proofs.YtlpkaljepaclpaaGreat.Fx
open Go.ChangeShapes Go.WideShapes Go.ChangeAt Go.RowKit
set_option linter.unusedVariables false
set_option maxRecDepth 100000

/-- Bytes and a number. -/
def RetPack (l : List Int) (q : Int) (w : World) (e : Ending) (w' : World) : Prop := ∃ v, e = .returned (.tuple #[v, .int .i64 q]) ∧ ownB w.heap.size w' v l ∧ Below w.heap.size w w'

def pkC (a b p n : Int) (l : List Crs) : List Int × Int := if l.all (crightB a b p n) then (packM l, 0) else ([], 4)

theorem packM_len (l : List Crs) : (packM l).length ≤ 9 + 117 * l.length := by
  have h1 : ∀ c, (crP c).length ≤ 117 := fun c => by
    have h := numsL_len (crN c)
    have h2 : (crN c).length ≤ 13 := by unfold crN crT enN; split <;> simp
    unfold crP; omega
  have h2 : (l.flatMap crP).length ≤ 117 * l.length := by
    induction l with
    | nil => simp
    | cons c l ih => rw [List.flatMap_cons, List.length_append, List.length_cons]; have := h1 c; omega
  unfold packM
  rw [List.length_append]
  have := (nums_len (l.length : Int)).2
  omega

theorem packE_len (l : List Ent) : (packE l).length ≤ 9 + 81 * l.length := by
  have h1 : ∀ c, (enP c).length ≤ 81 := fun c => by
    have h := numsL_len (enN c)
    have h2 : (enN c).length = 9 := rfl
    unfold enP; omega
  have h2 : (l.flatMap enP).length ≤ 81 * l.length := by
    induction l with
    | nil => simp
    | cons c l ih => rw [List.flatMap_cons, List.length_append, List.length_cons]; have := h1 c; omega
  unfold packE
  rw [List.length_append]
  have := (nums_len (l.length : Int)).2
  omega

theorem packcross_any (a b p n s : Int) (v : Value) (l : List Crs) (w : World) (hv : IsSl crsC w v l) (hn : l.length ≤ 5000) :
    Calls Tryz.prog 28 #[.agg #[.int .i64 a, .int .i64 b, .int .i64 p, .int .i64 n, .int .u64 s], v] w (RetPack (pkC a b p n l).1 (pkC a b p n l).2 w) := by
  have HR := Lib.hid (fun w1 hv => rightm_any a b p n s v l w1 hv (by omega))
  have HQ := Lib.hid (show pkC a b p n l = if l.all (crightB a b p n) then (packM l, 0) else ([], 4) from rfl)
  have HW := Lib.hid (fun B b w1 hw hb h => wmessages_any B b [] v l w w1 hw hv hb h (by omega))
  have HB := Lib.hid (fun B b w1 hw => wbytes_any B b (packM l) w1 hw (by have := packM_len l; omega))
  have HV := Lib.hid hv
  obtain ⟨A, c, rfl, -⟩ := hv
  generalize packM l = M at *
  generalize pkC a b p n l = Q at *
  generalize l.all (crightB a b p n) = q at *
  generalize l.length = nL at *
  go_enter Tryz.func28, Tryz.ntmps28
  go_wp2_with fail
  refine (HR.out _ (HV.out.below ((Below.refl _ _).alloc (Nat.le_refl _) _))).mono ?_
  rintro e w1 ⟨rfl, hb1⟩
  have HB1 := Lib.hid (show Below w.heap.size w w1 from unbox hb1)
  clear hb1 HR
  cases q with
  | false =>
    go_wp2
    refine bodyPost_ret (v := .tuple #[.slice none 0 0, .int .i64 4]) (by simp [results, Tryz.results28, go_sem]) rfl ⟨.slice none 0 0, by rw [HQ.out]; rfl, by rw [HQ.out]; exact ownB.nil _ _, HB1.out⟩
  | true =>
    go_wp2_with fail
    generalize hW : World.alloc _ _ = W
    have HWr := Lib.hid (show WrAt (w1.heap.size + 1) W w1.heap.size [] from by rw [← hW]; exact WrAt.new w1 _)
    have HBW := Lib.hid (show Below w.heap.size w W from by rw [← hW]; exact HB1.out.alloc HB1.out.size _)
    clear hW
    have hws := HB1.out.size
    refine (HW.out _ _ _ HWr.out HBW.out hws).mono ?_
    rintro e w2 ⟨rfl, hw2, hg2⟩
    have HB2 := Lib.hid (below_row HBW.out hg2 hws)
    have HW2 := Lib.hid hw2
    clear hw2 hg2 HWr HBW
    go_wp2_with fail
    refine (HB.out _ _ _ HW2.out).mono ?_
    rintro e w3 ⟨v3, rfl, ho3, hb3⟩
    have HO3 := Lib.hid (own_mono_by HB2.out.size ho3)
    have HB3 := Lib.hid (nextW HB2.out hb3)
    clear ho3 hb3
    go_wp2
    refine bodyPost_ret (v := .tuple #[v3, .int .i64 0]) (by simp [results, Tryz.results28, go_sem]) rfl ⟨v3, by rw [HQ.out]; rfl, by rw [HQ.out]; exact HO3.out, HB3.out⟩

/-- Messages and a number. -/
def RetTake (l : List Crs) (q : Int) (w : World) (e : Ending) (w' : World) : Prop := ∃ v, e = .returned (.tuple #[v, .int .i64 q]) ∧ w'.ownsRow w.heap.size 50 15 v l.length (l.flatMap crsC) ∧ Below w.heap.size w w'

theorem own_none (base : Nat) (e : TypeId) (size : Nat) (w : World) : w.ownsRow base e size (.slice none 0 0) 0 [] := World.ownsRow_nil _ _ _ _

theorem tkC_why (a b p n : Int) (x : List Int) : tkC a b p n x = if (Rd.list Rd.crs ⟨x, 0⟩).2.why ≠ 0 then ([], (Rd.list Rd.crs ⟨x, 0⟩).2.why) else if (Rd.list Rd.crs ⟨x, 0⟩).1.all (crightB a b p n) then ((Rd.list Rd.crs ⟨x, 0⟩).1, 0) else ([], 4) := by
  unfold tkC Rd.why
  generalize Rd.list Rd.crs ⟨x, 0⟩ = L
  by_cases h1 : L.2.e = 0
  · by_cases h2 : L.2.l = []
    · simp [h1, h2]
    · have h3 : 0 < L.2.l.length := List.length_pos_iff.2 h2
      simp [h1, h2, h3]
  · simp [h1]

set_option maxHeartbeats 2000000 in
theorem takecross_any (a b p n s : Int) (v : Value) (x : List Int) (w : World) (hv : IsSl byC w v x) (hok : ByOk x) (hn : x.length ≤ 1000000) :
    Calls Tryz.prog 30 #[.agg #[.int .i64 a, .int .i64 b, .int .i64 p, .int .i64 n, .int .u64 s], v] w (RetTake (tkC a b p n x).1 (tkC a b p n x).2 w) := by
  have HRd := Lib.hid (fun w1 hv => read_sn v x w1 hv hn)
  have HLs := Lib.hid (fun b g w1 h => slistC_any b g ⟨x, 0⟩ w1 h ⟨hok, hn⟩)
  have HLl := Lib.hid (show (Rd.list Rd.crs ⟨x, 0⟩).1.length ≤ 1000 from Nat.le_trans (many_len _ _ _) (by have := count_bd ⟨x, 0⟩ 1000 (by omega); omega))
  have HQ := Lib.hid (tkC_why a b p n x)
  have HV := Lib.hid hv
  obtain ⟨A, c, rfl, -⟩ := hv
  generalize tkC a b p n x = Q at *
  generalize Rd.list Rd.crs ⟨x, 0⟩ = L at *
  have HR := Lib.hid (fun v w1 hv => rightm_any a b p n s v L.1 w1 hv (by have := HLl.out; omega))
  have HE := Lib.hid (fun b g w1 h => send_any b g L.2 w1 h)
  generalize L.2.why = z at *
  generalize x.length = nx at *
  go_enter Tryz.func30, Tryz.ntmps30
  go_wp2_with fail
  refine (HRd.out _ (HV.out.below ((Below.refl _ _).alloc (Nat.le_refl _) _))).mono ?_
  rintro e w1 ⟨b1, g1, rfl, hg1, hs1, hb1⟩
  have HS1 := Lib.hid hs1
  have BG1 := Lib.hid ((CfgBox.n1 w ⟨a, b, p, n, s⟩ 39 rfl).nx hb1)
  have hgw : w.heap.size < g1 := by simp at hg1; omega
  have hgb1 := hs1.ne
  have HB1 := Lib.hid (show Below w.heap.size w w1 from unbox hb1)
  clear hs1 hb1 HRd hg1
  go_wp2_with fail
  refine (HLs.out _ _ _ HS1.out).mono ?_
  rintro e w2 ⟨v2, rfl, ho2, hs2, hk2⟩
  have HS2 := Lib.hid hs2
  have HO2 := Lib.hid (own_lower ho2 HB1.out.size)
  have HB2 := Lib.hid (hk2.below HB1.out (by omega) (by omega) HB1.out.size)
  have BG2 := Lib.hid (CfgBox.of (fun q => World.cell?_of_block (a := ⟨w.heap.size, q, none⟩) (hk2.block w.heap.size BG1.out.has (by omega) (by omega))) (fun q => World.frozen?_of_block (a := ⟨w.heap.size, q, none⟩) (hk2.block w.heap.size BG1.out.has (by omega) (by omega))) BG1.out)
  clear hs2 ho2 hk2 HS1 HB1 BG1 HLs
  obtain ⟨A2, c2, hv2⟩ := slLen_own HO2.out
  subst hv2
  obtain ⟨N, hN⟩ : ∃ N, L.1.length = N := ⟨_, rfl⟩
  have HN := Lib.hid hN
  rw [hN] at HO2
  simp only [hN]
  clear hN
  go_wp2_with fail
  refine (HE.out _ _ _ HS2.out).mono ?_
  rintro e w3 ⟨rfl, rfl⟩
  by_cases hz : z = 0
  · subst hz
    rw [if_neg (by simp)] at HQ
    have hgl := BG2.out.has
    obtain ⟨g0, g1', g2, g3, g4, -⟩ := BG2.out
    have HsL := Lib.hid (show IsSl crsC w2 (.slice A2 N c2) L.1 from by have h := HO2.out; rw [← HN.out] at h ⊢; exact owned_sl h)
    go_wp2_with fail
    refine (HR.out _ _ HsL.out).mono ?_
    rintro e w4 ⟨rfl, hb4⟩
    have HB4 := Lib.hid (nextW HB2.out hb4)
    have HO4 := Lib.hid (own_below HO2.out hb4)
    clear hb4
    cases hq : L.1.all (crightB a b p n) with
    | true =>
      rw [hq, if_pos rfl] at HQ
      clear hq
      go_wp2
      refine bodyPost_ret (v := .tuple #[.slice A2 N c2, .int .i64 0]) (by simp [results, Tryz.results30, go_sem]) rfl ⟨.slice A2 N c2, by rw [HQ.out], ?_, HB4.out⟩
      rw [HQ.out]
      have h := HO4.out
      rw [← HN.out] at h ⊢
      exact h
    | false =>
      rw [hq, if_neg (by simp)] at HQ
      clear hq
      go_wp2
      refine bodyPost_ret (v := .tuple #[.slice none 0 0, .int .i64 4]) (by simp [results, Tryz.results30, go_sem]) rfl ⟨.slice none 0 0, by rw [HQ.out], ?_, HB4.out⟩
      rw [HQ.out]
      exact own_none _ _ _ _
  · have hz' : (z != 0) = true := by simpa using hz
    rw [if_pos hz] at HQ
    clear hz
    go_wp2
    refine bodyPost_ret (v := .tuple #[.slice none 0 0, .int .i64 z]) (by simp [results, Tryz.results30, go_sem]) rfl ⟨.slice none 0 0, by rw [HQ.out]; first | done | rfl, ?_, HB2.out⟩
    rw [HQ.out]
    exact own_none _ _ _ _

end Go.Proofs.YtlpkaljepaclpaaGreat.Fx
namespace Go.Proofs.YtlpkaljepaclpaaGreat.Fx
open Go.ChangeShapes Go.WideShapes Go.ChangeAt Go.RowKit
set_option linter.unusedVariables false
set_option maxRecDepth 100000

theorem Blk.nx {w w' : World} {g : Nat} {t : TypeId} {cur : Array Value} (h : Blk w g t cur) (hb : Below w.heap.size w w') : Blk w' g t cur := h.below hb h.lt

theorem Blk.drew {w : World} {g : Nat} {t : TypeId} {cur : Array Value} (h : Blk w g t cur) : Blk w.drew g t cur := h

theorem Blk.new (w : World) (cur : Array Value) (t : TypeId) : Blk (w.alloc (.cells cur t)) w.heap.size t cur := heap_alloc_new w _

theorem Blk.new' (w : World) (cur : Array Value) (t : TypeId) {g : Nat} (hg : g = w.heap.size) : Blk (w.alloc (.cells cur t)) g t cur := hg ▸ Blk.new w cur t

/-- A region that nothing was put into. -/
def r0 : Reg := ⟨0, .slice none 0 0⟩

end Go.Proofs.YtlpkaljepaclpaaGreat.Fx
