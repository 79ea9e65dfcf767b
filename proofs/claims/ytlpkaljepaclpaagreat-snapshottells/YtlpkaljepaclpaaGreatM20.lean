/- Package snapshot: rightMessages. A region that draws its order and ends in forced stores: as in GSeq, but S is asked for only as long as the first of these stores has not come up; behind it the rest is walked in its order. -/
import Derived.Test.YtlpkaljepaclpaaGreatM11
import Derived.Test.YtlpkaljepaclpaaGreatM19
import Derived.Test.YtlpkaljepaclpaaGreatM16
import Derived.Test.YtlpkaljepaclpaaGreatM04
import Derived.StillTail
namespace Go.Proofs.YtlpkaljepaclpaaGreat.Fx
open Go.ChangeShapes Go.WideShapes Go.ChangeAt Go.RowKit
set_option linter.unusedVariables false
set_option maxRecDepth 100000

theorem wrongM_any (a b p n s : Int) (y : Crs) (g : Nat) (w : World) (hg : CfgBox w g ⟨a, b, p, n, s⟩) :
    Calls Tryz.prog 127 #[.agg #[.int .i64 y.kind, .int .i64 y.src, .int .i64 y.dst, .int .i64 y.frame, .int .i64 y.e.id, .int .i64 y.e.kind, .int .i64 y.e.x, .int .i64 y.e.y, .int .i64 y.e.vx, .int .i64 y.e.vy, .int .i64 y.e.health, .int .i64 y.e.age, .int .i64 y.e.owner, .int .i64 y.x, .int .i64 y.y], .pointer (some ⟨g, 0, none⟩)] w fun z w' => z = .returned (.bool (!crightB a b p n y)) ∧ Below w.heap.size w w' := by
  have HR := Lib.hid (fun w => cright_any a b p n s y w)
  generalize crightB a b p n y = z at *
  have hlg : g < w.heap.size := hg.has
  have Hg := Lib.hid hg
  clear hg
  go_enter Tryz.func127, Tryz.ntmps127
  go_upto_region 1 with fail
  generalize hW : World.alloc _ _ = W at *
  have BX := Lib.hid (show CrsBox W w.heap.size y from by rw [← hW]; exact CrsBox.n1 _ y _ rfl)
  have HB := Lib.hid (show Below w.heap.size w W from by rw [← hW]; exact (Below.refl _ _).alloc (Nat.le_refl _) _)
  clear hW
  have BG := Lib.hid (Hg.out.below HB.out hlg)
  have hgx := BX.out.has
  have hgg := BG.out.has
  obtain ⟨g0, g1, g2, g3, g4, -⟩ := BG.out
  obtain ⟨x0, x1, x2, x3, x4, x5, x6, x7, x8, x9, x10, x11, x12, x13, x14, -⟩ := BX.out
  go_wp2_with fail
  refine (HR.out _).mono ?_
  rintro e w1 ⟨rfl, hb1⟩
  have HB1 := Lib.hid (nextW HB.out hb1)
  clear hb1
  go_wp2
  go_ret
  exact ⟨rfl, HB1.out⟩

/-- Is one wrong? -/
theorem anywrong_any (a b p n s : Int) (v : Value) (l : List Crs) (w : World) (hv : IsSl crsC w v l) (hn : l.length ≤ 1000000) (g : Nat) (hg : CfgBox w g ⟨a, b, p, n, s⟩) :
    Calls Tryz.prog 87 #[v, .func (.func 127) #[] #[.pointer (some ⟨g, 0, none⟩)]] w
      fun z w' => z = .returned (.bool (!l.all (crightB a b p n))) ∧ Below w.heap.size w w' := by
  obtain ⟨A, c, rfl, -, -, hat⟩ := hv
  have Hat := Lib.hid hat
  obtain ⟨N, hnn⟩ : ∃ N, l.length = N := ⟨_, rfl⟩
  rw [hnn] at hn ⊢
  have Hn := Lib.hid hnn
  clear hat hnn
  obtain ⟨F, hFF⟩ : ∃ F : Crs → Bool, F = (crightB a b p n) := ⟨_, rfl⟩
  rw [← hFF]
  have HF := Lib.hid (show l.all F = (l.drop 0).all F from by simp)
  have HT := Lib.hid (show ∀ (x : Crs) (w1 : World), Below w.heap.size w w1 → Calls Tryz.prog 127 #[.agg #[.int .i64 x.kind, .int .i64 x.src, .int .i64 x.dst, .int .i64 x.frame, .int .i64 x.e.id, .int .i64 x.e.kind, .int .i64 x.e.x, .int .i64 x.e.y, .int .i64 x.e.vx, .int .i64 x.e.vy, .int .i64 x.e.health, .int .i64 x.e.age, .int .i64 x.e.owner, .int .i64 x.x, .int .i64 x.y], .pointer (some ⟨g, 0, none⟩)] w1 (fun z w' => z = .returned (.bool (!F x)) ∧ Below w1.heap.size w1 w') from fun x w1 hb => by rw [hFF]; exact wrongM_any a b p n s x g w1 (hg.below hb hg.has))
  generalize l.all F = q at *
  clear hFF hg
  go_enter Tryz.func87, Tryz.ntmps87
  go_wp2_with (go_at_call 155; go_in)
  go_loopw [8] (fun i wr => ∃ k : Nat, k ≤ N ∧ i = .int .i64 k ∧ q = (l.drop k).all F ∧ Below w.heap.size w wr) (fun i _ => N - (intOf i).toNat)
  case atStart => exact ⟨0, Nat.zero_le _, rfl, HF.out, Below.refl _ _⟩
  case round =>
    obtain ⟨k, hk, rfl, hr, hbel⟩ := hrel
    have Hr := Lib.hid hr
    have Hbel := Lib.hid hbel
    clear hr hbel
    by_cases hlt : k < N
    · obtain ⟨x, hx⟩ := getE l k N Hn.out hlt
      have HX := Lib.hid (drop_at hx)
      obtain ⟨bb, off, rfl, hc⟩ := elem_Crs (Hat.out.below Hbel.out) hx
      obtain ⟨c0, c1, c2, c3, c4, c5, c6, c7, c8, c9, c10, c11, c12, c13, c14⟩ := hc
      clear hx
      go_wp2_with fail
      refine (HT.out x _ Hbel.out).mono ?_
      rintro e w4 ⟨rfl, hb4⟩
      have Hb4 := Lib.hid (nextW Hbel.out hb4)
      clear hb4 c0 c1 c2 c3 c4 c5 c6 c7 c8 c9 c10 c11 c12 c13 c14 HT
      cases hxy : F x with
      | false =>
        have Hxy := Lib.hid hxy
        clear hxy
        go_wp2
        go_ret
        exact ⟨ret_bool (by rw [Hr.out, HX.out, List.all_cons, Hxy.out]; simp), Hb4.out⟩
      | true =>
        have Hxy := Lib.hid hxy
        clear hxy
        go_wp2
        go_roundw
        case rel => exact ⟨k + 1, by omega, by go_num, by rw [Hr.out, HX.out, List.all_cons, Hxy.out, Bool.true_and], Hb4.out⟩
        case measure => simp [intOf]; omega
    · obtain rfl : k = N := by omega
      go_wp2
      go_ret
      exact ⟨ret_bool (by rw [Hr.out, List.drop_eq_nil_of_le (by have := Hn.out; omega)]; simp), Hbel.out⟩

theorem rightm_any (a b p n s : Int) (v : Value) (l : List Crs) (w : World) (hv : IsSl crsC w v l) (hn : l.length ≤ 1000000) :
    Calls Tryz.prog 67 #[.agg #[.int .i64 a, .int .i64 b, .int .i64 p, .int .i64 n, .int .u64 s], v] w fun z w' => z = .returned (.bool (l.all (crightB a b p n))) ∧ Below w.heap.size w w' := by
  have HA := Lib.hid (fun w1 hv hg => anywrong_any a b p n s v l w1 hv hn w.heap.size hg)
  have HV := Lib.hid hv
  obtain ⟨A, c, rfl, -⟩ := hv
  generalize l.all (crightB a b p n) = q at *
  go_enter Tryz.func67, Tryz.ntmps67
  go_wp2_with fail
  refine (HA.out _ (HV.out.below ((Below.refl _ _).alloc (Nat.le_refl _) _)) (CfgBox.n1 _ ⟨a, b, p, n, s⟩ _ rfl)).mono ?_
  rintro e w1 ⟨rfl, hb1⟩
  have HB := Lib.hid (show Below w.heap.size w w1 from unbox hb1)
  clear hb1
  go_wp2
  go_ret
  exact ⟨ret_bool (by simp), HB.out⟩

end Go.Proofs.YtlpkaljepaclpaaGreat.Fx
namespace Go.Proofs.YtlpkaljepaclpaaGreat.Fx
open Go.RowKit

section
variable {P : Program} {md : Region.Mode} {ops : Array Oper} {Q : Exit → Act → World → Prop} {S : World → Prop} {k : Nat}

def wpAnyK (P : Program) (md : Region.Mode) (ops : Array Oper) (Q : Exit → Act → World → Prop) (S : World → Prop) (k : Nat) : Nat → Array Bool → Act → World → Prop
  | 0, listed, a, w => Region.ready md ops listed = [] ∧ Q .normal a w
  | fuel + 1, listed, a, w =>
    (Region.ready md ops listed = [] → Q .normal a w) ∧
    ∀ i ∈ Region.ready md ops listed, wpOp P ops Q i (fun a' w' => ((listed.setIfInBounds i true).getD k true = false → S w') ∧ wpAnyK P md ops Q S k fuel (listed.setIfInBounds i true) a' w') a w

theorem wpAny_of_K : ∀ (fuel : Nat) (listed : Array Bool) (a : Act) (w : World), wpAnyK P md ops Q S k fuel listed a w → wpAny P md ops Q fuel listed a w
  | 0, _, _, _, h => h
  | fuel + 1, _, _, _, h => ⟨h.1, fun i hi => wpOp_mono (fun a' w' h' => wpAny_of_K fuel _ a' w' h'.2) (h.2 i hi)⟩

theorem getD_set_same {listed : Array Bool} {i : Nat} : (listed.setIfInBounds i true).getD i true = true := by
  rcases Nat.lt_or_ge i listed.size with h | h
  · simp [h]
  · simp [h]

theorem wpAnyK_of_any : ∀ (fuel : Nat) (listed : Array Bool) (a : Act) (w : World), ((∀ i ∈ Region.ready md ops listed, i = k) ∨ listed.getD k true = true) → wpAny P md ops Q fuel listed a w → wpAnyK P md ops Q S k fuel listed a w
  | 0, _, _, _, _, h => h
  | fuel + 1, listed, _, _, hk, h => ⟨h.1, fun i hi => wpOp_mono (fun a' w' h' => by
      have hk' : (listed.setIfInBounds i true).getD k true = true := by
        by_cases hik : i = k
        · subst hik; exact getD_set_same
        · rcases hk with hk | hk
          · exact absurd (hk i hi) hik
          · rw [getD_set_ne true hik]; exact hk
      exact ⟨fun hf => (by rw [hk'] at hf; cases hf), wpAnyK_of_any fuel _ a' w' (.inr hk') h'⟩) (h.2 i hi)⟩

/-- All that a listed one waits for is listed. -/
structure DownI (md : Region.Mode) (ops : Array Oper) (listed : Array Bool) : Prop where
  size : listed.size = ops.size
  closed : ∀ j oj, ops[j]? = some oj → listed.getD j false = true → ∀ e ∈ oj.after, Region.binds md e = true → listed.getD e.on false = true

theorem DownI.set {i : Nat} {listed : Array Bool} (inv : DownI md ops listed) (hi : i ∈ Region.ready md ops listed) : DownI md ops (listed.setIfInBounds i true) := by
  obtain ⟨_, oi, hoi, hall⟩ := mem_ready.1 hi
  refine ⟨by simp [inv.size], fun j oj hj hl e he hb => ?_⟩
  by_cases hij : i = j
  · subst hij
    have : oj = oi := Option.some.inj (hj.symm.trans hoi)
    subst this
    exact getD_set_true (hall e he hb)
  · rw [getD_set_ne false hij] at hl
    exact getD_set_true (inv.closed j oj hj hl e he hb)

/-- Does j wait for i, by however many steps? -/
def bef (md : Region.Mode) (ops : Array Oper) (i : Nat) : Nat → Nat → Bool
  | 0, _ => false
  | f + 1, j => match ops[j]? with
    | none => false
    | some o => o.after.any fun e => Region.binds md e && (e.on == i || bef md ops i f e.on)

theorem bef_listed {i : Nat} {listed : Array Bool} (inv : DownI md ops listed) : ∀ (f j : Nat), bef md ops i f j = true → listed.getD j false = true → listed.getD i false = true
  | 0, _, h, _ => by simp [bef] at h
  | f + 1, j, h, hl => by
    unfold bef at h
    cases ho : ops[j]? with
    | none => rw [ho] at h; simp at h
    | some o =>
      rw [ho] at h
      obtain ⟨n, hn, he⟩ := Array.any_eq_true.1 h
      rw [Bool.and_eq_true, Bool.or_eq_true] at he
      have h1 := inv.closed j o ho hl _ (Array.getElem_mem hn) he.1
      rcases he.2 with h2 | h2
      · rw [eq_of_beq h2] at h1; exact h1
      · exact bef_listed inv f _ h2 h1

theorem wpAnyK_first {i : Nat} {oi : Oper} {v : Value} (hi : ops[i]? = some oi) (hsel : ∀ (j : Nat) (o : Oper) cs b, ops[j]? = some o → o.op ≠ .select cs b)
    (hQ : ∀ c a w, Q (.panic c) (a.put oi.dst v) w → Q (.panic c) a w) (f : Nat) (hbk : bef md ops i f k = true) (hkn : k < ops.size) (hik : i ≠ k) :
    ∀ (fuel : Nat) (listed : Array Bool) (a : Act) (w : World), DownI md ops listed →
      (∀ j oj, ops[j]? = some oj → j ≠ i → listed.getD j true = false → (∀ e ∈ oj.after, Region.binds md e = true → e.on ≠ i) → oi.apart ops oj = true) →
      i ∈ Region.ready md ops listed → YieldsIf P ops S oi v a → (listed.getD k true = false → S w) →
      wpAnyK P md ops Q S k fuel (listed.setIfInBounds i true) (a.put oi.dst v) w → wpAnyK P md ops Q S k (fuel + 1) listed a w := by
  have kun : ∀ listed, DownI md ops listed → i ∈ Region.ready md ops listed → listed.getD k true = false := fun listed inv hr => by
    have h0 := getD_both (mem_ready.1 hr).1
    refine getD_in (by rw [inv.size]; exact hkn) ?_
    cases hl : listed.getD k false with
    | false => rfl
    | true => have := bef_listed inv f k hbk hl; rw [h0] at this; cases this
  intro fuel
  induction fuel with
  | zero =>
    intro listed a w inv _ hr hy hS H
    refine ⟨fun h => (by rw [h] at hr; cases hr), fun j hj => ?_⟩
    by_cases hji : j = i
    · subst hji; exact hy.wpOp hi (hS (kun _ inv hr)) ⟨fun _ => hS (kun _ inv hr), H⟩
    · have := ready_mono hj hji
      rw [H.1] at this
      cases this
  | succ fuel ih =>
    intro listed a w inv hfree hr hy hS H
    refine ⟨fun h => (by rw [h] at hr; cases hr), fun j hj => ?_⟩
    by_cases hji : j = i
    · subst hji; exact hy.wpOp hi (hS (kun _ inv hr)) ⟨fun _ => hS (kun _ inv hr), H⟩
    · have h1 := H.2 j (ready_mono hj hji)
      obtain ⟨hjun, oj, hoj, hall⟩ := mem_ready.1 hj
      have hnot : ∀ e ∈ oj.after, Region.binds md e = true → e.on ≠ i := fun e he hb heq => by
        have h1 := hall e he hb
        have h0 := getD_both (mem_ready.1 hr).1
        rw [heq, h0] at h1
        cases h1
      have h2 := wpOp_putIf hoj (hfree j oj hoj hji hjun hnot) (fun cs b => hsel i oi cs b hi) (fun cs b => hsel j oj cs b hoj) hQ hy h1
      have hfree' : ∀ k ok, ops[k]? = some ok → k ≠ i → (listed.setIfInBounds j true).getD k true = false →
          (∀ e ∈ ok.after, Region.binds md e = true → e.on ≠ i) → oi.apart ops ok = true := fun k ok hk hki hun hno => by
        refine hfree k ok hk hki ?_ hno
        by_cases hjk : j = k
        · subst hjk; exact hjun
        · rw [getD_set_ne true hjk] at hun; exact hun
      refine wpOp_mono (fun a' w' h3 => ?_) h2
      have hS' : (listed.setIfInBounds j true).getD k true = false → S w' := fun hk => h3.2.1 (by rw [Array.setIfInBounds_comm _ _ (Ne.symm hji), getD_set_ne true hik]; exact hk)
      refine ⟨hS', ih (listed.setIfInBounds j true) a' w' (inv.set hj) hfree' (ready_mono hr (Ne.symm hji)) h3.1 hS' ?_⟩
      rw [Array.setIfInBounds_comm _ _ hji]
      exact h3.2.2

/-- A plan whose end is a forced tail. -/
inductive Pt where
  | tail
  | free (i : Nat) (r : Pt)
  | one (i : Nat) (r : Pt)
  | two (i : Nat) (p : Pt) (j : Nat) (q : Pt)

def Pt.len (g : Nat) : Pt → Nat
  | .tail => g
  | .free _ r => r.len g + 1
  | .one _ r => r.len g + 1
  | .two _ p _ _ => p.len g + 1

def ptB (ops : Array Oper) (k : Nat) : Pt → Array Bool → Bool
  | .tail, listed => decide (Region.ready .any ops listed = [k]) && Region.seqB .any ops (ops.toList.drop k).length k listed
  | .free i r, listed => (bef .any ops i ops.size k && !(i == k)) && (Region.free .any ops listed i && ((Region.ready .any ops listed).contains i && ptB ops k r (listed.setIfInBounds i true)))
  | .one i r, listed => (Region.ready .any ops listed == [i]) && ptB ops k r (listed.setIfInBounds i true)
  | .two i p j q, listed => (Region.ready .any ops listed == [i, j]) && ((p.len 0 == q.len 0) && (ptB ops k p (listed.setIfInBounds i true) && ptB ops k q (listed.setIfInBounds j true)))

def wpPt (P : Program) (ops : Array Oper) (Q : Exit → Act → World → Prop) (S : World → Prop) (k : Nat) : Pt → Act → World → Prop
  | .tail, a, w => wpList P ops Q (ops.toList.drop k) a w
  | .free i r, a, w => ∃ o v, ops[i]? = some o ∧ YieldsIf P ops S o v a ∧ wpPt P ops Q S k r (a.put o.dst v) w
  | .one i r, a, w => wpOp P ops Q i (fun a' w' => S w' ∧ wpPt P ops Q S k r a' w') a w
  | .two i p j q, a, w => wpOp P ops Q i (fun a' w' => S w' ∧ wpPt P ops Q S k p a' w') a w ∧ wpOp P ops Q j (fun a' w' => S w' ∧ wpPt P ops Q S k q a' w') a w

theorem len_shift (g : Nat) : ∀ l : Pt, l.len g = l.len 0 + g
  | .tail => by simp [Pt.len]
  | .free _ r => by simp only [Pt.len]; rw [len_shift g r]; omega
  | .one _ r => by simp only [Pt.len]; rw [len_shift g r]; omega
  | .two _ p _ _ => by simp only [Pt.len]; rw [len_shift g p]; omega

theorem pt_any (hsel : Region.noSelect ops = true) (hQ : ∀ c a d v w, Q (.panic c) (a.put d v) w → Q (.panic c) a w) (hkn : k < ops.size) :
    ∀ (l : Pt) (listed : Array Bool) (a : Act) (w : World), DownI .any ops listed → ptB ops k l listed = true → S w → wpPt P ops Q S k l a w → wpAnyK P .any ops Q S k (l.len (ops.toList.drop k).length) listed a w
  | .tail, listed, a, w, inv, hp, _, h => by
    have hp : (decide (Region.ready .any ops listed = [k]) && Region.seqB .any ops (ops.toList.drop k).length k listed) = true := hp
    rw [Bool.and_eq_true] at hp
    refine wpAnyK_of_any _ _ _ _ (.inl fun i hi => by rw [of_decide_eq_true hp.1] at hi; simpa using hi) ?_
    exact wpAny_of_seq _ k listed a w (fun j => by simp) hp.2 h
  | .free i r, listed, a, w, inv, hp, hS, h => by
    have hp : ((bef .any ops i ops.size k && !(i == k)) && (Region.free .any ops listed i && ((Region.ready .any ops listed).contains i && ptB ops k r (listed.setIfInBounds i true)))) = true := hp
    rw [Bool.and_eq_true, Bool.and_eq_true, Bool.and_eq_true, Bool.and_eq_true] at hp
    obtain ⟨o, v, ho, hy, h⟩ := h
    have hr : i ∈ Region.ready .any ops listed := by simpa using hp.2.2.1
    exact wpAnyK_first ho (Region.noSelect_spec hsel) (fun c a w => hQ c a o.dst v w) ops.size hp.1.1 hkn (by simpa using hp.1.2) _ listed a w inv (Region.free_spec ho hp.2.1) hr hy (fun _ => hS)
      (pt_any hsel hQ hkn r _ _ _ (inv.set hr) hp.2.2.2 hS h)
  | .one i r, listed, a, w, inv, hp, hS, h => by
    have hp : ((Region.ready .any ops listed == [i]) && ptB ops k r (listed.setIfInBounds i true)) = true := hp
    rw [Bool.and_eq_true] at hp
    have hr := eq_of_beq hp.1
    refine ⟨fun h0 => (by rw [hr] at h0; cases h0), fun j hj => ?_⟩
    have hj' := hj
    rw [hr] at hj'
    obtain rfl : j = i := by simpa using hj'
    exact wpOp_mono (fun a' w' h' => ⟨fun _ => h'.1, pt_any hsel hQ hkn r _ _ _ (inv.set hj) hp.2 h'.1 h'.2⟩) (show wpOp P ops Q j (fun a' w' => S w' ∧ wpPt P ops Q S k r a' w') a w from h)
  | .two i p j q, listed, a, w, inv, hp, hS, h => by
    have hp : ((Region.ready .any ops listed == [i, j]) && ((p.len 0 == q.len 0) && (ptB ops k p (listed.setIfInBounds i true) && ptB ops k q (listed.setIfInBounds j true)))) = true := hp
    rw [Bool.and_eq_true, Bool.and_eq_true, Bool.and_eq_true] at hp
    have hr := eq_of_beq hp.1
    have hl : p.len 0 = q.len 0 := eq_of_beq hp.2.1
    have h : wpOp P ops Q i (fun a' w' => S w' ∧ wpPt P ops Q S k p a' w') a w ∧ wpOp P ops Q j (fun a' w' => S w' ∧ wpPt P ops Q S k q a' w') a w := h
    refine ⟨fun h0 => (by rw [hr] at h0; cases h0), fun m hj => ?_⟩
    have hm := hj
    rw [hr] at hm
    have hm : m = i ∨ m = j := by simpa using hm
    rcases hm with rfl | rfl
    · exact wpOp_mono (fun a' w' h' => ⟨fun _ => h'.1, pt_any hsel hQ hkn p _ _ _ (inv.set hj) hp.2.2.1 h'.1 h'.2⟩) h.1
    · refine wpOp_mono (fun a' w' h' => ⟨fun _ => h'.1, ?_⟩) h.2
      have := pt_any hsel hQ hkn q _ _ _ (inv.set hj) hp.2.2.2 h'.1 h'.2
      rw [len_shift, ← hl, ← len_shift] at this
      exact this

/-- Such a plan with its operations written out. -/
inductive Rz where
  | tail (l : List Oper)
  | free (o : Option Oper) (r : Rz)
  | one (o : Option Oper) (r : Rz)
  | two (o : Option Oper) (p : Rz) (o' : Option Oper) (q : Rz)

def writtenT (os : List Oper) (k : Nat) : Pt → Rz
  | .tail => .tail (os.drop k)
  | .free i r => .free os[i]? (writtenT os k r)
  | .one i r => .one os[i]? (writtenT os k r)
  | .two i p j q => .two os[i]? (writtenT os k p) os[j]? (writtenT os k q)

def wpRz (P : Program) (ops : Array Oper) (Q : Exit → Act → World → Prop) (S : World → Prop) : Rz → Act → World → Prop
  | .tail l, a, w => wpList P ops Q l a w
  | .free none _, _, _ => False
  | .one none _, _, _ => False
  | .two none _ _ _, _, _ => False
  | .two _ _ none _, _, _ => False
  | .free (some o) r, a, w => ∃ v, YieldsIf P ops S o v a ∧ wpRz P ops Q S r (a.put o.dst v) w
  | .one (some o) r, a, w => ∀ K' : Act → World → Prop, (∀ a w, S w ∧ wpRz P ops Q S r a w → K' a w) → if Region.wanted o (yielded ops a.tmps) = true then Oper.wp P o a w K' Q else K' (a.put o.dst undef) w
  | .two (some o) p (some o') q, a, w => (∀ K' : Act → World → Prop, (∀ a w, S w ∧ wpRz P ops Q S p a w → K' a w) → if Region.wanted o (yielded ops a.tmps) = true then Oper.wp P o a w K' Q else K' (a.put o.dst undef) w) ∧
      (∀ K' : Act → World → Prop, (∀ a w, S w ∧ wpRz P ops Q S q a w → K' a w) → if Region.wanted o' (yielded ops a.tmps) = true then Oper.wp P o' a w K' Q else K' (a.put o'.dst undef) w)

theorem pt_of_rz : ∀ (l : Pt) (a : Act) (w : World), wpRz P ops Q S (writtenT ops.toList k l) a w → wpPt P ops Q S k l a w
  | .tail, _, _, h => h
  | .free i r, a, w, h => by
    have h : wpRz P ops Q S (.free ops.toList[i]? (writtenT ops.toList k r)) a w := h
    cases ho : ops.toList[i]? with
    | none => rw [ho] at h; exact h.elim
    | some o =>
      rw [ho] at h
      obtain ⟨v, hy, h⟩ := h
      exact ⟨o, v, by simpa using ho, hy, pt_of_rz r _ _ h⟩
  | .one i r, a, w, h => by
    have h : wpRz P ops Q S (.one ops.toList[i]? (writtenT ops.toList k r)) a w := h
    cases ho : ops.toList[i]? with
    | none => rw [ho] at h; exact h.elim
    | some o =>
      rw [ho] at h
      exact wpOp_step (show ops[i]? = some o by simpa using ho) fun K' hK => h K' fun a w h' => hK a w ⟨h'.1, pt_of_rz r _ _ h'.2⟩
  | .two i p j q, a, w, h => by
    have h : wpRz P ops Q S (.two ops.toList[i]? (writtenT ops.toList k p) ops.toList[j]? (writtenT ops.toList k q)) a w := h
    cases ho : ops.toList[i]? with
    | none => rw [ho] at h; exact h.elim
    | some o =>
      cases ho' : ops.toList[j]? with
      | none => rw [ho, ho'] at h; exact h.elim
      | some o' =>
        rw [ho, ho'] at h
        exact ⟨wpOp_step (show ops[i]? = some o by simpa using ho) fun K' hK => h.1 K' fun a w h' => hK a w ⟨h'.1, pt_of_rz p _ _ h'.2⟩,
          wpOp_step (show ops[j]? = some o' by simpa using ho') fun K' hK => h.2 K' fun a w h' => hK a w ⟨h'.1, pt_of_rz q _ _ h'.2⟩⟩

theorem tail_region {id : Nat} {a : Act} {w : World} (k : Nat) (l : Pt) (hm : P.follows .mixedOrders = true)
    (hl : ((l.len (ops.toList.drop k).length == ops.size && decide (k < ops.size)) && (Region.noSelect ops && ptB ops k l (Array.replicate ops.size false))) = true)
    (hQ : ∀ c a d v w, Q (.panic c) (a.put d v) w → Q (.panic c) a w) (hS : S w.drew) (h : S w.drew → wpRz P ops Q S (writtenT ops.toList k l) a w.drew) : (Code.region id ops true).wp P Q a w := by
  rw [Bool.and_eq_true, Bool.and_eq_true, Bool.and_eq_true] at hl
  have h1 := pt_any hl.2.1 hQ (of_decide_eq_true hl.1.2) l (Array.replicate ops.size false) _ _ ⟨by simp, fun j oj _ hl => by rw [getD_replicate_false] at hl; cases hl⟩ hl.2.2 hS (pt_of_rz _ _ _ (h hS))
  rw [eq_of_beq hl.1.1] at h1
  exact wp_region_any hm (wpAny_of_K _ _ _ _ h1)

theorem rz_done {l : List Oper} {a : Act} {w : World} (h : wpList P ops Q l a w) : wpRz P ops Q S (.tail l) a w := h

theorem rz_free {r : Rz} {o : Oper} {v : Value} {a : Act} {w : World} (hw : Region.wanted o (yielded ops a.tmps) = true) (hy : ∀ w, S w → (execOp a.eval o).run P w = .ok (.value v) w) (h : wpRz P ops Q S r (a.put o.dst v) w) :
    wpRz P ops Q S (.free (some o) r) a w := ⟨v, .inl ⟨hw, hy⟩, h⟩

theorem rz_call {r : Rz} {o : Oper} {a : Act} {w : World} (hw : Region.wanted o (yielded ops a.tmps) = true)
    (h : ∀ K' : Act → World → Prop, Shut (∀ a w, S w → (S w → wpRz P ops Q S r a w) → K' a w) → Oper.wp P o a w K' Q) :
    wpRz P ops Q S (.one (some o) r) a w := by
  intro K' hK
  rw [if_pos hw]
  exact h K' (fun a w hS hW => hK a w ⟨hS, hW hS⟩)

theorem rz_two {p q : Rz} {o o' : Oper} {a : Act} {w : World} (h1 : wpRz P ops Q S (.one (some o) p) a w) (h2 : wpRz P ops Q S (.one (some o') q) a w) : wpRz P ops Q S (.two (some o) p (some o') q) a w := ⟨h1, h2⟩

end
end Go.Proofs.YtlpkaljepaclpaaGreat.Fx
