/- A region that draws its order and ends in stores, where some of what only reads may come up behind the first store: two conditions on the world, S1 as long as the first store (operation k) has not come up, S2 as long as the last ones (from k2 on) have not. Messages that plain lists make (joustplay.Inbox): each may come in. -/
import Derived.Test.YtbblpnmcbifocaaGreatM01
import Derived.Test.YtbblpnmcbifocaaGreatM41
import Derived.Test.YtbblpnmcbifocaaGreatM44
namespace Go.Proofs.YtbblpnmcbifocaaGreat.Fx
open Go.RowKit

section
variable {P : Program} {md : Region.Mode} {ops : Array Oper} {Q : Exit → Act → World → Prop} {T : Array Bool → World → Prop} {S : World → Prop}

def wpAnyU (P : Program) (md : Region.Mode) (ops : Array Oper) (Q : Exit → Act → World → Prop) (T : Array Bool → World → Prop) : Nat → Array Bool → Act → World → Prop
  | 0, listed, a, w => Region.ready md ops listed = [] ∧ Q .normal a w
  | fuel + 1, listed, a, w =>
    (Region.ready md ops listed = [] → Q .normal a w) ∧
    ∀ i ∈ Region.ready md ops listed, wpOp P ops Q i (fun a' w' => T (listed.setIfInBounds i true) w' ∧ wpAnyU P md ops Q T fuel (listed.setIfInBounds i true) a' w') a w

theorem wpAny_of_U : ∀ (fuel : Nat) (listed : Array Bool) (a : Act) (w : World), wpAnyU P md ops Q T fuel listed a w → wpAny P md ops Q fuel listed a w
  | 0, _, _, _, h => h
  | fuel + 1, _, _, _, h => ⟨h.1, fun i hi => wpOp_mono (fun a' w' h' => wpAny_of_U fuel _ a' w' h'.2) (h.2 i hi)⟩

theorem wpAnyU_first {i : Nat} {oi : Oper} {v : Value} (hi : ops[i]? = some oi) (hsel : ∀ (j : Nat) (o : Oper) cs b, ops[j]? = some o → o.op ≠ .select cs b)
    (hQ : ∀ c a w, Q (.panic c) (a.put oi.dst v) w → Q (.panic c) a w)
    (hTi : ∀ listed w, T (listed.setIfInBounds i true) w → T listed w) (hTj : ∀ listed w, T listed w → T (listed.setIfInBounds i true) w)
    (hTS : ∀ listed w, DownI md ops listed → i ∈ Region.ready md ops listed → T listed w → S w) :
    ∀ (fuel : Nat) (listed : Array Bool) (a : Act) (w : World), DownI md ops listed →
      (∀ j oj, ops[j]? = some oj → j ≠ i → listed.getD j true = false → (∀ e ∈ oj.after, Region.binds md e = true → e.on ≠ i) → oi.apart ops oj = true) →
      i ∈ Region.ready md ops listed → YieldsIf P ops S oi v a → T listed w →
      wpAnyU P md ops Q T fuel (listed.setIfInBounds i true) (a.put oi.dst v) w → wpAnyU P md ops Q T (fuel + 1) listed a w := by
  intro fuel
  induction fuel with
  | zero =>
    intro listed a w inv _ hr hy hS H
    refine ⟨fun h => (by rw [h] at hr; cases hr), fun j hj => ?_⟩
    by_cases hji : j = i
    · subst hji; exact hy.wpOp hi (hTS _ _ inv hr hS) ⟨hTj _ _ hS, H⟩
    · have := ready_mono hj hji
      rw [H.1] at this
      cases this
  | succ fuel ih =>
    intro listed a w inv hfree hr hy hS H
    refine ⟨fun h => (by rw [h] at hr; cases hr), fun j hj => ?_⟩
    by_cases hji : j = i
    · subst hji; exact hy.wpOp hi (hTS _ _ inv hr hS) ⟨hTj _ _ hS, H⟩
    · have h1 := H.2 j (ready_mono hj hji)
      obtain ⟨hjun, oj, hoj, hall⟩ := mem_ready.1 hj
      have hnot : ∀ e ∈ oj.after, Region.binds md e = true → e.on ≠ i := fun e he hb heq => by
        have h1 := hall e he hb
        have h0 := getD_both (mem_ready.1 hr).1
        rw [heq, h0] at h1
        cases h1
      have h2 := wpOp_putIf hoj (hfree j oj hoj hji hjun hnot) (fun cs b => hsel i oi cs b hi) (fun cs b => hsel j oj cs b hoj) hQ hy h1
      have hfree' : ∀ k ok, ops[k]? = some ok → k ≠ i → (listed.setIfInBounds j true).getD k true = false →
          (∀ e ∈ ok.after, Region.binds md e = true → e.on ≠ i) → oi.apart ops ok = true := fun k ok hk hki hun hno => by
        refine hfree k ok hk hki ?_ hno
        by_cases hjk : j = k
        · subst hjk; exact hjun
        · rw [getD_set_ne true hjk] at hun; exact hun
      refine wpOp_mono (fun a' w' h3 => ?_) h2
      have hS' : T (listed.setIfInBounds j true) w' := hTi _ _ (by rw [Array.setIfInBounds_comm _ _ hji]; exact h3.2.1)
      refine ⟨hS', ih (listed.setIfInBounds j true) a' w' (inv.set hj) hfree' (ready_mono hr (Ne.symm hji)) h3.1 hS' ?_⟩
      rw [Array.setIfInBounds_comm _ _ hji]
      exact h3.2.2

variable {S1 S2 : World → Prop} {k k2 : Nat}

/-- What holds of the world, by what has come up. -/
def TwoS (S1 S2 : World → Prop) (k k2 : Nat) (listed : Array Bool) (w : World) : Prop := (listed.getD k true = false → S1 w) ∧ (listed.getD k2 true = false → S2 w)

theorem un_listed {i k : Nat} {f : Nat} (hbk : bef md ops i f k = true) (hkn : k < ops.size) {listed : Array Bool} (inv : DownI md ops listed) (hr : i ∈ Region.ready md ops listed) : listed.getD k true = false := by
  have h0 := getD_both (mem_ready.1 hr).1
  refine getD_in (by rw [inv.size]; exact hkn) ?_
  cases hl : listed.getD k false with
  | false => rfl
  | true => have := bef_listed inv f k hbk hl; rw [h0] at this; cases this

theorem twoS_i {i : Nat} (h1 : ¬ i = k) (h2 : ¬ i = k2) (listed : Array Bool) (w : World) : TwoS S1 S2 k k2 (listed.setIfInBounds i true) w → TwoS S1 S2 k k2 listed w := by
  unfold TwoS
  rw [getD_set_ne true h1, getD_set_ne true h2]
  exact id

theorem twoS_j {i : Nat} (h1 : ¬ i = k) (h2 : ¬ i = k2) (listed : Array Bool) (w : World) : TwoS S1 S2 k k2 listed w → TwoS S1 S2 k k2 (listed.setIfInBounds i true) w := by
  unfold TwoS
  rw [getD_set_ne true h1, getD_set_ne true h2]
  exact id

theorem wpAnyU_of_any : ∀ (fuel : Nat) (listed : Array Bool) (a : Act) (w : World), (((∀ i ∈ Region.ready md ops listed, i = k2) ∨ listed.getD k2 true = true) ∧ listed.getD k true = true) → wpAny P md ops Q fuel listed a w → wpAnyU P md ops Q (TwoS S1 S2 k k2) fuel listed a w
  | 0, _, _, _, _, h => h
  | fuel + 1, listed, _, _, hk, h => ⟨h.1, fun i hi => wpOp_mono (fun a' w' h' => by
      have hk2 : (listed.setIfInBounds i true).getD k2 true = true := by
        by_cases hik : i = k2
        · subst hik; exact getD_set_same
        · rcases hk.1 with hk | hk
          · exact absurd (hk i hi) hik
          · rw [getD_set_ne true hik]; exact hk
      have hk1 : (listed.setIfInBounds i true).getD k true = true := by
        by_cases hik : i = k
        · subst hik; exact getD_set_same
        · rw [getD_set_ne true hik]; exact hk.2
      exact ⟨⟨fun hf => (by rw [hk1] at hf; cases hf), fun hf => (by rw [hk2] at hf; cases hf)⟩, wpAnyU_of_any fuel _ a' w' ⟨.inr hk2, hk1⟩ h'⟩) (h.2 i hi)⟩

/-- A plan: what is read ahead of k, what is read ahead of k2, the turn (operation k), the tail from k2 on. -/
inductive Pu where
  | tail
  | free (i : Nat) (r : Pu)
  | freeB (i : Nat) (r : Pu)
  | turn (i : Nat) (r : Pu)

def Pu.len (g : Nat) : Pu → Nat
  | .tail => g
  | .free _ r => r.len g + 1
  | .freeB _ r => r.len g + 1
  | .turn _ r => r.len g + 1

def puB (ops : Array Oper) (k k2 : Nat) : Pu → Array Bool → Bool
  | .tail, listed => (listed.getD k true && decide (Region.ready .any ops listed = [k2])) && Region.seqB .any ops (ops.toList.drop k2).length k2 listed
  | .free i r, listed => (bef .any ops i ops.size k && (!(i == k) && !(i == k2))) && (Region.free .any ops listed i && ((Region.ready .any ops listed).contains i && puB ops k k2 r (listed.setIfInBounds i true)))
  | .freeB i r, listed => (bef .any ops i ops.size k2 && (!(i == k) && !(i == k2))) && (Region.free .any ops listed i && ((Region.ready .any ops listed).contains i && puB ops k k2 r (listed.setIfInBounds i true)))
  | .turn i r, listed => (i == k && !(k == k2)) && ((Region.ready .any ops listed == [i]) && puB ops k k2 r (listed.setIfInBounds i true))

def wpPu (P : Program) (ops : Array Oper) (Q : Exit → Act → World → Prop) (S1 S2 : World → Prop) (k2 : Nat) : Pu → Act → World → Prop
  | .tail, a, w => wpList P ops Q (ops.toList.drop k2) a w
  | .free i r, a, w => ∃ o v, ops[i]? = some o ∧ YieldsIf P ops S1 o v a ∧ wpPu P ops Q S1 S2 k2 r (a.put o.dst v) w
  | .freeB i r, a, w => ∃ o v, ops[i]? = some o ∧ YieldsIf P ops S2 o v a ∧ wpPu P ops Q S1 S2 k2 r (a.put o.dst v) w
  | .turn i r, a, w => wpOp P ops Q i (fun a' w' => S2 w' ∧ wpPu P ops Q S1 S2 k2 r a' w') a w

theorem pu_any (hsel : Region.noSelect ops = true) (hQ : ∀ c a d v w, Q (.panic c) (a.put d v) w → Q (.panic c) a w) (hkn : k < ops.size) (hkn2 : k2 < ops.size) :
    ∀ (l : Pu) (listed : Array Bool) (a : Act) (w : World), DownI .any ops listed → puB ops k k2 l listed = true → TwoS S1 S2 k k2 listed w → wpPu P ops Q S1 S2 k2 l a w → wpAnyU P .any ops Q (TwoS S1 S2 k k2) (l.len (ops.toList.drop k2).length) listed a w
  | .tail, listed, a, w, inv, hp, _, h => by
    have hp : ((listed.getD k true && decide (Region.ready .any ops listed = [k2])) && Region.seqB .any ops (ops.toList.drop k2).length k2 listed) = true := hp
    rw [Bool.and_eq_true, Bool.and_eq_true] at hp
    refine wpAnyU_of_any _ _ _ _ ⟨.inl fun i hi => by rw [of_decide_eq_true hp.1.2] at hi; simpa using hi, hp.1.1⟩ ?_
    exact wpAny_of_seq _ k2 listed a w (fun j => by simp) hp.2 h
  | .free i r, listed, a, w, inv, hp, hS, h => by
    have hp : ((bef .any ops i ops.size k && (!(i == k) && !(i == k2))) && (Region.free .any ops listed i && ((Region.ready .any ops listed).contains i && puB ops k k2 r (listed.setIfInBounds i true)))) = true := hp
    rw [Bool.and_eq_true, Bool.and_eq_true, Bool.and_eq_true, Bool.and_eq_true, Bool.and_eq_true] at hp
    obtain ⟨o, v, ho, hy, h⟩ := h
    have hr : i ∈ Region.ready .any ops listed := by simpa using hp.2.2.1
    have n1 : ¬ i = k := by simpa using hp.1.2.1
    have n2 : ¬ i = k2 := by simpa using hp.1.2.2
    exact wpAnyU_first (S := S1) ho (Region.noSelect_spec hsel) (fun c a w => hQ c a o.dst v w) (twoS_i n1 n2) (twoS_j n1 n2) (fun l w inv hr hT => hT.1 (un_listed hp.1.1 hkn inv hr)) _ listed a w inv (Region.free_spec ho hp.2.1) hr hy hS
      (pu_any hsel hQ hkn hkn2 r _ _ _ (inv.set hr) hp.2.2.2 (twoS_j n1 n2 _ _ hS) h)
  | .freeB i r, listed, a, w, inv, hp, hS, h => by
    have hp : ((bef .any ops i ops.size k2 && (!(i == k) && !(i == k2))) && (Region.free .any ops listed i && ((Region.ready .any ops listed).contains i && puB ops k k2 r (listed.setIfInBounds i true)))) = true := hp
    rw [Bool.and_eq_true, Bool.and_eq_true, Bool.and_eq_true, Bool.and_eq_true, Bool.and_eq_true] at hp
    obtain ⟨o, v, ho, hy, h⟩ := h
    have hr : i ∈ Region.ready .any ops listed := by simpa using hp.2.2.1
    have n1 : ¬ i = k := by simpa using hp.1.2.1
    have n2 : ¬ i = k2 := by simpa using hp.1.2.2
    exact wpAnyU_first (S := S2) ho (Region.noSelect_spec hsel) (fun c a w => hQ c a o.dst v w) (twoS_i n1 n2) (twoS_j n1 n2) (fun l w inv hr hT => hT.2 (un_listed hp.1.1 hkn2 inv hr)) _ listed a w inv (Region.free_spec ho hp.2.1) hr hy hS
      (pu_any hsel hQ hkn hkn2 r _ _ _ (inv.set hr) hp.2.2.2 (twoS_j n1 n2 _ _ hS) h)
  | .turn i r, listed, a, w, inv, hp, hS, h => by
    have hp : ((i == k && !(k == k2)) && ((Region.ready .any ops listed == [i]) && puB ops k k2 r (listed.setIfInBounds i true))) = true := hp
    rw [Bool.and_eq_true, Bool.and_eq_true, Bool.and_eq_true] at hp
    have hr := eq_of_beq hp.2.1
    have hik : i = k := eq_of_beq hp.1.1
    have n2 : ¬ k = k2 := by simpa using hp.1.2
    refine ⟨fun h0 => (by rw [hr] at h0; cases h0), fun j hj => ?_⟩
    have hj' := hj
    rw [hr] at hj'
    obtain rfl : j = i := by simpa using hj'
    refine wpOp_mono (fun a' w' h' => ?_) (show wpOp P ops Q j (fun a' w' => S2 w' ∧ wpPu P ops Q S1 S2 k2 r a' w') a w from h)
    have hT : TwoS S1 S2 k k2 (listed.setIfInBounds j true) w' := ⟨fun hf => (by rw [hik, getD_set_same] at hf; cases hf), fun _ => h'.1⟩
    exact ⟨hT, pu_any hsel hQ hkn hkn2 r _ _ _ (inv.set hj) hp.2.2 hT h'.2⟩

/-- Such a plan with its operations written out. -/
inductive Ru where
  | tail (l : List Oper)
  | free (o : Option Oper) (r : Ru)
  | freeB (o : Option Oper) (r : Ru)
  | turn (o : Option Oper) (r : Ru)

def writtenU (os : List Oper) (k2 : Nat) : Pu → Ru
  | .tail => .tail (os.drop k2)
  | .free i r => .free os[i]? (writtenU os k2 r)
  | .freeB i r => .freeB os[i]? (writtenU os k2 r)
  | .turn i r => .turn os[i]? (writtenU os k2 r)

def wpRu (P : Program) (ops : Array Oper) (Q : Exit → Act → World → Prop) (S1 S2 : World → Prop) : Ru → Act → World → Prop
  | .tail l, a, w => wpList P ops Q l a w
  | .free none _, _, _ => False
  | .freeB none _, _, _ => False
  | .turn none _, _, _ => False
  | .free (some o) r, a, w => ∃ v, YieldsIf P ops S1 o v a ∧ wpRu P ops Q S1 S2 r (a.put o.dst v) w
  | .freeB (some o) r, a, w => ∃ v, YieldsIf P ops S2 o v a ∧ wpRu P ops Q S1 S2 r (a.put o.dst v) w
  | .turn (some o) r, a, w => ∀ K' : Act → World → Prop, (∀ a w, S2 w ∧ wpRu P ops Q S1 S2 r a w → K' a w) → if Region.wanted o (yielded ops a.tmps) = true then Oper.wp P o a w K' Q else K' (a.put o.dst undef) w

theorem pu_of_ru : ∀ (l : Pu) (a : Act) (w : World), wpRu P ops Q S1 S2 (writtenU ops.toList k2 l) a w → wpPu P ops Q S1 S2 k2 l a w
  | .tail, _, _, h => h
  | .free i r, a, w, h => by
    have h : wpRu P ops Q S1 S2 (.free ops.toList[i]? (writtenU ops.toList k2 r)) a w := h
    cases ho : ops.toList[i]? with
    | none => rw [ho] at h; exact h.elim
    | some o =>
      rw [ho] at h
      obtain ⟨v, hy, h⟩ := h
      exact ⟨o, v, by simpa using ho, hy, pu_of_ru r _ _ h⟩
  | .freeB i r, a, w, h => by
    have h : wpRu P ops Q S1 S2 (.freeB ops.toList[i]? (writtenU ops.toList k2 r)) a w := h
    cases ho : ops.toList[i]? with
    | none => rw [ho] at h; exact h.elim
    | some o =>
      rw [ho] at h
      obtain ⟨v, hy, h⟩ := h
      exact ⟨o, v, by simpa using ho, hy, pu_of_ru r _ _ h⟩
  | .turn i r, a, w, h => by
    have h : wpRu P ops Q S1 S2 (.turn ops.toList[i]? (writtenU ops.toList k2 r)) a w := h
    cases ho : ops.toList[i]? with
    | none => rw [ho] at h; exact h.elim
    | some o =>
      rw [ho] at h
      exact wpOp_step (show ops[i]? = some o by simpa using ho) fun K' hK => h K' fun a w h' => hK a w ⟨h'.1, pu_of_ru r _ _ h'.2⟩

theorem turn_region {id : Nat} {a : Act} {w : World} (k k2 : Nat) (l : Pu) (hm : P.follows .mixedOrders = true)
    (hl : ((l.len (ops.toList.drop k2).length == ops.size && (decide (k < ops.size) && decide (k2 < ops.size))) && (Region.noSelect ops && puB ops k k2 l (Array.replicate ops.size false))) = true)
    (hQ : ∀ c a d v w, Q (.panic c) (a.put d v) w → Q (.panic c) a w) (hS1 : S1 w.drew) (hS2 : S2 w.drew) (h : wpRu P ops Q S1 S2 (writtenU ops.toList k2 l) a w.drew) : (Code.region id ops true).wp P Q a w := by
  rw [Bool.and_eq_true, Bool.and_eq_true, Bool.and_eq_true, Bool.and_eq_true] at hl
  have h1 := pu_any (k := k) (k2 := k2) (S1 := S1) (S2 := S2) hl.2.1 hQ (of_decide_eq_true hl.1.2.1) (of_decide_eq_true hl.1.2.2) l (Array.replicate ops.size false) _ _ ⟨by simp, fun j oj _ hl => by rw [getD_replicate_false] at hl; cases hl⟩ hl.2.2 ⟨fun _ => hS1, fun _ => hS2⟩ (pu_of_ru _ _ _ h)
  rw [eq_of_beq hl.1.1] at h1
  exact wp_region_any hm (wpAny_of_U _ _ _ _ h1)

theorem ru_done {l : List Oper} {a : Act} {w : World} (h : wpList P ops Q l a w) : wpRu P ops Q S1 S2 (.tail l) a w := h

theorem ru_free {r : Ru} {o : Oper} {v : Value} {a : Act} {w : World} (hw : Region.wanted o (yielded ops a.tmps) = true) (hy : ∀ w, S1 w → (execOp a.eval o).run P w = .ok (.value v) w) (h : wpRu P ops Q S1 S2 r (a.put o.dst v) w) :
    wpRu P ops Q S1 S2 (.free (some o) r) a w := ⟨v, .inl ⟨hw, hy⟩, h⟩

theorem ru_freeB {r : Ru} {o : Oper} {v : Value} {a : Act} {w : World} (hw : Region.wanted o (yielded ops a.tmps) = true) (hy : ∀ w, S2 w → (execOp a.eval o).run P w = .ok (.value v) w) (h : wpRu P ops Q S1 S2 r (a.put o.dst v) w) :
    wpRu P ops Q S1 S2 (.freeB (some o) r) a w := ⟨v, .inl ⟨hw, hy⟩, h⟩

theorem ru_turn {r : Ru} {o : Oper} {a : Act} {w : World} (hw : Region.wanted o (yielded ops a.tmps) = true)
    (h : ∀ K' : Act → World → Prop, Shut (∀ a w, S2 w → (wpRu P ops Q S1 S2 r a w) → K' a w) → Oper.wp P o a w K' Q) :
    wpRu P ops Q S1 S2 (.turn (some o) r) a w := by
  intro K' hK
  rw [if_pos hw]
  exact h K' (fun a w hS hW => hK a w ⟨hS, hW⟩)

end
end Go.Proofs.YtbblpnmcbifocaaGreat.Fx
namespace Go.Proofs.YtbblpnmcbifocaaGreat.Fx
open Go.ChangeShapes Go.WideShapes Go.ChangeAt Go.RowKit
set_option linter.unusedVariables false
set_option maxRecDepth 100000

theorem own_far {w : World} {base size n g : Nat} {e : TypeId} {v : Value} {xs : List Value} (h : w.ownsRow base e size v n xs) (hg : ∀ q, v.ownBlock = some q → q < g) (o : Nat) (x : Value) : (w.setCell ⟨g, o, none⟩ x).ownsRow base e size v n xs :=
  h.kept (grown_set w g o x) (.inr fun hh => by have := hg g hh; omega)

set_option maxHeartbeats 16000000 in
theorem pinbox_any (a b p n s r f : Int) (hh : hasB a b p n r = true) (hf : 0 ≤ f ∧ f ≤ 10000) (v : Value) (l : List Crs) (w : World) (hv : IsSl crsC w v l) :
    Calls Tryz.prog 18 #[.agg #[.int .i64 a, .int .i64 b, .int .i64 p, .int .i64 n, .int .u64 s], .int .i64 r, .int .i64 f, v] w fun z w' =>
      (∃ (vl : Value) (ib : List Crs), z = .returned vl ∧ w'.ownsRow w.heap.size 50 15 vl ib.length (ib.flatMap crsC) ∧ ib.length ≤ 12 ∧ (∀ c ∈ ib, inOk a b p n r f c = true)) ∧ Below w.heap.size w w' := by
  have HN := Lib.hid (fun w => rnear_any a b p n s r w)
  have HC := Lib.hid (fun w => rcorner_any a b p n s r w)
  have HX := Lib.hid (fun c w => rcross_any a b p n s c w)
  obtain ⟨hrt, h0, h1, ha, ha4, hb, hb4, -⟩ := hasB_rt hh
  have HM0 := Lib.hid (show 0 < (nr a b p n r).length from List.length_pos_of_mem (near_self hh))
  have HM1 := Lib.hid (nr_le a b p n r)
  have HV := Lib.hid hv
  obtain ⟨A, c, rfl, -⟩ := hv
  obtain ⟨N, hN⟩ : ∃ N, l.length = N := ⟨_, rfl⟩
  rw [hN] at HV ⊢
  have Hn := Lib.hid hN
  have hwf : wrap64 (f - 1) = f - 1 := IntWalk.wrap64_in _ (by omega)
  clear hN hh hrt h0 h1
  generalize crx a b p n r = cx at *
  generalize cry a b p n r = cy at *
  generalize nr a b p n r = R at *
  go_enter Tryz.func18, Tryz.ntmps18
  go_wp2
  go_loopw [9, 10] (fun v i wr => ∃ (k : Nat) (ib : List Crs), k ≤ N ∧ k ≤ 12 ∧ i = .int .i64 k ∧ ib.length ≤ k ∧ (∀ c ∈ ib, inOk a b p n r f c = true) ∧ wr.ownsRow (w.heap.size + 1) 50 15 v ib.length (ib.flatMap crsC) ∧ CfgBox wr w.heap.size ⟨a, b, p, n, s⟩ ∧ Below w.heap.size w wr) (fun _ i _ => N - (intOf i).toNat)
  case atStart => exact ⟨0, [], Nat.zero_le _, Nat.zero_le _, rfl, Nat.zero_le _, by simp, World.ownsRow_nil _ _ _ _, CfgBox.n1 _ ⟨a, b, p, n, s⟩ _ rfl, (Below.refl _ _).alloc (Nat.le_refl _) _⟩
  case round =>
    obtain ⟨k, ib, hk, hk12, rfl, hlen, hall, hown, hbg, hbel⟩ := hrel
    have hrow := fun q hq => (hown.lt q hq).2
    have Hrow := Lib.hid hrow
    have Hall := Lib.hid hall
    have Hown := Lib.hid hown
    have Hlen := Lib.hid hlen
    have Hbel := Lib.hid hbel
    have BG := Lib.hid hbg
    clear hall hown hlen hbg hbel hrow
    by_cases hlt : k < N
    · have hd1 : decide ((k : Int) < (N : Int)) = true := decide_eq_true (by omega)
      by_cases hlt2 : k < 12
      · have hd2 : decide ((k : Int) < 12) = true := decide_eq_true (by omega)
        obtain ⟨x, hx⟩ := getE l k N Hn.out hlt
        obtain ⟨bb, off, rfl, hc⟩ := elem_Crs (HV.out.below Hbel.out).at hx
        obtain ⟨c0, c1, c2, c3, c4, c5, c6, c7, c8, c9, c10, c11, c12, c13, c14⟩ := hc
        obtain ⟨M, hM⟩ : ∃ M, R.length = M := ⟨_, rfl⟩
        have hM0 : 0 < M := hM ▸ HM0.out
        have hM1 : M ≤ 16 := hM ▸ HM1.out
        obtain ⟨j, hjM, hj⟩ := uplace x.src M hM0 (by omega)
        rw [w64] at hj
        have hu : IntKind.u64.wrap (M : Int) = M := by rw [IntKind.wrap_u64]; omega
        have hMn : ¬ (M : Int) = 0 := by omega
        have HM := Lib.hid hM
        clear hx hM
        go_upto_region 6 with fail
        generalize hW : World.alloc _ _ = W2 at *
        have BX := Lib.hid (show CrsBox W2 wr.heap.size x from by rw [← hW]; exact CrsBox.n1 _ x _ rfl)
        have hgx : w.heap.size < wr.heap.size := BG.out.has
        replace Hown := Lib.hid (show W2.ownsRow _ _ _ _ _ _ from by rw [← hW]; exact Hown.out.alloc _)
        replace BG := Lib.hid (show CfgBox W2 w.heap.size ⟨a, b, p, n, s⟩ from by rw [← hW]; exact BG.out.alloc BG.out.has _)
        replace Hbel := Lib.hid (show Below w.heap.size w W2 from by rw [← hW]; exact Hbel.out.alloc Hbel.out.size _)
        generalize wr.heap.size = gx at *
        clear hW c0 c1 c2 c3 c4 c5 c6 c7 c8 c9 c10 c11 c12 c13 c14
        have hgg := BG.out.has
        have hxx := BX.out.has
        obtain ⟨g0, g1, g2, g3, g4, -⟩ := BG.out
        go_wp2_with fail
        refine (HN.out _).mono ?_
        rintro e w4 ⟨A4, d4, rfl, hI4, hb4⟩
        rw [HM.out] at hI4 ⊢
        obtain ⟨-, hat4⟩ := hI4
        obtain ⟨b4, off4, rfl, hc4⟩ := hat4 hM0
        have hcj := hc4 j hjM
        replace Hbel := Lib.hid (nextW Hbel.out hb4)
        replace BG := Lib.hid (BG.out.nx hb4)
        replace BX := Lib.hid (BX.out.nx hb4)
        replace Hown := Lib.hid (own_below Hown.out hb4)
        clear hb4 g0 g1 g2 g3 g4 hgg hxx hat4 hc4
        have hxx := BX.out.has
        obtain ⟨x0, x1, x2, x3, x4, x5, x6, x7, x8, x9, x10, x11, x12, x13, x14, f0, f1, f2, f3, f4, f5, f6, f7, f8, f9, f10, f11, f12, f13, f14⟩ := BX.out
        generalize gi R j = fr at *
        go_upto_region 8 with fail
        generalize hV : World.setCell _ _ _ = V1 at *
        replace BX := Lib.hid (show CrsBox V1 gx ⟨x.kind, fr, r, f - 1, x.e, x.x, x.y⟩ from by rw [← hV]; exact ((BX.out.set1 fr).set2 r).set3 (f - 1))
        replace BG := Lib.hid (show CfgBox V1 w.heap.size ⟨a, b, p, n, s⟩ from by rw [← hV]; exact ((BG.out.far (show gx ≠ w.heap.size by omega) _ _).far (show gx ≠ w.heap.size by omega) _ _).far (show gx ≠ w.heap.size by omega) _ _)
        replace Hown := Lib.hid (show V1.ownsRow _ _ _ _ _ _ from by rw [← hV]; exact own_far (own_far (own_far Hown.out Hrow.out 1 _) Hrow.out 2 _) Hrow.out 3 _)
        replace Hbel := Lib.hid (show Below w.heap.size w V1 from by rw [← hV]; exact ((Hbel.out.setCell (show w.heap.size ≤ gx by omega) _).setCell (show w.heap.size ≤ gx by omega) _).setCell (show w.heap.size ≤ gx by omega) _)
        clear hV x0 x1 x2 x3 x4 x5 x6 x7 x8 x9 x10 x11 x12 x13 x14 f0 f1 f2 f3 f4 f5 f6 f7 f8 f9 f10 f11 f12 f13 f14 hxx hcj
        have hxx := BX.out.has
        obtain ⟨x0, x1, x2, x3, x4, x5, x6, x7, x8, x9, x10, x11, x12, x13, x14, f0, f1, f2, f3, f4, f5, f6, f7, f8, f9, f10, f11, f12, f13, f14⟩ := BX.out
        by_cases hk1 : x.kind = 1
        · have hk' : (x.kind != 1) = false := by simpa using hk1
          have hgg := BG.out.has
          obtain ⟨g0, g1, g2, g3, g4, -⟩ := BG.out
          go_wp2_with fail
          refine (HC.out _).mono ?_
          rintro e w6 ⟨rfl, hb6⟩
          replace Hbel := Lib.hid (nextW Hbel.out hb6)
          replace BG := Lib.hid (BG.out.nx hb6)
          replace BX := Lib.hid (BX.out.nx hb6)
          replace Hown := Lib.hid (own_below Hown.out hb6)
          clear hb6 g0 g1 g2 g3 g4 hgg f0 f1 f2 f3 f4 f5 f6 f7 f8 f9 f10 f11 f12 f13 f14 x0 x1 x2 x3 x4 x5 x6 x7 x8 x9 x10 x11 x12 x13 x14 hxx
          have hxx := BX.out.has
          obtain ⟨x0, x1, x2, x3, x4, x5, x6, x7, x8, x9, x10, x11, x12, x13, x14, f0, f1, f2, f3, f4, f5, f6, f7, f8, f9, f10, f11, f12, f13, f14⟩ := BX.out
          go_upto_region 14 with fail
          generalize hV : World.setCell _ _ _ = V9 at *
          replace BG := Lib.hid (show CfgBox V9 w.heap.size ⟨a, b, p, n, s⟩ from by rw [← hV]; exact ((((BG.out).far (show gx ≠ w.heap.size by omega) _ _).far (show gx ≠ w.heap.size by omega) _ _).far (show gx ≠ w.heap.size by omega) _ _).far (show gx ≠ w.heap.size by omega) _ _)
          replace Hown := Lib.hid (show V9.ownsRow _ _ _ _ _ _ from by rw [← hV]; exact own_far (own_far (own_far (own_far (Hown.out) Hrow.out 13 _) Hrow.out 14 _) Hrow.out 6 _) Hrow.out 7 _)
          replace Hbel := Lib.hid (show Below w.heap.size w V9 from by rw [← hV]; exact ((((Hbel.out).setCell (show w.heap.size ≤ gx by omega) _).setCell (show w.heap.size ≤ gx by omega) _).setCell (show w.heap.size ≤ gx by omega) _).setCell (show w.heap.size ≤ gx by omega) _)
          obtain ⟨m, hbm, hmd⟩ : ∃ m : Crs, CrsBox V9 gx m ∧ (m.dst = r ∧ m.frame = f - 1) := by rw [← hV]; exact ⟨_, ((((BX.out).set13 _).set14 _).set6 _).set7 _, rfl, rfl⟩
          replace BX := Lib.hid hbm
          have Hmd := Lib.hid hmd
          clear hbm hmd hV f0 f1 f2 f3 f4 f5 f6 f7 f8 f9 f10 f11 f12 f13 f14 x0 x1 x2 x3 x4 x5 x6 x7 x8 x9 x10 x11 x12 x13 x14 hxx
          have HXm := Lib.hid (fun w => HX.out m w)
          have hgg := BG.out.has
          have hxx := BX.out.has
          obtain ⟨g0, g1, g2, g3, g4, -⟩ := BG.out
          obtain ⟨x0, x1, x2, x3, x4, x5, x6, x7, x8, x9, x10, x11, x12, x13, x14, -⟩ := BX.out
          obtain ⟨q, hq⟩ : ∃ q, crightB a b p n m = q := ⟨_, rfl⟩
          rw [hq] at HXm
          have Hq := Lib.hid hq
          clear hq
          go_wp2_with fail
          refine (HXm.out _).mono ?_
          rintro e w8 ⟨rfl, hb8⟩
          replace Hbel := Lib.hid (nextW Hbel.out hb8)
          replace BG := Lib.hid (BG.out.nx hb8)
          replace BX := Lib.hid (BX.out.nx hb8)
          replace Hown := Lib.hid (own_below Hown.out hb8)
          clear hb8 g0 g1 g2 g3 g4 x0 x1 x2 x3 x4 x5 x6 x7 x8 x9 x10 x11 x12 x13 x14 hgg hxx HXm
          cases q with
          | false =>
            go_wp2
            go_roundw
            case rel => exact ⟨k + 1, ib, by omega, by omega, by go_num, by have := Hlen.out; omega, Hall.out, Hown.out, BG.out, Hbel.out⟩
            case measure => simp [intOf]; omega
          | true =>
            have Hall2 := Lib.hid (show ∀ c ∈ ib ++ [m], inOk a b p n r f c = true from fun c hc => by
              rcases List.mem_append.1 hc with h | h
              · exact Hall.out c h
              · rw [List.mem_singleton.1 h]; unfold inOk; rw [Hq.out, Hmd.out.1, Hmd.out.2]; simp)
            have HS1 := Lib.hid (show w.heap.size + 1 ≤ w8.heap.size from BG.out.has)
            obtain ⟨x0, x1, x2, x3, x4, x5, x6, x7, x8, x9, x10, x11, x12, x13, x14, -⟩ := BX.out
            go_wp2_with (at_builtin; go_must (refine appL_Crs (by rfl) (.tmp 106) (.tmp 108) (by rfl) (w.heap.size + 1) _ ib (by rfl) (Hown.out.alloc _) _ [m] (by rfl) (one_Crs _ m _ 1 (by first | rfl | simp) (by omega)) (by have := Hlen.out; simp; omega) (by have := HS1.out; simp; omega) ?_))
            intro v9 w9 hown9 hb9 _
            have HO9 := Lib.hid hown9
            have HB9 := Lib.hid ((Hbel.out.alloc Hbel.out.size _).trans (hb9.mono (Nat.le_succ _)))
            have HG9 := Lib.hid ((BG.out.alloc BG.out.has _).below hb9 (Nat.lt_succ_self _))
            clear hown9 hb9
            go_wp2
            go_roundw
            case rel => exact ⟨k + 1, ib ++ [m], by omega, by omega, by go_num, by have := Hlen.out; simp; omega, Hall2.out, by simpa using HO9.out, HG9.out, HB9.out⟩
            case measure => simp [intOf]; omega
        · have hk' : (x.kind != 1) = true := by simpa using hk1
          go_upto_region 10 with fail
          generalize hV : World.setCell _ _ _ = V5 at *
          replace BG := Lib.hid (show CfgBox V5 w.heap.size ⟨a, b, p, n, s⟩ from by rw [← hV]; exact ((((((((((BG.out).far (show gx ≠ w.heap.size by omega) _ _).far (show gx ≠ w.heap.size by omega) _ _).far (show gx ≠ w.heap.size by omega) _ _).far (show gx ≠ w.heap.size by omega) _ _).far (show gx ≠ w.heap.size by omega) _ _).far (show gx ≠ w.heap.size by omega) _ _).far (show gx ≠ w.heap.size by omega) _ _).far (show gx ≠ w.heap.size by omega) _ _).far (show gx ≠ w.heap.size by omega) _ _).far (show gx ≠ w.heap.size by omega) _ _)
          replace Hown := Lib.hid (show V5.ownsRow _ _ _ _ _ _ from by rw [← hV]; exact own_far (own_far (own_far (own_far (own_far (own_far (own_far (own_far (own_far (own_far (Hown.out) Hrow.out 0 _) Hrow.out 4 _) Hrow.out 5 _) Hrow.out 6 _) Hrow.out 7 _) Hrow.out 8 _) Hrow.out 9 _) Hrow.out 10 _) Hrow.out 11 _) Hrow.out 12 _)
          replace Hbel := Lib.hid (show Below w.heap.size w V5 from by rw [← hV]; exact ((((((((((Hbel.out).setCell (show w.heap.size ≤ gx by omega) _).setCell (show w.heap.size ≤ gx by omega) _).setCell (show w.heap.size ≤ gx by omega) _).setCell (show w.heap.size ≤ gx by omega) _).setCell (show w.heap.size ≤ gx by omega) _).setCell (show w.heap.size ≤ gx by omega) _).setCell (show w.heap.size ≤ gx by omega) _).setCell (show w.heap.size ≤ gx by omega) _).setCell (show w.heap.size ≤ gx by omega) _).setCell (show w.heap.size ≤ gx by omega) _)
          obtain ⟨m, hbm, hmd⟩ : ∃ m : Crs, CrsBox V5 gx m ∧ (m.dst = r ∧ m.frame = f - 1) := by rw [← hV]; exact ⟨_, ((((((((((BX.out).set0 _).set4 _).set5 _).set6 _).set7 _).set8 _).set9 _).set10 _).set11 _).set12 _, rfl, rfl⟩
          replace BX := Lib.hid hbm
          have Hmd := Lib.hid hmd
          clear hbm hmd hV f0 f1 f2 f3 f4 f5 f6 f7 f8 f9 f10 f11 f12 f13 f14 x0 x1 x2 x3 x4 x5 x6 x7 x8 x9 x10 x11 x12 x13 x14 hxx
          have hxx := BX.out.has
          obtain ⟨x0, x1, x2, x3, x4, x5, x6, x7, x8, x9, x10, x11, x12, x13, x14, f0, f1, f2, f3, f4, f5, f6, f7, f8, f9, f10, f11, f12, f13, f14⟩ := BX.out
          have hgg := BG.out.has
          obtain ⟨g0, g1, g2, g3, g4, -⟩ := BG.out
          have hua : IntKind.u64.wrap (IntKind.i64.wrap (a * 1024)) = a * 1024 := by rw [IntKind.wrap_i64, IntKind.wrap_u64]; omega
          have hub : IntKind.u64.wrap (IntKind.i64.wrap (b * 1024)) = b * 1024 := by rw [IntKind.wrap_i64, IntKind.wrap_u64]; omega
          have hna : ¬ a * 1024 = 0 := by omega
          have hnb : ¬ b * 1024 = 0 := by omega
          refine turn_region (S1 := fun w' => w'.cell? ⟨gx, 13, none⟩ = V5.cell? ⟨gx, 13, none⟩ ∧ w'.cell? ⟨gx, 14, none⟩ = V5.cell? ⟨gx, 14, none⟩ ∧ w'.cell? ⟨w.heap.size, 0, none⟩ = some (.int .i64 a) ∧ w'.cell? ⟨w.heap.size, 1, none⟩ = some (.int .i64 b)) (S2 := fun w' => w'.cell? ⟨w.heap.size, 1, none⟩ = some (.int .i64 b)) 19 20 (.free 0 (.free 1 (.free 2 (.free 3 (.free 4 (.free 5 (.free 6 (.free 7 (.free 8 (.free 9 (.free 10 (.freeB 11 (.freeB 12 (.freeB 13 (.freeB 14 (.freeB 15 (.freeB 16 (.freeB 17 (.free 18 (.turn 19 .tail)))))))))))))))))))) (by kernel_rfl) (by kernel_rfl) (fun _ _ d _ _ h => by cases d <;> exact h) (⟨rfl, rfl, g0, g1⟩) (g1) ?_
          simp only [writtenU, List.drop_succ_cons, List.drop_zero, List.getElem?_cons_succ, List.getElem?_cons_zero]
          refine ru_free (v := ?_) (by rfl) ?_ ?_; rotate_left 1; focus (intro w hSw; (try dsimp only at hSw); go_simp; (try with_reducible rfl))
          (try simp only [Act.put, tA, tB, tC])
          refine ru_free (v := ?_) (by rfl) ?_ ?_; rotate_left 1; focus (intro w hSw; (try dsimp only at hSw); go_simp; (try with_reducible rfl))
          (try simp only [Act.put, tA, tB, tC])
          refine ru_free (v := ?_) (by rfl) ?_ ?_; rotate_left 1; focus (intro w hSw; (try dsimp only at hSw); go_simp; (try with_reducible rfl))
          (try simp only [Act.put, tA, tB, tC])
          refine ru_free (v := ?_) (by rfl) ?_ ?_; rotate_left 1; focus (intro w hSw; (try dsimp only at hSw); go_simp; (try with_reducible rfl))
          (try simp only [Act.put, tA, tB, tC])
          refine ru_free (v := ?_) (by rfl) ?_ ?_; rotate_left 1; focus (intro w hSw; (try dsimp only at hSw); go_simp; (try with_reducible rfl))
          (try simp only [Act.put, tA, tB, tC])
          refine ru_free (v := ?_) (by rfl) ?_ ?_; rotate_left 1; focus (intro w hSw; (try dsimp only at hSw); go_simp; (try with_reducible rfl))
          (try simp only [Act.put, tA, tB, tC])
          refine ru_free (v := ?_) (by rfl) ?_ ?_; rotate_left 1; focus (intro w hSw; (try dsimp only at hSw); go_simp; (try with_reducible rfl))
          (try simp only [Act.put, tA, tB, tC])
          refine ru_free (v := ?_) (by rfl) ?_ ?_; rotate_left 1; focus (intro w hSw; (try dsimp only at hSw); go_simp; (try with_reducible rfl))
          (try simp only [Act.put, tA, tB, tC])
          refine ru_free (v := ?_) (by rfl) ?_ ?_; rotate_left 1; focus (intro w hSw; (try dsimp only at hSw); go_simp; (try with_reducible rfl))
          (try simp only [Act.put, tA, tB, tC])
          refine ru_free (v := ?_) (by rfl) ?_ ?_; rotate_left 1; focus (intro w hSw; (try dsimp only at hSw); go_simp; (try with_reducible rfl))
          (try simp only [Act.put, tA, tB, tC])
          refine ru_free (v := ?_) (by rfl) ?_ ?_; rotate_left 1; focus (intro w hSw; (try dsimp only at hSw); go_simp; (try with_reducible rfl))
          (try simp only [Act.put, tA, tB, tC])
          refine ru_freeB (v := ?_) (by rfl) ?_ ?_; rotate_left 1; focus (intro w hSw; (try dsimp only at hSw); go_simp; (try with_reducible rfl))
          (try simp only [Act.put, tA, tB, tC])
          refine ru_freeB (v := ?_) (by rfl) ?_ ?_; rotate_left 1; focus (intro w hSw; (try dsimp only at hSw); go_simp; (try with_reducible rfl))
          (try simp only [Act.put, tA, tB, tC])
          refine ru_freeB (v := ?_) (by rfl) ?_ ?_; rotate_left 1; focus (intro w hSw; (try dsimp only at hSw); go_simp; (try with_reducible rfl))
          (try simp only [Act.put, tA, tB, tC])
          refine ru_freeB (v := ?_) (by rfl) ?_ ?_; rotate_left 1; focus (intro w hSw; (try dsimp only at hSw); go_simp; (try with_reducible rfl))
          (try simp only [Act.put, tA, tB, tC])
          refine ru_freeB (v := ?_) (by rfl) ?_ ?_; rotate_left 1; focus (intro w hSw; (try dsimp only at hSw); go_simp; (try with_reducible rfl))
          (try simp only [Act.put, tA, tB, tC])
          refine ru_freeB (v := ?_) (by rfl) ?_ ?_; rotate_left 1; focus (intro w hSw; (try dsimp only at hSw); go_simp; (try with_reducible rfl))
          (try simp only [Act.put, tA, tB, tC])
          refine ru_freeB (v := ?_) (by rfl) ?_ ?_; rotate_left 1; focus (intro w hSw; (try dsimp only at hSw); go_simp; (try with_reducible rfl))
          (try simp only [Act.put, tA, tB, tC])
          refine ru_free (v := ?_) (by rfl) ?_ ?_; rotate_left 1; focus (intro w hSw; (try dsimp only at hSw); go_simp; (try with_reducible rfl))
          (try simp only [Act.put, tA, tB, tC])
          refine ru_turn (by rfl) (fun K hK => ?_)
          go_simp
          (try go_wp2_with fail)
          refine hK.out _ _ ?_ ?_
          · (try dsimp only); simp [go_sem, g1]
          clear hK K
          (try simp only [Act.put, tA, tB, tC])
          refine ru_done ?_
          go_upto_region 14 with fail
          generalize hV : World.drew _ = V9
          replace BG := Lib.hid (show CfgBox V9 w.heap.size ⟨a, b, p, n, s⟩ from by rw [← hV]; exact (((BG.out).far (show gx ≠ w.heap.size by omega) _ _).far (show gx ≠ w.heap.size by omega) _ _).drew)
          replace Hown := Lib.hid (show V9.ownsRow _ _ _ _ _ _ from by rw [← hV]; exact own_far (own_far (Hown.out) Hrow.out 13 _) Hrow.out 14 _)
          replace Hbel := Lib.hid (show Below w.heap.size w V9 from by rw [← hV]; exact (((Hbel.out).setCell (show w.heap.size ≤ gx by omega) _).setCell (show w.heap.size ≤ gx by omega) _).drew)
          obtain ⟨m', hbm, hmd⟩ : ∃ m' : Crs, CrsBox V9 gx m' ∧ (m'.dst = r ∧ m'.frame = f - 1) := by rw [← hV]; exact ⟨_, (((BX.out).set13 _).set14 _).drew, Hmd.out.1, Hmd.out.2⟩
          replace BX := Lib.hid hbm
          replace Hmd := Lib.hid hmd
          clear hbm hmd hV f0 f1 f2 f3 f4 f5 f6 f7 f8 f9 f10 f11 f12 f13 f14 x0 x1 x2 x3 x4 x5 x6 x7 x8 x9 x10 x11 x12 x13 x14 hxx g0 g1 g2 g3 g4 hgg hua hub hna hnb
          have HXm := Lib.hid (fun w => HX.out m' w)
          have hgg := BG.out.has
          have hxx := BX.out.has
          obtain ⟨g0, g1, g2, g3, g4, -⟩ := BG.out
          obtain ⟨x0, x1, x2, x3, x4, x5, x6, x7, x8, x9, x10, x11, x12, x13, x14, -⟩ := BX.out
          obtain ⟨q, hq⟩ : ∃ q, crightB a b p n m' = q := ⟨_, rfl⟩
          rw [hq] at HXm
          have Hq := Lib.hid hq
          clear hq
          go_wp2_with fail
          refine (HXm.out _).mono ?_
          rintro e w8 ⟨rfl, hb8⟩
          replace Hbel := Lib.hid (nextW Hbel.out hb8)
          replace BG := Lib.hid (BG.out.nx hb8)
          replace BX := Lib.hid (BX.out.nx hb8)
          replace Hown := Lib.hid (own_below Hown.out hb8)
          clear hb8 g0 g1 g2 g3 g4 x0 x1 x2 x3 x4 x5 x6 x7 x8 x9 x10 x11 x12 x13 x14 hgg hxx HXm
          cases q with
          | false =>
            go_wp2
            go_roundw
            case rel => exact ⟨k + 1, ib, by omega, by omega, by go_num, by have := Hlen.out; omega, Hall.out, Hown.out, BG.out, Hbel.out⟩
            case measure => simp [intOf]; omega
          | true =>
            have Hall2 := Lib.hid (show ∀ c ∈ ib ++ [m'], inOk a b p n r f c = true from fun c hc => by
              rcases List.mem_append.1 hc with h | h
              · exact Hall.out c h
              · rw [List.mem_singleton.1 h]; unfold inOk; rw [Hq.out, Hmd.out.1, Hmd.out.2]; simp)
            have HS1 := Lib.hid (show w.heap.size + 1 ≤ w8.heap.size from BG.out.has)
            obtain ⟨x0, x1, x2, x3, x4, x5, x6, x7, x8, x9, x10, x11, x12, x13, x14, -⟩ := BX.out
            go_wp2_with (at_builtin; go_must (refine appL_Crs (by rfl) (.tmp 106) (.tmp 108) (by rfl) (w.heap.size + 1) _ ib (by rfl) (Hown.out.alloc _) _ [m'] (by rfl) (one_Crs _ m' _ 1 (by first | rfl | simp) (by omega)) (by have := Hlen.out; simp; omega) (by have := HS1.out; simp; omega) ?_))
            intro v9 w9 hown9 hb9 _
            have HO9 := Lib.hid hown9
            have HB9 := Lib.hid ((Hbel.out.alloc Hbel.out.size _).trans (hb9.mono (Nat.le_succ _)))
            have HG9 := Lib.hid ((BG.out.alloc BG.out.has _).below hb9 (Nat.lt_succ_self _))
            clear hown9 hb9
            go_wp2
            go_roundw
            case rel => exact ⟨k + 1, ib ++ [m'], by omega, by omega, by go_num, by have := Hlen.out; simp; omega, Hall2.out, by simpa using HO9.out, HG9.out, HB9.out⟩
            case measure => simp [intOf]; omega
      · have hd2 : decide ((k : Int) < 12) = false := decide_eq_false (by omega)
        go_wp2
        go_ret
        exact ⟨⟨_, ib, rfl, Hown.out.mono (Nat.le_succ _), by have := Hlen.out; omega, Hall.out⟩, Hbel.out⟩
    · have hd1 : decide ((k : Int) < (N : Int)) = false := decide_eq_false (by omega)
      go_wp2
      go_ret
      exact ⟨⟨_, ib, rfl, Hown.out.mono (Nat.le_succ _), by have := Hlen.out; omega, Hall.out⟩, Hbel.out⟩

end Go.Proofs.YtbblpnmcbifocaaGreat.Fx
