/- A region that draws its order and ends in stores, where some of what only reads may come up behind the first store: two conditions on the world, S1 as long as the first store (operation k) has not come up, S2 as long as the last ones (from k2 on) have not. -/
import Derived.Test.YtlpkaljepaclpaaM23
namespace Go.Proofs.Ytlpkaljepaclpaa.Fx
open Go.RowKit

section
variable {P : Program} {md : Region.Mode} {ops : Array Oper} {Q : Exit → Act → World → Prop} {T : Array Bool → World → Prop} {S : World → Prop}

def wpAnyU (P : Program) (md : Region.Mode) (ops : Array Oper) (Q : Exit → Act → World → Prop) (T : Array Bool → World → Prop) : Nat → Array Bool → Act → World → Prop
  | 0, listed, a, w => Region.ready md ops listed = [] ∧ Q .normal a w
  | fuel + 1, listed, a, w =>
    (Region.ready md ops listed = [] → Q .normal a w) ∧
    ∀ i ∈ Region.ready md ops listed, wpOp P ops Q i (fun a' w' => T (listed.setIfInBounds i true) w' ∧ wpAnyU P md ops Q T fuel (listed.setIfInBounds i true) a' w') a w

theorem wpAny_of_U : ∀ (fuel : Nat) (listed : Array Bool) (a : Act) (w : World), wpAnyU P md ops Q T fuel listed a w → wpAny P md ops Q fuel listed a w
  | 0, _, _, _, h => h
  | fuel + 1, _, _, _, h => ⟨h.1, fun i hi => wpOp_mono (fun a' w' h' => wpAny_of_U fuel _ a' w' h'.2) (h.2 i hi)⟩

theorem wpAnyU_first {i : Nat} {oi : Oper} {v : Value} (hi : ops[i]? = some oi) (hsel : ∀ (j : Nat) (o : Oper) cs b, ops[j]? = some o → o.op ≠ .select cs b)
    (hQ : ∀ c a w, Q (.panic c) (a.put oi.dst v) w → Q (.panic c) a w)
    (hTi : ∀ listed w, T (listed.setIfInBounds i true) w → T listed w) (hTj : ∀ listed w, T listed w → T (listed.setIfInBounds i true) w)
    (hTS : ∀ listed w, DownI md ops listed → i ∈ Region.ready md ops listed → T listed w → S w) :
    ∀ (fuel : Nat) (listed : Array Bool) (a : Act) (w : World), DownI md ops listed →
      (∀ j oj, ops[j]? = some oj → j ≠ i → listed.getD j true = false → (∀ e ∈ oj.after, Region.binds md e = true → e.on ≠ i) → oi.apart ops oj = true) →
      i ∈ Region.ready md ops listed → YieldsIf P ops S oi v a → T listed w →
      wpAnyU P md ops Q T fuel (listed.setIfInBounds i true) (a.put oi.dst v) w → wpAnyU P md ops Q T (fuel + 1) listed a w := by
  intro fuel
  induction fuel with
  | zero =>
    intro listed a w inv _ hr hy hS H
    refine ⟨fun h => (by rw [h] at hr; cases hr), fun j hj => ?_⟩
    by_cases hji : j = i
    · subst hji; exact hy.wpOp hi (hTS _ _ inv hr hS) ⟨hTj _ _ hS, H⟩
    · have := ready_mono hj hji
      rw [H.1] at this
      cases this
  | succ fuel ih =>
    intro listed a w inv hfree hr hy hS H
    refine ⟨fun h => (by rw [h] at hr; cases hr), fun j hj => ?_⟩
    by_cases hji : j = i
    · subst hji; exact hy.wpOp hi (hTS _ _ inv hr hS) ⟨hTj _ _ hS, H⟩
    · have h1 := H.2 j (ready_mono hj hji)
      obtain ⟨hjun, oj, hoj, hall⟩ := mem_ready.1 hj
      have hnot : ∀ e ∈ oj.after, Region.binds md e = true → e.on ≠ i := fun e he hb heq => by
        have h1 := hall e he hb
        have h0 := getD_both (mem_ready.1 hr).1
        rw [heq, h0] at h1
        cases h1
      have h2 := wpOp_putIf hoj (hfree j oj hoj hji hjun hnot) (fun cs b => hsel i oi cs b hi) (fun cs b => hsel j oj cs b hoj) hQ hy h1
      have hfree' : ∀ k ok, ops[k]? = some ok → k ≠ i → (listed.setIfInBounds j true).getD k true = false →
          (∀ e ∈ ok.after, Region.binds md e = true → e.on ≠ i) → oi.apart ops ok = true := fun k ok hk hki hun hno => by
        refine hfree k ok hk hki ?_ hno
        by_cases hjk : j = k
        · subst hjk; exact hjun
        · rw [getD_set_ne true hjk] at hun; exact hun
      refine wpOp_mono (fun a' w' h3 => ?_) h2
      have hS' : T (listed.setIfInBounds j true) w' := hTi _ _ (by rw [Array.setIfInBounds_comm _ _ hji]; exact h3.2.1)
      refine ⟨hS', ih (listed.setIfInBounds j true) a' w' (inv.set hj) hfree' (ready_mono hr (Ne.symm hji)) h3.1 hS' ?_⟩
      rw [Array.setIfInBounds_comm _ _ hji]
      exact h3.2.2

variable {S1 S2 : World → Prop} {k k2 : Nat}

/-- What holds of the world, by what has come up. -/
def TwoS (S1 S2 : World → Prop) (k k2 : Nat) (listed : Array Bool) (w : World) : Prop := (listed.getD k true = false → S1 w) ∧ (listed.getD k2 true = false → S2 w)

theorem un_listed {i k : Nat} {f : Nat} (hbk : bef md ops i f k = true) (hkn : k < ops.size) {listed : Array Bool} (inv : DownI md ops listed) (hr : i ∈ Region.ready md ops listed) : listed.getD k true = false := by
  have h0 := getD_both (mem_ready.1 hr).1
  refine getD_in (by rw [inv.size]; exact hkn) ?_
  cases hl : listed.getD k false with
  | false => rfl
  | true => have := bef_listed inv f k hbk hl; rw [h0] at this; cases this

theorem twoS_i {i : Nat} (h1 : ¬ i = k) (h2 : ¬ i = k2) (listed : Array Bool) (w : World) : TwoS S1 S2 k k2 (listed.setIfInBounds i true) w → TwoS S1 S2 k k2 listed w := by
  unfold TwoS
  rw [getD_set_ne true h1, getD_set_ne true h2]
  exact id

theorem twoS_j {i : Nat} (h1 : ¬ i = k) (h2 : ¬ i = k2) (listed : Array Bool) (w : World) : TwoS S1 S2 k k2 listed w → TwoS S1 S2 k k2 (listed.setIfInBounds i true) w := by
  unfold TwoS
  rw [getD_set_ne true h1, getD_set_ne true h2]
  exact id

theorem wpAnyU_of_any : ∀ (fuel : Nat) (listed : Array Bool) (a : Act) (w : World), (((∀ i ∈ Region.ready md ops listed, i = k2) ∨ listed.getD k2 true = true) ∧ listed.getD k true = true) → wpAny P md ops Q fuel listed a w → wpAnyU P md ops Q (TwoS S1 S2 k k2) fuel listed a w
  | 0, _, _, _, _, h => h
  | fuel + 1, listed, _, _, hk, h => ⟨h.1, fun i hi => wpOp_mono (fun a' w' h' => by
      have hk2 : (listed.setIfInBounds i true).getD k2 true = true := by
        by_cases hik : i = k2
        · subst hik; exact getD_set_same
        · rcases hk.1 with hk | hk
          · exact absurd (hk i hi) hik
          · rw [getD_set_ne true hik]; exact hk
      have hk1 : (listed.setIfInBounds i true).getD k true = true := by
        by_cases hik : i = k
        · subst hik; exact getD_set_same
        · rw [getD_set_ne true hik]; exact hk.2
      exact ⟨⟨fun hf => (by rw [hk1] at hf; cases hf), fun hf => (by rw [hk2] at hf; cases hf)⟩, wpAnyU_of_any fuel _ a' w' ⟨.inr hk2, hk1⟩ h'⟩) (h.2 i hi)⟩

/-- A plan: what is read ahead of k, what is read ahead of k2, the turn (operation k), the tail from k2 on. -/
inductive Pu where
  | tail
  | free (i : Nat) (r : Pu)
  | freeB (i : Nat) (r : Pu)
  | freeC (i : Nat) (r : Pu)
  | one (i : Nat) (r : Pu)
  | turn (i : Nat) (r : Pu)

def Pu.len (g : Nat) : Pu → Nat
  | .tail => g
  | .free _ r => r.len g + 1
  | .freeB _ r => r.len g + 1
  | .freeC _ r => r.len g + 1
  | .one _ r => r.len g + 1
  | .turn _ r => r.len g + 1

def puB (ops : Array Oper) (k k2 : Nat) : Pu → Array Bool → Bool
  | .tail, listed => (listed.getD k true && decide (Region.ready .any ops listed = [k2])) && Region.seqB .any ops (ops.toList.drop k2).length k2 listed
  | .free i r, listed => (bef .any ops i ops.size k && (!(i == k) && !(i == k2))) && (Region.free .any ops listed i && ((Region.ready .any ops listed).contains i && puB ops k k2 r (listed.setIfInBounds i true)))
  | .freeB i r, listed => (bef .any ops i ops.size k2 && (!(i == k) && !(i == k2))) && (Region.free .any ops listed i && ((Region.ready .any ops listed).contains i && puB ops k k2 r (listed.setIfInBounds i true)))
  | .freeC i r, listed => (!(i == k) && !(i == k2)) && (Region.free .any ops listed i && ((Region.ready .any ops listed).contains i && puB ops k k2 r (listed.setIfInBounds i true)))
  | .one i r, listed => (!(i == k) && !(i == k2)) && ((Region.ready .any ops listed == [i]) && puB ops k k2 r (listed.setIfInBounds i true))
  | .turn i r, listed => (i == k && !(k == k2)) && ((Region.ready .any ops listed == [i]) && puB ops k k2 r (listed.setIfInBounds i true))

def wpPu (P : Program) (ops : Array Oper) (Q : Exit → Act → World → Prop) (S1 S2 : World → Prop) (k2 : Nat) : Pu → Act → World → Prop
  | .tail, a, w => wpList P ops Q (ops.toList.drop k2) a w
  | .free i r, a, w => ∃ o v, ops[i]? = some o ∧ YieldsIf P ops S1 o v a ∧ wpPu P ops Q S1 S2 k2 r (a.put o.dst v) w
  | .freeB i r, a, w => ∃ o v, ops[i]? = some o ∧ YieldsIf P ops S2 o v a ∧ wpPu P ops Q S1 S2 k2 r (a.put o.dst v) w
  | .freeC i r, a, w => ∃ o v, ops[i]? = some o ∧ YieldsIf P ops (fun _ => True) o v a ∧ wpPu P ops Q S1 S2 k2 r (a.put o.dst v) w
  | .one i r, a, w => wpOp P ops Q i (fun a' w' => (S1 w' ∧ S2 w') ∧ wpPu P ops Q S1 S2 k2 r a' w') a w
  | .turn i r, a, w => wpOp P ops Q i (fun a' w' => S2 w' ∧ wpPu P ops Q S1 S2 k2 r a' w') a w

theorem pu_any (hsel : Region.noSelect ops = true) (hQ : ∀ c a d v w, Q (.panic c) (a.put d v) w → Q (.panic c) a w) (hkn : k < ops.size) (hkn2 : k2 < ops.size) :
    ∀ (l : Pu) (listed : Array Bool) (a : Act) (w : World), DownI .any ops listed → puB ops k k2 l listed = true → TwoS S1 S2 k k2 listed w → wpPu P ops Q S1 S2 k2 l a w → wpAnyU P .any ops Q (TwoS S1 S2 k k2) (l.len (ops.toList.drop k2).length) listed a w
  | .tail, listed, a, w, inv, hp, _, h => by
    have hp : ((listed.getD k true && decide (Region.ready .any ops listed = [k2])) && Region.seqB .any ops (ops.toList.drop k2).length k2 listed) = true := hp
    rw [Bool.and_eq_true, Bool.and_eq_true] at hp
    refine wpAnyU_of_any _ _ _ _ ⟨.inl fun i hi => by rw [of_decide_eq_true hp.1.2] at hi; simpa using hi, hp.1.1⟩ ?_
    exact wpAny_of_seq _ k2 listed a w (fun j => by simp) hp.2 h
  | .free i r, listed, a, w, inv, hp, hS, h => by
    have hp : ((bef .any ops i ops.size k && (!(i == k) && !(i == k2))) && (Region.free .any ops listed i && ((Region.ready .any ops listed).contains i && puB ops k k2 r (listed.setIfInBounds i true)))) = true := hp
    rw [Bool.and_eq_true, Bool.and_eq_true, Bool.and_eq_true, Bool.and_eq_true, Bool.and_eq_true] at hp
    obtain ⟨o, v, ho, hy, h⟩ := h
    have hr : i ∈ Region.ready .any ops listed := by simpa using hp.2.2.1
    have n1 : ¬ i = k := by simpa using hp.1.2.1
    have n2 : ¬ i = k2 := by simpa using hp.1.2.2
    exact wpAnyU_first (S := S1) ho (Region.noSelect_spec hsel) (fun c a w => hQ c a o.dst v w) (twoS_i n1 n2) (twoS_j n1 n2) (fun l w inv hr hT => hT.1 (un_listed hp.1.1 hkn inv hr)) _ listed a w inv (Region.free_spec ho hp.2.1) hr hy hS
      (pu_any hsel hQ hkn hkn2 r _ _ _ (inv.set hr) hp.2.2.2 (twoS_j n1 n2 _ _ hS) h)
  | .freeB i r, listed, a, w, inv, hp, hS, h => by
    have hp : ((bef .any ops i ops.size k2 && (!(i == k) && !(i == k2))) && (Region.free .any ops listed i && ((Region.ready .any ops listed).contains i && puB ops k k2 r (listed.setIfInBounds i true)))) = true := hp
    rw [Bool.and_eq_true, Bool.and_eq_true, Bool.and_eq_true, Bool.and_eq_true, Bool.and_eq_true] at hp
    obtain ⟨o, v, ho, hy, h⟩ := h
    have hr : i ∈ Region.ready .any ops listed := by simpa using hp.2.2.1
    have n1 : ¬ i = k := by simpa using hp.1.2.1
    have n2 : ¬ i = k2 := by simpa using hp.1.2.2
    exact wpAnyU_first (S := S2) ho (Region.noSelect_spec hsel) (fun c a w => hQ c a o.dst v w) (twoS_i n1 n2) (twoS_j n1 n2) (fun l w inv hr hT => hT.2 (un_listed hp.1.1 hkn2 inv hr)) _ listed a w inv (Region.free_spec ho hp.2.1) hr hy hS
      (pu_any hsel hQ hkn hkn2 r _ _ _ (inv.set hr) hp.2.2.2 (twoS_j n1 n2 _ _ hS) h)
  | .freeC i r, listed, a, w, inv, hp, hS, h => by
    have hp : ((!(i == k) && !(i == k2)) && (Region.free .any ops listed i && ((Region.ready .any ops listed).contains i && puB ops k k2 r (listed.setIfInBounds i true)))) = true := hp
    rw [Bool.and_eq_true, Bool.and_eq_true, Bool.and_eq_true, Bool.and_eq_true] at hp
    obtain ⟨o, v, ho, hy, h⟩ := h
    have hr : i ∈ Region.ready .any ops listed := by simpa using hp.2.2.1
    have n1 : ¬ i = k := by simpa using hp.1.1
    have n2 : ¬ i = k2 := by simpa using hp.1.2
    exact wpAnyU_first (S := fun _ => True) ho (Region.noSelect_spec hsel) (fun c a w => hQ c a o.dst v w) (twoS_i n1 n2) (twoS_j n1 n2) (fun l w inv hr hT => trivial) _ listed a w inv (Region.free_spec ho hp.2.1) hr hy hS
      (pu_any hsel hQ hkn hkn2 r _ _ _ (inv.set hr) hp.2.2.2 (twoS_j n1 n2 _ _ hS) h)
  | .one i r, listed, a, w, inv, hp, hS, h => by
    have hp : ((!(i == k) && !(i == k2)) && ((Region.ready .any ops listed == [i]) && puB ops k k2 r (listed.setIfInBounds i true))) = true := hp
    rw [Bool.and_eq_true, Bool.and_eq_true, Bool.and_eq_true] at hp
    have hr := eq_of_beq hp.2.1
    refine ⟨fun h0 => (by rw [hr] at h0; cases h0), fun j hj => ?_⟩
    have hj' := hj
    rw [hr] at hj'
    obtain rfl : j = i := by simpa using hj'
    refine wpOp_mono (fun a' w' h' => ?_) (show wpOp P ops Q j (fun a' w' => (S1 w' ∧ S2 w') ∧ wpPu P ops Q S1 S2 k2 r a' w') a w from h)
    have hT : TwoS S1 S2 k k2 (listed.setIfInBounds j true) w' := ⟨fun _ => h'.1.1, fun _ => h'.1.2⟩
    exact ⟨hT, pu_any hsel hQ hkn hkn2 r _ _ _ (inv.set hj) hp.2.2 hT h'.2⟩
  | .turn i r, listed, a, w, inv, hp, hS, h => by
    have hp : ((i == k && !(k == k2)) && ((Region.ready .any ops listed == [i]) && puB ops k k2 r (listed.setIfInBounds i true))) = true := hp
    rw [Bool.and_eq_true, Bool.and_eq_true, Bool.and_eq_true] at hp
    have hr := eq_of_beq hp.2.1
    have hik : i = k := eq_of_beq hp.1.1
    have n2 : ¬ k = k2 := by simpa using hp.1.2
    refine ⟨fun h0 => (by rw [hr] at h0; cases h0), fun j hj => ?_⟩
    have hj' := hj
    rw [hr] at hj'
    obtain rfl : j = i := by simpa using hj'
    refine wpOp_mono (fun a' w' h' => ?_) (show wpOp P ops Q j (fun a' w' => S2 w' ∧ wpPu P ops Q S1 S2 k2 r a' w') a w from h)
    have hT : TwoS S1 S2 k k2 (listed.setIfInBounds j true) w' := ⟨fun hf => (by rw [hik, getD_set_same] at hf; cases hf), fun _ => h'.1⟩
    exact ⟨hT, pu_any hsel hQ hkn hkn2 r _ _ _ (inv.set hj) hp.2.2 hT h'.2⟩

/-- Such a plan with its operations written out. -/
inductive Ru where
  | tail (l : List Oper)
  | free (o : Option Oper) (r : Ru)
  | freeB (o : Option Oper) (r : Ru)
  | freeC (o : Option Oper) (r : Ru)
  | one (o : Option Oper) (r : Ru)
  | turn (o : Option Oper) (r : Ru)

def writtenU (os : List Oper) (k2 : Nat) : Pu → Ru
  | .tail => .tail (os.drop k2)
  | .free i r => .free os[i]? (writtenU os k2 r)
  | .freeB i r => .freeB os[i]? (writtenU os k2 r)
  | .freeC i r => .freeC os[i]? (writtenU os k2 r)
  | .one i r => .one os[i]? (writtenU os k2 r)
  | .turn i r => .turn os[i]? (writtenU os k2 r)

def wpRu (P : Program) (ops : Array Oper) (Q : Exit → Act → World → Prop) (S1 S2 : World → Prop) : Ru → Act → World → Prop
  | .tail l, a, w => wpList P ops Q l a w
  | .free none _, _, _ => False
  | .freeB none _, _, _ => False
  | .freeC none _, _, _ => False
  | .one none _, _, _ => False
  | .turn none _, _, _ => False
  | .free (some o) r, a, w => ∃ v, YieldsIf P ops S1 o v a ∧ wpRu P ops Q S1 S2 r (a.put o.dst v) w
  | .freeB (some o) r, a, w => ∃ v, YieldsIf P ops S2 o v a ∧ wpRu P ops Q S1 S2 r (a.put o.dst v) w
  | .freeC (some o) r, a, w => ∃ v, YieldsIf P ops (fun _ => True) o v a ∧ wpRu P ops Q S1 S2 r (a.put o.dst v) w
  | .one (some o) r, a, w => ∀ K' : Act → World → Prop, (∀ a w, (S1 w ∧ S2 w) ∧ wpRu P ops Q S1 S2 r a w → K' a w) → if Region.wanted o (yielded ops a.tmps) = true then Oper.wp P o a w K' Q else K' (a.put o.dst undef) w
  | .turn (some o) r, a, w => ∀ K' : Act → World → Prop, (∀ a w, S2 w ∧ wpRu P ops Q S1 S2 r a w → K' a w) → if Region.wanted o (yielded ops a.tmps) = true then Oper.wp P o a w K' Q else K' (a.put o.dst undef) w

theorem pu_of_ru : ∀ (l : Pu) (a : Act) (w : World), wpRu P ops Q S1 S2 (writtenU ops.toList k2 l) a w → wpPu P ops Q S1 S2 k2 l a w
  | .tail, _, _, h => h
  | .free i r, a, w, h => by
    have h : wpRu P ops Q S1 S2 (.free ops.toList[i]? (writtenU ops.toList k2 r)) a w := h
    cases ho : ops.toList[i]? with
    | none => rw [ho] at h; exact h.elim
    | some o =>
      rw [ho] at h
      obtain ⟨v, hy, h⟩ := h
      exact ⟨o, v, by simpa using ho, hy, pu_of_ru r _ _ h⟩
  | .freeB i r, a, w, h => by
    have h : wpRu P ops Q S1 S2 (.freeB ops.toList[i]? (writtenU ops.toList k2 r)) a w := h
    cases ho : ops.toList[i]? with
    | none => rw [ho] at h; exact h.elim
    | some o =>
      rw [ho] at h
      obtain ⟨v, hy, h⟩ := h
      exact ⟨o, v, by simpa using ho, hy, pu_of_ru r _ _ h⟩
  | .freeC i r, a, w, h => by
    have h : wpRu P ops Q S1 S2 (.freeC ops.toList[i]? (writtenU ops.toList k2 r)) a w := h
    cases ho : ops.toList[i]? with
    | none => rw [ho] at h; exact h.elim
    | some o =>
      rw [ho] at h
      obtain ⟨v, hy, h⟩ := h
      exact ⟨o, v, by simpa using ho, hy, pu_of_ru r _ _ h⟩
  | .one i r, a, w, h => by
    have h : wpRu P ops Q S1 S2 (.one ops.toList[i]? (writtenU ops.toList k2 r)) a w := h
    cases ho : ops.toList[i]? with
    | none => rw [ho] at h; exact h.elim
    | some o =>
      rw [ho] at h
      exact wpOp_step (show ops[i]? = some o by simpa using ho) fun K' hK => h K' fun a w h' => hK a w ⟨h'.1, pu_of_ru r _ _ h'.2⟩
  | .turn i r, a, w, h => by
    have h : wpRu P ops Q S1 S2 (.turn ops.toList[i]? (writtenU ops.toList k2 r)) a w := h
    cases ho : ops.toList[i]? with
    | none => rw [ho] at h; exact h.elim
    | some o =>
      rw [ho] at h
      exact wpOp_step (show ops[i]? = some o by simpa using ho) fun K' hK => h K' fun a w h' => hK a w ⟨h'.1, pu_of_ru r _ _ h'.2⟩

theorem turn_region {id : Nat} {a : Act} {w : World} (k k2 : Nat) (l : Pu) (hm : P.follows .mixedOrders = true)
    (hl : ((l.len (ops.toList.drop k2).length == ops.size && (decide (k < ops.size) && decide (k2 < ops.size))) && (Region.noSelect ops && puB ops k k2 l (Array.replicate ops.size false))) = true)
    (hQ : ∀ c a d v w, Q (.panic c) (a.put d v) w → Q (.panic c) a w) (hS1 : S1 w.drew) (hS2 : S2 w.drew) (h : wpRu P ops Q S1 S2 (writtenU ops.toList k2 l) a w.drew) : (Code.region id ops true).wp P Q a w := by
  rw [Bool.and_eq_true, Bool.and_eq_true, Bool.and_eq_true, Bool.and_eq_true] at hl
  have h1 := pu_any (k := k) (k2 := k2) (S1 := S1) (S2 := S2) hl.2.1 hQ (of_decide_eq_true hl.1.2.1) (of_decide_eq_true hl.1.2.2) l (Array.replicate ops.size false) _ _ ⟨by simp, fun j oj _ hl => by rw [getD_replicate_false] at hl; cases hl⟩ hl.2.2 ⟨fun _ => hS1, fun _ => hS2⟩ (pu_of_ru _ _ _ h)
  rw [eq_of_beq hl.1.1] at h1
  exact wp_region_any hm (wpAny_of_U _ _ _ _ h1)

theorem ru_done {l : List Oper} {a : Act} {w : World} (h : wpList P ops Q l a w) : wpRu P ops Q S1 S2 (.tail l) a w := h

theorem ru_free {r : Ru} {o : Oper} {v : Value} {a : Act} {w : World} (hw : Region.wanted o (yielded ops a.tmps) = true) (hy : ∀ w, S1 w → (execOp a.eval o).run P w = .ok (.value v) w) (h : wpRu P ops Q S1 S2 r (a.put o.dst v) w) :
    wpRu P ops Q S1 S2 (.free (some o) r) a w := ⟨v, .inl ⟨hw, hy⟩, h⟩

theorem ru_freeB {r : Ru} {o : Oper} {v : Value} {a : Act} {w : World} (hw : Region.wanted o (yielded ops a.tmps) = true) (hy : ∀ w, S2 w → (execOp a.eval o).run P w = .ok (.value v) w) (h : wpRu P ops Q S1 S2 r (a.put o.dst v) w) :
    wpRu P ops Q S1 S2 (.freeB (some o) r) a w := ⟨v, .inl ⟨hw, hy⟩, h⟩

theorem ru_turn {r : Ru} {o : Oper} {a : Act} {w : World} (hw : Region.wanted o (yielded ops a.tmps) = true)
    (h : ∀ K' : Act → World → Prop, Shut (∀ a w, S2 w → (wpRu P ops Q S1 S2 r a w) → K' a w) → Oper.wp P o a w K' Q) :
    wpRu P ops Q S1 S2 (.turn (some o) r) a w := by
  intro K' hK
  rw [if_pos hw]
  exact h K' (fun a w hS hW => hK a w ⟨hS, hW⟩)

end
end Go.Proofs.Ytlpkaljepaclpaa.Fx
