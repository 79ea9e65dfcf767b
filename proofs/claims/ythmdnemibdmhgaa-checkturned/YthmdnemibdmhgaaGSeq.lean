/- A region that draws its order, walked once: a plan of its operations; what only reads (in every world that meets S) is taken when it may come up, what calls or makes memory comes when nothing else may. -/
import Derived.Test.YthmdnemibdmhgaaRows
import Derived.OrdersHeld
import Derived.Deep.RegionHeld
import Derived.WalkKit
import Derived.Lib.Hide
namespace Go.Proofs.Ythmdnemibdmhgaa.Fx
open Go.RowKit

section
variable {P : Program} {ops : Array Oper} {Q : Exit → Act → World → Prop} {S : World → Prop}

/-- Is it a plan? (true: it may come up, and is free of all that could come ahead of it; false: nothing else may come up.) -/
def planB (ops : Array Oper) : List (Nat × Bool) → Array Bool → Bool
  | [], listed => (Region.ready .any ops listed).isEmpty
  | (i, true) :: r, listed => Region.free .any ops listed i && ((Region.ready .any ops listed).contains i && planB ops r (listed.setIfInBounds i true))
  | (i, false) :: r, listed => (Region.ready .any ops listed == [i]) && planB ops r (listed.setIfInBounds i true)

/-- The walk along a plan. -/
def wpPlan (P : Program) (ops : Array Oper) (Q : Exit → Act → World → Prop) (S : World → Prop) : List (Nat × Bool) → Act → World → Prop
  | [], a, w => Q .normal a w
  | (i, true) :: r, a, w => ∃ o v, ops[i]? = some o ∧ YieldsIf P ops S o v a ∧ wpPlan P ops Q S r (a.put o.dst v) w
  | (i, false) :: r, a, w => wpOp P ops Q i (fun a' w' => S w' ∧ wpPlan P ops Q S r a' w') a w

theorem plan_any (hsel : Region.noSelect ops = true) (hQ : ∀ c a d v w, Q (.panic c) (a.put d v) w → Q (.panic c) a w) :
    ∀ (l : List (Nat × Bool)) (listed : Array Bool) (a : Act) (w : World), planB ops l listed = true → S w → wpPlan P ops Q S l a w → wpAnyH P .any ops Q S l.length listed a w
  | [], listed, a, w, hp, _, h => by
    have hp : (Region.ready .any ops listed).isEmpty = true := hp
    exact wpAnyH_done (List.isEmpty_iff.1 hp) h _
  | (i, true) :: r, listed, a, w, hp, hS, h => by
    have hp : (Region.free .any ops listed i && ((Region.ready .any ops listed).contains i && planB ops r (listed.setIfInBounds i true))) = true := hp
    rw [Bool.and_eq_true, Bool.and_eq_true] at hp
    obtain ⟨o, v, ho, hy, h⟩ := h
    exact wpAnyH_take ho hsel hp.1 hp.2.1 (fun c a w => hQ c a o.dst v w) hy hS (plan_any hsel hQ r _ _ _ hp.2.2 hS h)
  | (i, false) :: r, listed, a, w, hp, hS, h => by
    have hp : ((Region.ready .any ops listed == [i]) && planB ops r (listed.setIfInBounds i true)) = true := hp
    rw [Bool.and_eq_true] at hp
    refine wpAnyH_all (eq_of_beq hp.1) (by simp) fun j hj => ?_
    obtain rfl : j = i := by simpa using hj
    have h : wpOp P ops Q j (fun a' w' => S w' ∧ wpPlan P ops Q S r a' w') a w := h
    exact wpOp_mono (fun a' w' h' => ⟨h'.1, plan_any hsel hQ r _ _ _ hp.2 h'.1 h'.2⟩) h

theorem plan_region {id : Nat} {a : Act} {w : World} (l : List (Nat × Bool)) (hm : P.follows .mixedOrders = true)
    (hl : (l.length == ops.size && (Region.noSelect ops && planB ops l (Array.replicate ops.size false))) = true)
    (hQ : ∀ c a d v w, Q (.panic c) (a.put d v) w → Q (.panic c) a w) (hS : S w.drew) (h : S w.drew → wpPlan P ops Q S l a w.drew) : (Code.region id ops true).wp P Q a w := by
  rw [Bool.and_eq_true, Bool.and_eq_true] at hl
  refine wp_region_held (S := S) hm ?_
  have h1 := plan_any hl.2.1 hQ l _ _ _ hl.2.2 hS (h hS)
  rw [eq_of_beq hl.1] at h1
  exact h1

/-- The operations of a plan, written out. -/
def picked (os : List Oper) : List (Nat × Bool) → List (Option Oper × Bool)
  | [] => []
  | (i, b) :: r => (os[i]?, b) :: picked os r

/-- The walk along operations that are written out. -/
def wpRow (P : Program) (ops : Array Oper) (Q : Exit → Act → World → Prop) (S : World → Prop) : List (Option Oper × Bool) → Act → World → Prop
  | [], a, w => Q .normal a w
  | (none, _) :: _, _, _ => False
  | (some o, true) :: r, a, w => ∃ v, YieldsIf P ops S o v a ∧ wpRow P ops Q S r (a.put o.dst v) w
  | (some o, false) :: r, a, w => ∀ K' : Act → World → Prop, (∀ a w, S w ∧ wpRow P ops Q S r a w → K' a w) → if Region.wanted o (yielded ops a.tmps) = true then Oper.wp P o a w K' Q else K' (a.put o.dst undef) w

theorem plan_of_row : ∀ (l : List (Nat × Bool)) (a : Act) (w : World), wpRow P ops Q S (picked ops.toList l) a w → wpPlan P ops Q S l a w
  | [], _, _, h => h
  | (i, b) :: r, a, w, h => by
    have h : wpRow P ops Q S ((ops.toList[i]?, b) :: picked ops.toList r) a w := h
    cases ho : ops.toList[i]? with
    | none => rw [ho] at h; exact h.elim
    | some o =>
      rw [ho] at h
      have ho' : ops[i]? = some o := by simpa using ho
      cases b with
      | true =>
        obtain ⟨v, hy, h⟩ := h
        exact ⟨o, v, ho', hy, plan_of_row r _ _ h⟩
      | false =>
        refine wpOp_step ho' fun K' hK => h K' fun a w h' => hK a w ⟨h'.1, plan_of_row r _ _ h'.2⟩

theorem plan_region' {id : Nat} {a : Act} {w : World} (l : List (Nat × Bool)) (hm : P.follows .mixedOrders = true)
    (hl : (l.length == ops.size && (Region.noSelect ops && planB ops l (Array.replicate ops.size false))) = true)
    (hQ : ∀ c a d v w, Q (.panic c) (a.put d v) w → Q (.panic c) a w) (hS : S w.drew) (h : S w.drew → wpRow P ops Q S (picked ops.toList l) a w.drew) : (Code.region id ops true).wp P Q a w :=
  plan_region l hm hl hQ hS fun hS => plan_of_row _ _ _ (h hS)

theorem row_done {a : Act} {w : World} (h : Q .normal a w) : wpRow P ops Q S [] a w := h

theorem row_free {r : List (Option Oper × Bool)} {o : Oper} {v : Value} {a : Act} {w : World} (hw : Region.wanted o (yielded ops a.tmps) = true) (hy : ∀ w, S w → (execOp a.eval o).run P w = .ok (.value v) w) (h : wpRow P ops Q S r (a.put o.dst v) w) :
    wpRow P ops Q S ((some o, true) :: r) a w := ⟨v, .inl ⟨hw, hy⟩, h⟩

theorem row_off {r : List (Option Oper × Bool)} {o : Oper} {a : Act} {w : World} (hw : Region.wanted o (yielded ops a.tmps) = false) (h : wpRow P ops Q S r (a.put o.dst undef) w) :
    wpRow P ops Q S ((some o, true) :: r) a w := ⟨undef, .inr ⟨hw, rfl⟩, h⟩

theorem row_off' {r : List (Option Oper × Bool)} {o : Oper} {a : Act} {w : World} (hw : Region.wanted o (yielded ops a.tmps) = false) (hS : S w) (h : wpRow P ops Q S r (a.put o.dst undef) w) :
    wpRow P ops Q S ((some o, false) :: r) a w := by
  intro K' hK
  rw [if_neg (by rw [hw]; decide)]
  exact hK _ _ ⟨hS, h⟩

theorem row_call {r : List (Option Oper × Bool)} {o : Oper} {a : Act} {w : World} (hw : Region.wanted o (yielded ops a.tmps) = true)
    (h : ∀ K' : Act → World → Prop, Shut (∀ a w, S w → (S w → wpRow P ops Q S r a w) → K' a w) → Oper.wp P o a w K' Q) :
    wpRow P ops Q S ((some o, false) :: r) a w := by
  intro K' hK
  rw [if_pos hw]
  exact h K' (fun a w hS hW => hK a w ⟨hS, hW hS⟩)

end
section
variable {P : Program} {ops : Array Oper} {Q : Exit → Act → World → Prop} {S : World → Prop}

/-- A plan that parts where two operations may come up. -/
inductive Pl where
  | done
  | free (i : Nat) (r : Pl)
  | one (i : Nat) (r : Pl)
  | two (i : Nat) (p : Pl) (j : Nat) (q : Pl)

def Pl.len : Pl → Nat
  | .done => 0
  | .free _ r => r.len + 1
  | .one _ r => r.len + 1
  | .two _ p _ _ => p.len + 1

def plB (ops : Array Oper) : Pl → Array Bool → Bool
  | .done, listed => (Region.ready .any ops listed).isEmpty
  | .free i r, listed => Region.free .any ops listed i && ((Region.ready .any ops listed).contains i && plB ops r (listed.setIfInBounds i true))
  | .one i r, listed => (Region.ready .any ops listed == [i]) && plB ops r (listed.setIfInBounds i true)
  | .two i p j q, listed => (Region.ready .any ops listed == [i, j]) && ((p.len == q.len) && (plB ops p (listed.setIfInBounds i true) && plB ops q (listed.setIfInBounds j true)))

def wpPl (P : Program) (ops : Array Oper) (Q : Exit → Act → World → Prop) (S : World → Prop) : Pl → Act → World → Prop
  | .done, a, w => Q .normal a w
  | .free i r, a, w => ∃ o v, ops[i]? = some o ∧ YieldsIf P ops S o v a ∧ wpPl P ops Q S r (a.put o.dst v) w
  | .one i r, a, w => wpOp P ops Q i (fun a' w' => S w' ∧ wpPl P ops Q S r a' w') a w
  | .two i p j q, a, w => wpOp P ops Q i (fun a' w' => S w' ∧ wpPl P ops Q S p a' w') a w ∧ wpOp P ops Q j (fun a' w' => S w' ∧ wpPl P ops Q S q a' w') a w

theorem pl_any (hsel : Region.noSelect ops = true) (hQ : ∀ c a d v w, Q (.panic c) (a.put d v) w → Q (.panic c) a w) :
    ∀ (l : Pl) (listed : Array Bool) (a : Act) (w : World), plB ops l listed = true → S w → wpPl P ops Q S l a w → wpAnyH P .any ops Q S l.len listed a w
  | .done, listed, a, w, hp, _, h => by
    have hp : (Region.ready .any ops listed).isEmpty = true := hp
    exact wpAnyH_done (List.isEmpty_iff.1 hp) h _
  | .free i r, listed, a, w, hp, hS, h => by
    have hp : (Region.free .any ops listed i && ((Region.ready .any ops listed).contains i && plB ops r (listed.setIfInBounds i true))) = true := hp
    rw [Bool.and_eq_true, Bool.and_eq_true] at hp
    obtain ⟨o, v, ho, hy, h⟩ := h
    exact wpAnyH_take ho hsel hp.1 hp.2.1 (fun c a w => hQ c a o.dst v w) hy hS (pl_any hsel hQ r _ _ _ hp.2.2 hS h)
  | .one i r, listed, a, w, hp, hS, h => by
    have hp : ((Region.ready .any ops listed == [i]) && plB ops r (listed.setIfInBounds i true)) = true := hp
    rw [Bool.and_eq_true] at hp
    refine wpAnyH_all (eq_of_beq hp.1) (by simp) fun j hj => ?_
    obtain rfl : j = i := by simpa using hj
    have h : wpOp P ops Q j (fun a' w' => S w' ∧ wpPl P ops Q S r a' w') a w := h
    exact wpOp_mono (fun a' w' h' => ⟨h'.1, pl_any hsel hQ r _ _ _ hp.2 h'.1 h'.2⟩) h
  | .two i p j q, listed, a, w, hp, hS, h => by
    have hp : ((Region.ready .any ops listed == [i, j]) && ((p.len == q.len) && (plB ops p (listed.setIfInBounds i true) && plB ops q (listed.setIfInBounds j true)))) = true := hp
    rw [Bool.and_eq_true, Bool.and_eq_true, Bool.and_eq_true] at hp
    have hl : p.len = q.len := eq_of_beq hp.2.1
    have h : wpOp P ops Q i (fun a' w' => S w' ∧ wpPl P ops Q S p a' w') a w ∧ wpOp P ops Q j (fun a' w' => S w' ∧ wpPl P ops Q S q a' w') a w := h
    refine wpAnyH_all (fuel := p.len) (eq_of_beq hp.1) (by simp) fun m hm => ?_
    have hm : m = i ∨ m = j := by simpa using hm
    rcases hm with rfl | rfl
    · exact wpOp_mono (fun a' w' h' => ⟨h'.1, pl_any hsel hQ p _ _ _ hp.2.2.1 h'.1 h'.2⟩) h.1
    · exact wpOp_mono (fun a' w' h' => ⟨h'.1, by rw [hl]; exact pl_any hsel hQ q _ _ _ hp.2.2.2 h'.1 h'.2⟩) h.2

/-- Such a plan with its operations written out. -/
inductive Rw where
  | done
  | free (o : Option Oper) (r : Rw)
  | one (o : Option Oper) (r : Rw)
  | two (o : Option Oper) (p : Rw) (o' : Option Oper) (q : Rw)

def written (os : List Oper) : Pl → Rw
  | .done => .done
  | .free i r => .free os[i]? (written os r)
  | .one i r => .one os[i]? (written os r)
  | .two i p j q => .two os[i]? (written os p) os[j]? (written os q)

def wpRw (P : Program) (ops : Array Oper) (Q : Exit → Act → World → Prop) (S : World → Prop) : Rw → Act → World → Prop
  | .done, a, w => Q .normal a w
  | .free none _, _, _ => False
  | .one none _, _, _ => False
  | .two none _ _ _, _, _ => False
  | .two _ _ none _, _, _ => False
  | .free (some o) r, a, w => ∃ v, YieldsIf P ops S o v a ∧ wpRw P ops Q S r (a.put o.dst v) w
  | .one (some o) r, a, w => ∀ K' : Act → World → Prop, (∀ a w, S w ∧ wpRw P ops Q S r a w → K' a w) → if Region.wanted o (yielded ops a.tmps) = true then Oper.wp P o a w K' Q else K' (a.put o.dst undef) w
  | .two (some o) p (some o') q, a, w => (∀ K' : Act → World → Prop, (∀ a w, S w ∧ wpRw P ops Q S p a w → K' a w) → if Region.wanted o (yielded ops a.tmps) = true then Oper.wp P o a w K' Q else K' (a.put o.dst undef) w) ∧
      (∀ K' : Act → World → Prop, (∀ a w, S w ∧ wpRw P ops Q S q a w → K' a w) → if Region.wanted o' (yielded ops a.tmps) = true then Oper.wp P o' a w K' Q else K' (a.put o'.dst undef) w)

theorem pl_of_rw : ∀ (l : Pl) (a : Act) (w : World), wpRw P ops Q S (written ops.toList l) a w → wpPl P ops Q S l a w
  | .done, _, _, h => h
  | .free i r, a, w, h => by
    have h : wpRw P ops Q S (.free ops.toList[i]? (written ops.toList r)) a w := h
    cases ho : ops.toList[i]? with
    | none => rw [ho] at h; exact h.elim
    | some o =>
      rw [ho] at h
      obtain ⟨v, hy, h⟩ := h
      exact ⟨o, v, by simpa using ho, hy, pl_of_rw r _ _ h⟩
  | .one i r, a, w, h => by
    have h : wpRw P ops Q S (.one ops.toList[i]? (written ops.toList r)) a w := h
    cases ho : ops.toList[i]? with
    | none => rw [ho] at h; exact h.elim
    | some o =>
      rw [ho] at h
      exact wpOp_step (show ops[i]? = some o by simpa using ho) fun K' hK => h K' fun a w h' => hK a w ⟨h'.1, pl_of_rw r _ _ h'.2⟩
  | .two i p j q, a, w, h => by
    have h : wpRw P ops Q S (.two ops.toList[i]? (written ops.toList p) ops.toList[j]? (written ops.toList q)) a w := h
    cases ho : ops.toList[i]? with
    | none => rw [ho] at h; exact h.elim
    | some o =>
      cases ho' : ops.toList[j]? with
      | none => rw [ho, ho'] at h; exact h.elim
      | some o' =>
        rw [ho, ho'] at h
        exact ⟨wpOp_step (show ops[i]? = some o by simpa using ho) fun K' hK => h.1 K' fun a w h' => hK a w ⟨h'.1, pl_of_rw p _ _ h'.2⟩,
          wpOp_step (show ops[j]? = some o' by simpa using ho') fun K' hK => h.2 K' fun a w h' => hK a w ⟨h'.1, pl_of_rw q _ _ h'.2⟩⟩

theorem tree_region {id : Nat} {a : Act} {w : World} (l : Pl) (hm : P.follows .mixedOrders = true)
    (hl : (l.len == ops.size && (Region.noSelect ops && plB ops l (Array.replicate ops.size false))) = true)
    (hQ : ∀ c a d v w, Q (.panic c) (a.put d v) w → Q (.panic c) a w) (hS : S w.drew) (h : S w.drew → wpRw P ops Q S (written ops.toList l) a w.drew) : (Code.region id ops true).wp P Q a w := by
  rw [Bool.and_eq_true, Bool.and_eq_true] at hl
  refine wp_region_held (S := S) hm ?_
  have h1 := pl_any hl.2.1 hQ l _ _ _ hl.2.2 hS (pl_of_rw _ _ _ (h hS))
  rw [eq_of_beq hl.1] at h1
  exact h1

theorem rw_done {a : Act} {w : World} (h : Q .normal a w) : wpRw P ops Q S .done a w := h

theorem rw_free {r : Rw} {o : Oper} {v : Value} {a : Act} {w : World} (hw : Region.wanted o (yielded ops a.tmps) = true) (hy : ∀ w, S w → (execOp a.eval o).run P w = .ok (.value v) w) (h : wpRw P ops Q S r (a.put o.dst v) w) :
    wpRw P ops Q S (.free (some o) r) a w := ⟨v, .inl ⟨hw, hy⟩, h⟩

theorem rw_off {r : Rw} {o : Oper} {a : Act} {w : World} (hw : Region.wanted o (yielded ops a.tmps) = false) (h : wpRw P ops Q S r (a.put o.dst undef) w) :
    wpRw P ops Q S (.free (some o) r) a w := ⟨undef, .inr ⟨hw, rfl⟩, h⟩

theorem rw_off' {r : Rw} {o : Oper} {a : Act} {w : World} (hw : Region.wanted o (yielded ops a.tmps) = false) (hS : S w) (h : wpRw P ops Q S r (a.put o.dst undef) w) :
    wpRw P ops Q S (.one (some o) r) a w := by
  intro K' hK
  rw [if_neg (by rw [hw]; decide)]
  exact hK _ _ ⟨hS, h⟩

theorem rw_call {r : Rw} {o : Oper} {a : Act} {w : World} (hw : Region.wanted o (yielded ops a.tmps) = true)
    (h : ∀ K' : Act → World → Prop, Shut (∀ a w, S w → (S w → wpRw P ops Q S r a w) → K' a w) → Oper.wp P o a w K' Q) :
    wpRw P ops Q S (.one (some o) r) a w := by
  intro K' hK
  rw [if_pos hw]
  exact h K' (fun a w hS hW => hK a w ⟨hS, hW hS⟩)

theorem rw_two {p q : Rw} {o o' : Oper} {a : Act} {w : World} (h1 : wpRw P ops Q S (.one (some o) p) a w) (h2 : wpRw P ops Q S (.one (some o') q) a w) : wpRw P ops Q S (.two (some o) p (some o') q) a w := ⟨h1, h2⟩

end

theorem keepW0 (W : World) : (∀ b o, b < W.heap.size → W.drew.cell? ⟨b, o, none⟩ = W.cell? ⟨b, o, none⟩) ∧ (∀ b o, b < W.heap.size → W.drew.frozen? ⟨b, o, none⟩ = W.frozen? ⟨b, o, none⟩) ∧ Below W.heap.size W W.drew :=
  ⟨fun _ _ _ => rfl, fun _ _ _ => rfl, (Below.refl _ _).drew⟩

theorem keepW {W w w1 : World} (hb : Below w.heap.size w w1) (h : (∀ b o, b < W.heap.size → w.cell? ⟨b, o, none⟩ = W.cell? ⟨b, o, none⟩) ∧ (∀ b o, b < W.heap.size → w.frozen? ⟨b, o, none⟩ = W.frozen? ⟨b, o, none⟩) ∧ Below W.heap.size W w) :
    (∀ b o, b < W.heap.size → w1.cell? ⟨b, o, none⟩ = W.cell? ⟨b, o, none⟩) ∧ (∀ b o, b < W.heap.size → w1.frozen? ⟨b, o, none⟩ = W.frozen? ⟨b, o, none⟩) ∧ Below W.heap.size W w1 := by
  have h3 := h.2.2.trans (hb.mono h.2.2.size)
  exact ⟨fun b o hlt => h3.cell (p := ⟨b, o, none⟩) hlt, fun b o hlt => h3.frozen (p := ⟨b, o, none⟩) hlt, h3⟩

theorem keepR (W : World) : (∀ b o, b < W.heap.size → W.cell? ⟨b, o, none⟩ = W.cell? ⟨b, o, none⟩) ∧ (∀ b o, b < W.heap.size → W.frozen? ⟨b, o, none⟩ = W.frozen? ⟨b, o, none⟩) ∧ Below W.heap.size W W :=
  ⟨fun _ _ _ => rfl, fun _ _ _ => rfl, Below.refl _ _⟩

theorem keepA {W w : World} {o : Obj} (h : (∀ b o, b < W.heap.size → w.cell? ⟨b, o, none⟩ = W.cell? ⟨b, o, none⟩) ∧ (∀ b o, b < W.heap.size → w.frozen? ⟨b, o, none⟩ = W.frozen? ⟨b, o, none⟩) ∧ Below W.heap.size W w) :
    (∀ b p, b < W.heap.size → (w.alloc o).cell? ⟨b, p, none⟩ = W.cell? ⟨b, p, none⟩) ∧ (∀ b p, b < W.heap.size → (w.alloc o).frozen? ⟨b, p, none⟩ = W.frozen? ⟨b, p, none⟩) ∧ Below W.heap.size W (w.alloc o) :=
  keepW ((Below.refl _ _).alloc (Nat.le_refl _) _) h

theorem keepB {W w w1 : World} (hb : Below W.heap.size w w1) (h : (∀ b o, b < W.heap.size → w.cell? ⟨b, o, none⟩ = W.cell? ⟨b, o, none⟩) ∧ (∀ b o, b < W.heap.size → w.frozen? ⟨b, o, none⟩ = W.frozen? ⟨b, o, none⟩) ∧ Below W.heap.size W w) :
    (∀ b o, b < W.heap.size → w1.cell? ⟨b, o, none⟩ = W.cell? ⟨b, o, none⟩) ∧ (∀ b o, b < W.heap.size → w1.frozen? ⟨b, o, none⟩ = W.frozen? ⟨b, o, none⟩) ∧ Below W.heap.size W w1 := by
  have h3 := h.2.2.trans hb
  exact ⟨fun b o hlt => h3.cell (p := ⟨b, o, none⟩) hlt, fun b o hlt => h3.frozen (p := ⟨b, o, none⟩) hlt, h3⟩

end Go.Proofs.Ythmdnemibdmhgaa.Fx
