/- The document's Reader: what Count and Raw answer. -/
import Derived.Test.YthmdnemibdmhgaaByRef
import Derived.Deep.DeepCutAuto
namespace Go.Proofs.Ythmdnemibdmhgaa.Fx
open Go.ChangeShapes Go.WideShapes Go.ChangeAt Go.RowKit
set_option linter.unusedVariables false
set_option maxRecDepth 100000

/-- v[lo:hi]. -/
def slMid (sz : Nat) (v : Value) (lo hi : Nat) : Value := match v with
  | .slice A n c => sliced A lo hi c sz
  | _ => v

theorem IsSl.mid {α : Type} {enc : α → List Value} {w : World} {v : Value} {es : List α} (h : IsSl enc w v es) (sz lo hi : Nat) (hsz : ∀ a, (enc a).length = sz) (h0 : 0 < sz) (h1 : lo ≤ hi) (h2 : hi ≤ es.length) : IsSl enc w (slMid sz v lo hi) ((es.take hi).drop lo) := by
  have hm := (h.upto sz hi h2).since sz lo hsz h0 (by rw [List.length_take]; omega)
  obtain ⟨A, c, rfl, hA, hc, hat⟩ := h
  have e : slTo sz (.slice A es.length c) hi = .slice A hi c := by
    show Value.slice (if c = 0 then A else A.map (·.add (0 * sz))) (hi - 0) (c - 0) = _
    rw [Nat.sub_zero, Nat.sub_zero]
    congr 1
    split
    · rfl
    · cases A with
      | none => rfl
      | some a => simp [Addr.add]
  rw [e] at hm
  exact hm

@[go_sem high] theorem slMid_by (A : Option Addr) (n c : Nat) (l h : Int) (h0 : 0 ≤ l) (h1 : l ≤ h) (h2 : h ≤ c) (w : World) : (Instr.slice 22 (.slice A n c) (some (.int .i64 l)) (some (.int .i64 h)) none).run Try.prog w = .ok (slMid 1 (.slice A n c) l.toNat h.toNat) w := by
  rw [run_slice_lh _ _ _ _ _ (by kernel_rfl) _ _ _ _ h0 h1 h2]
  rw [show Try.prog.elem 22 = 5 by kernel_rfl, Try.sizeOf5]
  rfl

theorem grown_drewN {w w' : World} {n : Nat} {row : Option Nat} (h : (w.drewN n).grownBy w' row) : w.grownBy w' row := ⟨h.os, h.tape, h.output, h.size, h.block⟩

theorem Rd.int_zero {r : Rd} (h : r.int.2.e ≠ 0) : r.int.1 = 0 := by
  rw [Rd.int_eq] at h ⊢
  split
  · rfl
  · rename_i h1
    rw [if_neg h1] at h
    split
    · rfl
    · rename_i h2
      rw [if_neg h2] at h
      split
      · rfl
      · rename_i h3
        rw [if_neg h3] at h
        exact absurd rfl h

/-- What the document's Raw leaves. -/
def RfRaw (w : World) (c : Nat) (v : Value) (L : List Int) (q : List Int × Rd) (e : Ending) (w' : World) : Prop := (∃ u, e = .returned u ∧ IsSl byC w' u q.1) ∧ (∃ p, RfAt w' c v L p q.2) ∧ w.grownBy w' (some c)

end Go.Proofs.Ythmdnemibdmhgaa.Fx
