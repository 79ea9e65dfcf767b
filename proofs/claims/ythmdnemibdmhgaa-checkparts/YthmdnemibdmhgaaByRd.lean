/- Package bytes' Reader: the contracts of Read, Int, Count, Raw, Err and Left (of a nil one, too). -/
import Derived.Test.YthmdnemibdmhgaaByWr
import Derived.Test.YthmdnemibdmhgaaByRdP
namespace Go.Proofs.Ythmdnemibdmhgaa.Fx
open Go.ChangeShapes Go.WideShapes Go.ChangeAt Go.RowKit
set_option linter.unusedVariables false
set_option maxRecDepth 100000

def plcB : Option Nat → Int
  | some k => k
  | none => -1

theorem nlen_plc (l : List Int) : plcB (l.findIdx? (fun c => decide (c < 128))) + 1 = (nlen l : Int) := by
  unfold nlen plcB
  cases l.findIdx? (fun c => decide (c < 128)) with
  | none => rfl
  | some k => simp

theorem numV_take {l : List Int} {k n : Nat} {x : Int} (hn : l.length = n) (h : l[k]? = some x) : numV (l.take (k + 1)) = numV (l.take k) + 128 ^ k * (x % 128) := by
  have hk := (List.getElem?_eq_some_iff.1 h).1
  rw [take_at h, numV_snoc, List.length_take, Nat.min_eq_left (by omega)]

/-- A slice that reads as bytes, in none of the blocks S. -/
def OffSl (S : Nat → Prop) (w : World) (v : Value) (l : List Int) : Prop := IsSl byC w v l ∧ ∀ a n c, v = .slice (some a) n c → ¬ S a.block

theorem OffSl.keep {S : Nat → Prop} {w w' : World} {v : Value} {l : List Int} (h : OffSl S w v l) (hk : ∀ p u, ¬ S p.block → w.cell? p = some u → w'.cell? p = some u) : OffSl S w' v l := by
  obtain ⟨⟨A, c, rfl, hA, hc, hat⟩, hf⟩ := h
  refine ⟨⟨A, c, rfl, hA, hc, fun hx => ?_⟩, hf⟩
  obtain ⟨g, off, rfl, hcell⟩ := hat hx
  have := hf _ _ _ rfl
  exact ⟨g, off, rfl, fun i u hu => hk _ _ this (hcell i u hu)⟩

theorem OffSl.nil (S : Nat → Prop) (w : World) : OffSl S w (.slice none 0 0) [] := ⟨IsSl.nil _ _, fun a n c h => by cases h⟩

/-- The Reader in block b. -/
structure RdAt (S : Nat → Prop) (w : World) (b : Nat) (r : Rd) : Prop where
  me : S b
  lt : b < w.heap.size
  e : w.cell? ⟨b, 1, none⟩ = some (.int .i64 r.e)
  f0 : w.frozen? ⟨b, 0, none⟩ = false
  f1 : w.frozen? ⟨b, 1, none⟩ = false
  sl : ∃ s, w.cell? ⟨b, 0, none⟩ = some s ∧ OffSl S w s r.l

theorem RdAt.off {S : Nat → Prop} {w w' : World} {b : Nat} {r : Rd} (h : RdAt S w b r) (hk : ∀ k, k < w.heap.size → w'.heap[k]? = w.heap[k]?) (hs : w.heap.size ≤ w'.heap.size) : RdAt S w' b r := by
  have hc : ∀ p u, w.cell? p = some u → w'.cell? p = some u := fun p u hu => (World.cell?_of_block (w := w) (hk p.block (World.block_lt_of_cell? _ _ hu))).trans hu
  obtain ⟨s, h1, h2⟩ := h.sl
  exact ⟨h.me, Nat.lt_of_lt_of_le h.lt hs, hc _ _ h.e, (World.frozen?_of_block (w := w) (a := ⟨b, 0, none⟩) (hk b h.lt)).trans h.f0, (World.frozen?_of_block (w := w) (a := ⟨b, 1, none⟩) (hk b h.lt)).trans h.f1, s, hc _ _ h1, h2.keep fun p u _ hu => hc p u hu⟩

/-- Another block of S was written. -/
theorem RdAt.grown {S : Nat → Prop} {w w' : World} {b c : Nat} {r : Rd} (h : RdAt S w b r) (hg : w.grownBy w' (some c)) (hne : b ≠ c) (hc : S c) : RdAt S w' b r := by
  obtain ⟨s, h1, h2⟩ := h.sl
  refine ⟨h.me, Nat.lt_of_lt_of_le h.lt hg.size, grown_cell hg (by simp [hne]) h.e, (grown_frozen hg h.lt (by simp [hne])).trans h.f0, (grown_frozen hg h.lt (by simp [hne])).trans h.f1, s, grown_cell hg (by simp [hne]) h1, h2.keep fun p u hp hu => grown_cell hg (fun e => ?_) hu⟩
  simp at e
  exact hp (by rw [e]; exact hc)

theorem RdAt.below {S : Nat → Prop} {w w' : World} {b : Nat} {r : Rd} (h : RdAt S w b r) (hb : Below w.heap.size w w') : RdAt S w' b r := h.off hb.block hb.size

end Go.Proofs.Ythmdnemibdmhgaa.Fx
