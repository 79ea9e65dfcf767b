/- Package bytes' Writer: what it holds, and the contracts of Put, Raw and Bytes (of a nil one, too). -/
import Derived.Test.YthmdnemibdmhgaaByTyp
namespace Go.Proofs.Ythmdnemibdmhgaa.Fx
open Go.ChangeShapes Go.WideShapes Go.ChangeAt Go.RowKit
set_option linter.unusedVariables false
set_option maxRecDepth 100000

/-- A slice that reads as bytes, and lies from block B on. -/
def FarSl (B : Nat) (w : World) (v : Value) (l : List Int) : Prop := IsSl byC w v l ∧ ∀ a n c, v = .slice (some a) n c → B ≤ a.block

theorem FarSl.keep {B : Nat} {w w' : World} {v : Value} {l : List Int} (h : FarSl B w v l) (hk : ∀ p u, B ≤ p.block → w.cell? p = some u → w'.cell? p = some u) : FarSl B w' v l := by
  obtain ⟨⟨A, c, rfl, hA, hc, hat⟩, hf⟩ := h
  refine ⟨⟨A, c, rfl, hA, hc, fun hx => ?_⟩, hf⟩
  obtain ⟨b, off, rfl, hcell⟩ := hat hx
  have := hf _ _ _ rfl
  exact ⟨b, off, rfl, fun i u hu => hk _ _ this (hcell i u hu)⟩

theorem ownB.far {base B : Nat} {w : World} {v : Value} {l : List Int} (h : ownB base w v l) (hB : B ≤ base) : FarSl B w v l := by
  refine ⟨h.sl, fun a n c hv => ?_⟩
  rcases h.2 with ⟨h', -⟩ | ⟨g, cap, cur, h', hb, -⟩
  · rw [hv] at h'; cases h'
  · rw [hv] at h'; simp at h'; rw [h'.1]; show B ≤ g; omega

/-- The chain of parts, the last one first: none lies ahead of block B. -/
def Parts (B : Nat) (w : World) : List (List Int) → Value → Prop
  | [], p => p = .pointer none
  | l :: ls, p => ∃ g q s, p = .pointer (some ⟨g, 0, none⟩) ∧ B ≤ g ∧ w.cell? ⟨g, 0, none⟩ = some q ∧ w.cell? ⟨g, 1, none⟩ = some s ∧ FarSl B w s l ∧ Parts B w ls q

theorem Parts.keep {B : Nat} {w w' : World} {ls : List (List Int)} {p : Value} (h : Parts B w ls p) (hk : ∀ a u, B ≤ a.block → w.cell? a = some u → w'.cell? a = some u) : Parts B w' ls p := by
  induction ls generalizing p with
  | nil => exact h
  | cons l ls ih =>
    obtain ⟨g, q, s, e, hB, h0, h1, h2, h3⟩ := h
    exact ⟨g, q, s, e, hB, hk _ _ hB h0, hk _ _ hB h1, h2.keep hk, ih h3⟩

/-- The Writer in block b has written bs. -/
def WrAt (B : Nat) (w : World) (b : Nat) (bs : List Int) : Prop :=
  ∃ p ls, b < B ∧ B ≤ w.heap.size ∧ w.cell? ⟨b, 0, none⟩ = some p ∧ w.frozen? ⟨b, 0, none⟩ = false ∧ Parts B w ls p ∧ ls.reverse.flatten = bs ∧ ls.length ≤ bs.length

theorem grown_cell {w w' : World} {row : Option Nat} (h : w.grownBy w' row) {a : Addr} {u : Value} (hr : some a.block ≠ row) (hc : w.cell? a = some u) : w'.cell? a = some u :=
  (World.cell?_of_block (w := w) (h.block a.block (World.block_lt_of_cell? _ _ hc) hr)).trans hc

theorem grown_frozen {w w' : World} {row : Option Nat} (h : w.grownBy w' row) {a : Addr} (hl : a.block < w.heap.size) (hr : some a.block ≠ row) : w'.frozen? a = w.frozen? a :=
  World.frozen?_of_block (w := w) (h.block a.block hl hr)

/-- Another block was written. -/
theorem WrAt.grown {B : Nat} {w w' : World} {b c : Nat} {bs : List Int} (h : WrAt B w b bs) (hg : w.grownBy w' (some c)) (hne : b ≠ c) (hc : c < B) : WrAt B w' b bs := by
  obtain ⟨p, ls, h1, h2, h3, h4, h5, h6⟩ := h
  have hh := hg.size
  refine ⟨p, ls, h1, by omega, grown_cell hg (by simp [hne]) h3, ?_, h5.keep fun a u ha hu => grown_cell hg (fun e => by simp at e; omega) hu, h6⟩
  rw [grown_frozen hg (show b < w.heap.size by omega) (by simp [hne])]
  exact h4

theorem WrAt.below {B : Nat} {w w' : World} {b : Nat} {bs : List Int} (h : WrAt B w b bs) (hb : Below w.heap.size w w') : WrAt B w' b bs := by
  obtain ⟨p, ls, h1, h2, h3, h4, h5, h6⟩ := h
  have hh := hb.size
  refine ⟨p, ls, h1, by omega, grown_cell (grown_below (row := none) hb) (by simp) h3, ?_, h5.keep fun a u ha hu => grown_cell (grown_below (row := none) hb) (by simp) hu, h6⟩
  rw [hb.frozen (p := ⟨b, 0, none⟩) (show b < w.heap.size by omega)]
  exact h4

/-- A new Writer. -/
theorem WrAt.new (w : World) (T : TypeId) : WrAt (w.heap.size + 1) (w.alloc (.cells #[.pointer none] T)) w.heap.size [] :=
  ⟨.pointer none, [], by omega, by simp, by rw [World.cell?_alloc_new]; rfl, World.frozen?_alloc_new _ _ _ _, rfl, rfl, Nat.le_refl _⟩

/-- Farther on. -/
theorem WrAt.more {B B' : Nat} {w : World} {b : Nat} (h : WrAt B w b []) (hB : B ≤ B') (hs : B' ≤ w.heap.size) : WrAt B' w b [] := by
  obtain ⟨p, ls, h1, h2, h3, h4, h5, h6, h7⟩ := h
  obtain rfl : ls = [] := List.eq_nil_of_length_eq_zero (by simpa using h7)
  exact ⟨p, [], by omega, hs, h3, h4, h5, rfl, Nat.le_refl _⟩

theorem below_grownB {w w1 w2 : World} {b : Nat} (h : Below w.heap.size w w1) (hg : w1.grownBy w2 (some b)) : w.grownBy w2 (some b) := grown_trans (grown_below h) hg

theorem own_mono_by {base base' : Nat} {w : World} {v : Value} {l : List Int} (hb : base ≤ base') (h : ownB base' w v l) : ownB base w v l := by
  refine ⟨h.1, ?_⟩
  rcases h.2 with h2 | ⟨g, cap, cur, hv, hg, r⟩
  · exact .inl h2
  · exact .inr ⟨g, cap, cur, hv, Nat.le_trans hb hg, r⟩

theorem numsL_take {l : List Int} {k n : Nat} (hn : l.length = n) (h : k < n) : numsL (l.take (k + 1)) = numsL (l.take k) ++ nums (gi l k) := by
  have e : l[k]? = some (gi l k) := by simp [gi, List.getD_eq_getElem?_getD, List.getElem?_eq_getElem (show k < l.length by omega)]
  rw [take_at e]
  unfold numsL
  rw [List.flatMap_append]
  simp

theorem numsL_len (l : List Int) : (numsL l).length ≤ 9 * l.length := by
  unfold numsL
  induction l with
  | nil => simp
  | cons x l ih => rw [List.flatMap_cons, List.length_append, List.length_cons]; have := (nums_len x).2; omega

/-- A Writer that has written ds, or a nil one. -/
def Tgt (B : Nat) (w : World) (p : Option Addr) (ds : List Int) : Prop := p = none ∨ ∃ b, p = some ⟨b, 0, none⟩ ∧ WrAt B w b ds

/-- What a call leaves that writes bs. -/
def PutEnd (B : Nat) (w : World) (p : Option Addr) (ds bs : List Int) (e : Ending) (w' : World) : Prop :=
  e = .returned (.tuple #[]) ∧ (p = none → Below w.heap.size w w') ∧ ∀ b, p = some ⟨b, 0, none⟩ → WrAt B w' b (ds ++ bs) ∧ w.grownBy w' (some b)

theorem Tgt.le {B : Nat} {w : World} {b : Nat} {ds : List Int} (h : WrAt B w b ds) : B ≤ w.heap.size := by obtain ⟨_, _, -, h, -⟩ := h; exact h

theorem info_sl8 : (Try.prog.info? 22).map (fun i => (i.zero, i.size, i.bytes)) = some (some (.slice none 0 0), 1, 24) := by kernel_rfl

/-- How long a slice is. -/
def slLen : Value → Nat | .slice _ n _ => n | _ => 0

end Go.Proofs.Ythmdnemibdmhgaa.Fx
