/- Slices of elements of several cells: what a slice's cells are, what an element's are, and that they stay while old memory stays. -/
import Derived.Test.YtaoncmgcpegogaaGBase
namespace Go.Proofs.Ytaoncmgcpegogaa.Fx
open Go.ChangeShapes Go.WideShapes Go.ChangeAt Go.RowKit
set_option linter.unusedVariables false

/-- A slice that begins at A and whose elements' cells are xs. -/
def CellsAt (w : World) (A : Option Addr) (xs : List Value) : Prop :=
  xs ≠ [] → ∃ b off, A = some ⟨b, off, none⟩ ∧ ∀ i v, xs[i]? = some v → w.cell? ⟨b, off + i, none⟩ = some v

theorem CellsAt.keep {w w' : World} {A : Option Addr} {xs : List Value} (h : CellsAt w A xs) (hk : ∀ p v, w.cell? p = some v → w'.cell? p = some v) : CellsAt w' A xs := fun hx => by
  obtain ⟨b, off, e, hc⟩ := h hx
  exact ⟨b, off, e, fun i v hv => hk _ _ (hc i v hv)⟩

theorem CellsAt.below {w w' : World} {A : Option Addr} {xs : List Value} (h : CellsAt w A xs) (hb : Below w.heap.size w w') : CellsAt w' A xs :=
  h.keep fun _ _ hv => (hb.cell (World.block_lt_of_cell? _ _ hv)).trans hv

/-- A row of the call's own, as a slice whose cells are known. -/
theorem owned_cells {w : World} {base : Nat} {e size : Nat} {v : Value} {n : Nat} {xs : List Value} (h : w.ownsRow base e size v n xs) : ∃ A c, v = .slice A n c ∧ CellsAt w A xs := by
  have hl := h.1
  rcases h.2 with ⟨rfl, hn⟩ | ⟨g, cap, cur, rfl, hb, hg, hn, hm, hs, ht⟩
  · subst hn
    exact ⟨none, 0, rfl, fun hx => absurd (List.eq_nil_of_length_eq_zero (by simpa using hl)) hx⟩
  · refine ⟨_, _, rfl, fun _ => ⟨g, 0, rfl, fun i v hv => ?_⟩⟩
    rw [Nat.zero_add, cell_of_row w g i cur e (0, 0) hg]
    rw [← ht, List.getElem?_take] at hv
    split at hv
    · simpa using hv
    · cases hv

theorem flat_len {α : Type} (enc : α → List Value) (sz : Nat) (hsz : ∀ a, (enc a).length = sz) (es : List α) : (es.flatMap enc).length = es.length * sz := by
  induction es with
  | nil => simp
  | cons a es ih => rw [List.flatMap_cons, List.length_append, ih, hsz, List.length_cons, Nat.succ_mul, Nat.add_comm]

/-- The c-th cell of the i-th element. -/
theorem flat_get {α : Type} (enc : α → List Value) (sz : Nat) (hsz : ∀ a, (enc a).length = sz) (es : List α) (i c : Nat) (hc : c < sz) : (es.flatMap enc)[i * sz + c]? = es[i]?.bind fun a => (enc a)[c]? := by
  induction es generalizing i with
  | nil => simp
  | cons a es ih =>
    rw [List.flatMap_cons]
    cases i with
    | zero => rw [List.getElem?_append_left (by rw [hsz]; omega)]; simp
    | succ i =>
      rw [List.getElem?_append_right (by rw [hsz, Nat.succ_mul]; omega), hsz, Nat.succ_mul, show i * sz + sz + c - sz = i * sz + c by omega, ih]
      simp

/-- An element's cells in memory. -/
theorem CellsAt.elem {α : Type} {w : World} {A : Option Addr} {enc : α → List Value} {es : List α} (h : CellsAt w A (es.flatMap enc)) (sz : Nat) (hsz : ∀ a, (enc a).length = sz) (h0 : 0 < sz) {i : Nat} {a : α} (hi : es[i]? = some a) :
    ∃ b off, A = some ⟨b, off, none⟩ ∧ ∀ c v, (enc a)[c]? = some v → w.cell? ⟨b, off + i * sz + c, none⟩ = some v := by
  have hlt := (List.getElem?_eq_some_iff.1 hi).1
  have hne : es.flatMap enc ≠ [] := by
    intro he
    have := flat_len enc sz hsz es
    rw [he] at this
    exact absurd this (Nat.ne_of_lt (Nat.mul_pos (by omega) h0))
  obtain ⟨b, off, e, hc⟩ := h hne
  refine ⟨b, off, e, fun c v hv => ?_⟩
  rw [Nat.add_assoc]
  refine hc _ _ ?_
  have hcs : c < sz := by rw [← hsz a]; exact (List.getElem?_eq_some_iff.1 hv).1
  rw [flat_get enc sz hsz es i c hcs, hi]
  exact hv

/-- 'append' of m elements that lie in a new block of their own, to a row of the call's own. -/
theorem append_elems {P : Program} {w : World} {ops : Array Oper} {rest : List Oper} {o : Oper} {a : Act} {Q : Exit → Act → World → Prop} (hgd : o.guard = none) (s x : Operand) (t : TypeId)
    (ho : o.op = .call { callee := .builtin .append, args := #[s, x], argTypes := #[t, t] }) (base : Nat) (e : TypeId) (i : TypeInfo) (z : Value) (size bytes : Nat) (ht : P.underlying t = some (.slice e))
    (hi : P.info? e = some i) (hz : i.zero = some z) (hsize : i.size = size) (hby : i.bytes = bytes) (hzs : z.cells.size = size) (hsz : 0 < size) (v : Value) (n : Nat) (xs : List Value)
    (hown : w.ownsRow base e size v n xs) (m : Nat) (cs : List Value) (hcs : cs.length = m * size) (h1 : ∀ u ∈ cs, u.oneCell' = true) (hs : a.eval s = v) (g c : Nat) (hx : a.eval x = .slice (some ⟨g, 0, none⟩) m c) (hg : g = w.heap.size)
    (h63 : n + m ≤ maxLen) (hbytes : (n + m) * bytes ≤ 140737488355328) (hbase : base ≤ w.heap.size)
    (h : ∀ v' w', w'.ownsRow base e size v' (n + m) (xs ++ cs) → Below base w w' → wpList P ops Q rest (a.put o.dst v') w') : wpList P ops Q (o :: rest) a (w.alloc (.cells cs.toArray e)) := by
  subst hg
  refine wpList_append_own _ hgd s x t ho base e i z size bytes ht hi hz hsize hby hzs hsz v n xs hs (hown.alloc _) ⟨w.heap.size, 0, none⟩ m c cs hx (by omega) ?_ h1 h63 hbytes (by simp; omega) fun v' w' a b _ => h v' w' a (((Below.refl _ _).alloc hbase _).grown b (by simp; omega) ?_)
  · intro j u hu
    have e : (Addr.mk w.heap.size 0 none).add j = ⟨w.heap.size, j, none⟩ := by unfold Addr.add; split <;> simp_all
    rw [e, World.cell?_alloc_new]
    simpa using hu
  · intro k hk
    rcases hown.2 with ⟨rfl, _⟩ | ⟨g, cap, cur, rfl, hb, _⟩
    · cases hk
    · simp [Value.ownBlock] at hk; omega

end Go.Proofs.Ytaoncmgcpegogaa.Fx
