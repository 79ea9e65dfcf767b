/- Slices of elements of several cells: what a slice's cells are, what an element's are, and that they stay while old memory stays. -/
import Derived.Test.YthmdnemibdmhgaaGBase
import Derived.Deep.Slices
namespace Go.Proofs.Ythmdnemibdmhgaa.Fx
open Go.ChangeShapes Go.WideShapes Go.ChangeAt Go.RowKit
set_option linter.unusedVariables false
set_option maxRecDepth 100000

/-- A slice that begins at A and whose elements' cells are xs. -/
def CellsAt (w : World) (A : Option Addr) (xs : List Value) : Prop :=
  xs ≠ [] → ∃ b off, A = some ⟨b, off, none⟩ ∧ ∀ i v, xs[i]? = some v → w.cell? ⟨b, off + i, none⟩ = some v

theorem CellsAt.keep {w w' : World} {A : Option Addr} {xs : List Value} (h : CellsAt w A xs) (hk : ∀ p v, w.cell? p = some v → w'.cell? p = some v) : CellsAt w' A xs := fun hx => by
  obtain ⟨b, off, e, hc⟩ := h hx
  exact ⟨b, off, e, fun i v hv => hk _ _ (hc i v hv)⟩

theorem CellsAt.below {w w' : World} {A : Option Addr} {xs : List Value} (h : CellsAt w A xs) (hb : Below w.heap.size w w') : CellsAt w' A xs :=
  h.keep fun _ _ hv => (hb.cell (World.block_lt_of_cell? _ _ hv)).trans hv

/-- A row of the call's own, as a slice whose cells are known. -/
theorem owned_cells {w : World} {base : Nat} {e size : Nat} {v : Value} {n : Nat} {xs : List Value} (h : w.ownsRow base e size v n xs) : ∃ A c, v = .slice A n c ∧ CellsAt w A xs := by
  have hl := h.1
  rcases h.2 with ⟨rfl, hn⟩ | ⟨g, cap, cur, rfl, hb, hg, hn, hm, hs, ht⟩
  · subst hn
    exact ⟨none, 0, rfl, fun hx => absurd (List.eq_nil_of_length_eq_zero (by simpa using hl)) hx⟩
  · refine ⟨_, _, rfl, fun _ => ⟨g, 0, rfl, fun i v hv => ?_⟩⟩
    rw [Nat.zero_add, cell_of_row w g i cur e (0, 0) hg]
    rw [← ht, List.getElem?_take] at hv
    split at hv
    · simpa using hv
    · cases hv

theorem flat_len {α : Type} (enc : α → List Value) (sz : Nat) (hsz : ∀ a, (enc a).length = sz) (es : List α) : (es.flatMap enc).length = es.length * sz := by
  induction es with
  | nil => simp
  | cons a es ih => rw [List.flatMap_cons, List.length_append, ih, hsz, List.length_cons, Nat.succ_mul, Nat.add_comm]

/-- The c-th cell of the i-th element. -/
theorem flat_get {α : Type} (enc : α → List Value) (sz : Nat) (hsz : ∀ a, (enc a).length = sz) (es : List α) (i c : Nat) (hc : c < sz) : (es.flatMap enc)[i * sz + c]? = es[i]?.bind fun a => (enc a)[c]? := by
  induction es generalizing i with
  | nil => simp
  | cons a es ih =>
    rw [List.flatMap_cons]
    cases i with
    | zero => rw [List.getElem?_append_left (by rw [hsz]; omega)]; simp
    | succ i =>
      rw [List.getElem?_append_right (by rw [hsz, Nat.succ_mul]; omega), hsz, Nat.succ_mul, show i * sz + sz + c - sz = i * sz + c by omega, ih]
      simp

/-- An element's cells in memory. -/
theorem CellsAt.elem {α : Type} {w : World} {A : Option Addr} {enc : α → List Value} {es : List α} (h : CellsAt w A (es.flatMap enc)) (sz : Nat) (hsz : ∀ a, (enc a).length = sz) (h0 : 0 < sz) {i : Nat} {a : α} (hi : es[i]? = some a) :
    ∃ b off, A = some ⟨b, off, none⟩ ∧ ∀ c v, (enc a)[c]? = some v → w.cell? ⟨b, off + i * sz + c, none⟩ = some v := by
  have hlt := (List.getElem?_eq_some_iff.1 hi).1
  have hne : es.flatMap enc ≠ [] := by
    intro he
    have := flat_len enc sz hsz es
    rw [he] at this
    exact absurd this (Nat.ne_of_lt (Nat.mul_pos (by omega) h0))
  obtain ⟨b, off, e, hc⟩ := h hne
  refine ⟨b, off, e, fun c v hv => ?_⟩
  rw [Nat.add_assoc]
  refine hc _ _ ?_
  have hcs : c < sz := by rw [← hsz a]; exact (List.getElem?_eq_some_iff.1 hv).1
  rw [flat_get enc sz hsz es i c hcs, hi]
  exact hv

/-- 'append' of m elements that lie in a new block of their own, to a row of the call's own. -/
theorem append_elems {P : Program} {w : World} {ops : Array Oper} {rest : List Oper} {o : Oper} {a : Act} {Q : Exit → Act → World → Prop} (hgd : o.guard = none) (s x : Operand) (t : TypeId)
    (ho : o.op = .call { callee := .builtin .append, args := #[s, x], argTypes := #[t, t] }) (base : Nat) (e : TypeId) (i : TypeInfo) (z : Value) (size bytes : Nat) (ht : P.underlying t = some (.slice e))
    (hi : P.info? e = some i) (hz : i.zero = some z) (hsize : i.size = size) (hby : i.bytes = bytes) (hzs : z.cells.size = size) (hsz : 0 < size) (v : Value) (n : Nat) (xs : List Value)
    (hown : w.ownsRow base e size v n xs) (m : Nat) (cs : List Value) (hcs : cs.length = m * size) (h1 : ∀ u ∈ cs, u.oneCell' = true) (hs : a.eval s = v) (g c : Nat) (hx : a.eval x = .slice (some ⟨g, 0, none⟩) m c) (hg : g = w.heap.size)
    (h63 : n + m ≤ maxLen) (hbytes : (n + m) * bytes ≤ 140737488355328) (hbase : base ≤ w.heap.size)
    (h : ∀ v' w', w'.ownsRow base e size v' (n + m) (xs ++ cs) → Below base w w' → wpList P ops Q rest (a.put o.dst v') w') : wpList P ops Q (o :: rest) a (w.alloc (.cells cs.toArray e)) := by
  subst hg
  refine wpList_append_own _ hgd s x t ho base e i z size bytes ht hi hz hsize hby hzs hsz v n xs hs (hown.alloc _) ⟨w.heap.size, 0, none⟩ m c cs hx (by omega) ?_ h1 h63 hbytes (by simp; omega) fun v' w' a b _ => h v' w' a (((Below.refl _ _).alloc hbase _).grown b (by simp; omega) ?_)
  · intro j u hu
    have e : (Addr.mk w.heap.size 0 none).add j = ⟨w.heap.size, j, none⟩ := by unfold Addr.add; split <;> simp_all
    rw [e, World.cell?_alloc_new]
    simpa using hu
  · intro k hk
    rcases hown.2 with ⟨rfl, _⟩ | ⟨g, cap, cur, rfl, hb, _⟩
    · cases hk
    · simp [Value.ownBlock] at hk; omega

/-- A slice value that reads as a list. -/
def IsSl {α : Type} (enc : α → List Value) (w : World) (v : Value) (es : List α) : Prop :=
  ∃ A c, v = .slice A es.length c ∧ (A = none → es.length = 0 ∧ c = 0) ∧ es.length ≤ c ∧ CellsAt w A (es.flatMap enc)

theorem IsSl.keep {α : Type} {enc : α → List Value} {w w' : World} {v : Value} {es : List α} (h : IsSl enc w v es) (hk : ∀ p v, w.cell? p = some v → w'.cell? p = some v) : IsSl enc w' v es := by
  obtain ⟨A, c, h1, h2, h3, h4⟩ := h
  exact ⟨A, c, h1, h2, h3, h4.keep hk⟩

theorem IsSl.below {α : Type} {enc : α → List Value} {w w' : World} {v : Value} {es : List α} (h : IsSl enc w v es) (hb : Below w.heap.size w w') : IsSl enc w' v es :=
  h.keep fun _ _ hv => (hb.cell (World.block_lt_of_cell? _ _ hv)).trans hv

theorem IsSl.nil {α : Type} (enc : α → List Value) (w : World) : IsSl enc w (.slice none 0 0) [] :=
  ⟨none, 0, rfl, fun _ => ⟨rfl, rfl⟩, Nat.le_refl _, fun h => absurd rfl h⟩

theorem IsSl.at {α : Type} {enc : α → List Value} {w : World} {A : Option Addr} {n c : Nat} {es : List α} (h : IsSl enc w (.slice A n c) es) : CellsAt w A (es.flatMap enc) := by
  obtain ⟨A', c', e, -, -, hat⟩ := h
  simp only [Value.slice.injEq] at e
  rw [e.1]
  exact hat

/-- A row of the call's own, as a list. -/
theorem owned_sl {α : Type} {enc : α → List Value} {w : World} {base : Nat} {e size : Nat} {v : Value} {es : List α} (h : w.ownsRow base e size v es.length (es.flatMap enc)) : IsSl enc w v es := by
  obtain ⟨A, c, hv, hat⟩ := owned_cells h
  refine ⟨A, c, hv, ?_, ?_, hat⟩
  · rintro rfl
    rcases h.2 with ⟨h1, h2⟩ | ⟨g, cap, cur, h1, -⟩
    · rw [hv] at h1; simp at h1; exact ⟨h2, h1.2⟩
    · rw [hv] at h1; cases h1
  · rcases h.2 with ⟨h1, h2⟩ | ⟨g, cap, cur, h1, hb, hh, hn, r⟩
    · rw [hv] at h1; simp at h1; omega
    · rw [hv] at h1; simp at h1; omega

theorem CellsAt.cells {w : World} {A : Option Addr} {xs : List Value} (h : CellsAt w A xs) : ∀ ad, A = some ad → ∀ j u, xs[j]? = some u → w.cell? (ad.add j) = some u := by
  rintro ad rfl j u hu
  obtain ⟨b, off, e, hc⟩ := h (fun he => by rw [he] at hu; simp at hu)
  cases e
  have e : (Addr.mk b off none).add j = ⟨b, off + j, none⟩ := by unfold Addr.add; split <;> simp_all
  rw [e]
  exact hc j u hu

/-- Block g is known whole. -/
def Blk (w : World) (g : Nat) (t : TypeId) (cur : Array Value) : Prop := w.heap[g]? = some (.cells cur t (0, 0))

def nth (cur : Array Value) (i : Nat) : Value := cur.getD i (.bool false)

theorem Blk.cell {w : World} {g : Nat} {t : TypeId} {cur : Array Value} (h : Blk w g t cur) (i : Nat) : w.cell? ⟨g, i, none⟩ = cur[i]? := cell_of_row w g i cur t (0, 0) h

theorem Blk.has {w : World} {g : Nat} {t : TypeId} {cur : Array Value} (h : Blk w g t cur) {i : Nat} (hi : i < cur.size) : w.cell? ⟨g, i, none⟩ = some (nth cur i) := by
  rw [h.cell, Array.getElem?_eq_getElem hi]; simp [nth, hi]

theorem Blk.frozen {w : World} {g : Nat} {t : TypeId} {cur : Array Value} (h : Blk w g t cur) (i : Nat) : w.frozen? ⟨g, i, none⟩ = false := by
  unfold Blk at h; simp [World.frozen?, h]

theorem Blk.put {w : World} {g : Nat} {t : TypeId} {cur : Array Value} (h : Blk w g t cur) (i : Nat) (u : Value) : Blk (w.setCell ⟨g, i, none⟩ u) g t (cur.setIfInBounds i u) := by
  unfold Blk at h ⊢; simp [World.setCell, Array.getElem?_modify, h]

theorem Blk.below {w w' : World} {B g : Nat} {t : TypeId} {cur : Array Value} (h : Blk w g t cur) (hb : Below B w w') (hg : g < B) : Blk w' g t cur := by
  unfold Blk at h ⊢; rw [hb.block g hg]; exact h

theorem Blk.lt {w : World} {g : Nat} {t : TypeId} {cur : Array Value} (h : Blk w g t cur) : g < w.heap.size := by
  unfold Blk at h; exact (Array.getElem?_eq_some_iff.1 h).1

theorem Blk.of_own {w : World} {base : Nat} {e : TypeId} {g n cap size : Nat} {xs : List Value} (h : w.ownsRow base e size (.slice (some ⟨g, 0, none⟩) n cap) n xs) :
    ∃ cur, Blk w g e cur ∧ cur.size = cap * size ∧ base ≤ g ∧ ∀ (i : Nat) (u : Value), xs[i]? = some u → cur[i]? = some u := by
  rcases h.2 with ⟨hv, _⟩ | ⟨g', cap', cur, hv, hb, hh, hn, hm, hs, ht⟩
  · cases hv
  · simp at hv
    obtain ⟨rfl, rfl⟩ := hv
    refine ⟨cur, hh, hs, hb, fun i u hu => ?_⟩
    rw [← ht] at hu
    rw [List.getElem?_take] at hu
    split at hu
    · simpa using hu
    · cases hu

/-- Several cells one behind the other, written. -/
def putAt (cur : Array Value) (o : Nat) : List Value → Array Value
  | [] => cur
  | v :: vs => putAt (cur.setIfInBounds o v) (o + 1) vs

def putW (w : World) (g o : Nat) : List Value → World
  | [] => w
  | v :: vs => putW (w.setCell ⟨g, o, none⟩ v) g (o + 1) vs

theorem Blk.puts {w : World} {g : Nat} {t : TypeId} {cur : Array Value} (h : Blk w g t cur) (o : Nat) (vs : List Value) : Blk (putW w g o vs) g t (putAt cur o vs) := by
  induction vs generalizing w cur o with
  | nil => exact h
  | cons v vs ih => exact ih (h.put o v) (o + 1)

theorem below_putW {B : Nat} {a w : World} {g : Nat} (h : Below B a w) (hg : B ≤ g) (o : Nat) (vs : List Value) : Below B a (putW w g o vs) := by
  induction vs generalizing w o with
  | nil => exact h
  | cons v vs ih => exact ih (h.setCell hg v) (o + 1)

theorem size_putAt (cur : Array Value) (o : Nat) (vs : List Value) : (putAt cur o vs).size = cur.size := by
  induction vs generalizing cur o with
  | nil => rfl
  | cons v vs ih => rw [putAt, ih]; simp

theorem putAt_out (cur : Array Value) (o : Nat) (vs : List Value) (j : Nat) (h : j < o ∨ o + vs.length ≤ j) : (putAt cur o vs)[j]? = cur[j]? := by
  induction vs generalizing cur o with
  | nil => rfl
  | cons v vs ih =>
    simp at h
    rw [putAt, ih _ _ (by omega), Array.getElem?_setIfInBounds_ne (by omega)]

theorem putAt_in (cur : Array Value) (o : Nat) (vs : List Value) (c : Nat) (h : c < vs.length) (hs : o + vs.length ≤ cur.size) : (putAt cur o vs)[o + c]? = vs[c]? := by
  induction vs generalizing cur o c with
  | nil => simp at h
  | cons v vs ih =>
    simp at h hs
    cases c with
    | zero => rw [putAt, putAt_out _ _ _ _ (.inl (by omega)), Nat.add_zero, Array.getElem?_setIfInBounds_self_of_lt (by omega)]; simp
    | succ c =>
      rw [putAt, show o + (c + 1) = o + 1 + c by omega, ih _ _ c (by omega) (by simp; omega)]
      simp

/-- 'append' as an operation, to a row of the call's own, whatever is appended. -/
theorem wp_app {P : Program} {w : World} {o : Oper} {a : Act} {K : Act → World → Prop} {Q : Exit → Act → World → Prop} (s x : Operand) (t : TypeId)
    (ho : o.op = .call { callee := .builtin .append, args := #[s, x], argTypes := #[t, t] }) (base : Nat) (e : TypeId) (i : TypeInfo) (z : Value) (size bytes : Nat) (ht : P.underlying t = some (.slice e))
    (hi : P.info? e = some i) (hz : i.zero = some z) (hsize : i.size = size) (hby : i.bytes = bytes) (hzs : z.cells.size = size) (hsz : 0 < size) (v : Value) (n : Nat) (xs : List Value) (hs : a.eval s = v)
    (hown : w.ownsRow base e size v n xs) (ao : Option Addr) (m c : Nat) (news : List Value) (hx : a.eval x = .slice ao m c) (hl : news.length = m * size) (hnone : ao = none → m = 0 ∧ c = 0)
    (hnews : ∀ ad, ao = some ad → ∀ j u, news[j]? = some u → w.cell? (ad.add j) = some u) (h1 : ∀ u ∈ news, u.oneCell' = true) (h63 : n + m ≤ maxLen) (hbytes : (n + m) * bytes ≤ 140737488355328) (hbase : base ≤ w.heap.size)
    (h : ∀ v' w', w'.ownsRow base e size v' (n + m) (xs ++ news) → Below base w w' → w.grownBy w' v.ownBlock → K (a.put o.dst v') w') : o.wp P a w K Q := by
  cases ao with
  | some ad =>
    refine wp_append_own w s x t ho base e i z size bytes ht hi hz hsize hby hzs hsz v n xs hs hown ad m c news hx hl (hnews ad rfl) h1 h63 hbytes hbase fun v' w' h2 h3 _ => h v' w' h2 ((Below.refl _ _).grown h3 hbase (own_ge hown)) h3
  | none =>
    obtain ⟨rfl, rfl⟩ := hnone rfl
    obtain rfl : news = [] := List.eq_nil_of_length_eq_zero (by simpa using hl)
    have hrun := run_append_owned_none (P := P) (w := w) base t o.type e i size ht hi v n xs hown
    unfold Oper.wp
    simp [execOp, ho, resolve, invoke, builtin, hs, hx, hrun, Result.andThen]
    exact h v w (by simpa using hown) (Below.refl _ _) (World.grownBy.refl _ _)

/-- A part of a list, from its beginning. -/
theorem CellsAt.take {α : Type} {enc : α → List Value} {w : World} {A : Option Addr} {es : List α} (h : CellsAt w A (es.flatMap enc)) (k : Nat) : CellsAt w A ((es.take k).flatMap enc) := by
  intro hne
  have e : es.flatMap enc = (es.take k).flatMap enc ++ (es.drop k).flatMap enc := by rw [← List.flatMap_append, List.take_append_drop]
  obtain ⟨b, off, hA, hc⟩ := h (by rw [e]; intro hx; exact hne (List.append_eq_nil_iff.1 hx).1)
  exact ⟨b, off, hA, fun i v hv => hc i v (by rw [e, List.getElem?_append_left (List.getElem?_eq_some_iff.1 hv).1]; exact hv)⟩

/-- A part of a list, to its end. -/
theorem CellsAt.drop {α : Type} {enc : α → List Value} {w : World} {b off : Nat} {es : List α} (sz : Nat) (hsz : ∀ a, (enc a).length = sz) (h : CellsAt w (some ⟨b, off, none⟩) (es.flatMap enc)) (k : Nat) (hk : k ≤ es.length) : CellsAt w (some ⟨b, off + k * sz, none⟩) ((es.drop k).flatMap enc) := by
  intro hne
  have e : es.flatMap enc = (es.take k).flatMap enc ++ (es.drop k).flatMap enc := by rw [← List.flatMap_append, List.take_append_drop]
  have hl : ((es.take k).flatMap enc).length = k * sz := by rw [flat_len enc sz hsz, List.length_take, Nat.min_eq_left hk]
  obtain ⟨b', off', hA, hc⟩ := h (by rw [e]; intro hx; exact hne (List.append_eq_nil_iff.1 hx).2)
  cases hA
  refine ⟨b, _, rfl, fun i v hv => ?_⟩
  rw [Nat.add_assoc]
  exact hc _ v (by rw [e, List.getElem?_append_right (by rw [hl]; omega), hl, Nat.add_sub_cancel_left]; exact hv)

/-- v[:k] and v[k:] (plain names, which the walk leaves alone). -/
def slTo (sz : Nat) (v : Value) (k : Nat) : Value := match v with
  | .slice A n c => sliced A 0 k c sz
  | _ => v

def slFrom (sz : Nat) (v : Value) (k : Nat) : Value := match v with
  | .slice A n c => sliced A k n c sz
  | _ => v

theorem IsSl.upto {α : Type} {enc : α → List Value} {w : World} {v : Value} {es : List α} (h : IsSl enc w v es) (sz k : Nat) (hk : k ≤ es.length) : IsSl enc w (slTo sz v k) (es.take k) := by
  obtain ⟨A, c, rfl, hA, hc, hat⟩ := h
  have hl : (es.take k).length = k := by rw [List.length_take]; omega
  have e : slTo sz (.slice A es.length c) k = .slice A (es.take k).length c := by
    show Value.slice (if c = 0 then A else A.map (·.add (0 * sz))) (k - 0) (c - 0) = _
    rw [hl, Nat.sub_zero, Nat.sub_zero]
    congr 1
    split
    · rfl
    · cases A with
      | none => rfl
      | some a => simp [Addr.add]
  rw [e]
  exact ⟨A, c, rfl, fun h => by have := hA h; omega, by omega, hat.take k⟩

theorem IsSl.since {α : Type} {enc : α → List Value} {w : World} {v : Value} {es : List α} (h : IsSl enc w v es) (sz k : Nat) (hsz : ∀ a, (enc a).length = sz) (h0 : 0 < sz) (hk : k ≤ es.length) : IsSl enc w (slFrom sz v k) (es.drop k) := by
  obtain ⟨A, c, rfl, hA, hc, hat⟩ := h
  have hl : (es.drop k).length = es.length - k := List.length_drop
  show IsSl enc w (.slice (if c = k then A else A.map (·.add (k * sz))) (es.length - k) (c - k)) _
  by_cases hck : c = k
  · have hd : es.drop k = [] := List.drop_eq_nil_of_le (by omega)
    rw [hd, if_pos hck]
    refine ⟨A, c - k, by simp; omega, fun h => by have := hA h; simp; omega, by simp, fun hx => absurd rfl hx⟩
  · rw [if_neg hck]
    refine ⟨A.map (·.add (k * sz)), c - k, by rw [hl], fun h => ?_, by omega, ?_⟩
    · cases A with
      | none => have := hA rfl; omega
      | some a => cases h
    · by_cases hne : es.flatMap enc = []
      · intro hx
        exfalso
        apply hx
        have e : es.flatMap enc = (es.take k).flatMap enc ++ (es.drop k).flatMap enc := by rw [← List.flatMap_append, List.take_append_drop]
        rw [e] at hne
        exact (List.append_eq_nil_iff.1 hne).2
      · obtain ⟨b, off, rfl, -⟩ := hat hne
        have ha : (Addr.mk b off none).add (k * sz) = ⟨b, off + k * sz, none⟩ := by unfold Addr.add; split <;> simp_all
        show CellsAt w (some ((Addr.mk b off none).add (k * sz))) _
        rw [ha]
        exact hat.drop sz hsz k hk

/-- A slice that came in, whose elements' cells are known, as a list. -/
theorem sl_of_cells {α : Type} {enc : α → List Value} {ok : α → Prop} (d : α) (sz : Nat) (hsz : ∀ a, (enc a).length = sz) (h0 : 0 < sz) {w : World} {base : Nat} {a : Addr} {len cap : Nat} (hl : len ≤ cap)
    (hel : ∀ i, i < len → ∃ e, ok e ∧ w.cells? base (a.add (i * sz)) sz = some (enc e)) : ∃ l : List α, IsSl enc w (.slice (some a) len cap) l ∧ ∀ e ∈ l, ok e := by
  classical
  let f : Nat → α := fun i => if hi : i < len then Classical.choose (hel i hi) else d
  have hf : ∀ i, i < len → ok (f i) ∧ w.cells? base (a.add (i * sz)) sz = some (enc (f i)) := fun i hi => by
    have := Classical.choose_spec (hel i hi)
    simp only [f, dif_pos hi]
    exact this
  have hcell : ∀ i c u, i < len → (enc (f i))[c]? = some u → w.cell? (a.add (i * sz + c)) = some u := fun i c u hi hu => by
    have h := (World.cells?_some (hf i hi).2)
    have hc : c < sz := by rw [← hsz (f i)]; exact (List.getElem?_eq_some_iff.1 hu).1
    rw [← Go.Deep.add_add]
    obtain ⟨h1, h2, h3⟩ := h
    have := h3 c hc
    rw [this]
    exact hu
  have hlen : ((List.range len).map f).length = len := by simp
  refine ⟨(List.range len).map f, ⟨some a, cap, by rw [hlen], fun h => (by cases h), by rw [hlen]; exact hl, fun hne => ?_⟩, fun e he => ?_⟩
  · have hpos : 0 < len := by
      rcases Nat.eq_zero_or_pos len with h | h
      · subst h; exact absurd rfl hne
      · exact h
    obtain ⟨b, off, spot⟩ := a
    obtain ⟨u, hu⟩ : ∃ u, (enc (f 0))[0]? = some u := ⟨_, List.getElem?_eq_getElem (by rw [hsz]; exact h0)⟩
    have hspot : spot = none := by
      have := World.cell?_spot (hcell 0 0 u hpos hu)
      simpa [Addr.add] using this
    subst hspot
    refine ⟨b, off, rfl, fun j v hv => ?_⟩
    have hj : j < len * sz := by
      have := (List.getElem?_eq_some_iff.1 hv).1
      rwa [flat_len enc sz hsz, hlen] at this
    have hd : j / sz < len := (Nat.div_lt_iff_lt_mul h0).2 hj
    have hm : j % sz < sz := Nat.mod_lt _ h0
    have hje : j / sz * sz + j % sz = j := Nat.div_add_mod' j sz
    have h1 := flat_get enc sz hsz ((List.range len).map f) (j / sz) (j % sz) hm
    rw [hje, hv] at h1
    have h2 : ((List.range len).map f)[j / sz]? = some (f (j / sz)) := by simp [hd]
    rw [h2] at h1
    have h3 := hcell (j / sz) (j % sz) v hd h1.symm
    rw [hje] at h3
    have e : (Addr.mk b off none).add j = ⟨b, off + j, none⟩ := by unfold Addr.add; split <;> simp_all
    rwa [e] at h3
  · obtain ⟨i, hi, rfl⟩ := List.mem_map.1 he
    exact (hf i (List.mem_range.1 hi)).1

end Go.Proofs.Ythmdnemibdmhgaa.Fx
