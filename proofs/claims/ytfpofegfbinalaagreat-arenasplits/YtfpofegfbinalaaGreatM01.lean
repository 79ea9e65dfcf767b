/- Slices of integers in memory: what a slice reads as, and that it stays so while old memory stays. Small laws on worlds and endings that every layer's contracts use. Slices of elements of several cells: what a slice's cells are, what an element's are, and that they stay while old memory stays. One world is as another one but for a block. What is older than a world's end reads as in it. A region that draws its order, walked once: a plan of its operations; what only reads (in every world that meets S) is taken when it may come up, what calls or makes memory comes when nothing else may. A region that draws its order and ends in forced stores: as in GSeq, but S is asked for only as long as the first of these stores has not come up; behind it the rest is walked in its order. int(uint(x)%m): what it is. -/
import Derived.Test.YtfpofegfbinalaaGreatRows
import Derived.WalkKit
import Derived.ProofKit
import Derived.OpenShut
import Derived.Below
import Derived.Lib.Hide
import Derived.OwnWalk
import Derived.Laws.AppendOwnNone
import Derived.Deep.QuietTactic
import Derived.BigQuiet
import Derived.Deep.Slices
import Derived.OrdersHeld
import Derived.Deep.RegionHeld
import Derived.StillTail
namespace Go.Proofs.YtfpofegfbinalaaGreat.Fx
open Go.ChangeShapes Go.WideShapes Go.ChangeAt Go.RowKit

theorem ret_int {k : IntKind} {a b : Int} (h : a = b) : Ending.returned (.int k a) = .returned (.int k b) := by rw [h]

/-- The k-th integer of a list (a name that the walk leaves alone). -/
def gi (l : List Int) (k : Nat) : Int := l.getD k 0

/-- A slice value '.slice A n _' whose n elements are the integers l. -/
def IntsAt (w : World) (A : Option Addr) (n : Nat) (l : List Int) : Prop :=
  l.length = n ∧ (0 < n → ∃ b off, A = some ⟨b, off, none⟩ ∧ ∀ i, i < n → w.cell? ⟨b, off + i, none⟩ = some (.int .i64 (gi l i)))

/-- What is known of a slice of integers that came in: nil, or a row of 'cap' cells, the first 'len' of them its elements. -/
def IsRow (k : IntKind) (w : World) (a : Option Addr) (len cap : Nat) (zs : List Int) : Prop :=
  (a = none ∧ len = 0 ∧ cap = 0 ∧ zs = []) ∨
  ∃ x, a = some x ∧ len ≤ cap ∧ cap ≤ maxLen ∧ zs.length = cap ∧ (∀ i, i < zs.length → w.cell? (x.add i) = some (.int k (zs.getD i 0))) ∧ ∀ n ∈ zs, (Lit.int k n).wf = true

theorem IntsAt.keep {w w' : World} {a : Option Addr} {n : Nat} {l : List Int} (h : IntsAt w a n l) (hk : ∀ p v, w.cell? p = some v → w'.cell? p = some v) : IntsAt w' a n l :=
  ⟨h.1, fun hn => by
    obtain ⟨b, off, e, hc⟩ := h.2 hn
    exact ⟨b, off, e, fun i hi => hk _ _ (hc i hi)⟩⟩
theorem IntsAt.below {w w' : World} {a : Option Addr} {n : Nat} {l : List Int} (h : IntsAt w a n l) (hb : Below w.heap.size w w') : IntsAt w' a n l :=
  h.keep fun _ _ hv => (hb.cell (World.block_lt_of_cell? _ _ hv)).trans hv

theorem ints_new (w : World) (T : TypeId) (l : List Int) : IntsAt (w.alloc (.cells (l.map (Value.int .i64)).toArray T)) (some ⟨w.heap.size, 0, none⟩) l.length l := by
  refine ⟨rfl, fun _ => ⟨_, _, rfl, fun i hi => ?_⟩⟩
  rw [Nat.zero_add, World.cell?_alloc_new]
  simp [gi, hi]

theorem ints_new1 (w : World) (T : TypeId) (a : Int) (g : Nat) (hg : g = w.heap.size) : IntsAt (w.alloc (.cells #[.int .i64 a] T)) (some ⟨g, 0, none⟩) 1 [a] := by subst hg; exact ints_new w T [a]
theorem ints_new2 (w : World) (T : TypeId) (a b : Int) (g : Nat) (hg : g = w.heap.size) : IntsAt (w.alloc (.cells #[.int .i64 a, .int .i64 b] T)) (some ⟨g, 0, none⟩) 2 [a, b] := by subst hg; exact ints_new w T [a, b]
theorem ints_new3 (w : World) (T : TypeId) (a b c : Int) (g : Nat) (hg : g = w.heap.size) : IntsAt (w.alloc (.cells #[.int .i64 a, .int .i64 b, .int .i64 c] T)) (some ⟨g, 0, none⟩) 3 [a, b, c] := by subst hg; exact ints_new w T [a, b, c]

/-- 'append' to a row of the call's own, whatever is appended: nil or not. -/
theorem append_row {P : Program} (w : World) {ops : Array Oper} {rest : List Oper} {o : Oper} {a : Act} {Q : Exit → Act → World → Prop} (hgd : o.guard = none) (s x : Operand) (t : TypeId)
    (ho : o.op = .call { callee := .builtin .append, args := #[s, x], argTypes := #[t, t] }) (base : Nat) (e : TypeId) (i : TypeInfo) (z : Value) (size bytes : Nat) (ht : P.underlying t = some (.slice e))
    (hi : P.info? e = some i) (hz : i.zero = some z) (hsize : i.size = size) (hby : i.bytes = bytes) (hzs : z.cells.size = size) (hsz : 0 < size) (v : Value) (n : Nat) (xs : List Value) (hs : a.eval s = v)
    (hown : w.ownsRow base e size v n xs) (ao : Option Addr) (m c : Nat) (news : List Value) (hx : a.eval x = .slice ao m c) (hl : news.length = m * size) (hnone : ao = none → m = 0 ∧ c = 0)
    (hnews : ∀ ad, ao = some ad → ∀ j u, news[j]? = some u → w.cell? (ad.add j) = some u) (h1 : ∀ u ∈ news, u.oneCell' = true) (h63 : n + m ≤ maxLen) (hbytes : (n + m) * bytes ≤ 140737488355328) (hbase : base ≤ w.heap.size)
    (h : ∀ v' w', w'.ownsRow base e size v' (n + m) (xs ++ news) → w.grownBy w' v.ownBlock → wpList P ops Q rest (a.put o.dst v') w') : wpList P ops Q (o :: rest) a w := by
  cases ao with
  | some ad => exact wpList_append_own w hgd s x t ho base e i z size bytes ht hi hz hsize hby hzs hsz v n xs hs hown ad m c news hx hl (hnews ad rfl) h1 h63 hbytes hbase fun v' w' a b _ => h v' w' a b
  | none =>
    obtain ⟨rfl, rfl⟩ := hnone rfl
    obtain rfl : news = [] := List.eq_nil_of_length_eq_zero (by simpa using hl)
    exact wpList_append_own_none hgd s x t ho base e i size ht hi v n xs hs hown hx (h v w (by simpa using hown) (World.grownBy.refl _ _))

/-- 'append' of one element that lies in a new block of its own, to a row of the call's own. -/
theorem append_elem {P : Program} {w : World} {ops : Array Oper} {rest : List Oper} {o : Oper} {a : Act} {Q : Exit → Act → World → Prop} (hgd : o.guard = none) (s x : Operand) (t : TypeId)
    (ho : o.op = .call { callee := .builtin .append, args := #[s, x], argTypes := #[t, t] }) (base : Nat) (e : TypeId) (i : TypeInfo) (z : Value) (size bytes : Nat) (ht : P.underlying t = some (.slice e))
    (hi : P.info? e = some i) (hz : i.zero = some z) (hsize : i.size = size) (hby : i.bytes = bytes) (hzs : z.cells.size = size) (hsz : 0 < size) (v : Value) (n : Nat) (xs : List Value)
    (hown : w.ownsRow base e size v n xs) (cs : List Value) (hcs : cs.length = size) (h1 : ∀ u ∈ cs, u.oneCell' = true) (hs : a.eval s = v) (g c : Nat) (hx : a.eval x = .slice (some ⟨g, 0, none⟩) 1 c) (hg : g = w.heap.size)
    (h63 : n + 1 ≤ maxLen) (hbytes : (n + 1) * bytes ≤ 140737488355328) (hbase : base ≤ w.heap.size)
    (h : ∀ v' w', w'.ownsRow base e size v' (n + 1) (xs ++ cs) → Below base w w' → wpList P ops Q rest (a.put o.dst v') w') : wpList P ops Q (o :: rest) a (w.alloc (.cells cs.toArray e)) := by
  subst hg
  refine wpList_append_own _ hgd s x t ho base e i z size bytes ht hi hz hsize hby hzs hsz v n xs hs (hown.alloc _) ⟨w.heap.size, 0, none⟩ 1 c cs hx (by omega) ?_ h1 h63 hbytes (by simp; omega) fun v' w' a b _ => h v' w' a (((Below.refl _ _).alloc hbase _).grown b (by simp; omega) ?_)
  · intro j u hu
    have e : (Addr.mk w.heap.size 0 none).add j = ⟨w.heap.size, j, none⟩ := by unfold Addr.add; split <;> simp_all
    rw [e, World.cell?_alloc_new]
    simpa using hu
  · intro k hk
    rcases hown.2 with ⟨rfl, _⟩ | ⟨g, cap, cur, rfl, hb, _⟩
    · cases hk
    · simp [Value.ownBlock] at hk; omega

/-- 'append' of one integer. -/
theorem append_int {P : Program} {w : World} {ops : Array Oper} {rest : List Oper} {o : Oper} {a : Act} {Q : Exit → Act → World → Prop} (hgd : o.guard = none) (s x : Operand) (t : TypeId)
    (ho : o.op = .call { callee := .builtin .append, args := #[s, x], argTypes := #[t, t] }) (base : Nat) (e : TypeId) (kd : IntKind) (i : TypeInfo) (bytes : Nat) (ht : P.underlying t = some (.slice e))
    (hi : P.info? e = some i) (hz : i.zero = some (.int kd 0)) (hsize : i.size = 1) (hby : i.bytes = bytes) (hb8 : bytes ≤ 8) (v : Value) (l : List Int)
    (hown : w.ownsRow base e 1 v l.length (l.map (Value.int kd))) (q : Int) (hs : a.eval s = v) (g c : Nat) (hx : a.eval x = .slice (some ⟨g, 0, none⟩) 1 c) (hg : g = w.heap.size)
    (hlen : l.length ≤ 1000000000) (hbase : base ≤ w.heap.size)
    (h : ∀ v' w', w'.ownsRow base e 1 v' (l ++ [q]).length ((l ++ [q]).map (Value.int kd)) → Below base w w' → wpList P ops Q rest (a.put o.dst v') w') : wpList P ops Q (o :: rest) a (w.alloc (.cells #[.int kd q] e)) := by
  refine append_elem hgd s x t ho base e i (.int kd 0) 1 bytes ht hi hz hsize hby rfl (by omega) v l.length _ hown [.int kd q] rfl (by simp [Value.oneCell']) hs g c hx hg (by unfold maxLen; omega) ?_ hbase fun v' w' a b => h v' w' (by simpa using a) b
  have : (l.length + 1) * bytes ≤ (l.length + 1) * 8 := Nat.mul_le_mul_left _ hb8
  omega

theorem IntsAt.cells {w : World} {A : Option Addr} {n : Nat} {l : List Int} (h : IntsAt w A n l) : ∀ ad, A = some ad → ∀ j u, (l.map (Value.int .i64))[j]? = some u → w.cell? (ad.add j) = some u := by
  rintro ad rfl j u hu
  obtain ⟨hj, hu⟩ := List.getElem?_eq_some_iff.1 hu
  simp at hj hu
  subst hu
  obtain ⟨b, off, e, hc⟩ := h.2 (by have := h.1; omega)
  cases e
  have e : (Addr.mk b off none).add j = ⟨b, off + j, none⟩ := by unfold Addr.add; split <;> simp_all
  rw [e, hc j (by have := h.1; omega)]
  simp [gi, List.getElem?_eq_getElem hj]

/-- A row of the call's own, of integers, as a slice that reads as a list. -/
theorem owned_ints {w : World} {base : Nat} {e : TypeId} {v : Value} {n : Nat} {l : List Int} (h : w.ownsRow base e 1 v n (l.map (Value.int .i64))) : ∃ A c, v = .slice A n c ∧ IntsAt w A n l := by
  have hlen : l.length = n := by simpa using h.1
  rcases h.2 with ⟨rfl, rfl⟩ | ⟨g, cap, cur, rfl, hb, hg, hn, hm, hs, ht⟩
  · exact ⟨none, 0, rfl, hlen, fun h => by omega⟩
  · refine ⟨_, _, rfl, hlen, fun _ => ⟨g, 0, rfl, fun i hi => ?_⟩⟩
    rw [Nat.zero_add, cell_of_row w g i cur e (0, 0) hg]
    have : (cur.toList.take (n * 1))[i]? = (l.map (Value.int .i64))[i]? := by rw [ht]
    rw [List.getElem?_take, if_pos (by omega)] at this
    simpa [gi, List.getElem?_eq_getElem (show i < l.length by omega)] using this

theorem own_ge {w : World} {base : Nat} {e : TypeId} {size : Nat} {v : Value} {n : Nat} {xs : List Value} (h : w.ownsRow base e size v n xs) : ∀ k, v.ownBlock = some k → base ≤ k := by
  intro k hk
  rcases h.2 with ⟨rfl, _⟩ | ⟨g, cap, cur, rfl, hb, _⟩
  · cases hk
  · simp [Value.ownBlock] at hk; omega

theorem info_int : (Tryz.prog.info? 3).map (fun i => (i.zero, i.size, i.bytes)) = some (some (.int .i64 0), 1, 8) := by kernel_rfl

end Go.Proofs.YtfpofegfbinalaaGreat.Fx
namespace Go.Proofs.YtfpofegfbinalaaGreat.Fx
open Go.ChangeShapes Go.WideShapes Go.ChangeAt Go.RowKit
set_option linter.unusedVariables false
set_option maxRecDepth 100000

theorem bcell {W w1 : World} (hb : Below W.heap.size W w1) : (∀ b o, b < W.heap.size → w1.cell? ⟨b, o, none⟩ = W.cell? ⟨b, o, none⟩) ∧ (∀ b o, b < W.heap.size → w1.frozen? ⟨b, o, none⟩ = W.frozen? ⟨b, o, none⟩) :=
  ⟨fun b o h => hb.cell (p := ⟨b, o, none⟩) h, fun b o h => hb.frozen (p := ⟨b, o, none⟩) h⟩

theorem ret_bool {a b : Bool} (h : a = true ↔ b = true) : Ending.returned (.bool a) = .returned (.bool b) := by rw [Bool.eq_iff_iff.2 h]

theorem unbox {w w1 : World} {o : Obj} (h : Below (w.alloc o).heap.size (w.alloc o) w1) : Below w.heap.size w w1 := ((Below.refl _ _).alloc (Nat.le_refl _) _).trans (h.mono (by simp))

theorem quiet_left {P : Program} {f : FuncId} {args : Array Value} {w : World} {n : Nat} {v : Value}
    (h : Calls P f args (w.drewN n) fun e w' => e = .returned v ∧ w.drewN n = w') : Calls P f args (w.drewN n) fun e w'' => e = .returned v ∧ ∃ m, w'' = w.drewN m :=
  h.mono fun _ _ ⟨he, hm⟩ => ⟨he, n, hm.symm⟩

theorem below_drewN {B : Nat} {a w : World} (h : Below B a w) (n : Nat) : Below B a (w.drewN n) := ⟨h.os, h.tape, h.output, h.size, h.block⟩

theorem own_below {w w' : World} {B e size n : Nat} {v : Value} {xs : List Value} (h : w.ownsRow B e size v n xs) (hb : Below w.heap.size w w') : w'.ownsRow B e size v n xs := by
  obtain ⟨h1, h2⟩ := h
  refine ⟨h1, ?_⟩
  rcases h2 with h2 | ⟨g, cap, cur, hv, hg, hh, r⟩
  · exact Or.inl h2
  · exact Or.inr ⟨g, cap, cur, hv, hg, by rw [hb.block g (by have := (Array.getElem?_eq_some_iff.1 hh).1; exact this)]; exact hh, r⟩

theorem nextW {W w w1 : World} (h : Below W.heap.size W w) (hb : Below w.heap.size w w1) : Below W.heap.size W w1 := h.trans (hb.mono h.size)

end Go.Proofs.YtfpofegfbinalaaGreat.Fx
namespace Go.Proofs.YtfpofegfbinalaaGreat.Fx
open Go.ChangeShapes Go.WideShapes Go.ChangeAt Go.RowKit
set_option linter.unusedVariables false
set_option maxRecDepth 100000

/-- A slice that begins at A and whose elements' cells are xs. -/
def CellsAt (w : World) (A : Option Addr) (xs : List Value) : Prop :=
  xs ≠ [] → ∃ b off, A = some ⟨b, off, none⟩ ∧ ∀ i v, xs[i]? = some v → w.cell? ⟨b, off + i, none⟩ = some v

theorem CellsAt.keep {w w' : World} {A : Option Addr} {xs : List Value} (h : CellsAt w A xs) (hk : ∀ p v, w.cell? p = some v → w'.cell? p = some v) : CellsAt w' A xs := fun hx => by
  obtain ⟨b, off, e, hc⟩ := h hx
  exact ⟨b, off, e, fun i v hv => hk _ _ (hc i v hv)⟩

theorem CellsAt.below {w w' : World} {A : Option Addr} {xs : List Value} (h : CellsAt w A xs) (hb : Below w.heap.size w w') : CellsAt w' A xs :=
  h.keep fun _ _ hv => (hb.cell (World.block_lt_of_cell? _ _ hv)).trans hv

/-- A row of the call's own, as a slice whose cells are known. -/
theorem owned_cells {w : World} {base : Nat} {e size : Nat} {v : Value} {n : Nat} {xs : List Value} (h : w.ownsRow base e size v n xs) : ∃ A c, v = .slice A n c ∧ CellsAt w A xs := by
  have hl := h.1
  rcases h.2 with ⟨rfl, hn⟩ | ⟨g, cap, cur, rfl, hb, hg, hn, hm, hs, ht⟩
  · subst hn
    exact ⟨none, 0, rfl, fun hx => absurd (List.eq_nil_of_length_eq_zero (by simpa using hl)) hx⟩
  · refine ⟨_, _, rfl, fun _ => ⟨g, 0, rfl, fun i v hv => ?_⟩⟩
    rw [Nat.zero_add, cell_of_row w g i cur e (0, 0) hg]
    rw [← ht, List.getElem?_take] at hv
    split at hv
    · simpa using hv
    · cases hv

theorem flat_len {α : Type} (enc : α → List Value) (sz : Nat) (hsz : ∀ a, (enc a).length = sz) (es : List α) : (es.flatMap enc).length = es.length * sz := by
  induction es with
  | nil => simp
  | cons a es ih => rw [List.flatMap_cons, List.length_append, ih, hsz, List.length_cons, Nat.succ_mul, Nat.add_comm]

/-- The c-th cell of the i-th element. -/
theorem flat_get {α : Type} (enc : α → List Value) (sz : Nat) (hsz : ∀ a, (enc a).length = sz) (es : List α) (i c : Nat) (hc : c < sz) : (es.flatMap enc)[i * sz + c]? = es[i]?.bind fun a => (enc a)[c]? := by
  induction es generalizing i with
  | nil => simp
  | cons a es ih =>
    rw [List.flatMap_cons]
    cases i with
    | zero => rw [List.getElem?_append_left (by rw [hsz]; omega)]; simp
    | succ i =>
      rw [List.getElem?_append_right (by rw [hsz, Nat.succ_mul]; omega), hsz, Nat.succ_mul, show i * sz + sz + c - sz = i * sz + c by omega, ih]
      simp

/-- An element's cells in memory. -/
theorem CellsAt.elem {α : Type} {w : World} {A : Option Addr} {enc : α → List Value} {es : List α} (h : CellsAt w A (es.flatMap enc)) (sz : Nat) (hsz : ∀ a, (enc a).length = sz) (h0 : 0 < sz) {i : Nat} {a : α} (hi : es[i]? = some a) :
    ∃ b off, A = some ⟨b, off, none⟩ ∧ ∀ c v, (enc a)[c]? = some v → w.cell? ⟨b, off + i * sz + c, none⟩ = some v := by
  have hlt := (List.getElem?_eq_some_iff.1 hi).1
  have hne : es.flatMap enc ≠ [] := by
    intro he
    have := flat_len enc sz hsz es
    rw [he] at this
    exact absurd this (Nat.ne_of_lt (Nat.mul_pos (by omega) h0))
  obtain ⟨b, off, e, hc⟩ := h hne
  refine ⟨b, off, e, fun c v hv => ?_⟩
  rw [Nat.add_assoc]
  refine hc _ _ ?_
  have hcs : c < sz := by rw [← hsz a]; exact (List.getElem?_eq_some_iff.1 hv).1
  rw [flat_get enc sz hsz es i c hcs, hi]
  exact hv

/-- 'append' of m elements that lie in a new block of their own, to a row of the call's own. -/
theorem append_elems {P : Program} {w : World} {ops : Array Oper} {rest : List Oper} {o : Oper} {a : Act} {Q : Exit → Act → World → Prop} (hgd : o.guard = none) (s x : Operand) (t : TypeId)
    (ho : o.op = .call { callee := .builtin .append, args := #[s, x], argTypes := #[t, t] }) (base : Nat) (e : TypeId) (i : TypeInfo) (z : Value) (size bytes : Nat) (ht : P.underlying t = some (.slice e))
    (hi : P.info? e = some i) (hz : i.zero = some z) (hsize : i.size = size) (hby : i.bytes = bytes) (hzs : z.cells.size = size) (hsz : 0 < size) (v : Value) (n : Nat) (xs : List Value)
    (hown : w.ownsRow base e size v n xs) (m : Nat) (cs : List Value) (hcs : cs.length = m * size) (h1 : ∀ u ∈ cs, u.oneCell' = true) (hs : a.eval s = v) (g c : Nat) (hx : a.eval x = .slice (some ⟨g, 0, none⟩) m c) (hg : g = w.heap.size)
    (h63 : n + m ≤ maxLen) (hbytes : (n + m) * bytes ≤ 140737488355328) (hbase : base ≤ w.heap.size)
    (h : ∀ v' w', w'.ownsRow base e size v' (n + m) (xs ++ cs) → Below base w w' → wpList P ops Q rest (a.put o.dst v') w') : wpList P ops Q (o :: rest) a (w.alloc (.cells cs.toArray e)) := by
  subst hg
  refine wpList_append_own _ hgd s x t ho base e i z size bytes ht hi hz hsize hby hzs hsz v n xs hs (hown.alloc _) ⟨w.heap.size, 0, none⟩ m c cs hx (by omega) ?_ h1 h63 hbytes (by simp; omega) fun v' w' a b _ => h v' w' a (((Below.refl _ _).alloc hbase _).grown b (by simp; omega) ?_)
  · intro j u hu
    have e : (Addr.mk w.heap.size 0 none).add j = ⟨w.heap.size, j, none⟩ := by unfold Addr.add; split <;> simp_all
    rw [e, World.cell?_alloc_new]
    simpa using hu
  · intro k hk
    rcases hown.2 with ⟨rfl, _⟩ | ⟨g, cap, cur, rfl, hb, _⟩
    · cases hk
    · simp [Value.ownBlock] at hk; omega

/-- A slice value that reads as a list. -/
def IsSl {α : Type} (enc : α → List Value) (w : World) (v : Value) (es : List α) : Prop :=
  ∃ A c, v = .slice A es.length c ∧ (A = none → es.length = 0 ∧ c = 0) ∧ es.length ≤ c ∧ CellsAt w A (es.flatMap enc)

theorem IsSl.keep {α : Type} {enc : α → List Value} {w w' : World} {v : Value} {es : List α} (h : IsSl enc w v es) (hk : ∀ p v, w.cell? p = some v → w'.cell? p = some v) : IsSl enc w' v es := by
  obtain ⟨A, c, h1, h2, h3, h4⟩ := h
  exact ⟨A, c, h1, h2, h3, h4.keep hk⟩

theorem IsSl.below {α : Type} {enc : α → List Value} {w w' : World} {v : Value} {es : List α} (h : IsSl enc w v es) (hb : Below w.heap.size w w') : IsSl enc w' v es :=
  h.keep fun _ _ hv => (hb.cell (World.block_lt_of_cell? _ _ hv)).trans hv

theorem IsSl.nil {α : Type} (enc : α → List Value) (w : World) : IsSl enc w (.slice none 0 0) [] :=
  ⟨none, 0, rfl, fun _ => ⟨rfl, rfl⟩, Nat.le_refl _, fun h => absurd rfl h⟩

theorem IsSl.at {α : Type} {enc : α → List Value} {w : World} {A : Option Addr} {n c : Nat} {es : List α} (h : IsSl enc w (.slice A n c) es) : CellsAt w A (es.flatMap enc) := by
  obtain ⟨A', c', e, -, -, hat⟩ := h
  simp only [Value.slice.injEq] at e
  rw [e.1]
  exact hat

/-- A row of the call's own, as a list. -/
theorem owned_sl {α : Type} {enc : α → List Value} {w : World} {base : Nat} {e size : Nat} {v : Value} {es : List α} (h : w.ownsRow base e size v es.length (es.flatMap enc)) : IsSl enc w v es := by
  obtain ⟨A, c, hv, hat⟩ := owned_cells h
  refine ⟨A, c, hv, ?_, ?_, hat⟩
  · rintro rfl
    rcases h.2 with ⟨h1, h2⟩ | ⟨g, cap, cur, h1, -⟩
    · rw [hv] at h1; simp at h1; exact ⟨h2, h1.2⟩
    · rw [hv] at h1; cases h1
  · rcases h.2 with ⟨h1, h2⟩ | ⟨g, cap, cur, h1, hb, hh, hn, r⟩
    · rw [hv] at h1; simp at h1; omega
    · rw [hv] at h1; simp at h1; omega

theorem CellsAt.cells {w : World} {A : Option Addr} {xs : List Value} (h : CellsAt w A xs) : ∀ ad, A = some ad → ∀ j u, xs[j]? = some u → w.cell? (ad.add j) = some u := by
  rintro ad rfl j u hu
  obtain ⟨b, off, e, hc⟩ := h (fun he => by rw [he] at hu; simp at hu)
  cases e
  have e : (Addr.mk b off none).add j = ⟨b, off + j, none⟩ := by unfold Addr.add; split <;> simp_all
  rw [e]
  exact hc j u hu

/-- Block g is known whole. -/
def Blk (w : World) (g : Nat) (t : TypeId) (cur : Array Value) : Prop := w.heap[g]? = some (.cells cur t (0, 0))

def nth (cur : Array Value) (i : Nat) : Value := cur.getD i (.bool false)

theorem Blk.cell {w : World} {g : Nat} {t : TypeId} {cur : Array Value} (h : Blk w g t cur) (i : Nat) : w.cell? ⟨g, i, none⟩ = cur[i]? := cell_of_row w g i cur t (0, 0) h

theorem Blk.has {w : World} {g : Nat} {t : TypeId} {cur : Array Value} (h : Blk w g t cur) {i : Nat} (hi : i < cur.size) : w.cell? ⟨g, i, none⟩ = some (nth cur i) := by
  rw [h.cell, Array.getElem?_eq_getElem hi]; simp [nth, hi]

theorem Blk.frozen {w : World} {g : Nat} {t : TypeId} {cur : Array Value} (h : Blk w g t cur) (i : Nat) : w.frozen? ⟨g, i, none⟩ = false := by
  unfold Blk at h; simp [World.frozen?, h]

theorem Blk.put {w : World} {g : Nat} {t : TypeId} {cur : Array Value} (h : Blk w g t cur) (i : Nat) (u : Value) : Blk (w.setCell ⟨g, i, none⟩ u) g t (cur.setIfInBounds i u) := by
  unfold Blk at h ⊢; simp [World.setCell, Array.getElem?_modify, h]

theorem Blk.below {w w' : World} {B g : Nat} {t : TypeId} {cur : Array Value} (h : Blk w g t cur) (hb : Below B w w') (hg : g < B) : Blk w' g t cur := by
  unfold Blk at h ⊢; rw [hb.block g hg]; exact h

theorem Blk.lt {w : World} {g : Nat} {t : TypeId} {cur : Array Value} (h : Blk w g t cur) : g < w.heap.size := by
  unfold Blk at h; exact (Array.getElem?_eq_some_iff.1 h).1

theorem Blk.of_own {w : World} {base : Nat} {e : TypeId} {g n cap size : Nat} {xs : List Value} (h : w.ownsRow base e size (.slice (some ⟨g, 0, none⟩) n cap) n xs) :
    ∃ cur, Blk w g e cur ∧ cur.size = cap * size ∧ base ≤ g ∧ ∀ (i : Nat) (u : Value), xs[i]? = some u → cur[i]? = some u := by
  rcases h.2 with ⟨hv, _⟩ | ⟨g', cap', cur, hv, hb, hh, hn, hm, hs, ht⟩
  · cases hv
  · simp at hv
    obtain ⟨rfl, rfl⟩ := hv
    refine ⟨cur, hh, hs, hb, fun i u hu => ?_⟩
    rw [← ht] at hu
    rw [List.getElem?_take] at hu
    split at hu
    · simpa using hu
    · cases hu

/-- Several cells one behind the other, written. -/
def putAt (cur : Array Value) (o : Nat) : List Value → Array Value
  | [] => cur
  | v :: vs => putAt (cur.setIfInBounds o v) (o + 1) vs

def putW (w : World) (g o : Nat) : List Value → World
  | [] => w
  | v :: vs => putW (w.setCell ⟨g, o, none⟩ v) g (o + 1) vs

theorem Blk.puts {w : World} {g : Nat} {t : TypeId} {cur : Array Value} (h : Blk w g t cur) (o : Nat) (vs : List Value) : Blk (putW w g o vs) g t (putAt cur o vs) := by
  induction vs generalizing w cur o with
  | nil => exact h
  | cons v vs ih => exact ih (h.put o v) (o + 1)

/-- 'append' as an operation, to a row of the call's own, whatever is appended. -/
theorem wp_app {P : Program} {w : World} {o : Oper} {a : Act} {K : Act → World → Prop} {Q : Exit → Act → World → Prop} (s x : Operand) (t : TypeId)
    (ho : o.op = .call { callee := .builtin .append, args := #[s, x], argTypes := #[t, t] }) (base : Nat) (e : TypeId) (i : TypeInfo) (z : Value) (size bytes : Nat) (ht : P.underlying t = some (.slice e))
    (hi : P.info? e = some i) (hz : i.zero = some z) (hsize : i.size = size) (hby : i.bytes = bytes) (hzs : z.cells.size = size) (hsz : 0 < size) (v : Value) (n : Nat) (xs : List Value) (hs : a.eval s = v)
    (hown : w.ownsRow base e size v n xs) (ao : Option Addr) (m c : Nat) (news : List Value) (hx : a.eval x = .slice ao m c) (hl : news.length = m * size) (hnone : ao = none → m = 0 ∧ c = 0)
    (hnews : ∀ ad, ao = some ad → ∀ j u, news[j]? = some u → w.cell? (ad.add j) = some u) (h1 : ∀ u ∈ news, u.oneCell' = true) (h63 : n + m ≤ maxLen) (hbytes : (n + m) * bytes ≤ 140737488355328) (hbase : base ≤ w.heap.size)
    (h : ∀ v' w', w'.ownsRow base e size v' (n + m) (xs ++ news) → Below base w w' → w.grownBy w' v.ownBlock → K (a.put o.dst v') w') : o.wp P a w K Q := by
  cases ao with
  | some ad =>
    refine wp_append_own w s x t ho base e i z size bytes ht hi hz hsize hby hzs hsz v n xs hs hown ad m c news hx hl (hnews ad rfl) h1 h63 hbytes hbase fun v' w' h2 h3 _ => h v' w' h2 ((Below.refl _ _).grown h3 hbase (own_ge hown)) h3
  | none =>
    obtain ⟨rfl, rfl⟩ := hnone rfl
    obtain rfl : news = [] := List.eq_nil_of_length_eq_zero (by simpa using hl)
    have hrun := run_append_owned_none (P := P) (w := w) base t o.type e i size ht hi v n xs hown
    unfold Oper.wp
    simp [execOp, ho, resolve, invoke, builtin, hs, hx, hrun, Result.andThen]
    exact h v w (by simpa using hown) (Below.refl _ _) (World.grownBy.refl _ _)

/-- A part of a list, from its beginning. -/
theorem CellsAt.take {α : Type} {enc : α → List Value} {w : World} {A : Option Addr} {es : List α} (h : CellsAt w A (es.flatMap enc)) (k : Nat) : CellsAt w A ((es.take k).flatMap enc) := by
  intro hne
  have e : es.flatMap enc = (es.take k).flatMap enc ++ (es.drop k).flatMap enc := by rw [← List.flatMap_append, List.take_append_drop]
  obtain ⟨b, off, hA, hc⟩ := h (by rw [e]; intro hx; exact hne (List.append_eq_nil_iff.1 hx).1)
  exact ⟨b, off, hA, fun i v hv => hc i v (by rw [e, List.getElem?_append_left (List.getElem?_eq_some_iff.1 hv).1]; exact hv)⟩

/-- A part of a list, to its end. -/
theorem CellsAt.drop {α : Type} {enc : α → List Value} {w : World} {b off : Nat} {es : List α} (sz : Nat) (hsz : ∀ a, (enc a).length = sz) (h : CellsAt w (some ⟨b, off, none⟩) (es.flatMap enc)) (k : Nat) (hk : k ≤ es.length) : CellsAt w (some ⟨b, off + k * sz, none⟩) ((es.drop k).flatMap enc) := by
  intro hne
  have e : es.flatMap enc = (es.take k).flatMap enc ++ (es.drop k).flatMap enc := by rw [← List.flatMap_append, List.take_append_drop]
  have hl : ((es.take k).flatMap enc).length = k * sz := by rw [flat_len enc sz hsz, List.length_take, Nat.min_eq_left hk]
  obtain ⟨b', off', hA, hc⟩ := h (by rw [e]; intro hx; exact hne (List.append_eq_nil_iff.1 hx).2)
  cases hA
  refine ⟨b, _, rfl, fun i v hv => ?_⟩
  rw [Nat.add_assoc]
  exact hc _ v (by rw [e, List.getElem?_append_right (by rw [hl]; omega), hl, Nat.add_sub_cancel_left]; exact hv)

/-- v[:k] and v[k:] (plain names, which the walk leaves alone). -/
def slTo (sz : Nat) (v : Value) (k : Nat) : Value := match v with
  | .slice A n c => sliced A 0 k c sz
  | _ => v

def slFrom (sz : Nat) (v : Value) (k : Nat) : Value := match v with
  | .slice A n c => sliced A k n c sz
  | _ => v

theorem IsSl.upto {α : Type} {enc : α → List Value} {w : World} {v : Value} {es : List α} (h : IsSl enc w v es) (sz k : Nat) (hk : k ≤ es.length) : IsSl enc w (slTo sz v k) (es.take k) := by
  obtain ⟨A, c, rfl, hA, hc, hat⟩ := h
  have hl : (es.take k).length = k := by rw [List.length_take]; omega
  have e : slTo sz (.slice A es.length c) k = .slice A (es.take k).length c := by
    show Value.slice (if c = 0 then A else A.map (·.add (0 * sz))) (k - 0) (c - 0) = _
    rw [hl, Nat.sub_zero, Nat.sub_zero]
    congr 1
    split
    · rfl
    · cases A with
      | none => rfl
      | some a => simp [Addr.add]
  rw [e]
  exact ⟨A, c, rfl, fun h => by have := hA h; omega, by omega, hat.take k⟩

theorem IsSl.since {α : Type} {enc : α → List Value} {w : World} {v : Value} {es : List α} (h : IsSl enc w v es) (sz k : Nat) (hsz : ∀ a, (enc a).length = sz) (h0 : 0 < sz) (hk : k ≤ es.length) : IsSl enc w (slFrom sz v k) (es.drop k) := by
  obtain ⟨A, c, rfl, hA, hc, hat⟩ := h
  have hl : (es.drop k).length = es.length - k := List.length_drop
  show IsSl enc w (.slice (if c = k then A else A.map (·.add (k * sz))) (es.length - k) (c - k)) _
  by_cases hck : c = k
  · have hd : es.drop k = [] := List.drop_eq_nil_of_le (by omega)
    rw [hd, if_pos hck]
    refine ⟨A, c - k, by simp; omega, fun h => by have := hA h; simp; omega, by simp, fun hx => absurd rfl hx⟩
  · rw [if_neg hck]
    refine ⟨A.map (·.add (k * sz)), c - k, by rw [hl], fun h => ?_, by omega, ?_⟩
    · cases A with
      | none => have := hA rfl; omega
      | some a => cases h
    · by_cases hne : es.flatMap enc = []
      · intro hx
        exfalso
        apply hx
        have e : es.flatMap enc = (es.take k).flatMap enc ++ (es.drop k).flatMap enc := by rw [← List.flatMap_append, List.take_append_drop]
        rw [e] at hne
        exact (List.append_eq_nil_iff.1 hne).2
      · obtain ⟨b, off, rfl, -⟩ := hat hne
        have ha : (Addr.mk b off none).add (k * sz) = ⟨b, off + k * sz, none⟩ := by unfold Addr.add; split <;> simp_all
        show CellsAt w (some ((Addr.mk b off none).add (k * sz))) _
        rw [ha]
        exact hat.drop sz hsz k hk

/-- A slice that came in, whose elements' cells are known, as a list. -/
theorem sl_of_cells {α : Type} {enc : α → List Value} {ok : α → Prop} (d : α) (sz : Nat) (hsz : ∀ a, (enc a).length = sz) (h0 : 0 < sz) {w : World} {base : Nat} {a : Addr} {len cap : Nat} (hl : len ≤ cap)
    (hel : ∀ i, i < len → ∃ e, ok e ∧ w.cells? base (a.add (i * sz)) sz = some (enc e)) : ∃ l : List α, IsSl enc w (.slice (some a) len cap) l ∧ ∀ e ∈ l, ok e := by
  classical
  let f : Nat → α := fun i => if hi : i < len then Classical.choose (hel i hi) else d
  have hf : ∀ i, i < len → ok (f i) ∧ w.cells? base (a.add (i * sz)) sz = some (enc (f i)) := fun i hi => by
    have := Classical.choose_spec (hel i hi)
    simp only [f, dif_pos hi]
    exact this
  have hcell : ∀ i c u, i < len → (enc (f i))[c]? = some u → w.cell? (a.add (i * sz + c)) = some u := fun i c u hi hu => by
    have h := (World.cells?_some (hf i hi).2)
    have hc : c < sz := by rw [← hsz (f i)]; exact (List.getElem?_eq_some_iff.1 hu).1
    rw [← Go.Deep.add_add]
    obtain ⟨h1, h2, h3⟩ := h
    have := h3 c hc
    rw [this]
    exact hu
  have hlen : ((List.range len).map f).length = len := by simp
  refine ⟨(List.range len).map f, ⟨some a, cap, by rw [hlen], fun h => (by cases h), by rw [hlen]; exact hl, fun hne => ?_⟩, fun e he => ?_⟩
  · have hpos : 0 < len := by
      rcases Nat.eq_zero_or_pos len with h | h
      · subst h; exact absurd rfl hne
      · exact h
    obtain ⟨b, off, spot⟩ := a
    obtain ⟨u, hu⟩ : ∃ u, (enc (f 0))[0]? = some u := ⟨_, List.getElem?_eq_getElem (by rw [hsz]; exact h0)⟩
    have hspot : spot = none := by
      have := World.cell?_spot (hcell 0 0 u hpos hu)
      simpa [Addr.add] using this
    subst hspot
    refine ⟨b, off, rfl, fun j v hv => ?_⟩
    have hj : j < len * sz := by
      have := (List.getElem?_eq_some_iff.1 hv).1
      rwa [flat_len enc sz hsz, hlen] at this
    have hd : j / sz < len := (Nat.div_lt_iff_lt_mul h0).2 hj
    have hm : j % sz < sz := Nat.mod_lt _ h0
    have hje : j / sz * sz + j % sz = j := Nat.div_add_mod' j sz
    have h1 := flat_get enc sz hsz ((List.range len).map f) (j / sz) (j % sz) hm
    rw [hje, hv] at h1
    have h2 : ((List.range len).map f)[j / sz]? = some (f (j / sz)) := by simp [hd]
    rw [h2] at h1
    have h3 := hcell (j / sz) (j % sz) v hd h1.symm
    rw [hje] at h3
    have e : (Addr.mk b off none).add j = ⟨b, off + j, none⟩ := by unfold Addr.add; split <;> simp_all
    rwa [e] at h3
  · obtain ⟨i, hi, rfl⟩ := List.mem_map.1 he
    exact (hf i (List.mem_range.1 hi)).1

end Go.Proofs.YtfpofegfbinalaaGreat.Fx
namespace Go.Proofs.YtfpofegfbinalaaGreat.Fx
open Go.ChangeShapes Go.WideShapes Go.ChangeAt Go.RowKit
set_option linter.unusedVariables false
set_option maxRecDepth 100000

/-- W is as w but for the block p. -/
structure Off (p : Nat) (w W : World) : Prop where
  cell : ∀ b o, p ≠ b → W.cell? ⟨b, o, none⟩ = w.cell? ⟨b, o, none⟩
  frozen : ∀ b o, W.frozen? ⟨b, o, none⟩ = w.frozen? ⟨b, o, none⟩
  size : W.heap.size = w.heap.size

theorem Off.refl (p : Nat) (w : World) : Off p w w := ⟨fun _ _ _ => rfl, fun _ _ => rfl, rfl⟩

theorem Off.set {p : Nat} {w W : World} (h : Off p w W) (o : Nat) (v : Value) : Off p w (W.setCell ⟨p, o, none⟩ v) :=
  ⟨fun b q hb => by rw [World.cell?_setCell_other _ _ _ _ (by intro hh; exact hb (congrArg Addr.block hh))]; exact h.cell b q hb, fun b q => by rw [World.frozen?_setCell]; exact h.frozen b q, by simp [h.size]⟩

end Go.Proofs.YtfpofegfbinalaaGreat.Fx
namespace Go.Proofs.YtfpofegfbinalaaGreat.Fx
open Go.ChangeShapes Go.WideShapes Go.ChangeAt Go.RowKit

theorem keepOf {W w : World} (h3 : Below W.heap.size W w) :
    (∀ c p, c < W.heap.size → w.cell? ⟨c, p, none⟩ = W.cell? ⟨c, p, none⟩) ∧ (∀ c p, c < W.heap.size → w.frozen? ⟨c, p, none⟩ = W.frozen? ⟨c, p, none⟩) ∧ Below W.heap.size W w :=
  ⟨fun b o hlt => h3.cell (p := ⟨b, o, none⟩) hlt, fun b o hlt => h3.frozen (p := ⟨b, o, none⟩) hlt, h3⟩

end Go.Proofs.YtfpofegfbinalaaGreat.Fx
namespace Go.Proofs.YtfpofegfbinalaaGreat.Fx
theorem tA.{u} {T : Type u} (l : List T) (i : Nat) (a : T) : l.toArray.setIfInBounds i a = (l.set i a).toArray := by simp

theorem tB.{u} {T : Type u} (x : T) (l : List T) (b : T) : (x :: l).set 0 b = b :: l := rfl

theorem tC.{u} {T : Type u} (x : T) (l : List T) (n : Nat) (b : T) : (x :: l).set (n + 1) b = x :: l.set n b := rfl

open Go.RowKit

section
variable {P : Program} {ops : Array Oper} {Q : Exit → Act → World → Prop} {S : World → Prop}

/-- Is it a plan? (true: it may come up, and is free of all that could come ahead of it; false: nothing else may come up.) -/
def planB (ops : Array Oper) : List (Nat × Bool) → Array Bool → Bool
  | [], listed => (Region.ready .any ops listed).isEmpty
  | (i, true) :: r, listed => Region.free .any ops listed i && ((Region.ready .any ops listed).contains i && planB ops r (listed.setIfInBounds i true))
  | (i, false) :: r, listed => (Region.ready .any ops listed == [i]) && planB ops r (listed.setIfInBounds i true)

/-- The walk along a plan. -/
def wpPlan (P : Program) (ops : Array Oper) (Q : Exit → Act → World → Prop) (S : World → Prop) : List (Nat × Bool) → Act → World → Prop
  | [], a, w => Q .normal a w
  | (i, true) :: r, a, w => ∃ o v, ops[i]? = some o ∧ YieldsIf P ops S o v a ∧ wpPlan P ops Q S r (a.put o.dst v) w
  | (i, false) :: r, a, w => wpOp P ops Q i (fun a' w' => S w' ∧ wpPlan P ops Q S r a' w') a w

theorem plan_any (hsel : Region.noSelect ops = true) (hQ : ∀ c a d v w, Q (.panic c) (a.put d v) w → Q (.panic c) a w) :
    ∀ (l : List (Nat × Bool)) (listed : Array Bool) (a : Act) (w : World), planB ops l listed = true → S w → wpPlan P ops Q S l a w → wpAnyH P .any ops Q S l.length listed a w
  | [], listed, a, w, hp, _, h => by
    have hp : (Region.ready .any ops listed).isEmpty = true := hp
    exact wpAnyH_done (List.isEmpty_iff.1 hp) h _
  | (i, true) :: r, listed, a, w, hp, hS, h => by
    have hp : (Region.free .any ops listed i && ((Region.ready .any ops listed).contains i && planB ops r (listed.setIfInBounds i true))) = true := hp
    rw [Bool.and_eq_true, Bool.and_eq_true] at hp
    obtain ⟨o, v, ho, hy, h⟩ := h
    exact wpAnyH_take ho hsel hp.1 hp.2.1 (fun c a w => hQ c a o.dst v w) hy hS (plan_any hsel hQ r _ _ _ hp.2.2 hS h)
  | (i, false) :: r, listed, a, w, hp, hS, h => by
    have hp : ((Region.ready .any ops listed == [i]) && planB ops r (listed.setIfInBounds i true)) = true := hp
    rw [Bool.and_eq_true] at hp
    refine wpAnyH_all (eq_of_beq hp.1) (by simp) fun j hj => ?_
    obtain rfl : j = i := by simpa using hj
    have h : wpOp P ops Q j (fun a' w' => S w' ∧ wpPlan P ops Q S r a' w') a w := h
    exact wpOp_mono (fun a' w' h' => ⟨h'.1, plan_any hsel hQ r _ _ _ hp.2 h'.1 h'.2⟩) h

theorem plan_region {id : Nat} {a : Act} {w : World} (l : List (Nat × Bool)) (hm : P.follows .mixedOrders = true)
    (hl : (l.length == ops.size && (Region.noSelect ops && planB ops l (Array.replicate ops.size false))) = true)
    (hQ : ∀ c a d v w, Q (.panic c) (a.put d v) w → Q (.panic c) a w) (hS : S w.drew) (h : S w.drew → wpPlan P ops Q S l a w.drew) : (Code.region id ops true).wp P Q a w := by
  rw [Bool.and_eq_true, Bool.and_eq_true] at hl
  refine wp_region_held (S := S) hm ?_
  have h1 := plan_any hl.2.1 hQ l _ _ _ hl.2.2 hS (h hS)
  rw [eq_of_beq hl.1] at h1
  exact h1

/-- The operations of a plan, written out. -/
def picked (os : List Oper) : List (Nat × Bool) → List (Option Oper × Bool)
  | [] => []
  | (i, b) :: r => (os[i]?, b) :: picked os r

/-- The walk along operations that are written out. -/
def wpRow (P : Program) (ops : Array Oper) (Q : Exit → Act → World → Prop) (S : World → Prop) : List (Option Oper × Bool) → Act → World → Prop
  | [], a, w => Q .normal a w
  | (none, _) :: _, _, _ => False
  | (some o, true) :: r, a, w => ∃ v, YieldsIf P ops S o v a ∧ wpRow P ops Q S r (a.put o.dst v) w
  | (some o, false) :: r, a, w => ∀ K' : Act → World → Prop, (∀ a w, S w ∧ wpRow P ops Q S r a w → K' a w) → if Region.wanted o (yielded ops a.tmps) = true then Oper.wp P o a w K' Q else K' (a.put o.dst undef) w

theorem plan_of_row : ∀ (l : List (Nat × Bool)) (a : Act) (w : World), wpRow P ops Q S (picked ops.toList l) a w → wpPlan P ops Q S l a w
  | [], _, _, h => h
  | (i, b) :: r, a, w, h => by
    have h : wpRow P ops Q S ((ops.toList[i]?, b) :: picked ops.toList r) a w := h
    cases ho : ops.toList[i]? with
    | none => rw [ho] at h; exact h.elim
    | some o =>
      rw [ho] at h
      have ho' : ops[i]? = some o := by simpa using ho
      cases b with
      | true =>
        obtain ⟨v, hy, h⟩ := h
        exact ⟨o, v, ho', hy, plan_of_row r _ _ h⟩
      | false =>
        refine wpOp_step ho' fun K' hK => h K' fun a w h' => hK a w ⟨h'.1, plan_of_row r _ _ h'.2⟩

theorem plan_region' {id : Nat} {a : Act} {w : World} (l : List (Nat × Bool)) (hm : P.follows .mixedOrders = true)
    (hl : (l.length == ops.size && (Region.noSelect ops && planB ops l (Array.replicate ops.size false))) = true)
    (hQ : ∀ c a d v w, Q (.panic c) (a.put d v) w → Q (.panic c) a w) (hS : S w.drew) (h : S w.drew → wpRow P ops Q S (picked ops.toList l) a w.drew) : (Code.region id ops true).wp P Q a w :=
  plan_region l hm hl hQ hS fun hS => plan_of_row _ _ _ (h hS)

theorem row_done {a : Act} {w : World} (h : Q .normal a w) : wpRow P ops Q S [] a w := h

theorem row_free {r : List (Option Oper × Bool)} {o : Oper} {v : Value} {a : Act} {w : World} (hw : Region.wanted o (yielded ops a.tmps) = true) (hy : ∀ w, S w → (execOp a.eval o).run P w = .ok (.value v) w) (h : wpRow P ops Q S r (a.put o.dst v) w) :
    wpRow P ops Q S ((some o, true) :: r) a w := ⟨v, .inl ⟨hw, hy⟩, h⟩

theorem row_off {r : List (Option Oper × Bool)} {o : Oper} {a : Act} {w : World} (hw : Region.wanted o (yielded ops a.tmps) = false) (h : wpRow P ops Q S r (a.put o.dst undef) w) :
    wpRow P ops Q S ((some o, true) :: r) a w := ⟨undef, .inr ⟨hw, rfl⟩, h⟩

theorem row_off' {r : List (Option Oper × Bool)} {o : Oper} {a : Act} {w : World} (hw : Region.wanted o (yielded ops a.tmps) = false) (hS : S w) (h : wpRow P ops Q S r (a.put o.dst undef) w) :
    wpRow P ops Q S ((some o, false) :: r) a w := by
  intro K' hK
  rw [if_neg (by rw [hw]; decide)]
  exact hK _ _ ⟨hS, h⟩

theorem row_call {r : List (Option Oper × Bool)} {o : Oper} {a : Act} {w : World} (hw : Region.wanted o (yielded ops a.tmps) = true)
    (h : ∀ K' : Act → World → Prop, Shut (∀ a w, S w → (S w → wpRow P ops Q S r a w) → K' a w) → Oper.wp P o a w K' Q) :
    wpRow P ops Q S ((some o, false) :: r) a w := by
  intro K' hK
  rw [if_pos hw]
  exact h K' (fun a w hS hW => hK a w ⟨hS, hW hS⟩)

end
section
variable {P : Program} {ops : Array Oper} {Q : Exit → Act → World → Prop} {S : World → Prop}

/-- A plan that parts where two operations may come up. -/
inductive Pl where
  | done
  | free (i : Nat) (r : Pl)
  | one (i : Nat) (r : Pl)
  | two (i : Nat) (p : Pl) (j : Nat) (q : Pl)

def Pl.len : Pl → Nat
  | .done => 0
  | .free _ r => r.len + 1
  | .one _ r => r.len + 1
  | .two _ p _ _ => p.len + 1

def plB (ops : Array Oper) : Pl → Array Bool → Bool
  | .done, listed => (Region.ready .any ops listed).isEmpty
  | .free i r, listed => Region.free .any ops listed i && ((Region.ready .any ops listed).contains i && plB ops r (listed.setIfInBounds i true))
  | .one i r, listed => (Region.ready .any ops listed == [i]) && plB ops r (listed.setIfInBounds i true)
  | .two i p j q, listed => (Region.ready .any ops listed == [i, j]) && ((p.len == q.len) && (plB ops p (listed.setIfInBounds i true) && plB ops q (listed.setIfInBounds j true)))

def wpPl (P : Program) (ops : Array Oper) (Q : Exit → Act → World → Prop) (S : World → Prop) : Pl → Act → World → Prop
  | .done, a, w => Q .normal a w
  | .free i r, a, w => ∃ o v, ops[i]? = some o ∧ YieldsIf P ops S o v a ∧ wpPl P ops Q S r (a.put o.dst v) w
  | .one i r, a, w => wpOp P ops Q i (fun a' w' => S w' ∧ wpPl P ops Q S r a' w') a w
  | .two i p j q, a, w => wpOp P ops Q i (fun a' w' => S w' ∧ wpPl P ops Q S p a' w') a w ∧ wpOp P ops Q j (fun a' w' => S w' ∧ wpPl P ops Q S q a' w') a w

theorem pl_any (hsel : Region.noSelect ops = true) (hQ : ∀ c a d v w, Q (.panic c) (a.put d v) w → Q (.panic c) a w) :
    ∀ (l : Pl) (listed : Array Bool) (a : Act) (w : World), plB ops l listed = true → S w → wpPl P ops Q S l a w → wpAnyH P .any ops Q S l.len listed a w
  | .done, listed, a, w, hp, _, h => by
    have hp : (Region.ready .any ops listed).isEmpty = true := hp
    exact wpAnyH_done (List.isEmpty_iff.1 hp) h _
  | .free i r, listed, a, w, hp, hS, h => by
    have hp : (Region.free .any ops listed i && ((Region.ready .any ops listed).contains i && plB ops r (listed.setIfInBounds i true))) = true := hp
    rw [Bool.and_eq_true, Bool.and_eq_true] at hp
    obtain ⟨o, v, ho, hy, h⟩ := h
    exact wpAnyH_take ho hsel hp.1 hp.2.1 (fun c a w => hQ c a o.dst v w) hy hS (pl_any hsel hQ r _ _ _ hp.2.2 hS h)
  | .one i r, listed, a, w, hp, hS, h => by
    have hp : ((Region.ready .any ops listed == [i]) && plB ops r (listed.setIfInBounds i true)) = true := hp
    rw [Bool.and_eq_true] at hp
    refine wpAnyH_all (eq_of_beq hp.1) (by simp) fun j hj => ?_
    obtain rfl : j = i := by simpa using hj
    have h : wpOp P ops Q j (fun a' w' => S w' ∧ wpPl P ops Q S r a' w') a w := h
    exact wpOp_mono (fun a' w' h' => ⟨h'.1, pl_any hsel hQ r _ _ _ hp.2 h'.1 h'.2⟩) h
  | .two i p j q, listed, a, w, hp, hS, h => by
    have hp : ((Region.ready .any ops listed == [i, j]) && ((p.len == q.len) && (plB ops p (listed.setIfInBounds i true) && plB ops q (listed.setIfInBounds j true)))) = true := hp
    rw [Bool.and_eq_true, Bool.and_eq_true, Bool.and_eq_true] at hp
    have hl : p.len = q.len := eq_of_beq hp.2.1
    have h : wpOp P ops Q i (fun a' w' => S w' ∧ wpPl P ops Q S p a' w') a w ∧ wpOp P ops Q j (fun a' w' => S w' ∧ wpPl P ops Q S q a' w') a w := h
    refine wpAnyH_all (fuel := p.len) (eq_of_beq hp.1) (by simp) fun m hm => ?_
    have hm : m = i ∨ m = j := by simpa using hm
    rcases hm with rfl | rfl
    · exact wpOp_mono (fun a' w' h' => ⟨h'.1, pl_any hsel hQ p _ _ _ hp.2.2.1 h'.1 h'.2⟩) h.1
    · exact wpOp_mono (fun a' w' h' => ⟨h'.1, by rw [hl]; exact pl_any hsel hQ q _ _ _ hp.2.2.2 h'.1 h'.2⟩) h.2

/-- Such a plan with its operations written out. -/
inductive Rw where
  | done
  | free (o : Option Oper) (r : Rw)
  | one (o : Option Oper) (r : Rw)
  | two (o : Option Oper) (p : Rw) (o' : Option Oper) (q : Rw)

def written (os : List Oper) : Pl → Rw
  | .done => .done
  | .free i r => .free os[i]? (written os r)
  | .one i r => .one os[i]? (written os r)
  | .two i p j q => .two os[i]? (written os p) os[j]? (written os q)

def wpRw (P : Program) (ops : Array Oper) (Q : Exit → Act → World → Prop) (S : World → Prop) : Rw → Act → World → Prop
  | .done, a, w => Q .normal a w
  | .free none _, _, _ => False
  | .one none _, _, _ => False
  | .two none _ _ _, _, _ => False
  | .two _ _ none _, _, _ => False
  | .free (some o) r, a, w => ∃ v, YieldsIf P ops S o v a ∧ wpRw P ops Q S r (a.put o.dst v) w
  | .one (some o) r, a, w => ∀ K' : Act → World → Prop, (∀ a w, S w ∧ wpRw P ops Q S r a w → K' a w) → if Region.wanted o (yielded ops a.tmps) = true then Oper.wp P o a w K' Q else K' (a.put o.dst undef) w
  | .two (some o) p (some o') q, a, w => (∀ K' : Act → World → Prop, (∀ a w, S w ∧ wpRw P ops Q S p a w → K' a w) → if Region.wanted o (yielded ops a.tmps) = true then Oper.wp P o a w K' Q else K' (a.put o.dst undef) w) ∧
      (∀ K' : Act → World → Prop, (∀ a w, S w ∧ wpRw P ops Q S q a w → K' a w) → if Region.wanted o' (yielded ops a.tmps) = true then Oper.wp P o' a w K' Q else K' (a.put o'.dst undef) w)

theorem pl_of_rw : ∀ (l : Pl) (a : Act) (w : World), wpRw P ops Q S (written ops.toList l) a w → wpPl P ops Q S l a w
  | .done, _, _, h => h
  | .free i r, a, w, h => by
    have h : wpRw P ops Q S (.free ops.toList[i]? (written ops.toList r)) a w := h
    cases ho : ops.toList[i]? with
    | none => rw [ho] at h; exact h.elim
    | some o =>
      rw [ho] at h
      obtain ⟨v, hy, h⟩ := h
      exact ⟨o, v, by simpa using ho, hy, pl_of_rw r _ _ h⟩
  | .one i r, a, w, h => by
    have h : wpRw P ops Q S (.one ops.toList[i]? (written ops.toList r)) a w := h
    cases ho : ops.toList[i]? with
    | none => rw [ho] at h; exact h.elim
    | some o =>
      rw [ho] at h
      exact wpOp_step (show ops[i]? = some o by simpa using ho) fun K' hK => h K' fun a w h' => hK a w ⟨h'.1, pl_of_rw r _ _ h'.2⟩
  | .two i p j q, a, w, h => by
    have h : wpRw P ops Q S (.two ops.toList[i]? (written ops.toList p) ops.toList[j]? (written ops.toList q)) a w := h
    cases ho : ops.toList[i]? with
    | none => rw [ho] at h; exact h.elim
    | some o =>
      cases ho' : ops.toList[j]? with
      | none => rw [ho, ho'] at h; exact h.elim
      | some o' =>
        rw [ho, ho'] at h
        exact ⟨wpOp_step (show ops[i]? = some o by simpa using ho) fun K' hK => h.1 K' fun a w h' => hK a w ⟨h'.1, pl_of_rw p _ _ h'.2⟩,
          wpOp_step (show ops[j]? = some o' by simpa using ho') fun K' hK => h.2 K' fun a w h' => hK a w ⟨h'.1, pl_of_rw q _ _ h'.2⟩⟩

theorem tree_region {id : Nat} {a : Act} {w : World} (l : Pl) (hm : P.follows .mixedOrders = true)
    (hl : (l.len == ops.size && (Region.noSelect ops && plB ops l (Array.replicate ops.size false))) = true)
    (hQ : ∀ c a d v w, Q (.panic c) (a.put d v) w → Q (.panic c) a w) (hS : S w.drew) (h : S w.drew → wpRw P ops Q S (written ops.toList l) a w.drew) : (Code.region id ops true).wp P Q a w := by
  rw [Bool.and_eq_true, Bool.and_eq_true] at hl
  refine wp_region_held (S := S) hm ?_
  have h1 := pl_any hl.2.1 hQ l _ _ _ hl.2.2 hS (pl_of_rw _ _ _ (h hS))
  rw [eq_of_beq hl.1] at h1
  exact h1

theorem rw_done {a : Act} {w : World} (h : Q .normal a w) : wpRw P ops Q S .done a w := h

theorem rw_free {r : Rw} {o : Oper} {v : Value} {a : Act} {w : World} (hw : Region.wanted o (yielded ops a.tmps) = true) (hy : ∀ w, S w → (execOp a.eval o).run P w = .ok (.value v) w) (h : wpRw P ops Q S r (a.put o.dst v) w) :
    wpRw P ops Q S (.free (some o) r) a w := ⟨v, .inl ⟨hw, hy⟩, h⟩

theorem rw_call {r : Rw} {o : Oper} {a : Act} {w : World} (hw : Region.wanted o (yielded ops a.tmps) = true)
    (h : ∀ K' : Act → World → Prop, Shut (∀ a w, S w → (S w → wpRw P ops Q S r a w) → K' a w) → Oper.wp P o a w K' Q) :
    wpRw P ops Q S (.one (some o) r) a w := by
  intro K' hK
  rw [if_pos hw]
  exact h K' (fun a w hS hW => hK a w ⟨hS, hW hS⟩)

theorem rw_two {p q : Rw} {o o' : Oper} {a : Act} {w : World} (h1 : wpRw P ops Q S (.one (some o) p) a w) (h2 : wpRw P ops Q S (.one (some o') q) a w) : wpRw P ops Q S (.two (some o) p (some o') q) a w := ⟨h1, h2⟩

end

theorem keepW0 (W : World) : (∀ b o, b < W.heap.size → W.drew.cell? ⟨b, o, none⟩ = W.cell? ⟨b, o, none⟩) ∧ (∀ b o, b < W.heap.size → W.drew.frozen? ⟨b, o, none⟩ = W.frozen? ⟨b, o, none⟩) ∧ Below W.heap.size W W.drew :=
  ⟨fun _ _ _ => rfl, fun _ _ _ => rfl, (Below.refl _ _).drew⟩

theorem keepW {W w w1 : World} (hb : Below w.heap.size w w1) (h : (∀ b o, b < W.heap.size → w.cell? ⟨b, o, none⟩ = W.cell? ⟨b, o, none⟩) ∧ (∀ b o, b < W.heap.size → w.frozen? ⟨b, o, none⟩ = W.frozen? ⟨b, o, none⟩) ∧ Below W.heap.size W w) :
    (∀ b o, b < W.heap.size → w1.cell? ⟨b, o, none⟩ = W.cell? ⟨b, o, none⟩) ∧ (∀ b o, b < W.heap.size → w1.frozen? ⟨b, o, none⟩ = W.frozen? ⟨b, o, none⟩) ∧ Below W.heap.size W w1 := by
  have h3 := h.2.2.trans (hb.mono h.2.2.size)
  exact ⟨fun b o hlt => h3.cell (p := ⟨b, o, none⟩) hlt, fun b o hlt => h3.frozen (p := ⟨b, o, none⟩) hlt, h3⟩

theorem keepA {W w : World} {o : Obj} (h : (∀ b o, b < W.heap.size → w.cell? ⟨b, o, none⟩ = W.cell? ⟨b, o, none⟩) ∧ (∀ b o, b < W.heap.size → w.frozen? ⟨b, o, none⟩ = W.frozen? ⟨b, o, none⟩) ∧ Below W.heap.size W w) :
    (∀ b p, b < W.heap.size → (w.alloc o).cell? ⟨b, p, none⟩ = W.cell? ⟨b, p, none⟩) ∧ (∀ b p, b < W.heap.size → (w.alloc o).frozen? ⟨b, p, none⟩ = W.frozen? ⟨b, p, none⟩) ∧ Below W.heap.size W (w.alloc o) :=
  keepW ((Below.refl _ _).alloc (Nat.le_refl _) _) h

theorem keepB {W w w1 : World} (hb : Below W.heap.size w w1) (h : (∀ b o, b < W.heap.size → w.cell? ⟨b, o, none⟩ = W.cell? ⟨b, o, none⟩) ∧ (∀ b o, b < W.heap.size → w.frozen? ⟨b, o, none⟩ = W.frozen? ⟨b, o, none⟩) ∧ Below W.heap.size W w) :
    (∀ b o, b < W.heap.size → w1.cell? ⟨b, o, none⟩ = W.cell? ⟨b, o, none⟩) ∧ (∀ b o, b < W.heap.size → w1.frozen? ⟨b, o, none⟩ = W.frozen? ⟨b, o, none⟩) ∧ Below W.heap.size W w1 := by
  have h3 := h.2.2.trans hb
  exact ⟨fun b o hlt => h3.cell (p := ⟨b, o, none⟩) hlt, fun b o hlt => h3.frozen (p := ⟨b, o, none⟩) hlt, h3⟩

end Go.Proofs.YtfpofegfbinalaaGreat.Fx
namespace Go.Proofs.YtfpofegfbinalaaGreat.Fx
open Go.RowKit

section
variable {P : Program} {md : Region.Mode} {ops : Array Oper} {Q : Exit → Act → World → Prop} {S : World → Prop} {k : Nat}

def wpAnyK (P : Program) (md : Region.Mode) (ops : Array Oper) (Q : Exit → Act → World → Prop) (S : World → Prop) (k : Nat) : Nat → Array Bool → Act → World → Prop
  | 0, listed, a, w => Region.ready md ops listed = [] ∧ Q .normal a w
  | fuel + 1, listed, a, w =>
    (Region.ready md ops listed = [] → Q .normal a w) ∧
    ∀ i ∈ Region.ready md ops listed, wpOp P ops Q i (fun a' w' => ((listed.setIfInBounds i true).getD k true = false → S w') ∧ wpAnyK P md ops Q S k fuel (listed.setIfInBounds i true) a' w') a w

theorem wpAny_of_K : ∀ (fuel : Nat) (listed : Array Bool) (a : Act) (w : World), wpAnyK P md ops Q S k fuel listed a w → wpAny P md ops Q fuel listed a w
  | 0, _, _, _, h => h
  | fuel + 1, _, _, _, h => ⟨h.1, fun i hi => wpOp_mono (fun a' w' h' => wpAny_of_K fuel _ a' w' h'.2) (h.2 i hi)⟩

theorem getD_set_same {listed : Array Bool} {i : Nat} : (listed.setIfInBounds i true).getD i true = true := by
  rcases Nat.lt_or_ge i listed.size with h | h
  · simp [h]
  · simp [h]

theorem wpAnyK_of_any : ∀ (fuel : Nat) (listed : Array Bool) (a : Act) (w : World), ((∀ i ∈ Region.ready md ops listed, i = k) ∨ listed.getD k true = true) → wpAny P md ops Q fuel listed a w → wpAnyK P md ops Q S k fuel listed a w
  | 0, _, _, _, _, h => h
  | fuel + 1, listed, _, _, hk, h => ⟨h.1, fun i hi => wpOp_mono (fun a' w' h' => by
      have hk' : (listed.setIfInBounds i true).getD k true = true := by
        by_cases hik : i = k
        · subst hik; exact getD_set_same
        · rcases hk with hk | hk
          · exact absurd (hk i hi) hik
          · rw [getD_set_ne true hik]; exact hk
      exact ⟨fun hf => (by rw [hk'] at hf; cases hf), wpAnyK_of_any fuel _ a' w' (.inr hk') h'⟩) (h.2 i hi)⟩

/-- All that a listed one waits for is listed. -/
structure DownI (md : Region.Mode) (ops : Array Oper) (listed : Array Bool) : Prop where
  size : listed.size = ops.size
  closed : ∀ j oj, ops[j]? = some oj → listed.getD j false = true → ∀ e ∈ oj.after, Region.binds md e = true → listed.getD e.on false = true

theorem DownI.set {i : Nat} {listed : Array Bool} (inv : DownI md ops listed) (hi : i ∈ Region.ready md ops listed) : DownI md ops (listed.setIfInBounds i true) := by
  obtain ⟨_, oi, hoi, hall⟩ := mem_ready.1 hi
  refine ⟨by simp [inv.size], fun j oj hj hl e he hb => ?_⟩
  by_cases hij : i = j
  · subst hij
    have : oj = oi := Option.some.inj (hj.symm.trans hoi)
    subst this
    exact getD_set_true (hall e he hb)
  · rw [getD_set_ne false hij] at hl
    exact getD_set_true (inv.closed j oj hj hl e he hb)

/-- Does j wait for i, by however many steps? -/
def bef (md : Region.Mode) (ops : Array Oper) (i : Nat) : Nat → Nat → Bool
  | 0, _ => false
  | f + 1, j => match ops[j]? with
    | none => false
    | some o => o.after.any fun e => Region.binds md e && (e.on == i || bef md ops i f e.on)

theorem bef_listed {i : Nat} {listed : Array Bool} (inv : DownI md ops listed) : ∀ (f j : Nat), bef md ops i f j = true → listed.getD j false = true → listed.getD i false = true
  | 0, _, h, _ => by simp [bef] at h
  | f + 1, j, h, hl => by
    unfold bef at h
    cases ho : ops[j]? with
    | none => rw [ho] at h; simp at h
    | some o =>
      rw [ho] at h
      obtain ⟨n, hn, he⟩ := Array.any_eq_true.1 h
      rw [Bool.and_eq_true, Bool.or_eq_true] at he
      have h1 := inv.closed j o ho hl _ (Array.getElem_mem hn) he.1
      rcases he.2 with h2 | h2
      · rw [eq_of_beq h2] at h1; exact h1
      · exact bef_listed inv f _ h2 h1

theorem wpAnyK_first {i : Nat} {oi : Oper} {v : Value} (hi : ops[i]? = some oi) (hsel : ∀ (j : Nat) (o : Oper) cs b, ops[j]? = some o → o.op ≠ .select cs b)
    (hQ : ∀ c a w, Q (.panic c) (a.put oi.dst v) w → Q (.panic c) a w) (f : Nat) (hbk : bef md ops i f k = true) (hkn : k < ops.size) (hik : i ≠ k) :
    ∀ (fuel : Nat) (listed : Array Bool) (a : Act) (w : World), DownI md ops listed →
      (∀ j oj, ops[j]? = some oj → j ≠ i → listed.getD j true = false → (∀ e ∈ oj.after, Region.binds md e = true → e.on ≠ i) → oi.apart ops oj = true) →
      i ∈ Region.ready md ops listed → YieldsIf P ops S oi v a → (listed.getD k true = false → S w) →
      wpAnyK P md ops Q S k fuel (listed.setIfInBounds i true) (a.put oi.dst v) w → wpAnyK P md ops Q S k (fuel + 1) listed a w := by
  have kun : ∀ listed, DownI md ops listed → i ∈ Region.ready md ops listed → listed.getD k true = false := fun listed inv hr => by
    have h0 := getD_both (mem_ready.1 hr).1
    refine getD_in (by rw [inv.size]; exact hkn) ?_
    cases hl : listed.getD k false with
    | false => rfl
    | true => have := bef_listed inv f k hbk hl; rw [h0] at this; cases this
  intro fuel
  induction fuel with
  | zero =>
    intro listed a w inv _ hr hy hS H
    refine ⟨fun h => (by rw [h] at hr; cases hr), fun j hj => ?_⟩
    by_cases hji : j = i
    · subst hji; exact hy.wpOp hi (hS (kun _ inv hr)) ⟨fun _ => hS (kun _ inv hr), H⟩
    · have := ready_mono hj hji
      rw [H.1] at this
      cases this
  | succ fuel ih =>
    intro listed a w inv hfree hr hy hS H
    refine ⟨fun h => (by rw [h] at hr; cases hr), fun j hj => ?_⟩
    by_cases hji : j = i
    · subst hji; exact hy.wpOp hi (hS (kun _ inv hr)) ⟨fun _ => hS (kun _ inv hr), H⟩
    · have h1 := H.2 j (ready_mono hj hji)
      obtain ⟨hjun, oj, hoj, hall⟩ := mem_ready.1 hj
      have hnot : ∀ e ∈ oj.after, Region.binds md e = true → e.on ≠ i := fun e he hb heq => by
        have h1 := hall e he hb
        have h0 := getD_both (mem_ready.1 hr).1
        rw [heq, h0] at h1
        cases h1
      have h2 := wpOp_putIf hoj (hfree j oj hoj hji hjun hnot) (fun cs b => hsel i oi cs b hi) (fun cs b => hsel j oj cs b hoj) hQ hy h1
      have hfree' : ∀ k ok, ops[k]? = some ok → k ≠ i → (listed.setIfInBounds j true).getD k true = false →
          (∀ e ∈ ok.after, Region.binds md e = true → e.on ≠ i) → oi.apart ops ok = true := fun k ok hk hki hun hno => by
        refine hfree k ok hk hki ?_ hno
        by_cases hjk : j = k
        · subst hjk; exact hjun
        · rw [getD_set_ne true hjk] at hun; exact hun
      refine wpOp_mono (fun a' w' h3 => ?_) h2
      have hS' : (listed.setIfInBounds j true).getD k true = false → S w' := fun hk => h3.2.1 (by rw [Array.setIfInBounds_comm _ _ (Ne.symm hji), getD_set_ne true hik]; exact hk)
      refine ⟨hS', ih (listed.setIfInBounds j true) a' w' (inv.set hj) hfree' (ready_mono hr (Ne.symm hji)) h3.1 hS' ?_⟩
      rw [Array.setIfInBounds_comm _ _ hji]
      exact h3.2.2

/-- A plan whose end is a forced tail. -/
inductive Pt where
  | tail
  | free (i : Nat) (r : Pt)
  | one (i : Nat) (r : Pt)
  | two (i : Nat) (p : Pt) (j : Nat) (q : Pt)

def Pt.len (g : Nat) : Pt → Nat
  | .tail => g
  | .free _ r => r.len g + 1
  | .one _ r => r.len g + 1
  | .two _ p _ _ => p.len g + 1

def ptB (ops : Array Oper) (k : Nat) : Pt → Array Bool → Bool
  | .tail, listed => decide (Region.ready .any ops listed = [k]) && Region.seqB .any ops (ops.toList.drop k).length k listed
  | .free i r, listed => (bef .any ops i ops.size k && !(i == k)) && (Region.free .any ops listed i && ((Region.ready .any ops listed).contains i && ptB ops k r (listed.setIfInBounds i true)))
  | .one i r, listed => (Region.ready .any ops listed == [i]) && ptB ops k r (listed.setIfInBounds i true)
  | .two i p j q, listed => (Region.ready .any ops listed == [i, j]) && ((p.len 0 == q.len 0) && (ptB ops k p (listed.setIfInBounds i true) && ptB ops k q (listed.setIfInBounds j true)))

def wpPt (P : Program) (ops : Array Oper) (Q : Exit → Act → World → Prop) (S : World → Prop) (k : Nat) : Pt → Act → World → Prop
  | .tail, a, w => wpList P ops Q (ops.toList.drop k) a w
  | .free i r, a, w => ∃ o v, ops[i]? = some o ∧ YieldsIf P ops S o v a ∧ wpPt P ops Q S k r (a.put o.dst v) w
  | .one i r, a, w => wpOp P ops Q i (fun a' w' => S w' ∧ wpPt P ops Q S k r a' w') a w
  | .two i p j q, a, w => wpOp P ops Q i (fun a' w' => S w' ∧ wpPt P ops Q S k p a' w') a w ∧ wpOp P ops Q j (fun a' w' => S w' ∧ wpPt P ops Q S k q a' w') a w

theorem len_shift (g : Nat) : ∀ l : Pt, l.len g = l.len 0 + g
  | .tail => by simp [Pt.len]
  | .free _ r => by simp only [Pt.len]; rw [len_shift g r]; omega
  | .one _ r => by simp only [Pt.len]; rw [len_shift g r]; omega
  | .two _ p _ _ => by simp only [Pt.len]; rw [len_shift g p]; omega

theorem pt_any (hsel : Region.noSelect ops = true) (hQ : ∀ c a d v w, Q (.panic c) (a.put d v) w → Q (.panic c) a w) (hkn : k < ops.size) :
    ∀ (l : Pt) (listed : Array Bool) (a : Act) (w : World), DownI .any ops listed → ptB ops k l listed = true → S w → wpPt P ops Q S k l a w → wpAnyK P .any ops Q S k (l.len (ops.toList.drop k).length) listed a w
  | .tail, listed, a, w, inv, hp, _, h => by
    have hp : (decide (Region.ready .any ops listed = [k]) && Region.seqB .any ops (ops.toList.drop k).length k listed) = true := hp
    rw [Bool.and_eq_true] at hp
    refine wpAnyK_of_any _ _ _ _ (.inl fun i hi => by rw [of_decide_eq_true hp.1] at hi; simpa using hi) ?_
    exact wpAny_of_seq _ k listed a w (fun j => by simp) hp.2 h
  | .free i r, listed, a, w, inv, hp, hS, h => by
    have hp : ((bef .any ops i ops.size k && !(i == k)) && (Region.free .any ops listed i && ((Region.ready .any ops listed).contains i && ptB ops k r (listed.setIfInBounds i true)))) = true := hp
    rw [Bool.and_eq_true, Bool.and_eq_true, Bool.and_eq_true, Bool.and_eq_true] at hp
    obtain ⟨o, v, ho, hy, h⟩ := h
    have hr : i ∈ Region.ready .any ops listed := by simpa using hp.2.2.1
    exact wpAnyK_first ho (Region.noSelect_spec hsel) (fun c a w => hQ c a o.dst v w) ops.size hp.1.1 hkn (by simpa using hp.1.2) _ listed a w inv (Region.free_spec ho hp.2.1) hr hy (fun _ => hS)
      (pt_any hsel hQ hkn r _ _ _ (inv.set hr) hp.2.2.2 hS h)
  | .one i r, listed, a, w, inv, hp, hS, h => by
    have hp : ((Region.ready .any ops listed == [i]) && ptB ops k r (listed.setIfInBounds i true)) = true := hp
    rw [Bool.and_eq_true] at hp
    have hr := eq_of_beq hp.1
    refine ⟨fun h0 => (by rw [hr] at h0; cases h0), fun j hj => ?_⟩
    have hj' := hj
    rw [hr] at hj'
    obtain rfl : j = i := by simpa using hj'
    exact wpOp_mono (fun a' w' h' => ⟨fun _ => h'.1, pt_any hsel hQ hkn r _ _ _ (inv.set hj) hp.2 h'.1 h'.2⟩) (show wpOp P ops Q j (fun a' w' => S w' ∧ wpPt P ops Q S k r a' w') a w from h)
  | .two i p j q, listed, a, w, inv, hp, hS, h => by
    have hp : ((Region.ready .any ops listed == [i, j]) && ((p.len 0 == q.len 0) && (ptB ops k p (listed.setIfInBounds i true) && ptB ops k q (listed.setIfInBounds j true)))) = true := hp
    rw [Bool.and_eq_true, Bool.and_eq_true, Bool.and_eq_true] at hp
    have hr := eq_of_beq hp.1
    have hl : p.len 0 = q.len 0 := eq_of_beq hp.2.1
    have h : wpOp P ops Q i (fun a' w' => S w' ∧ wpPt P ops Q S k p a' w') a w ∧ wpOp P ops Q j (fun a' w' => S w' ∧ wpPt P ops Q S k q a' w') a w := h
    refine ⟨fun h0 => (by rw [hr] at h0; cases h0), fun m hj => ?_⟩
    have hm := hj
    rw [hr] at hm
    have hm : m = i ∨ m = j := by simpa using hm
    rcases hm with rfl | rfl
    · exact wpOp_mono (fun a' w' h' => ⟨fun _ => h'.1, pt_any hsel hQ hkn p _ _ _ (inv.set hj) hp.2.2.1 h'.1 h'.2⟩) h.1
    · refine wpOp_mono (fun a' w' h' => ⟨fun _ => h'.1, ?_⟩) h.2
      have := pt_any hsel hQ hkn q _ _ _ (inv.set hj) hp.2.2.2 h'.1 h'.2
      rw [len_shift, ← hl, ← len_shift] at this
      exact this

/-- Such a plan with its operations written out. -/
inductive Rz where
  | tail (l : List Oper)
  | free (o : Option Oper) (r : Rz)
  | one (o : Option Oper) (r : Rz)
  | two (o : Option Oper) (p : Rz) (o' : Option Oper) (q : Rz)

def writtenT (os : List Oper) (k : Nat) : Pt → Rz
  | .tail => .tail (os.drop k)
  | .free i r => .free os[i]? (writtenT os k r)
  | .one i r => .one os[i]? (writtenT os k r)
  | .two i p j q => .two os[i]? (writtenT os k p) os[j]? (writtenT os k q)

def wpRz (P : Program) (ops : Array Oper) (Q : Exit → Act → World → Prop) (S : World → Prop) : Rz → Act → World → Prop
  | .tail l, a, w => wpList P ops Q l a w
  | .free none _, _, _ => False
  | .one none _, _, _ => False
  | .two none _ _ _, _, _ => False
  | .two _ _ none _, _, _ => False
  | .free (some o) r, a, w => ∃ v, YieldsIf P ops S o v a ∧ wpRz P ops Q S r (a.put o.dst v) w
  | .one (some o) r, a, w => ∀ K' : Act → World → Prop, (∀ a w, S w ∧ wpRz P ops Q S r a w → K' a w) → if Region.wanted o (yielded ops a.tmps) = true then Oper.wp P o a w K' Q else K' (a.put o.dst undef) w
  | .two (some o) p (some o') q, a, w => (∀ K' : Act → World → Prop, (∀ a w, S w ∧ wpRz P ops Q S p a w → K' a w) → if Region.wanted o (yielded ops a.tmps) = true then Oper.wp P o a w K' Q else K' (a.put o.dst undef) w) ∧
      (∀ K' : Act → World → Prop, (∀ a w, S w ∧ wpRz P ops Q S q a w → K' a w) → if Region.wanted o' (yielded ops a.tmps) = true then Oper.wp P o' a w K' Q else K' (a.put o'.dst undef) w)

theorem pt_of_rz : ∀ (l : Pt) (a : Act) (w : World), wpRz P ops Q S (writtenT ops.toList k l) a w → wpPt P ops Q S k l a w
  | .tail, _, _, h => h
  | .free i r, a, w, h => by
    have h : wpRz P ops Q S (.free ops.toList[i]? (writtenT ops.toList k r)) a w := h
    cases ho : ops.toList[i]? with
    | none => rw [ho] at h; exact h.elim
    | some o =>
      rw [ho] at h
      obtain ⟨v, hy, h⟩ := h
      exact ⟨o, v, by simpa using ho, hy, pt_of_rz r _ _ h⟩
  | .one i r, a, w, h => by
    have h : wpRz P ops Q S (.one ops.toList[i]? (writtenT ops.toList k r)) a w := h
    cases ho : ops.toList[i]? with
    | none => rw [ho] at h; exact h.elim
    | some o =>
      rw [ho] at h
      exact wpOp_step (show ops[i]? = some o by simpa using ho) fun K' hK => h K' fun a w h' => hK a w ⟨h'.1, pt_of_rz r _ _ h'.2⟩
  | .two i p j q, a, w, h => by
    have h : wpRz P ops Q S (.two ops.toList[i]? (writtenT ops.toList k p) ops.toList[j]? (writtenT ops.toList k q)) a w := h
    cases ho : ops.toList[i]? with
    | none => rw [ho] at h; exact h.elim
    | some o =>
      cases ho' : ops.toList[j]? with
      | none => rw [ho, ho'] at h; exact h.elim
      | some o' =>
        rw [ho, ho'] at h
        exact ⟨wpOp_step (show ops[i]? = some o by simpa using ho) fun K' hK => h.1 K' fun a w h' => hK a w ⟨h'.1, pt_of_rz p _ _ h'.2⟩,
          wpOp_step (show ops[j]? = some o' by simpa using ho') fun K' hK => h.2 K' fun a w h' => hK a w ⟨h'.1, pt_of_rz q _ _ h'.2⟩⟩

theorem tail_region {id : Nat} {a : Act} {w : World} (k : Nat) (l : Pt) (hm : P.follows .mixedOrders = true)
    (hl : ((l.len (ops.toList.drop k).length == ops.size && decide (k < ops.size)) && (Region.noSelect ops && ptB ops k l (Array.replicate ops.size false))) = true)
    (hQ : ∀ c a d v w, Q (.panic c) (a.put d v) w → Q (.panic c) a w) (hS : S w.drew) (h : S w.drew → wpRz P ops Q S (writtenT ops.toList k l) a w.drew) : (Code.region id ops true).wp P Q a w := by
  rw [Bool.and_eq_true, Bool.and_eq_true, Bool.and_eq_true] at hl
  have h1 := pt_any hl.2.1 hQ (of_decide_eq_true hl.1.2) l (Array.replicate ops.size false) _ _ ⟨by simp, fun j oj _ hl => by rw [getD_replicate_false] at hl; cases hl⟩ hl.2.2 hS (pt_of_rz _ _ _ (h hS))
  rw [eq_of_beq hl.1.1] at h1
  exact wp_region_any hm (wpAny_of_K _ _ _ _ h1)

theorem rz_done {l : List Oper} {a : Act} {w : World} (h : wpList P ops Q l a w) : wpRz P ops Q S (.tail l) a w := h

theorem rz_free {r : Rz} {o : Oper} {v : Value} {a : Act} {w : World} (hw : Region.wanted o (yielded ops a.tmps) = true) (hy : ∀ w, S w → (execOp a.eval o).run P w = .ok (.value v) w) (h : wpRz P ops Q S r (a.put o.dst v) w) :
    wpRz P ops Q S (.free (some o) r) a w := ⟨v, .inl ⟨hw, hy⟩, h⟩

theorem rz_call {r : Rz} {o : Oper} {a : Act} {w : World} (hw : Region.wanted o (yielded ops a.tmps) = true)
    (h : ∀ K' : Act → World → Prop, Shut (∀ a w, S w → (S w → wpRz P ops Q S r a w) → K' a w) → Oper.wp P o a w K' Q) :
    wpRz P ops Q S (.one (some o) r) a w := by
  intro K' hK
  rw [if_pos hw]
  exact h K' (fun a w hS hW => hK a w ⟨hS, hW hS⟩)

theorem rz_two {p q : Rz} {o o' : Oper} {a : Act} {w : World} (h1 : wpRz P ops Q S (.one (some o) p) a w) (h2 : wpRz P ops Q S (.one (some o') q) a w) : wpRz P ops Q S (.two (some o) p (some o') q) a w := ⟨h1, h2⟩

end
end Go.Proofs.YtfpofegfbinalaaGreat.Fx
namespace Go.Proofs.YtfpofegfbinalaaGreat.Fx
open Go.ChangeShapes Go.WideShapes Go.ChangeAt Go.RowKit

theorem umod (x m : Int) (hm : 1 ≤ m) (hm2 : m ≤ 1000000) : wrap64 ((IntKind.u64.wrap x).tmod m) = IntKind.u64.wrap x % m ∧ 0 ≤ IntKind.u64.wrap x % m ∧ IntKind.u64.wrap x % m < m := by
  have h0 : 0 ≤ IntKind.u64.wrap x := by rw [IntKind.wrap_u64]; omega
  have h1 := Int.emod_nonneg (IntKind.u64.wrap x) (show m ≠ 0 by omega)
  have h2 := Int.emod_lt_of_pos (IntKind.u64.wrap x) (show 0 < m by omega)
  rw [Int.tmod_eq_emod_of_nonneg h0, IntWalk.wrap64_in _ (by omega)]
  exact ⟨rfl, h1, h2⟩

theorem umodR (x R : Int) (h1 : 1 ≤ R) (h2 : R ≤ 1000000) : IntKind.i64.wrap ((IntKind.u64.wrap x).tmod R) = IntKind.u64.wrap x % R ∧ 0 ≤ IntKind.i64.wrap ((IntKind.u64.wrap x).tmod R) ∧ IntKind.i64.wrap ((IntKind.u64.wrap x).tmod R) < R := by
  obtain ⟨h, h3, h4⟩ := umod x R h1 h2
  have : IntKind.i64.wrap ((IntKind.u64.wrap x).tmod R) = IntKind.u64.wrap x % R := by rw [← h, IntKind.wrap_i64, wrap64]
  rw [this]
  exact ⟨rfl, h3, h4⟩

theorem umod1 (x m : Int) (hm : 1 ≤ m) (hm2 : m ≤ 1000000) : 1 ≤ wrap64 (1 + wrap64 ((IntKind.u64.wrap x).tmod m)) ∧ wrap64 (1 + wrap64 ((IntKind.u64.wrap x).tmod m)) ≤ m := by
  obtain ⟨h, h1, h2⟩ := umod x m hm hm2
  rw [h, IntWalk.wrap64_in _ (by omega)]
  omega

/-- The place that int(uint(x)%uint(n)) is, of n places. -/
theorem uplace (x : Int) (n : Nat) (h0 : 0 < n) (h1 : n ≤ 1000000) : ∃ j : Nat, j < n ∧ IntKind.i64.wrap ((IntKind.u64.wrap x).tmod n) = j := by
  obtain ⟨h, h2, h3⟩ := umodR x n (by omega) (by omega)
  exact ⟨(IntKind.i64.wrap ((IntKind.u64.wrap x).tmod n)).toNat, by omega, by omega⟩

end Go.Proofs.YtfpofegfbinalaaGreat.Fx
