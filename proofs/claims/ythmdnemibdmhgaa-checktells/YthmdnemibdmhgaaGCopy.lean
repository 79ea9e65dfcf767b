/- copy into a row of the call's own, and what slices.Insert needs beside: of elements of any number of cells. -/
import Derived.Test.YthmdnemibdmhgaaGRows
import Derived.Laws.IdiomCopy
import Derived.Laws.OwnMore
import Derived.Lib.AppendZerosOnto
import Derived.Lib.Overlaps
import Derived.Laws.Externs
import Derived.Laws.Cover3
namespace Go.Proofs.Ythmdnemibdmhgaa.Fx
open Go.ChangeShapes Go.WideShapes Go.ChangeAt Go.RowKit
set_option linter.unusedVariables false
set_option maxRecDepth 100000

/-- copy, in terms of cells. -/
theorem run_copy_el {P : Program} (w : World) (dT sT ty elem : TypeId) (size b o dLen dCap : Nat) (a : Addr) (sLen sCap : Nat) (cs : List Value)
    (hu : P.underlying dT = some (.slice elem)) (hs : (P.info? elem).map (·.size) = some size) (hn : cs.length = Nat.min sLen dLen * size)
    (hsrc : ∀ j v, cs[j]? = some v → w.cell? (a.add j) = some v) (hc : ∀ j, j < cs.length → (w.cell? ⟨b, o + j, none⟩).isSome = true) (hf : ∀ j, j < cs.length → w.frozen? ⟨b, o + j, none⟩ = false) (h1 : ∀ v ∈ cs, v.oneCell' = true) :
    (Builtin.copy_ #[dT, sT] ty #[.slice (some ⟨b, o, none⟩) dLen dCap, .slice (some a) sLen sCap]).run P w = .ok (goInt (Nat.min sLen dLen)) (w.setCells b o cs) := by
  have hl := run_loadCells_list (P := P) w a cs hsrc
  have hst := run_storeCells_cells (P := P) b o cs 0 w (by simpa using hc) (by simpa using hf) h1
  cases hq : P.info? elem with
  | none => simp [hq] at hs
  | some i =>
    have hi : i.size = size := by simpa [hq] using hs
    simp [Builtin.copy_, run_underlying hu, Builtin.lenOf, Builtin.firstCells, sizeOf, typeInfo, hq, hi, ← hn, hl, hst]

theorem wp_copy_el {P : Program} (w : World) {o : Oper} {a : Act} {K : Act → World → Prop} {Q : Exit → Act → World → Prop} (d s : Operand) (t t' : TypeId)
    (ho : o.op = .call { callee := .builtin .copy, args := #[d, s], argTypes := #[t, t'] }) (v u : Value) (hd : a.eval d = v) (hs : a.eval s = u) {v' : Value} {w' : World}
    (hr : (Builtin.copy_ #[t, t'] o.type #[v, u]).run P w = .ok v' w') (h : K (a.put o.dst v') w') : o.wp P a w K Q := by
  unfold Oper.wp execOp
  simp only [ho, resolve, invoke, builtin, Sem.run_bind, Sem.run_pure, Result.andThen_ok, List.map_toArray, List.map_cons, List.map_nil, hd, hs, hr]
  exact h

theorem wpList_copy_el {P : Program} (w : World) {ops : Array Oper} {rest : List Oper} {o : Oper} {a : Act} {Q : Exit → Act → World → Prop} (hgd : o.guard = none) (d s : Operand) (t t' : TypeId)
    (ho : o.op = .call { callee := .builtin .copy, args := #[d, s], argTypes := #[t, t'] }) (v u : Value) (hd : a.eval d = v) (hs : a.eval s = u) {v' : Value} {w' : World}
    (hr : (Builtin.copy_ #[t, t'] o.type #[v, u]).run P w = .ok v' w') (h : wpList P ops Q rest (a.put o.dst v') w') : wpList P ops Q (o :: rest) a w :=
  wpList_plain hgd fun _ hK => wp_copy_el w d s t t' ho v u hd hs hr (hK _ _ h)

theorem step_copy_el {P : Program} {ops : Array Oper} {o : Oper} {a : Act} {w : World} {K : Act → World → Prop} {Q : Exit → Act → World → Prop} {E : Prop}
    (hg : o.guard = none) (d x : Operand) (dT sT : TypeId) (hop : o.op = Op.call { callee := Callee.builtin Builtin.copy, args := #[d, x], argTypes := #[dT, sT] })
    (v u : Value) (hd : a.eval d = v) (hx : a.eval x = u) {v' : Value} {w' : World} (hr : (Builtin.copy_ #[dT, sT] o.type #[v, u]).run P w = .ok v' w') (hK : K (a.put o.dst v') w') :
    if Region.wanted o (yielded ops a.tmps) = true then Oper.wp P o a w K Q else E := by
  have hw : Region.wanted o (yielded ops a.tmps) = true := by simp [Region.wanted, hg]
  rw [if_pos hw]
  exact wp_copy_el w d x dT sT hop v u hd hx hr hK

/-- A list with some of its places set. -/
def putL (xs : List Value) (o : Nat) : List Value → List Value
  | [] => xs
  | v :: r => putL (xs.set o v) (o + 1) r

theorem putL_len (xs : List Value) (o : Nat) (cs : List Value) : (putL xs o cs).length = xs.length := by
  induction cs generalizing xs o with
  | nil => rfl
  | cons v r ih => rw [putL, ih]; simp

theorem putL_eq (xs : List Value) (o : Nat) (cs : List Value) (h : o + cs.length ≤ xs.length) : putL xs o cs = xs.take o ++ cs ++ xs.drop (o + cs.length) := by
  induction cs generalizing xs o with
  | nil => simp [putL]
  | cons v r ih =>
    simp only [List.length_cons] at h
    rw [putL, ih _ _ (by simp; omega), List.drop_set_of_lt (by omega), List.take_set, List.take_add_one, List.getElem?_eq_getElem (by omega)]
    simp only [Option.toList_some, List.length_cons]
    rw [List.set_append_right _ _ (by simp; omega), List.length_take, Nat.min_eq_left (by omega), Nat.sub_self, List.set_cons_zero, show o + 1 + r.length = o + (r.length + 1) by omega]
    simp

theorem own_setCells {w : World} {base : Nat} {e : TypeId} {size g n cap : Nat} {xs : List Value} (h : w.ownsRow base e size (.slice (some ⟨g, 0, none⟩) n cap) n xs) (o : Nat) (cs : List Value) :
    (w.setCells g o cs).ownsRow base e size (.slice (some ⟨g, 0, none⟩) n cap) n (putL xs o cs) ∧ w.grownBy (w.setCells g o cs) (some g) := by
  induction cs generalizing w xs o with
  | nil => exact ⟨h, World.grownBy.refl _ _⟩
  | cons v r ih =>
    obtain ⟨h1, h2⟩ := h.stored o v
    obtain ⟨h3, h4⟩ := ih h1 (o + 1)
    refine ⟨h3, ⟨h4.os.trans h2.os, h4.tape.trans h2.tape, h4.output.trans h2.output, Nat.le_trans h2.size h4.size, fun k hk hne => ?_⟩⟩
    rw [World.setCells, h4.block k (Nat.lt_of_lt_of_le hk h2.size) hne, h2.block k hk hne]

theorem grown_trans {w w1 w2 : World} {row : Option Nat} (h : w.grownBy w1 row) (h' : w1.grownBy w2 row) : w.grownBy w2 row :=
  ⟨h'.os.trans h.os, h'.tape.trans h.tape, h'.output.trans h.output, Nat.le_trans h.size h'.size, fun k hk hne => (h'.block k (Nat.lt_of_lt_of_le hk h.size) hne).trans (h.block k hk hne)⟩

theorem grown_drew {w w' : World} {row : Option Nat} (h : w.drew.grownBy w' row) : w.grownBy w' row := ⟨h.os, h.tape, h.output, h.size, h.block⟩

theorem grown_below {w w' : World} {row : Option Nat} (h : Below w.heap.size w w') : w.grownBy w' row := ⟨h.os, h.tape, h.output, h.size, fun k hk _ => h.block k hk⟩

/-- A row of one's own, longer, within its capacity. -/
theorem own_more {w : World} {base : Nat} {e : TypeId} {size g n cap : Nat} {xs : List Value} (h : w.ownsRow base e size (.slice (some ⟨g, 0, none⟩) n cap) n xs) (m : Nat) (hm : n + m ≤ cap) :
    ∃ ys, ys.length = m * size ∧ w.ownsRow base e size (.slice (some ⟨g, 0, none⟩) (n + m) cap) (n + m) (xs ++ ys) := by
  rcases h.2 with ⟨h', _⟩ | ⟨g', cap', cur, h', hb, hg, hnc, hcm, hcs, htake⟩
  · simp at h'
  · simp only [Value.slice.injEq, Option.some.injEq, Addr.mk.injEq, and_true, true_and] at h'
    obtain ⟨rfl, rfl⟩ := h'
    have h3 : (n + m) * size ≤ cap * size := Nat.mul_le_mul_right _ hm
    have h4 : (n + m) * size = n * size + m * size := Nat.add_mul _ _ _
    have hl : ((cur.toList.drop (n * size)).take (m * size)).length = m * size := by
      rw [List.length_take, List.length_drop, Array.length_toList, hcs]
      omega
    refine ⟨(cur.toList.drop (n * size)).take (m * size), hl, ?_, .inr ⟨g, cap, cur, rfl, hb, hg, hm, hcm, hcs, ?_⟩⟩
    · rw [List.length_append, hl, h.1, h4]
    · rw [h4, List.take_add, htake]

/-- .. and shorter. -/
theorem own_less {w : World} {base : Nat} {e : TypeId} {size g n cap : Nat} {xs : List Value} (h : w.ownsRow base e size (.slice (some ⟨g, 0, none⟩) n cap) n xs) (m : Nat) (hm : m ≤ n) :
    w.ownsRow base e size (.slice (some ⟨g, 0, none⟩) m cap) m (xs.take (m * size)) := by
  rcases h.2 with ⟨h', _⟩ | ⟨g', cap', cur, h', hb, hg, hnc, hcm, hcs, htake⟩
  · simp at h'
  · simp only [Value.slice.injEq, Option.some.injEq, Addr.mk.injEq, and_true, true_and] at h'
    obtain ⟨rfl, rfl⟩ := h'
    have h3 : m * size ≤ n * size := Nat.mul_le_mul_right _ hm
    refine ⟨by rw [List.length_take, h.1]; omega, .inr ⟨g, cap, cur, rfl, hb, hg, by omega, hcm, hcs, ?_⟩⟩
    rw [← htake, List.take_take, Nat.min_eq_left h3]

/-- A new row, of cells that are known at its beginning. -/
theorem own_new (w : World) {base : Nat} {e : TypeId} {size n cap : Nat} (xs : List Value) (row : Array Value) (hb : base ≤ w.heap.size) (hl : xs.length = n * size) (hn : n ≤ cap) (hm : cap ≤ maxLen) (hs : row.size = cap * size) (ht : row.toList.take (n * size) = xs) :
    (w.alloc (.cells row e)).ownsRow base e size (.slice (some ⟨w.heap.size, 0, none⟩) n cap) n xs :=
  ⟨hl, .inr ⟨w.heap.size, cap, row, rfl, hb, heap_alloc_new w _, hn, hm, hs, ht⟩⟩

/-- A row's cells are there, and none is frozen. -/
theorem own_cell {w : World} {base : Nat} {e : TypeId} {size g n cap : Nat} {xs : List Value} (h : w.ownsRow base e size (.slice (some ⟨g, 0, none⟩) n cap) n xs) (j : Nat) (hj : j < n * size) : (w.cell? ⟨g, j, none⟩).isSome = true := by
  rw [h.cellAt j hj, List.getElem?_eq_getElem (by rw [h.1]; exact hj)]
  rfl

theorem own_shape {w : World} {base : Nat} {e : TypeId} {size g n cap : Nat} {xs : List Value} (h : w.ownsRow base e size (.slice (some ⟨g, 0, none⟩) n cap) n xs) : w.shape? g = some (e, cap * size) := by
  rcases h.2 with ⟨h', _⟩ | ⟨g', cap', cur, h', hb, hg, hnc, hcm, hcs, htake⟩
  · simp at h'
  · simp only [Value.slice.injEq, Option.some.injEq, Addr.mk.injEq, and_true, true_and] at h'
    obtain ⟨rfl, rfl⟩ := h'
    simp [World.shape?, hg, hcs]

theorem zeroCells_size (z : Array Value) (n : Nat) : (Builtin.zeroCells z n).size = n * z.size := by simp [Builtin.zeroCells]

/-- 's == nil' of a slice. -/
@[go_sem] theorem eql_slice_nil {P : Program} (w : World) (t e : TypeId) (a : Option Addr) (l c : Nat) (h : P.underlying t = some (.slice e)) : (binOp .eql t (.slice a l c) (.slice none 0 0)).run P w = .ok (.bool a.isNone) w := by
  simp only [binOp]
  simp [run_equal_slice_nil w t e a l c h]

/-- v[:k] of a row. -/
@[go_sem] theorem slTo_own (sz g n c k : Nat) : slTo sz (.slice (some ⟨g, 0, none⟩) n c) k = .slice (some ⟨g, 0, none⟩) k c := by
  show Value.slice (if c = 0 then _ else (some (Addr.mk g 0 none)).map (·.add (0 * sz))) (k - 0) (c - 0) = _
  rw [Nat.sub_zero, Nat.sub_zero]
  congr 1
  split
  · rfl
  · simp [Addr.add]

/-- v[k:] of a row, where it is not empty. -/
theorem slFrom_own (sz g n c k : Nat) (h : k < c) : slFrom sz (.slice (some ⟨g, 0, none⟩) n c) k = .slice (some ⟨g, k * sz, none⟩) (n - k) (c - k) := by
  show Value.slice (if c = k then _ else (some (Addr.mk g 0 none)).map (·.add (k * sz))) (n - k) (c - k) = _
  rw [if_neg (by omega)]
  have e : (Addr.mk g 0 none).add (k * sz) = ⟨g, k * sz, none⟩ := by unfold Addr.add; split <;> simp_all
  simp [e]

theorem run_copy_own {P : Program} {W : World} (dT ty e : TypeId) (size : Nat) (hu : P.underlying dT = some (.slice e)) (hs : (P.info? e).map (·.size) = some size) {base g N cap : Nat} {xs : List Value}
    (hown : W.ownsRow base e size (.slice (some ⟨g, 0, none⟩) N cap) N xs) (i dc : Nat) (a : Addr) (sLen sCap : Nat) (cs : List Value) (hn : cs.length = Nat.min sLen (N - i) * size) (hiN : i ≤ N)
    (hsrc : ∀ j v, cs[j]? = some v → W.cell? (a.add j) = some v) (h1 : ∀ v ∈ cs, v.oneCell' = true) :
    (Builtin.copy_ #[dT, dT] ty #[.slice (some ⟨g, i * size, none⟩) (N - i) dc, .slice (some a) sLen sCap]).run P W = .ok (goInt (Nat.min sLen (N - i))) (W.setCells g (i * size) cs) := by
  have hb : Nat.min sLen (N - i) * size ≤ (N - i) * size := Nat.mul_le_mul_right _ (Nat.min_le_right _ _)
  have hs2 : i * size + (N - i) * size = N * size := by rw [← Nat.add_mul]; congr 1; omega
  exact run_copy_el W dT dT ty e size g (i * size) (N - i) dc a sLen sCap cs hu hs hn hsrc (fun j hj => own_cell hown _ (by omega)) (fun j hj => hown.frozenAt _) h1

/-- copy into a row of the call's own, from somewhere in memory. -/
theorem wp_copy_own {P : Program} {W : World} {o : Oper} {act : Act} {K : Act → World → Prop} {Q : Exit → Act → World → Prop} (d s : Operand) (dT : TypeId) (e : TypeId) (size : Nat)
    (ho : o.op = .call { callee := .builtin .copy, args := #[d, s], argTypes := #[dT, dT] }) (hu : P.underlying dT = some (.slice e)) (hs : (P.info? e).map (·.size) = some size) {base g N cap : Nat} {xs : List Value}
    (i dc : Nat) (D : Value) (hd : act.eval d = D) (hD : D = .slice (some ⟨g, i * size, none⟩) (N - i) dc) (u : Value) (hx : act.eval s = u) (hown : W.ownsRow base e size (.slice (some ⟨g, 0, none⟩) N cap) N xs) (hiN : i ≤ N) (a : Addr) (sLen sCap : Nat) (hu' : u = .slice (some a) sLen sCap) (cs : List Value) (hn : cs.length = Nat.min sLen (N - i) * size)
    (hsrc : ∀ j v, cs[j]? = some v → W.cell? (a.add j) = some v) (h1 : ∀ v ∈ cs, v.oneCell' = true)
    (h : ∀ v' W', W'.ownsRow base e size (.slice (some ⟨g, 0, none⟩) N cap) N (putL xs (i * size) cs) → W.grownBy W' (some g) → K (act.put o.dst v') W') : o.wp P act W K Q := by
  subst hu' hD
  exact wp_copy_el W d s dT dT ho _ _ hd hx (run_copy_own dT o.type e size hu hs hown i dc a sLen sCap cs hn hiN hsrc h1) (h _ _ (own_setCells hown _ cs).1 (own_setCells hown _ cs).2)

theorem wpList_copy_own {P : Program} {W : World} {ops : Array Oper} {rest : List Oper} {o : Oper} {act : Act} {Q : Exit → Act → World → Prop} (hgd : o.guard = none) (d s : Operand) (dT : TypeId) (e : TypeId) (size : Nat)
    (ho : o.op = .call { callee := .builtin .copy, args := #[d, s], argTypes := #[dT, dT] }) (hu : P.underlying dT = some (.slice e)) (hs : (P.info? e).map (·.size) = some size) {base g N cap : Nat} {xs : List Value}
    (i dc : Nat) (D : Value) (hd : act.eval d = D) (hD : D = .slice (some ⟨g, i * size, none⟩) (N - i) dc) (u : Value) (hx : act.eval s = u) (hown : W.ownsRow base e size (.slice (some ⟨g, 0, none⟩) N cap) N xs) (hiN : i ≤ N) (a : Addr) (sLen sCap : Nat) (hu' : u = .slice (some a) sLen sCap) (cs : List Value) (hn : cs.length = Nat.min sLen (N - i) * size)
    (hsrc : ∀ j v, cs[j]? = some v → W.cell? (a.add j) = some v) (h1 : ∀ v ∈ cs, v.oneCell' = true)
    (h : ∀ v' W', W'.ownsRow base e size (.slice (some ⟨g, 0, none⟩) N cap) N (putL xs (i * size) cs) → W.grownBy W' (some g) → wpList P ops Q rest (act.put o.dst v') W') : wpList P ops Q (o :: rest) act W :=
  wpList_plain hgd fun _ hK => wp_copy_own d s dT e size ho hu hs i dc D hd hD u hx hown hiN a sLen sCap hu' cs hn hsrc h1 fun v' W' h2 h3 => hK _ _ (h v' W' h2 h3)

theorem step_copy_own {P : Program} {W : World} {ops : Array Oper} {o : Oper} {act : Act} {K : Act → World → Prop} {Q : Exit → Act → World → Prop} {E : Prop} (hg : o.guard = none) (d s : Operand) (dT : TypeId) (e : TypeId) (size : Nat)
    (ho : o.op = .call { callee := .builtin .copy, args := #[d, s], argTypes := #[dT, dT] }) (hu : P.underlying dT = some (.slice e)) (hs : (P.info? e).map (·.size) = some size) {base g N cap : Nat} {xs : List Value}
    (i dc : Nat) (D : Value) (hd : act.eval d = D) (hD : D = .slice (some ⟨g, i * size, none⟩) (N - i) dc) (u : Value) (hx : act.eval s = u) (hown : W.ownsRow base e size (.slice (some ⟨g, 0, none⟩) N cap) N xs) (hiN : i ≤ N) (a : Addr) (sLen sCap : Nat) (hu' : u = .slice (some a) sLen sCap) (cs : List Value) (hn : cs.length = Nat.min sLen (N - i) * size)
    (hsrc : ∀ j v, cs[j]? = some v → W.cell? (a.add j) = some v) (h1 : ∀ v ∈ cs, v.oneCell' = true)
    (h : ∀ v' W', W'.ownsRow base e size (.slice (some ⟨g, 0, none⟩) N cap) N (putL xs (i * size) cs) → W.grownBy W' (some g) → K (act.put o.dst v') W') :
    if Region.wanted o (yielded ops act.tmps) = true then Oper.wp P o act W K Q else E := by
  have hw : Region.wanted o (yielded ops act.tmps) = true := by simp [Region.wanted, hg]
  rw [if_pos hw]
  exact wp_copy_own d s dT e size ho hu hs i dc D hd hD u hx hown hiN a sLen sCap hu' cs hn hsrc h1 h

/-- The same as an equation, of a world that is known by its row alone. -/
theorem copy_own_eq {P : Program} {W : World} (dT e : TypeId) (size : Nat) (hu : P.underlying dT = some (.slice e)) (hs : (P.info? e).map (·.size) = some size) {base g N cap : Nat} {xs : List Value}
    (hown : W.ownsRow base e size (.slice (some ⟨g, 0, none⟩) N cap) N xs) (i : Nat) (D u : Value) (dc : Nat) (hD : D = .slice (some ⟨g, i * size, none⟩) (N - i) dc) (a : Addr) (sLen sCap : Nat) (hu' : u = .slice (some a) sLen sCap) (cs : List Value) (hn : cs.length = Nat.min sLen (N - i) * size) (hiN : i ≤ N)
    (hsrc : ∀ j v, cs[j]? = some v → W.cell? (a.add j) = some v) (h1 : ∀ v ∈ cs, v.oneCell' = true) :
    ∃ W' v', (∀ ty, (Builtin.copy_ #[dT, dT] ty #[D, u]).run P W = .ok v' W') ∧ W'.ownsRow base e size (.slice (some ⟨g, 0, none⟩) N cap) N (putL xs (i * size) cs) ∧ W.grownBy W' (some g) := by
  subst hu' hD
  exact ⟨_, _, fun ty => run_copy_own dT ty e size hu hs hown i dc a sLen sCap cs hn hiN hsrc h1, (own_setCells hown _ cs).1, (own_setCells hown _ cs).2⟩

theorem put_two (A Z B C : List Value) (hZ : Z.length = B.length + C.length) : putL (putL (A ++ Z) A.length B) (A.length + B.length) C = A ++ B ++ C := by
  have h1 : putL (A ++ Z) A.length B = A ++ B ++ Z.drop B.length := by
    rw [putL_eq _ _ _ (by simp; omega), List.take_left', List.drop_append]
    · simp
    · rfl
  rw [h1, putL_eq _ _ _ (by simp; omega)]
  rw [List.take_left' (by simp), List.drop_eq_nil_of_le (by simp; omega)]
  simp

theorem put_shift (A B Y C : List Value) (hY : Y.length = C.length) : putL (putL (A ++ B ++ Y) (A.length + C.length) B) A.length C = A ++ C ++ B := by
  obtain ⟨T, hT, h1⟩ : ∃ T, T.length = C.length ∧ putL (A ++ B ++ Y) (A.length + C.length) B = A ++ T ++ B := by
    refine ⟨(B ++ Y).take C.length, by simp; omega, ?_⟩
    rw [putL_eq _ _ _ (by simp; omega), List.drop_eq_nil_of_le (by simp; omega), List.append_assoc A B Y, List.take_append, List.take_of_length_le (by omega)]
    simp
  rw [h1, putL_eq _ _ _ (by simp; omega), List.append_assoc A T B, List.take_left' rfl, ← List.append_assoc A T B, List.drop_left' (by simp; omega)]

end Go.Proofs.Ythmdnemibdmhgaa.Fx
