/- Messages and regions as numbers in bytes, plainly: what is packed is taken, and nothing else. Package cross's order: which of two stands ahead. -/
import Derived.Test.YtlpkaljepaclpaaGreatM03
import Derived.Test.YtlpkaljepaclpaaGreatM10
import Derived.Sort.Grow
namespace Go.Proofs.YtlpkaljepaclpaaGreat.Fx
open Go.ChangeShapes Go.WideShapes Go.ChangeAt Go.RowKit
set_option linter.unusedVariables false
set_option maxRecDepth 100000

def enN (e : Ent) : List Int := [e.id, e.kind, e.x, e.y, e.vx, e.vy, e.health, e.age, e.owner]
def crT (c : Crs) : List Int := if c.kind = 1 then enN c.e else [c.x, c.y]
def crN (c : Crs) : List Int := c.kind :: c.src :: c.dst :: c.frame :: crT c
def enP (e : Ent) : List Int := numsL (enN e)
def crP (c : Crs) : List Int := numsL (crN c)
def packM (l : List Crs) : List Int := nums l.length ++ l.flatMap crP
def packE (l : List Ent) : List Int := nums l.length ++ l.flatMap enP
def packB (f : Int) (es : List Ent) (l : List Crs) : List Int := nums f ++ (packE es ++ packM l)

theorem numsL_cons (x : Int) (l : List Int) : numsL (x :: l) = nums x ++ numsL l := by simp [numsL]
theorem numsL_nil : numsL [] = [] := rfl
theorem numsL_app (l m : List Int) : numsL (l ++ m) = numsL l ++ numsL m := by simp [numsL]

/-- A byte string of which a number is the only one. -/
theorem num_numV (l : List Int) (hok : ByOk l) (h1 : nlen l = l.length) (h2 : 0 < l.length) (h3 : 1 < l.length → gi l (l.length - 1) ≠ 0) : num (numV l).toNat = l := by
  induction l with
  | nil => simp at h2
  | cons x r ih =>
    have hx := hok x (List.mem_cons_self ..)
    have hr : ByOk r := fun y hy => hok y (List.mem_cons_of_mem _ hy)
    have hb := numV_bd r
    by_cases hs : x < 128
    · rw [nlen_lt hs, List.length_cons] at h1
      obtain rfl : r = [] := List.eq_nil_of_length_eq_zero (by omega)
      simp only [numV]
      rw [num_lt (by omega)]
      congr 1
      omega
    · have hn0 : nlen r ≠ 0 := by
        intro h0
        have : nlen (x :: r) = 0 := by
          unfold nlen at h0 ⊢
          rw [List.findIdx?_cons, if_neg (by simpa using hs)]
          cases h : r.findIdx? (fun c => decide (c < 128)) with
          | none => rfl
          | some k => rw [h] at h0; simp at h0
        rw [this] at h1; simp at h1
      rw [nlen_ge hs hn0, List.length_cons] at h1
      have hr1 : nlen r = r.length := by omega
      have hr2 : 0 < r.length := by omega
      have h4 := h3 (by rw [List.length_cons]; omega)
      rw [List.length_cons, Nat.add_sub_cancel] at h4
      have hl : gi r (r.length - 1) ≠ 0 := by
        rw [show r.length = (r.length - 1) + 1 by omega] at h4
        simpa [gi] using h4
      have ih := ih hr hr1 hr2 (fun _ => hl)
      have hpos : 1 ≤ numV r := by
        apply Int.not_lt.1
        intro hlt
        have hz : numV r = 0 := by omega
        rw [hz] at ih
        rw [show (0 : Int).toNat = 0 from rfl, num_lt (by omega)] at ih
        rw [← ih] at hl
        simp [gi] at hl
      simp only [numV]
      rw [num_ge (by omega)]
      congr 1
      · omega
      · rw [show (x % 128 + 128 * numV r).toNat / 128 = (numV r).toNat by omega]; exact ih

theorem zig_zag {u : Int} (h : 0 ≤ u) : zig (zag u) = u := by unfold zig zag; split <;> split <;> omega
theorem zag_bd {u : Int} (h : 0 ≤ u ∧ u ≤ 9223372036854775807) : -4611686018427387904 ≤ zag u ∧ zag u ≤ 4611686018427387903 := by unfold zag; split <;> omega

theorem ByOk.tk {l : List Int} (h : ByOk l) (n : Nat) : ByOk (l.take n) := fun x hx => h x (List.mem_of_mem_take hx)
theorem ByOk.dr {l : List Int} (h : ByOk l) (n : Nat) : ByOk (l.drop n) := fun x hx => h x (List.mem_of_mem_drop hx)

theorem nlen_take (l : List Int) : nlen (l.take (nlen l)) = nlen l := by
  induction l with
  | nil => rfl
  | cons x r ih =>
    by_cases hs : x < 128
    · rw [nlen_lt hs]; show nlen [x] = 1; exact nlen_lt hs
    · by_cases h0 : nlen r = 0
      · have h : nlen (x :: r) = 0 := by
          unfold nlen at h0 ⊢
          rw [List.findIdx?_cons, if_neg (by simpa using hs)]
          cases h : r.findIdx? (fun c => decide (c < 128)) with
          | none => rfl
          | some k => rw [h] at h0; simp at h0
        rw [h]; rfl
      · rw [nlen_ge hs h0, List.take_succ_cons, nlen_ge hs (by rw [ih]; exact h0), ih]

/-- A number that was read without a fault: it stood there. -/
theorem int_inv {r : Rd} (hok : ByOk r.l) (h : r.int.2.e = 0) : r.e = 0 ∧ r.l = nums r.int.1 ++ r.int.2.l ∧ hold r.int.1 = r.int.1 ∧ ByOk r.int.2.l := by
  unfold Rd.int at h ⊢
  split at h
  · rename_i h1; exact absurd h h1
  · rename_i h1
    rw [if_neg h1]
    split at h
    · simp at h
    · rename_i h2
      rw [if_neg h2]
      split at h
      · simp at h
      · rename_i h3
        rw [if_neg h3]
        have hle := nlen_le r.l
        have hln : (r.l.take (nlen r.l)).length = nlen r.l := by rw [List.length_take]; omega
        have hT := num_numV (r.l.take (nlen r.l)) (hok.tk _) (by rw [nlen_take, hln]) (by omega) (by
          rw [hln]
          intro h4 h5
          apply h3
          refine .inr ⟨h4, ?_⟩
          rw [← h5]
          simp only [gi, List.getD_eq_getElem?_getD]
          rw [List.getElem?_take, if_pos (by omega)])
        have hb := numV_bd (r.l.take (nlen r.l))
        have h9 : numV (r.l.take (nlen r.l)) ≤ 9223372036854775807 := by
          rw [hln] at hb
          have : (128 : Int) ^ (nlen r.l) ≤ 128 ^ 9 := by
            have : (128 : Nat) ^ (nlen r.l) ≤ 128 ^ 9 := Nat.pow_le_pow_right (by omega) (by omega)
            exact_mod_cast this
          omega
        have hh : hold (zag (numV (r.l.take (nlen r.l)))) = zag (numV (r.l.take (nlen r.l))) := hold_in (zag_bd ⟨hb.1, h9⟩)
        refine ⟨by omega, ?_, hh, hok.dr _⟩
        show r.l = nums _ ++ _
        unfold nums
        rw [hh, zig_zag hb.1, hT, List.take_append_drop]

theorem int_stuck {r : Rd} (h : r.e ≠ 0) : r.int = (0, r) := by unfold Rd.int; rw [if_pos h]

/-- k numbers farther. -/
def Rd.nx (r : Rd) : Nat → Rd | 0 => r | k + 1 => (r.nx k).int.2
def Rd.num (r : Rd) (k : Nat) : Int := (r.nx k).int.1

theorem nx_inv {r : Rd} (hok : ByOk r.l) (k : Nat) (h : (r.nx k).e = 0) : r.e = 0 ∧ r.l = numsL ((List.range k).map r.num) ++ (r.nx k).l ∧ (∀ i, i < k → hold (r.num i) = r.num i) ∧ ByOk (r.nx k).l := by
  induction k with
  | zero => exact ⟨h, rfl, fun i hi => absurd hi (by omega), hok⟩
  | succ k ih =>
    have hst : (r.nx k).e = 0 := by
      apply Decidable.byContradiction
      intro hc
      have : (r.nx (k + 1)).e = (r.nx k).e := by show (r.nx k).int.2.e = _; rw [int_stuck hc]
      exact hc (this ▸ h)
    obtain ⟨h1, h2, h3, h4⟩ := ih hst
    obtain ⟨-, h6, h7, h8⟩ := int_inv h4 (show (r.nx k).int.2.e = 0 from h)
    refine ⟨h1, ?_, fun i hi => ?_, h8⟩
    · rw [List.range_succ, List.map_append, numsL_app, List.append_assoc, List.map_singleton, numsL_cons, numsL_nil, List.append_nil]
      exact h2.trans (by rw [h6]; rfl)
    · by_cases e : i = k
      · subst e; exact h7
      · exact h3 i (by omega)

def Rd.bad (r : Rd) : Rd := if r.e = 0 then ⟨[], 4⟩ else r
def Rd.ent (r : Rd) : Ent × Rd := (⟨r.num 0, r.num 1, r.num 2, r.num 3, r.num 4, r.num 5, r.num 6, r.num 7, r.num 8⟩, r.nx 9)
def Rd.crs (r : Rd) : Crs × Rd :=
  if r.num 0 = 1 then (⟨r.num 0, r.num 1, r.num 2, r.num 3, (r.nx 4).ent.1, 0, 0⟩, (r.nx 4).ent.2)
  else if r.num 0 = 2 then (⟨r.num 0, r.num 1, r.num 2, r.num 3, e0, (r.nx 4).num 0, (r.nx 4).num 1⟩, (r.nx 4).nx 2)
  else (⟨r.num 0, r.num 1, r.num 2, r.num 3, e0, 0, 0⟩, (r.nx 4).bad)
def Rd.many {α : Type} (one : Rd → α × Rd) : Nat → Rd → List α × Rd
  | 0, r => ([], r)
  | n + 1, r => if r.e ≠ 0 then ([], r) else ((one r).1 :: (Rd.many one n (one r).2).1, (Rd.many one n (one r).2).2)
def Rd.list {α : Type} (one : Rd → α × Rd) (r : Rd) : List α × Rd := Rd.many one (r.count 1000).1.toNat (r.count 1000).2

/-- What one writes, and reads. -/
structure Codes {α : Type} (enc : α → List Int) (one : Rd → α × Rd) (fit : α → Prop) : Prop where
  inv : ∀ r : Rd, ByOk r.l → (one r).2.e = 0 → r.e = 0 ∧ r.l = enc (one r).1 ++ (one r).2.l ∧ ByOk (one r).2.l
  fwd : ∀ (x : α) (t : List Int), fit x → one ⟨enc x ++ t, 0⟩ = (x, ⟨t, 0⟩)

def EnFit (e : Ent) : Prop := ∀ v ∈ enN e, hold v = v
def CrFit (c : Crs) : Prop := (∀ v ∈ crN c, hold v = v) ∧ (c.kind = 1 ∧ c.x = 0 ∧ c.y = 0 ∨ c.kind = 2 ∧ c.e = e0)

theorem nx_fwd (l : List Int) (t : List Int) (h : ∀ v ∈ l, hold v = v) (k : Nat) (hk : k ≤ l.length) : (Rd.mk (numsL l ++ t) 0).nx k = ⟨numsL (l.drop k) ++ t, 0⟩ := by
  induction k with
  | zero => rfl
  | succ k ih =>
    show ((Rd.mk (numsL l ++ t) 0).nx k).int.2 = _
    rw [ih (by omega)]
    obtain ⟨x, hx⟩ := getE l k _ rfl (by omega)
    rw [drop_at hx, numsL_cons, List.append_assoc, int_nums]

theorem num_fwd (l : List Int) (t : List Int) (h : ∀ v ∈ l, hold v = v) (k : Nat) (x : Int) (hx : l[k]? = some x) : (Rd.mk (numsL l ++ t) 0).num k = x := by
  have hk := (List.getElem?_eq_some_iff.1 hx).1
  show ((Rd.mk (numsL l ++ t) 0).nx k).int.1 = x
  rw [nx_fwd l t h k (by omega), drop_at hx, numsL_cons, List.append_assoc, int_nums]
  exact h x (List.mem_of_getElem? hx)

theorem ent_codes : Codes enP Rd.ent EnFit where
  inv r hok h := by
    obtain ⟨h1, h2, -, h4⟩ := nx_inv hok 9 h
    exact ⟨h1, h2, h4⟩
  fwd e t h := by
    have hn := num_fwd (enN e) t h
    unfold Rd.ent enP
    rw [hn 0 _ rfl, hn 1 _ rfl, hn 2 _ rfl, hn 3 _ rfl, hn 4 _ rfl, hn 5 _ rfl, hn 6 _ rfl, hn 7 _ rfl, hn 8 _ rfl, nx_fwd (enN e) t h 9 (Nat.le_refl _)]
    rfl

theorem crs_codes : Codes crP Rd.crs CrFit where
  inv r hok h := by
    unfold Rd.crs at h ⊢
    by_cases h1 : r.num 0 = 1
    · rw [if_pos h1] at h ⊢
      obtain ⟨a1, a2, a3⟩ := ent_codes.inv (r.nx 4) (by
        by_cases h4 : (r.nx 4).e = 0
        · exact (nx_inv hok 4 h4).2.2.2
        · exfalso
          have : ∀ k, (r.nx 4).nx k = r.nx 4 := fun k => by
            induction k with
            | zero => rfl
            | succ k ih => show ((r.nx 4).nx k).int.2 = _; rw [ih, int_stuck h4]
          exact h4 (by have := this 9; have h' : ((r.nx 4).nx 9).e = 0 := h; rw [this] at h'; exact h')) h
      obtain ⟨b1, b2, -, -⟩ := nx_inv hok 4 a1
      refine ⟨b1, ?_, a3⟩
      rw [b2, a2]
      show numsL _ ++ (enP _ ++ _) = crP _ ++ _
      unfold crP crN crT
      rw [if_pos h1]
      rw [← List.append_assoc]
      congr 1
      show numsL [r.num 0, r.num 1, r.num 2, r.num 3] ++ numsL _ = _
      rw [← numsL_app]
      rfl
    · rw [if_neg h1] at h ⊢
      by_cases h2 : r.num 0 = 2
      · rw [if_pos h2] at h ⊢
        have hst : ((r.nx 4)).e = 0 := by
          apply Decidable.byContradiction
          intro h4
          have : ∀ k, (r.nx 4).nx k = r.nx 4 := fun k => by
            induction k with
            | zero => rfl
            | succ k ih => show ((r.nx 4).nx k).int.2 = _; rw [ih, int_stuck h4]
          exact h4 (by have := this 2; have h' : ((r.nx 4).nx 2).e = 0 := h; rw [this] at h'; exact h')
        obtain ⟨b1, b2, -, b4⟩ := nx_inv hok 4 hst
        obtain ⟨-, c2, -, c4⟩ := nx_inv b4 2 h
        refine ⟨b1, ?_, c4⟩
        rw [b2, c2]
        show numsL _ ++ (numsL _ ++ _) = crP _ ++ _
        unfold crP crN crT
        rw [if_neg h1, ← List.append_assoc]
        congr 1
        show numsL [r.num 0, r.num 1, r.num 2, r.num 3] ++ numsL _ = _
        rw [← numsL_app]
        rfl
      · rw [if_neg h2] at h
        exfalso
        unfold Rd.bad at h
        simp only [] at h
        split at h
        · simp at h
        · rename_i h5; exact h5 h
  fwd c t hc := by
    obtain ⟨hf, hk⟩ := hc
    have hn := num_fwd (crN c) t hf
    have n0 := hn 0 _ rfl
    have n1 := hn 1 _ rfl
    have n2 := hn 2 _ rfl
    have n3 := hn 3 _ rfl
    have n4 := nx_fwd (crN c) t hf 4 (by simp [crN])
    rw [show (crN c).drop 4 = crT c from rfl] at n4
    have hT : ∀ v ∈ crT c, hold v = v := fun v hv => hf v (by simp [crN, hv])
    unfold Rd.crs crP
    rcases hk with ⟨hk, hx, hy⟩ | ⟨hk, he⟩
    · have hT1 : crT c = enN c.e := by unfold crT; rw [if_pos hk]
      rw [hT1] at n4 hT
      rw [n0, if_pos hk, n1, n2, n3, n4]
      have := ent_codes.fwd c.e t hT
      unfold enP at this
      rw [this]
      cases c
      simp at hx hy
      simp [hx, hy]
    · have hT1 : crT c = [c.x, c.y] := by unfold crT; rw [if_neg (by omega)]
      rw [hT1] at n4 hT
      have m0 := num_fwd [c.x, c.y] t hT 0 _ rfl
      have m1 := num_fwd [c.x, c.y] t hT 1 _ rfl
      have m2 := nx_fwd [c.x, c.y] t hT 2 (by simp)
      rw [n0, if_neg (by omega), if_pos hk, n1, n2, n3, n4, m0, m1, m2]
      cases c
      simp at he
      simp [he, numsL_nil]

theorem many_inv {α : Type} {enc : α → List Int} {one : Rd → α × Rd} {fit : α → Prop} (hc : Codes enc one fit) (n : Nat) : ∀ r : Rd, ByOk r.l → (Rd.many one n r).2.e = 0 → r.e = 0 ∧ r.l = (Rd.many one n r).1.flatMap enc ++ (Rd.many one n r).2.l ∧ ByOk (Rd.many one n r).2.l ∧ (Rd.many one n r).1.length = n := by
  induction n with
  | zero => intro r hok h; exact ⟨h, rfl, hok, rfl⟩
  | succ n ih =>
    intro r hok h
    unfold Rd.many at h ⊢
    by_cases h1 : r.e ≠ 0
    · rw [if_pos h1] at h; exact absurd h h1
    · rw [if_neg h1] at h ⊢
      have hone : (one r).2.e = 0 := by
        apply Decidable.byContradiction
        intro hx
        have : Rd.many one n (one r).2 = ([], (one r).2) := by
          cases n with
          | zero => rfl
          | succ n => unfold Rd.many; rw [if_pos hx]
        rw [this] at h
        exact hx h
      obtain ⟨-, a2, a3⟩ := hc.inv r hok hone
      obtain ⟨-, b2, b3, b4⟩ := ih _ a3 h
      refine ⟨by omega, ?_, b3, by simp [b4]⟩
      rw [List.flatMap_cons, List.append_assoc, ← b2]
      exact a2

theorem many_fwd {α : Type} {enc : α → List Int} {one : Rd → α × Rd} {fit : α → Prop} (hc : Codes enc one fit) (l : List α) (t : List Int) (hf : ∀ x ∈ l, fit x) : Rd.many one l.length ⟨l.flatMap enc ++ t, 0⟩ = (l, ⟨t, 0⟩) := by
  induction l with
  | nil => rfl
  | cons x l ih =>
    rw [List.length_cons]
    unfold Rd.many
    rw [if_neg (by simp), List.flatMap_cons, List.append_assoc, hc.fwd x _ (hf x (List.mem_cons_self ..)), ih fun y hy => hf y (List.mem_cons_of_mem _ hy)]

theorem count_inv {r : Rd} {q : Int} (hok : ByOk r.l) (h : (r.count q).2.e = 0) : r.e = 0 ∧ r.l = nums (r.count q).1 ++ (r.count q).2.l ∧ 0 ≤ (r.count q).1 ∧ (r.count q).1 ≤ q ∧ ByOk (r.count q).2.l := by
  unfold Rd.count at h ⊢
  split at h
  · simp at h
  · rename_i h1
    rw [if_neg h1]
    obtain ⟨a1, a2, -, a4⟩ := int_inv hok h
    have : ¬ (r.int.1 < 0 ∨ q < r.int.1) := fun h2 => h1 ⟨h, h2⟩
    exact ⟨a1, a2, by omega, by omega, a4⟩

theorem count_fwd (n : Nat) (t : List Int) (hn : n ≤ 1000) : (Rd.mk (nums n ++ t) 0).count 1000 = ((n : Int), ⟨t, 0⟩) := by
  unfold Rd.count
  rw [int_nums, hold_in (by omega)]
  simp only []
  rw [if_neg (by omega)]

theorem many_stuck {α : Type} {one : Rd → α × Rd} (n : Nat) {r : Rd} (h : r.e ≠ 0) : Rd.many one n r = ([], r) := by
  cases n with
  | zero => rfl
  | succ n => unfold Rd.many; rw [if_pos h]

theorem list_inv {α : Type} {enc : α → List Int} {one : Rd → α × Rd} {fit : α → Prop} (hc : Codes enc one fit) {r : Rd} (hok : ByOk r.l) (h : (Rd.list one r).2.e = 0) : r.e = 0 ∧ r.l = nums (Rd.list one r).1.length ++ ((Rd.list one r).1.flatMap enc ++ (Rd.list one r).2.l) ∧ ByOk (Rd.list one r).2.l ∧ (Rd.list one r).1.length ≤ 1000 := by
  unfold Rd.list at h ⊢
  have hce : (r.count 1000).2.e = 0 := by
    apply Decidable.byContradiction
    intro hx
    rw [many_stuck _ hx] at h
    exact hx h
  obtain ⟨a1, a2, a3, a4, a5⟩ := count_inv hok hce
  obtain ⟨-, b2, b3, b4⟩ := many_inv hc _ _ a5 h
  refine ⟨a1, ?_, b3, by rw [b4]; omega⟩
  rw [← b2, b4, Int.toNat_of_nonneg a3]
  exact a2

theorem list_fwd {α : Type} {enc : α → List Int} {one : Rd → α × Rd} {fit : α → Prop} (hc : Codes enc one fit) (l : List α) (t : List Int) (hn : l.length ≤ 1000) (hf : ∀ x ∈ l, fit x) : Rd.list one ⟨nums l.length ++ (l.flatMap enc ++ t), 0⟩ = (l, ⟨t, 0⟩) := by
  unfold Rd.list
  rw [count_fwd _ _ hn]
  show Rd.many one ((l.length : Int)).toNat _ = _
  rw [Int.toNat_natCast, many_fwd hc l t hf]

theorem list_stuck {α : Type} {one : Rd → α × Rd} {r : Rd} (h : r.e ≠ 0) : Rd.list one r = ([], r) := by
  unfold Rd.list Rd.count
  rw [int_stuck h, if_neg (by simp [h])]
  exact many_stuck _ h

/-- What TakeCross answers. -/
def tkC (a b p n : Int) (x : List Int) : List Crs × Int :=
  if (Rd.list Rd.crs ⟨x, 0⟩).2.e ≠ 0 then ([], (Rd.list Rd.crs ⟨x, 0⟩).2.e)
  else if (Rd.list Rd.crs ⟨x, 0⟩).2.l ≠ [] then ([], 4)
  else if (Rd.list Rd.crs ⟨x, 0⟩).1.all (crightB a b p n) then ((Rd.list Rd.crs ⟨x, 0⟩).1, 0) else ([], 4)

/-- A base's three parts, as they are read. -/
structure Rb where
  f : Int
  es : List Ent
  l : List Crs
def Rd.base (r : Rd) : Rb × Rd := (⟨r.int.1, (Rd.list Rd.ent r.int.2).1, (Rd.list Rd.crs (Rd.list Rd.ent r.int.2).2).1⟩, (Rd.list Rd.crs (Rd.list Rd.ent r.int.2).2).2)
theorem listC_eq {x : List Int} (hok : ByOk x) (h : (Rd.list Rd.crs ⟨x, 0⟩).2.e = 0) : x = packM (Rd.list Rd.crs ⟨x, 0⟩).1 ++ (Rd.list Rd.crs ⟨x, 0⟩).2.l := by
  have := (list_inv crs_codes (r := ⟨x, 0⟩) hok h).2.1
  unfold packM
  rw [List.append_assoc]
  exact this

theorem base_eq {x : List Int} (hok : ByOk x) (h : (Rd.base ⟨x, 0⟩).2.e = 0) : x = packB (Rd.base ⟨x, 0⟩).1.f (Rd.base ⟨x, 0⟩).1.es (Rd.base ⟨x, 0⟩).1.l ++ (Rd.base ⟨x, 0⟩).2.l := by
  unfold Rd.base at h ⊢
  simp only [] at h ⊢
  generalize hI : (Rd.mk x 0).int = I at *
  have h1 : (Rd.list Rd.ent I.2).2.e = 0 := by
    apply Decidable.byContradiction
    intro hx
    rw [list_stuck hx] at h
    exact hx h
  have h2 : I.2.e = 0 := by
    apply Decidable.byContradiction
    intro hx
    rw [list_stuck hx] at h1
    exact hx h1
  obtain ⟨-, a2, -, a4⟩ := int_inv (r := ⟨x, 0⟩) hok (by rw [hI]; exact h2)
  rw [hI] at a2 a4
  obtain ⟨-, b2, b3, -⟩ := list_inv ent_codes a4 h1
  obtain ⟨-, c2, -, -⟩ := list_inv crs_codes b3 h
  unfold packB packE packM
  have a2 : x = nums I.1 ++ I.2.l := a2
  simp only [List.append_assoc]
  rw [← c2, ← b2]
  exact a2

theorem base_fwd (f : Int) (es : List Ent) (l : List Crs) (t : List Int) (hf : hold f = f) (he : ∀ e ∈ es, EnFit e) (hl : ∀ c ∈ l, CrFit c) (hn : es.length ≤ 1000) (hm : l.length ≤ 1000) : Rd.base ⟨packB f es l ++ t, 0⟩ = (⟨f, es, l⟩, ⟨t, 0⟩) := by
  unfold Rd.base packB packE packM
  simp only [List.append_assoc]
  rw [int_nums, hf, list_fwd ent_codes es _ hn he, list_fwd crs_codes l t hm hl]

theorem eok_fit {a b p n : Int} (hrt : rt a b p n = true) {e : Ent} (h : erightB a b p n e = true) : EnFit e := by
  unfold erightB at h
  rw [Bool.and_eq_true] at h
  obtain ⟨h1, h2⟩ := h
  obtain ⟨ha, ha4, hb, hb4, hp, hp6, -⟩ := rt_bd hrt
  have hin : 0 ≤ e.x ∧ e.x < 4096 ∧ 0 ≤ e.y ∧ e.y < 4096 := by simp [ins, wid, hei, hrt] at h1; omega
  unfold eok at h2
  intro v hv
  refine hold_in ?_
  simp [enN] at hv
  split at h2
  · simp [wi] at h2; rcases hv with rfl | rfl | rfl | rfl | rfl | rfl | rfl | rfl | rfl <;> omega
  · split at h2
    · simp [wi, stp] at h2; rcases hv with rfl | rfl | rfl | rfl | rfl | rfl | rfl | rfl | rfl <;> omega
    · split at h2
      · simp [wi] at h2; rcases hv with rfl | rfl | rfl | rfl | rfl | rfl | rfl | rfl | rfl <;> omega
      · simp at h2

end Go.Proofs.YtlpkaljepaclpaaGreat.Fx
namespace Go.Proofs.YtlpkaljepaclpaaGreat.Fx
open Go.ChangeShapes Go.WideShapes Go.ChangeAt Go.RowKit Go.Sort
set_option linter.unusedVariables false
set_option maxRecDepth 100000

/-- Does a stand ahead of b? -/
def lessB (a b : Crs) : Bool :=
  if a.dst = b.dst then (if a.kind = b.kind then (if a.kind = 1 then decide (a.e.id < b.e.id) else if a.x = b.x then decide (a.y < b.y) else decide (a.x < b.x)) else decide (a.kind < b.kind)) else decide (a.dst < b.dst)

theorem lessB_iff (a b : Crs) : lessB a b = true ↔ (a.dst < b.dst ∨ a.dst = b.dst ∧ (a.kind < b.kind ∨ a.kind = b.kind ∧ (a.kind = 1 ∧ a.e.id < b.e.id ∨ a.kind ≠ 1 ∧ (a.x < b.x ∨ a.x = b.x ∧ a.y < b.y)))) := by
  unfold lessB
  repeat' split
  all_goals (simp only [decide_eq_true_eq]; omega)

theorem grown2 (w : World) (a b : Obj) : (w.alloc a).alloc b = grow w (#[a] ++ #[b]) := by rw [alloc_eq_grow, alloc_eq_grow, grow_grow]

theorem below_grow0 (w : World) (os : Array Obj) : RowKit.Below w.heap.size w (grow w os) :=
  ⟨rfl, rfl, rfl, by rw [size_grow]; omega, fun k hk => heap_grow_old w os hk⟩

set_option maxHeartbeats 1000000 in
theorem less_grow (a b : Crs) (w : World) :
    Calls Tryz.prog 156 #[.agg #[.int .i64 a.kind, .int .i64 a.src, .int .i64 a.dst, .int .i64 a.frame, .int .i64 a.e.id, .int .i64 a.e.kind, .int .i64 a.e.x, .int .i64 a.e.y, .int .i64 a.e.vx, .int .i64 a.e.vy, .int .i64 a.e.health, .int .i64 a.e.age, .int .i64 a.e.owner, .int .i64 a.x, .int .i64 a.y], .agg #[.int .i64 b.kind, .int .i64 b.src, .int .i64 b.dst, .int .i64 b.frame, .int .i64 b.e.id, .int .i64 b.e.kind, .int .i64 b.e.x, .int .i64 b.e.y, .int .i64 b.e.vx, .int .i64 b.e.vy, .int .i64 b.e.health, .int .i64 b.e.age, .int .i64 b.e.owner, .int .i64 b.x, .int .i64 b.y]] w
      fun e w' => e = .returned (.bool (lessB a b)) ∧ ∃ os, w' = grow w os := by
  have HB := Lib.hid (lessB_iff a b)
  go_enter Tryz.func156, Tryz.ntmps156
  go_wp2
  all_goals go_ret
  all_goals (refine ⟨ret_bool ?_, _, grown2 _ _ _⟩; rw [HB.out]; simp only [bne_iff_ne, ne_eq, beq_iff_eq, bne_eq_false_iff_eq, beq_eq_false_iff_ne, decide_eq_true_eq] at *; omega)

set_option maxHeartbeats 1000000 in
theorem less_any (a b : Crs) (w : World) :
    Calls Tryz.prog 156 #[.agg #[.int .i64 a.kind, .int .i64 a.src, .int .i64 a.dst, .int .i64 a.frame, .int .i64 a.e.id, .int .i64 a.e.kind, .int .i64 a.e.x, .int .i64 a.e.y, .int .i64 a.e.vx, .int .i64 a.e.vy, .int .i64 a.e.health, .int .i64 a.e.age, .int .i64 a.e.owner, .int .i64 a.x, .int .i64 a.y], .agg #[.int .i64 b.kind, .int .i64 b.src, .int .i64 b.dst, .int .i64 b.frame, .int .i64 b.e.id, .int .i64 b.e.kind, .int .i64 b.e.x, .int .i64 b.e.y, .int .i64 b.e.vx, .int .i64 b.e.vy, .int .i64 b.e.health, .int .i64 b.e.age, .int .i64 b.e.owner, .int .i64 b.x, .int .i64 b.y]] w
      fun e w' => e = .returned (.bool (lessB a b)) ∧ RowKit.Below w.heap.size w w' :=
  (less_grow a b w).mono fun _ _ ⟨h, os, hw⟩ => ⟨h, by rw [hw]; exact below_grow0 w os⟩

set_option maxHeartbeats 1000000 in
theorem rless_any (a b : Crs) (w : World) :
    Calls Tryz.prog 90 #[.agg #[.int .i64 a.kind, .int .i64 a.src, .int .i64 a.dst, .int .i64 a.frame, .int .i64 a.e.id, .int .i64 a.e.kind, .int .i64 a.e.x, .int .i64 a.e.y, .int .i64 a.e.vx, .int .i64 a.e.vy, .int .i64 a.e.health, .int .i64 a.e.age, .int .i64 a.e.owner, .int .i64 a.x, .int .i64 a.y], .agg #[.int .i64 b.kind, .int .i64 b.src, .int .i64 b.dst, .int .i64 b.frame, .int .i64 b.e.id, .int .i64 b.e.kind, .int .i64 b.e.x, .int .i64 b.e.y, .int .i64 b.e.vx, .int .i64 b.e.vy, .int .i64 b.e.health, .int .i64 b.e.age, .int .i64 b.e.owner, .int .i64 b.x, .int .i64 b.y]] w
      fun e w' => e = .returned (.bool (lessB a b)) ∧ RowKit.Below w.heap.size w w' := by
  have HB := Lib.hid (lessB_iff a b)
  go_enter Tryz.func90, Tryz.ntmps90
  go_wp2
  all_goals go_ret
  all_goals (refine ⟨ret_bool ?_, ((Below.refl _ _).alloc (Nat.le_refl _) _).alloc (by simp) _⟩; rw [HB.out]; simp only [bne_iff_ne, ne_eq, beq_iff_eq, bne_eq_false_iff_eq, beq_eq_false_iff_ne, decide_eq_true_eq] at *; omega)

end Go.Proofs.YtlpkaljepaclpaaGreat.Fx
