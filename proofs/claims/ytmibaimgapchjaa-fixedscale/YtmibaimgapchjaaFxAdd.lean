/- Contracts of fixed.Add, of the document's Add and of awake: what they return, for every list of integers; old memory stays. -/
import Derived.Test.YtmibaimgapchjaaFxLeaf
import Derived.Below
namespace Go.Proofs.Ytmibaimgapchjaa.Fx
open Go.ChangeShapes Go.WideShapes Go.ChangeAt Go.RowKit

/-- The k-th integer of a list (a name that the walk leaves alone). -/
def gi (l : List Int) (k : Nat) : Int := l.getD k 0

/-- A slice value '.slice A n _' whose n elements are the integers l. -/
def IntsAt (w : World) (A : Option Addr) (n : Nat) (l : List Int) : Prop :=
  l.length = n ∧ (0 < n → ∃ b off, A = some ⟨b, off, none⟩ ∧ ∀ i, i < n → w.cell? ⟨b, off + i, none⟩ = some (.int .i64 (gi l i)))

/-- What is known of a slice of integers that came in: nil, or a row of 'cap' cells, the first 'len' of them its elements. -/
def IsRow (k : IntKind) (w : World) (a : Option Addr) (len cap : Nat) (zs : List Int) : Prop :=
  (a = none ∧ len = 0 ∧ cap = 0 ∧ zs = []) ∨
  ∃ x, a = some x ∧ len ≤ cap ∧ cap ≤ maxLen ∧ zs.length = cap ∧ (∀ i, i < zs.length → w.cell? (x.add i) = some (.int k (zs.getD i 0))) ∧ ∀ n ∈ zs, (Lit.int k n).wf = true

theorem IsRow.ints {w : World} {a : Option Addr} {len cap : Nat} {zs : List Int} (h : IsRow .i64 w a len cap zs) : IntsAt w a len (zs.take len) := by
  rcases h with ⟨rfl, rfl, rfl, rfl⟩ | ⟨x, rfl, hl, hm, hz, hcell, hwz⟩
  · exact ⟨rfl, fun h => absurd h (by omega)⟩
  · refine ⟨by rw [List.length_take]; omega, fun hp => ?_⟩
    obtain ⟨b, off, spot⟩ := x
    have hc := hcell 0 (by omega)
    have hspot : spot = none := by simpa [Addr.add] using World.cell?_spot hc
    subst hspot
    refine ⟨b, off, rfl, fun i hi => ?_⟩
    have h := hcell i (by omega)
    have e : (Addr.mk b off none).add i = ⟨b, off + i, none⟩ := by unfold Addr.add; split <;> simp_all
    rw [e] at h
    rw [h]
    simp [gi, hi]

theorem IntsAt.keep {w w' : World} {a : Option Addr} {n : Nat} {l : List Int} (h : IntsAt w a n l) (hk : ∀ p v, w.cell? p = some v → w'.cell? p = some v) : IntsAt w' a n l :=
  ⟨h.1, fun hn => by
    obtain ⟨b, off, e, hc⟩ := h.2 hn
    exact ⟨b, off, e, fun i hi => hk _ _ (hc i hi)⟩⟩
theorem IntsAt.below {w w' : World} {a : Option Addr} {n : Nat} {l : List Int} (h : IntsAt w a n l) (hb : Below w.heap.size w w') : IntsAt w' a n l :=
  h.keep fun _ _ hv => (hb.cell (World.block_lt_of_cell? _ _ hv)).trans hv

theorem ints_new (w : World) (T : TypeId) (l : List Int) : IntsAt (w.alloc (.cells (l.map (Value.int .i64)).toArray T)) (some ⟨w.heap.size, 0, none⟩) l.length l := by
  refine ⟨rfl, fun _ => ⟨_, _, rfl, fun i hi => ?_⟩⟩
  rw [Nat.zero_add, World.cell?_alloc_new]
  simp [gi, hi]

theorem ints_new2 (w : World) (T : TypeId) (a b : Int) (g : Nat) (hg : g = w.heap.size) : IntsAt (w.alloc (.cells #[.int .i64 a, .int .i64 b] T)) (some ⟨g, 0, none⟩) 2 [a, b] := by subst hg; exact ints_new w T [a, b]
theorem ints_new3 (w : World) (T : TypeId) (a b c : Int) (g : Nat) (hg : g = w.heap.size) : IntsAt (w.alloc (.cells #[.int .i64 a, .int .i64 b, .int .i64 c] T)) (some ⟨g, 0, none⟩) 3 [a, b, c] := by subst hg; exact ints_new w T [a, b, c]

def addl (l : List Int) : Int := l.foldl (fun s v => held (s + held v)) 0
theorem addl_snoc (l : List Int) (k : Nat) (h : k < l.length) : addl (l.take (k + 1)) = held (addl (l.take k) + held (gi l k)) := by
  unfold addl
  rw [List.take_succ_eq_append_getElem h, List.foldl_append]
  simp [gi, List.getD_eq_getElem?_getD, List.getElem?_eq_getElem h]
theorem addl_bd (l : List Int) : -2147483647 ≤ addl l ∧ addl l ≤ 2147483647 := by
  rcases List.eq_nil_or_concat l with rfl | ⟨x, y, rfl⟩
  · exact ⟨by decide, by decide⟩
  · unfold addl; rw [List.concat_eq_append, List.foldl_append]; exact held_bd _

theorem add_any (A : Option Addr) (n c : Nat) (l : List Int) (w : World) (hl : IntsAt w A n l) (hn : n ≤ 1000000000000000) :
    Calls Try.prog 15 #[.slice A n c] w fun e w' => e = .returned (.int .i64 (addl l)) ∧ w = w' := by
  obtain ⟨hlen, hat⟩ := hl
  have Hlen := Lib.hid hlen
  have Hat := Lib.hid hat
  clear hat hlen
  go_enter Try.func15, Try.ntmps15
  go_wp2
  go_loop [3, 8] (fun s i => ∃ k : Nat, k ≤ n ∧ i = .int .i64 k ∧ s = .int .i64 (addl (l.take k))) (fun _ i => n - (intOf i).toNat)
  case atStart => exact ⟨0, Nat.zero_le _, rfl, rfl⟩
  case round =>
    obtain ⟨k, hk, rfl, rfl⟩ := hrel
    by_cases hlt : k < n
    · obtain ⟨b, off, hA, hc⟩ := Hat.out (by omega)
      subst hA
      have hck := hc k hlt
      clear hc
      have hb1 := held_bd (gi l k)
      have hb2 := addl_bd (l.take k)
      have HS := Lib.hid (addl_snoc l k (by have := Hlen.out; omega))
      go_wp2_with (go_at_call 13; refine (held_any _ _).mono ?_; rintro e w' ⟨rfl, rfl⟩)
      go_round
      case rel => exact ⟨k + 1, by omega, by go_num, by rw [HS.out]⟩
      case measure => simp [intOf]; omega
    · go_wp2
      go_ret
      exact ⟨ret_int (by rw [List.take_of_length_le (by have := Hlen.out; omega)]), rfl⟩

theorem radd_any (A : Option Addr) (n c : Nat) (l : List Int) (w : World) (hl : IntsAt w A n l) (hn : n ≤ 1000000000000000) :
    Calls Try.prog 16 #[.slice A n c] w fun e w' => e = .returned (.int .i64 (addl l)) ∧ w = w' := by
  obtain ⟨hlen, hat⟩ := hl
  have Hlen := Lib.hid hlen
  have Hat := Lib.hid hat
  clear hat hlen
  go_enter Try.func16, Try.ntmps16
  go_wp2
  go_loop [3, 4] (fun s i => ∃ k : Nat, k ≤ n ∧ i = .int .i64 k ∧ s = .int .i64 (addl (l.take k))) (fun _ i => n - (intOf i).toNat)
  case atStart => exact ⟨0, Nat.zero_le _, rfl, rfl⟩
  case round =>
    obtain ⟨k, hk, rfl, rfl⟩ := hrel
    by_cases hlt : k < n
    · obtain ⟨b, off, hA, hc⟩ := Hat.out (by omega)
      subst hA
      have hck := hc k hlt
      clear hc
      have hb1 := held_bd (gi l k)
      have hb2 := addl_bd (l.take k)
      have HS := Lib.hid (addl_snoc l k (by have := Hlen.out; omega))
      go_wp2_with (go_at_call 14; refine (rheld_any _ _).mono ?_; rintro e w' ⟨rfl, rfl⟩)
      go_round
      case rel => exact ⟨k + 1, by omega, by go_num, by rw [HS.out]⟩
      case measure => simp [intOf]; omega
    · go_wp2
      go_ret
      exact ⟨ret_int (by rw [List.take_of_length_le (by have := Hlen.out; omega)]), rfl⟩

theorem addl3 : addl [1, 2, 3] = 6 := by decide +kernel
theorem far34 : far 0 0 3 (-4) = 4 := by decide +kernel
theorem scale73 : scale 7 3 2 = 10 := by decide +kernel

theorem awake_any (w : World) :
    Calls Try.prog 9 #[] w fun e w' => e = .returned (.bool true) ∧ Below w.heap.size w w' := by
  go_enter Try.func9, Try.ntmps9
  go_wp2_with fail
  refine (scale_some 7 3 2 (by decide) _).mono ?_
  rintro e w' ⟨rfl, rfl⟩
  rw [scale73]
  go_wp2_with fail
  refine (add_any _ 3 _ [1, 2, 3] _ (ints_new3 _ _ 1 2 3 _ (by simp)) (by decide)).mono ?_
  rintro e w' ⟨rfl, rfl⟩
  rw [addl3]
  go_wp2_with fail
  refine (far_any 0 0 3 (-4) _).mono ?_
  rintro e w' ⟨rfl, rfl⟩
  rw [far34]
  go_wp2
  go_ret
  exact ⟨rfl, (Below.refl _ _).alloc (Nat.le_refl _) _⟩

end Go.Proofs.Ytmibaimgapchjaa.Fx
