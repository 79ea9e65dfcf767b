/- Contracts of the statements' helpers over slices of integers (Own, Kept, Plain, Same): what they return; old memory stays. -/
import Derived.Test.YtoghnjbajhnpiaaGMem
import Derived.OwnWalk
import Derived.Deep.QuietTactic
import Derived.BigQuiet
namespace Go.Proofs.Ytoghnjbajhnpiaa.Fx
open Go.ChangeShapes Go.WideShapes Go.ChangeAt Go.RowKit

/-- Block g is known whole. -/
def Row (w : World) (g : Nat) (t : TypeId) (cur : Array Value) : Prop := w.heap[g]? = some (.cells cur t (0, 0))
theorem Row.cell {w : World} {g : Nat} {t : TypeId} {cur : Array Value} (h : Row w g t cur) (i : Nat) : w.cell? ⟨g, i, none⟩ = cur[i]? := cell_of_row w g i cur t (0, 0) h
theorem Row.frozen {w : World} {g : Nat} {t : TypeId} {cur : Array Value} (h : Row w g t cur) (i : Nat) : w.frozen? ⟨g, i, none⟩ = false := by
  unfold Row at h; simp [World.frozen?, h]
theorem Row.put {w : World} {g : Nat} {t : TypeId} {cur : Array Value} (h : Row w g t cur) (i : Nat) (u : Value) : Row (w.setCell ⟨g, i, none⟩ u) g t (cur.setIfInBounds i u) := by
  unfold Row at h ⊢; simp [World.setCell, Array.getElem?_modify, h]
theorem Row.of_own {w : World} {base : Nat} {e : TypeId} {g n cap : Nat} {xs : List Value} (h : w.ownsRow base e 1 (.slice (some ⟨g, 0, none⟩) n cap) n xs) :
    ∃ cur, Row w g e cur ∧ cur.size = cap ∧ base ≤ g ∧ ∀ (i : Nat) (u : Value), xs[i]? = some u → cur[i]? = some u := by
  rcases h.2 with ⟨hv, _⟩ | ⟨g', cap', cur, hv, hb, hh, hn, hm, hs, ht⟩
  · cases hv
  · simp at hv
    obtain ⟨rfl, rfl⟩ := hv
    refine ⟨cur, hh, by omega, hb, fun i u hu => ?_⟩
    rw [← ht] at hu
    rw [List.getElem?_take] at hu
    split at hu
    · simpa using hu
    · cases hu

/-- What Own leaves: a new row g of n + 3 cells, the list and then three times f. -/
def Owned (w w' : World) (g n : Nat) (l : List Int) (f : Int) : Prop :=
  Below w.heap.size w w' ∧ w.heap.size ≤ g ∧ ∃ cur, Row w' g 3 cur ∧ cur.size = n + 3 ∧ (∀ i, i < n → cur[i]? = some (.int .i64 (gi l i))) ∧ ∀ i, n ≤ i → i < n + 3 → cur[i]? = some (.int .i64 f)

theorem quiet_keeps {P : Program} {f : FuncId} {args : Array Value} {w : World} {n : Nat} {v : Value}
    (h : Calls P f args (w.drewN n) fun e w' => e = .returned v ∧ w.drewN n = w') : Calls P f args (w.drewN n) fun e w' => e = .returned v ∧ ∃ m, w' = w.drewN m :=
  h.mono fun _ _ ⟨he, hm⟩ => ⟨he, n, hm.symm⟩

theorem eq_yes (x : Int) (w : World) :
    Calls Try.prog 32 #[.int .i64 x, .int .i64 x] w fun e w' => e = .returned (.bool true) ∧ w = w' := by
  go_enter Try.func32, Try.ntmps32
  go_wp2
  go_ret
  exact ⟨rfl, rfl⟩

/-- Same, of two lists that are the same. -/
theorem same_yes (A B : Option Addr) (n c d : Nat) (l : List Int) (w : World) (ha : IntsAt w A n l) (hb : IntsAt w B n l) (hn : n ≤ 1000) :
    Calls Try.prog 31 #[.slice A n c, .slice B n d, .func (.func 32) #[] #[]] w fun e w' => e = .returned (.bool true) ∧ ∃ q, w' = w.drewN q := by
  have Ha := Lib.hid ha
  have Hb := Lib.hid hb
  clear ha hb
  go_enter Try.func31, Try.ntmps31
  go_wp2
  go_loopw [7] (fun i wr => ∃ k : Nat, k ≤ n ∧ i = .int .i64 k ∧ ∃ q, wr = w.drewN q) (fun i _ => n - (intOf i).toNat)
  case atStart => exact ⟨0, Nat.zero_le _, rfl, 0, rfl⟩
  case round =>
    obtain ⟨k, hk, rfl, hq⟩ := hrel
    have Hq := Lib.hid hq
    clear hq
    by_cases hlt : k < n
    · obtain ⟨ba, oa, hA, hca⟩ := Ha.out.2 (by omega)
      obtain ⟨bb, ob, hB, hcb⟩ := Hb.out.2 (by omega)
      subst hA hB
      have h1 : wr.cell? ⟨ba, oa + k, none⟩ = some (.int .i64 (gi l k)) := by obtain ⟨q, rfl⟩ := Hq.out; exact hca k hlt
      have h2 : wr.cell? ⟨bb, ob + k, none⟩ = some (.int .i64 (gi l k)) := by obtain ⟨q, rfl⟩ := Hq.out; exact hcb k hlt
      have hki : (k : Int) < (n : Int) := by omega
      clear hca hcb
      go_wp2
      go_quiet ((go_at_call 32; exact quiet_keeps (eq_yes _ _)))
      go_wp2
      go_roundw
      case rel => exact ⟨k + 1, by omega, by go_num, by obtain ⟨q, rfl⟩ := Hq.out; exact ⟨_, by rw [World.drewN_drewN]⟩⟩
      case measure => simp [intOf]; omega
    · go_wp2
      go_ret
      exact ⟨rfl, Hq.out⟩

theorem plain_yes (A B : Option Addr) (n c d : Nat) (l : List Int) (w : World) (ha : IntsAt w A n l) (hb : IntsAt w B n l) (hn : n ≤ 1000) :
    Calls Try.prog 20 #[.slice A n c, .slice B n d] w fun e w' => e = .returned (.bool true) ∧ ∃ q, w' = w.drewN q := by
  have Ha := Lib.hid ha
  have Hb := Lib.hid hb
  clear ha hb
  go_enter Try.func20, Try.ntmps20
  go_wp2_with fail
  refine (same_yes A B n c d l w Ha.out Hb.out hn).mono ?_
  rintro e w' ⟨rfl, hq⟩
  have Hq := Lib.hid hq
  clear hq
  go_wp2
  go_ret
  exact ⟨rfl, Hq.out⟩

theorem Owned.ints {w w' : World} {g n : Nat} {l : List Int} {f : Int} (h : Owned w w' g n l f) (hl : l.length = n) : IntsAt w' (some ⟨g, 0, none⟩) n l := by
  obtain ⟨_, _, cur, hr, _, hc, _⟩ := h
  exact ⟨hl, fun _ => ⟨g, 0, rfl, fun i hi => by rw [Nat.zero_add, hr.cell]; exact hc i hi⟩⟩

end Go.Proofs.Ytoghnjbajhnpiaa.Fx
