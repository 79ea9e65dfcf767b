/- Contracts of the statements' helpers over slices of bytes (Own, Kept, Plain, Same): what they return; old memory stays. -/
import Derived.Test.YthmdnemibdmhgaaByAwkA
import Derived.OwnWalk
import Derived.Deep.QuietTactic
import Derived.BigQuiet
namespace Go.Proofs.Ythmdnemibdmhgaa.Fx
open Go.ChangeShapes Go.WideShapes Go.ChangeAt Go.RowKit

/-- Bytes, one by one. -/
def BysAt (w : World) (A : Option Addr) (n : Nat) (l : List Int) : Prop :=
  l.length = n ∧ (0 < n → ∃ b off, A = some ⟨b, off, none⟩ ∧ ∀ i, i < n → w.cell? ⟨b, off + i, none⟩ = some (.int .u8 (gi l i)))

theorem BysAt.keep {w w' : World} {a : Option Addr} {n : Nat} {l : List Int} (h : BysAt w a n l) (hk : ∀ p v, w.cell? p = some v → w'.cell? p = some v) : BysAt w' a n l :=
  ⟨h.1, fun hn => by
    obtain ⟨b, off, e, hc⟩ := h.2 hn
    exact ⟨b, off, e, fun i hi => hk _ _ (hc i hi)⟩⟩

theorem BysAt.cells {w : World} {A : Option Addr} {n : Nat} {l : List Int} (h : BysAt w A n l) : ∀ ad, A = some ad → ∀ j u, (l.map (Value.int .u8))[j]? = some u → w.cell? (ad.add j) = some u := by
  rintro ad rfl j u hu
  obtain ⟨hj, hu⟩ := List.getElem?_eq_some_iff.1 hu
  simp at hj hu
  subst hu
  obtain ⟨b, off, e, hc⟩ := h.2 (by have := h.1; omega)
  cases e
  have e : (Addr.mk b off none).add j = ⟨b, off + j, none⟩ := by unfold Addr.add; split <;> simp_all
  rw [e, hc j (by have := h.1; omega)]
  simp [gi, List.getD_eq_getElem?_getD, List.getElem?_eq_getElem hj]

theorem BysAt.of_sl {w : World} {A : Option Addr} {n c : Nat} {l : List Int} (h : IsSl byC w (.slice A n c) l) (hn : l.length = n) : BysAt w A n l := by
  refine ⟨hn, fun hp => ?_⟩
  obtain ⟨b, off, hA, -⟩ := h.by (k := 0) (x := gi l 0) (by simp [gi, List.getD_eq_getElem?_getD, List.getElem?_eq_getElem (show 0 < l.length by omega)])
  refine ⟨b, off, hA, fun i hi => ?_⟩
  obtain ⟨b', off', hA', hc⟩ := h.by (k := i) (x := gi l i) (by simp [gi, List.getD_eq_getElem?_getD, List.getElem?_eq_getElem (show i < l.length by omega)])
  rw [hA] at hA'
  cases hA'
  exact hc

/-- Block g is known whole. -/
def RowB (w : World) (g : Nat) (t : TypeId) (cur : Array Value) : Prop := w.heap[g]? = some (.cells cur t (0, 0))
theorem RowB.cell {w : World} {g : Nat} {t : TypeId} {cur : Array Value} (h : RowB w g t cur) (i : Nat) : w.cell? ⟨g, i, none⟩ = cur[i]? := cell_of_row w g i cur t (0, 0) h
theorem RowB.frozen {w : World} {g : Nat} {t : TypeId} {cur : Array Value} (h : RowB w g t cur) (i : Nat) : w.frozen? ⟨g, i, none⟩ = false := by
  unfold RowB at h; simp [World.frozen?, h]
theorem RowB.put {w : World} {g : Nat} {t : TypeId} {cur : Array Value} (h : RowB w g t cur) (i : Nat) (u : Value) : RowB (w.setCell ⟨g, i, none⟩ u) g t (cur.setIfInBounds i u) := by
  unfold RowB at h ⊢; simp [World.setCell, Array.getElem?_modify, h]
theorem RowB.of_own {w : World} {base : Nat} {e : TypeId} {g n cap : Nat} {xs : List Value} (h : w.ownsRow base e 1 (.slice (some ⟨g, 0, none⟩) n cap) n xs) :
    ∃ cur, RowB w g e cur ∧ cur.size = cap ∧ base ≤ g ∧ ∀ (i : Nat) (u : Value), xs[i]? = some u → cur[i]? = some u := by
  rcases h.2 with ⟨hv, _⟩ | ⟨g', cap', cur, hv, hb, hh, hn, hm, hs, ht⟩
  · cases hv
  · simp at hv
    obtain ⟨rfl, rfl⟩ := hv
    refine ⟨cur, hh, by omega, hb, fun i u hu => ?_⟩
    rw [← ht] at hu
    rw [List.getElem?_take] at hu
    split at hu
    · simpa using hu
    · cases hu

/-- What Own leaves: a new row g of n + 3 cells, the list and then three times f. -/
def OwnedB (w w' : World) (g n : Nat) (l : List Int) (f : Int) : Prop :=
  Below w.heap.size w w' ∧ w.heap.size ≤ g ∧ ∃ cur, RowB w' g 5 cur ∧ cur.size = n + 3 ∧ (∀ i, i < n → cur[i]? = some (.int .u8 (gi l i))) ∧ ∀ i, n ≤ i → i < n + 3 → cur[i]? = some (.int .u8 f)

theorem own_anyB (A : Option Addr) (n c : Nat) (l : List Int) (f : Int) (w : World) (hl : BysAt w A n l) (hA : A = none → n = 0 ∧ c = 0) (hn : n ≤ 3000) :
    Calls Try.prog 8 #[.slice A n c, .int .u8 f] w fun e w' => ∃ g, e = .returned (.slice (some ⟨g, 0, none⟩) n (n + 3)) ∧ OwnedB w w' g n l f := by
  obtain ⟨i0, hi, hz0, hz1, hz2⟩ := info_parts info_u8
  have Hl := Lib.hid hl
  have HA := Lib.hid hA
  have Hi := Lib.hid hi
  have Hz0 := Lib.hid hz0
  have Hz1 := Lib.hid hz1
  have Hz2 := Lib.hid hz2
  clear hl hA hi hz0 hz1 hz2
  go_enter Try.func8, Try.ntmps8
  go_wp2_with (at_make; refine wpList_make_own _ rfl _ _ 22 rfl w.heap.size 5 i0 (.int .u8 0) 1 Try.underlying22 Hi.out Hz0.out Hz1.out _ _ _ (n + 3) rfl rfl (by omega) (by rw [Hz2.out]; omega) (by unfold maxLen; omega) (Nat.le_refl _) ?_)
  intro w1 hown hgrow
  have Hown := Lib.hid hown
  have Hgrow := Lib.hid hgrow
  clear hown hgrow
  go_wp2_with (at_builtin; refine wpList_append_fits_any _ rfl _ _ 22 rfl w.heap.size 5 i0 1 Try.underlying22 Hi.out Hz1.out w.heap.size 0 (n + 3) _ rfl Hown.out A n c (l.map (Value.int .u8)) rfl (by simp [Hl.out.1]) HA.out ((BysAt.cells (Hl.out.keep fun _ _ hv => Hgrow.out.cell hv (by simp)))) (ints_oneCell _ _) (by omega) ?_)
  intro w2 hown2 hgrow2
  obtain ⟨cur, hrow, hsz, -, hfirst⟩ := RowB.of_own hown2
  have hb2 : Below w.heap.size w w2 := ((Below.refl _ _).grown Hgrow.out (Nat.le_refl _) (by simp)).grown hgrow2 Hgrow.out.size (by simp)
  have Hrow := Lib.hid hrow
  have Hb2 := Lib.hid hb2
  have Hfirst := Lib.hid hfirst
  have Hsz := Lib.hid hsz
  clear hown2 hgrow2 hrow hb2 hfirst hsz Hown Hgrow
  go_wp2
  go_loopw [7] (fun i wr => ∃ k : Nat, n ≤ k ∧ k ≤ n + 3 ∧ i = .int .i64 k ∧ Below w.heap.size w wr ∧ ∃ cur, RowB wr w.heap.size 5 cur ∧ cur.size = n + 3 ∧ (∀ i, i < n → cur[i]? = some (.int .u8 (gi l i))) ∧ ∀ i, n ≤ i → i < k → cur[i]? = some (.int .u8 f)) (fun i _ => n + 3 - (intOf i).toNat)
  case atStart => exact ⟨n, Nat.le_refl _, by omega, rfl, Hb2.out, cur, Hrow.out, Hsz.out, fun i hi => Hfirst.out i _ (by simp [gi, Hl.out.1, hi]), fun i h1 h2 => by omega⟩
  case round =>
    obtain ⟨k, hk0, hk, rfl, hb, cr, hr, hs, hf, hg⟩ := hrel
    by_cases hlt : k < n + 3
    · obtain ⟨v0, hc⟩ : ∃ v0, wr.cell? ⟨w.heap.size, k, none⟩ = some v0 := ⟨cr[k]'(by omega), by rw [hr.cell]; simp⟩
      have hfz := hr.frozen k
      have Hb := Lib.hid hb
      have Hr := Lib.hid hr
      have Hs := Lib.hid hs
      have Hf := Lib.hid hf
      have Hg := Lib.hid hg
      clear hb hr hs hf hg
      go_wp2
      go_roundw
      case rel =>
        refine ⟨k + 1, by omega, by omega, by go_num, Hb.out.setCell (Nat.le_refl _) _, _, Hr.out.put k _, by simpa using Hs.out, fun i hi => ?_, fun i h1 h2 => ?_⟩
        · rw [Array.getElem?_setIfInBounds_ne (by omega)]; exact Hf.out i hi
        · by_cases e : i = k
          · subst e; rw [Array.getElem?_setIfInBounds_self_of_lt (by rw [Hs.out]; exact hlt)]
          · rw [Array.getElem?_setIfInBounds_ne (by omega)]; exact Hg.out i h1 (by omega)
      case measure => simp [intOf]; omega
    · have Hb := Lib.hid hb
      have Hr := Lib.hid hr
      have Hs := Lib.hid hs
      have Hf := Lib.hid hf
      have Hg := Lib.hid hg
      clear hb hr hs hf hg
      go_wp2
      go_ret
      exact ⟨w.heap.size, rfl, Hb.out, Nat.le_refl _, cr, Hr.out, Hs.out, Hf.out, fun i h1 h2 => Hg.out i h1 (by omega)⟩

theorem quiet_keepsB {P : Program} {f : FuncId} {args : Array Value} {w : World} {n : Nat} {v : Value}
    (h : Calls P f args (w.drewN n) fun e w' => e = .returned v ∧ w.drewN n = w') : Calls P f args (w.drewN n) fun e w' => e = .returned v ∧ ∃ m, w' = w.drewN m :=
  h.mono fun _ _ ⟨he, hm⟩ => ⟨he, n, hm.symm⟩

theorem eq_yesB (x : Int) (w : World) :
    Calls Try.prog 23 #[.int .u8 x, .int .u8 x] w fun e w' => e = .returned (.bool true) ∧ w = w' := by
  go_enter Try.func23, Try.ntmps23
  go_wp2
  go_ret
  exact ⟨rfl, rfl⟩

/-- Same, of two lists that are the same. -/
theorem same_yesB (A B : Option Addr) (n c d : Nat) (l : List Int) (w : World) (ha : BysAt w A n l) (hb : BysAt w B n l) (hn : n ≤ 3000) :
    Calls Try.prog 22 #[.slice A n c, .slice B n d, .func (.func 23) #[] #[]] w fun e w' => e = .returned (.bool true) ∧ ∃ q, w' = w.drewN q := by
  have Ha := Lib.hid ha
  have Hb := Lib.hid hb
  clear ha hb
  go_enter Try.func22, Try.ntmps22
  go_wp2
  go_loopw [7] (fun i wr => ∃ k : Nat, k ≤ n ∧ i = .int .i64 k ∧ ∃ q, wr = w.drewN q) (fun i _ => n - (intOf i).toNat)
  case atStart => exact ⟨0, Nat.zero_le _, rfl, 0, rfl⟩
  case round =>
    obtain ⟨k, hk, rfl, hq⟩ := hrel
    have Hq := Lib.hid hq
    clear hq
    by_cases hlt : k < n
    · obtain ⟨ba, oa, hA, hca⟩ := Ha.out.2 (by omega)
      obtain ⟨bb, ob, hB, hcb⟩ := Hb.out.2 (by omega)
      subst hA hB
      have h1 : wr.cell? ⟨ba, oa + k, none⟩ = some (.int .u8 (gi l k)) := by obtain ⟨q, rfl⟩ := Hq.out; exact hca k hlt
      have h2 : wr.cell? ⟨bb, ob + k, none⟩ = some (.int .u8 (gi l k)) := by obtain ⟨q, rfl⟩ := Hq.out; exact hcb k hlt
      have hki : (k : Int) < (n : Int) := by omega
      clear hca hcb
      go_wp2
      go_quiet ((go_at_call 23; exact quiet_keepsB (eq_yesB _ _)))
      go_wp2
      go_roundw
      case rel => exact ⟨k + 1, by omega, by go_num, by obtain ⟨q, rfl⟩ := Hq.out; exact ⟨_, by rw [World.drewN_drewN]⟩⟩
      case measure => simp [intOf]; omega
    · go_wp2
      go_ret
      exact ⟨rfl, Hq.out⟩

theorem plain_yesB (A B : Option Addr) (n c d : Nat) (l : List Int) (w : World) (ha : BysAt w A n l) (hb : BysAt w B n l) (hn : n ≤ 3000) :
    Calls Try.prog 21 #[.slice A n c, .slice B n d] w fun e w' => e = .returned (.bool true) ∧ ∃ q, w' = w.drewN q := by
  have Ha := Lib.hid ha
  have Hb := Lib.hid hb
  clear ha hb
  go_enter Try.func21, Try.ntmps21
  go_wp2_with fail
  refine (same_yesB A B n c d l w Ha.out Hb.out hn).mono ?_
  rintro e w' ⟨rfl, hq⟩
  have Hq := Lib.hid hq
  clear hq
  go_wp2
  go_ret
  exact ⟨rfl, Hq.out⟩

theorem OwnedB.ints {w w' : World} {g n : Nat} {l : List Int} {f : Int} (h : OwnedB w w' g n l f) (hl : l.length = n) : BysAt w' (some ⟨g, 0, none⟩) n l := by
  obtain ⟨_, _, cur, hr, _, hc, _⟩ := h
  exact ⟨hl, fun _ => ⟨g, 0, rfl, fun i hi => by rw [Nat.zero_add, hr.cell]; exact hc i hi⟩⟩

/-- Kept, of what Own left, in a world in which its row and the list are as they were. -/
theorem kept_yesB (A : Option Addr) (n c g : Nat) (l : List Int) (f : Int) (w : World) (ha : BysAt w A n l) (cur : Array Value) (hr : RowB w g 5 cur) (hs : cur.size = n + 3)
    (hc : ∀ i, i < n → cur[i]? = some (.int .u8 (gi l i))) (hf : ∀ i, n ≤ i → i < n + 3 → cur[i]? = some (.int .u8 f)) (hn : n ≤ 3000) :
    Calls Try.prog 16 #[.slice (some ⟨g, 0, none⟩) n (n + 3), .slice A n c, .int .u8 f] w fun e w' => e = .returned (.bool true) ∧ ∃ q, w' = w.drewN q := by
  have hg : BysAt w (some ⟨g, 0, none⟩) n l := ⟨ha.1, fun _ => ⟨g, 0, rfl, fun i hi => by rw [Nat.zero_add, hr.cell]; exact hc i hi⟩⟩
  have Ha := Lib.hid ha
  have Hg := Lib.hid hg
  have Hr := Lib.hid hr
  have Hs := Lib.hid hs
  have Hf := Lib.hid hf
  clear ha hg hr hs hc hf
  go_enter Try.func16, Try.ntmps16
  go_wp2_with fail
  refine (plain_yesB _ A n (n + 3) c l w Hg.out Ha.out hn).mono ?_
  rintro e w1 ⟨rfl, hq⟩
  have Hq := Lib.hid hq
  clear hq
  go_wp2
  go_loop [8] (fun i => ∃ k : Nat, n ≤ k ∧ k ≤ n + 3 ∧ i = .int .i64 k) (fun i => n + 3 - (intOf i).toNat)
  case atStart => exact ⟨n, Nat.le_refl _, by omega, rfl⟩
  case round =>
    obtain ⟨k, hk0, hk, rfl⟩ := hrel
    by_cases hlt : k < n + 3
    · have h1 : w1.cell? ⟨g, k, none⟩ = some (.int .u8 f) := by obtain ⟨q, rfl⟩ := Hq.out; exact (Hr.out.cell k).trans (Hf.out k hk0 hlt)
      go_wp2
      go_round
      case rel => exact ⟨k + 1, by omega, by omega, by go_num⟩
      case measure => simp [intOf]; omega
    · go_wp2
      go_ret
      exact ⟨rfl, Hq.out⟩

end Go.Proofs.Ythmdnemibdmhgaa.Fx
