/- Contracts of the statements' helpers over slices of Entity (Own, Kept, Plain, Same): what they return; old memory stays. Contracts of the statements' helpers over slices of bytes (Own, Kept, Plain, Same): what they return; old memory stays. Two regions of the same frame and the same list are the same (jousthelp.Region). -/
import Derived.Test.YtlpkaljepaclpaaGreatM03
import Derived.Test.YtlpkaljepaclpaaGreatM04
import Derived.Maps.AppendAt
import Derived.Deep.DeepMust
import Derived.Test.YtlpkaljepaclpaaGreatM36
import Derived.OwnWalk
import Derived.Deep.QuietTactic
import Derived.BigQuiet
import Derived.Test.YtlpkaljepaclpaaGreatM45
import Derived.Test.YtlpkaljepaclpaaGreatM16
namespace Go.Proofs.YtlpkaljepaclpaaGreat.Fx
open Go.ChangeShapes Go.WideShapes Go.ChangeAt Go.RowKit
set_option linter.unusedVariables false
set_option maxRecDepth 100000

/-- What Own leaves: a new block g that holds the list and then three times f. -/
def OwnedEnt (w w' : World) (g : Nat) (l : List Ent) (f : Ent) : Prop :=
  Below w.heap.size w w' ∧ w.heap.size ≤ g ∧ Blk w' g 45 ((l ++ [f, f, f]).flatMap entC).toArray

theorem OwnedEnt.sl {w w' : World} {g : Nat} {l : List Ent} {f : Ent} (h : Blk w g 45 ((l ++ [f, f, f]).flatMap entC).toArray) : IsSl entC w (.slice (some ⟨g, 0, none⟩) l.length (l.length + 3)) l := by
  refine ⟨_, _, rfl, fun h => (by cases h), by omega, fun _ => ⟨g, 0, rfl, fun i v hv => ?_⟩⟩
  rw [Nat.zero_add, h.cell, List.flatMap_append]
  simp only [List.getElem?_toArray]
  rw [List.getElem?_append_left (List.getElem?_eq_some_iff.1 hv).1]
  exact hv

theorem eqf_Ent (a b : Ent) (w : World) :
    Calls Tryz.prog 54 #[.agg #[.int .i64 a.id, .int .i64 a.kind, .int .i64 a.x, .int .i64 a.y, .int .i64 a.vx, .int .i64 a.vy, .int .i64 a.health, .int .i64 a.age, .int .i64 a.owner], .agg #[.int .i64 b.id, .int .i64 b.kind, .int .i64 b.x, .int .i64 b.y, .int .i64 b.vx, .int .i64 b.vy, .int .i64 b.health, .int .i64 b.age, .int .i64 b.owner]] w fun e w' => e = .returned (.bool (eqEnt a b)) ∧ Below w.heap.size w w' := by
  go_enter Tryz.func54, Tryz.ntmps54
  go_wp2
  go_ret
  exact ⟨rfl, ((Below.refl _ _).alloc (Nat.le_refl _) _).alloc (by simp) _⟩

/-- Same, of two lists that are the same. -/
theorem same_Ent (u v : Value) (l : List Ent) (w : World) (hu : IsSl entC w u l) (hv : IsSl entC w v l) (hn : l.length ≤ 1000) :
    Calls Tryz.prog 53 #[u, v, .func (.func 54) #[] #[]] w fun e w' => e = .returned (.bool true) ∧ Below w.heap.size w w' := by
  obtain ⟨A, c, rfl, -, -, ha⟩ := hu
  obtain ⟨B, d, rfl, -, -, hb⟩ := hv
  have Ha := Lib.hid ha
  have Hb := Lib.hid hb
  obtain ⟨n, hnn⟩ : ∃ n, l.length = n := ⟨_, rfl⟩
  rw [hnn] at hn ⊢
  have Hnn := Lib.hid hnn
  have HE := Lib.hid eqf_Ent
  clear ha hb hnn
  go_enter Tryz.func53, Tryz.ntmps53
  go_wp2
  go_loopw [7] (fun i wr => ∃ k : Nat, k ≤ n ∧ i = .int .i64 k ∧ Below w.heap.size w wr) (fun i _ => n - (intOf i).toNat)
  case atStart => exact ⟨0, Nat.zero_le _, rfl, Below.refl _ _⟩
  case round =>
    obtain ⟨k, hk, rfl, hbel⟩ := hrel
    have Hbel := Lib.hid hbel
    clear hbel
    by_cases hlt : k < n
    · obtain ⟨x, hx⟩ : ∃ x, l[k]? = some x := ⟨_, List.getElem?_eq_getElem (by rw [Hnn.out]; exact hlt)⟩
      obtain ⟨ba, oa, rfl, hca⟩ := elem_Ent (Ha.out.below Hbel.out) hx
      obtain ⟨bb, ob, rfl, hcb⟩ := elem_Ent (Hb.out.below Hbel.out) hx
      have hba : ba < wr.heap.size := World.block_lt_of_cell? _ _ hca.1
      have hbb : bb < wr.heap.size := World.block_lt_of_cell? _ _ hcb.1
      obtain ⟨a0, a1, a2, a3, a4, a5, a6, a7, a8⟩ := hca
      obtain ⟨b0, b1, b2, b3, b4, b5, b6, b7, b8⟩ := hcb
      have hki : (k : Int) < (n : Int) := by omega
      clear hx
      go_wp2_with fail
      refine plan_region' (S := (fun w' => (∀ b o, b < (wr).heap.size → w'.cell? ⟨b, o, none⟩ = (wr).cell? ⟨b, o, none⟩) ∧ (∀ b o, b < (wr).heap.size → w'.frozen? ⟨b, o, none⟩ = (wr).frozen? ⟨b, o, none⟩) ∧ Below (wr).heap.size (wr) w')) [(0, true), (1, true), (2, true), (3, true), (4, true), (5, true), (6, true), (7, true), (8, true), (9, false), (10, true)] (by kernel_rfl) (by kernel_rfl) (fun _ _ d _ _ h => by cases d <;> exact h) (keepW0 _) (fun hS => ?_)
      simp only [picked, List.getElem?_cons_succ, List.getElem?_cons_zero]
      iterate 9
       refine row_free (v := ?_) (by rfl) ?_ ?_; rotate_left 1; focus (intro w hSw; (try dsimp only at hSw); go_simp; (try with_reducible rfl))
       (try simp only [Act.put, tA, tB, tC])
      refine row_call (by rfl) (fun K hK => ?_)
      go_simp
      (refine (HE.out x x _).mono ?_; rintro e w4 ⟨rfl, hb4⟩)
      (try go_wp2_with fail)
      refine hK.out _ _ ?_ (fun hS' => ?_)
      · (try dsimp only); first | exact keepW (by assumption) (by assumption) | exact keepB (by assumption) (by assumption) | exact keepA (by assumption) | assumption
      clear hS hK K
      have hS := hS'
      clear hS'
      (try simp only [Act.put, tA, tB, tC])
      refine row_free (v := ?_) (by rfl) ?_ ?_; rotate_left 1; focus (intro w hSw; (try dsimp only at hSw); go_simp; (try with_reducible rfl))
      (try simp only [Act.put, tA, tB, tC])
      refine row_done ?_
      (try simp only [eqEnt_self])
      go_wp2
      go_roundw
      case rel => exact ⟨k + 1, by omega, by go_num, Hbel.out.trans (hS.2.2.mono Hbel.out.size)⟩
      case measure => simp [intOf]; omega
    · go_wp2
      go_ret
      exact ⟨rfl, Hbel.out⟩

theorem plain_Ent (u v : Value) (l : List Ent) (w : World) (hu : IsSl entC w u l) (hv : IsSl entC w v l) (hn : l.length ≤ 1000) :
    Calls Tryz.prog 17 #[u, v] w fun e w' => e = .returned (.bool true) ∧ Below w.heap.size w w' := by
  have HS := Lib.hid (same_Ent u v l w hu hv hn)
  obtain ⟨A, c, rfl, -, -, -⟩ := hu
  obtain ⟨B, d, rfl, -, -, -⟩ := hv
  go_enter Tryz.func17, Tryz.ntmps17
  go_wp2_with fail
  refine HS.out.mono ?_
  rintro e w' ⟨rfl, hb⟩
  have Hb := Lib.hid hb
  clear hb
  go_wp2
  go_ret
  exact ⟨rfl, Hb.out⟩

end Go.Proofs.YtlpkaljepaclpaaGreat.Fx
namespace Go.Proofs.YtlpkaljepaclpaaGreat.Fx
open Go.ChangeShapes Go.WideShapes Go.ChangeAt Go.RowKit

/-- Bytes, one by one. -/
def BysAt (w : World) (A : Option Addr) (n : Nat) (l : List Int) : Prop :=
  l.length = n ∧ (0 < n → ∃ b off, A = some ⟨b, off, none⟩ ∧ ∀ i, i < n → w.cell? ⟨b, off + i, none⟩ = some (.int .u8 (gi l i)))

theorem BysAt.keep {w w' : World} {a : Option Addr} {n : Nat} {l : List Int} (h : BysAt w a n l) (hk : ∀ p v, w.cell? p = some v → w'.cell? p = some v) : BysAt w' a n l :=
  ⟨h.1, fun hn => by
    obtain ⟨b, off, e, hc⟩ := h.2 hn
    exact ⟨b, off, e, fun i hi => hk _ _ (hc i hi)⟩⟩

theorem BysAt.cells {w : World} {A : Option Addr} {n : Nat} {l : List Int} (h : BysAt w A n l) : ∀ ad, A = some ad → ∀ j u, (l.map (Value.int .u8))[j]? = some u → w.cell? (ad.add j) = some u := by
  rintro ad rfl j u hu
  obtain ⟨hj, hu⟩ := List.getElem?_eq_some_iff.1 hu
  simp at hj hu
  subst hu
  obtain ⟨b, off, e, hc⟩ := h.2 (by have := h.1; omega)
  cases e
  have e : (Addr.mk b off none).add j = ⟨b, off + j, none⟩ := by unfold Addr.add; split <;> simp_all
  rw [e, hc j (by have := h.1; omega)]
  simp [gi, List.getD_eq_getElem?_getD, List.getElem?_eq_getElem hj]

/-- Block g is known whole. -/
def RowB (w : World) (g : Nat) (t : TypeId) (cur : Array Value) : Prop := w.heap[g]? = some (.cells cur t (0, 0))
theorem RowB.cell {w : World} {g : Nat} {t : TypeId} {cur : Array Value} (h : RowB w g t cur) (i : Nat) : w.cell? ⟨g, i, none⟩ = cur[i]? := cell_of_row w g i cur t (0, 0) h
theorem RowB.frozen {w : World} {g : Nat} {t : TypeId} {cur : Array Value} (h : RowB w g t cur) (i : Nat) : w.frozen? ⟨g, i, none⟩ = false := by
  unfold RowB at h; simp [World.frozen?, h]
theorem RowB.put {w : World} {g : Nat} {t : TypeId} {cur : Array Value} (h : RowB w g t cur) (i : Nat) (u : Value) : RowB (w.setCell ⟨g, i, none⟩ u) g t (cur.setIfInBounds i u) := by
  unfold RowB at h ⊢; simp [World.setCell, Array.getElem?_modify, h]
theorem RowB.of_own {w : World} {base : Nat} {e : TypeId} {g n cap : Nat} {xs : List Value} (h : w.ownsRow base e 1 (.slice (some ⟨g, 0, none⟩) n cap) n xs) :
    ∃ cur, RowB w g e cur ∧ cur.size = cap ∧ base ≤ g ∧ ∀ (i : Nat) (u : Value), xs[i]? = some u → cur[i]? = some u := by
  rcases h.2 with ⟨hv, _⟩ | ⟨g', cap', cur, hv, hb, hh, hn, hm, hs, ht⟩
  · cases hv
  · simp at hv
    obtain ⟨rfl, rfl⟩ := hv
    refine ⟨cur, hh, by omega, hb, fun i u hu => ?_⟩
    rw [← ht] at hu
    rw [List.getElem?_take] at hu
    split at hu
    · simpa using hu
    · cases hu

/-- What Own leaves: a new row g of n + 3 cells, the list and then three times f. -/
def OwnedB (w w' : World) (g n : Nat) (l : List Int) (f : Int) : Prop :=
  Below w.heap.size w w' ∧ w.heap.size ≤ g ∧ ∃ cur, RowB w' g 5 cur ∧ cur.size = n + 3 ∧ (∀ i, i < n → cur[i]? = some (.int .u8 (gi l i))) ∧ ∀ i, n ≤ i → i < n + 3 → cur[i]? = some (.int .u8 f)

theorem OwnedB.ints {w w' : World} {g n : Nat} {l : List Int} {f : Int} (h : OwnedB w w' g n l f) (hl : l.length = n) : BysAt w' (some ⟨g, 0, none⟩) n l := by
  obtain ⟨_, _, cur, hr, _, hc, _⟩ := h
  exact ⟨hl, fun _ => ⟨g, 0, rfl, fun i hi => by rw [Nat.zero_add, hr.cell]; exact hc i hi⟩⟩

end Go.Proofs.YtlpkaljepaclpaaGreat.Fx
namespace Go.Proofs.YtlpkaljepaclpaaGreat.Fx
open Go.ChangeShapes Go.WideShapes Go.ChangeAt Go.RowKit
set_option linter.unusedVariables false
set_option maxRecDepth 100000

theorem sregion_any (f : Int) (v u : Value) (l : List Ent) (w : World) (hv : IsSl entC w v l) (hu : IsSl entC w u l) (hn : l.length ≤ 1000) :
    Calls Tryz.prog 50 #[.agg #[.int .i64 f, v], .agg #[.int .i64 f, u]] w fun e w' => e = .returned (.bool true) ∧ Below w.heap.size w w' := by
  have HP := Lib.hid (fun w1 (hb : Below w.heap.size w w1) => plain_Ent v u l w1 (hv.below hb) (hu.below hb) hn)
  obtain ⟨A, c, rfl, -⟩ := hv
  obtain ⟨B, d, rfl, -⟩ := hu
  go_enter Tryz.func50, Tryz.ntmps50
  go_wp2_with fail
  refine (HP.out _ (((Below.refl _ _).alloc (Nat.le_refl _) _).alloc (by simp) _)).mono ?_
  rintro e w1 ⟨rfl, hb1⟩
  have HB := Lib.hid (unbox (unbox hb1))
  clear hb1
  go_wp2
  go_ret
  exact ⟨rfl, HB.out⟩

end Go.Proofs.YtlpkaljepaclpaaGreat.Fx
