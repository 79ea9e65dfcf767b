/- Contracts of the statements' helpers over slices of Cross (Own, Kept, Plain, Same): what they return; old memory stays. A value as a cell: a slice of slices. -/
import Derived.Test.YtlpkaljepaclpaaM04
import Derived.Test.YtlpkaljepaclpaaM05
import Derived.Maps.AppendAt
import Derived.Deep.DeepMust
import Derived.Test.YtlpkaljepaclpaaM02
namespace Go.Proofs.Ytlpkaljepaclpaa.Fx
open Go.ChangeShapes Go.WideShapes Go.ChangeAt Go.RowKit
set_option linter.unusedVariables false
set_option maxRecDepth 100000

/-- What Own leaves: a new block g that holds the list and then three times f. -/
def OwnedCrs (w w' : World) (g : Nat) (l : List Crs) (f : Crs) : Prop :=
  Below w.heap.size w w' ∧ w.heap.size ≤ g ∧ Blk w' g 45 ((l ++ [f, f, f]).flatMap crsC).toArray

theorem OwnedCrs.sl {w w' : World} {g : Nat} {l : List Crs} {f : Crs} (h : Blk w g 45 ((l ++ [f, f, f]).flatMap crsC).toArray) : IsSl crsC w (.slice (some ⟨g, 0, none⟩) l.length (l.length + 3)) l := by
  refine ⟨_, _, rfl, fun h => (by cases h), by omega, fun _ => ⟨g, 0, rfl, fun i v hv => ?_⟩⟩
  rw [Nat.zero_add, h.cell, List.flatMap_append]
  simp only [List.getElem?_toArray]
  rw [List.getElem?_append_left (List.getElem?_eq_some_iff.1 hv).1]
  exact hv

theorem eqf_Crs (a b : Crs) (w : World) :
    Calls Try.prog 26 #[.agg #[.int .i64 a.kind, .int .i64 a.src, .int .i64 a.dst, .int .i64 a.frame, .int .i64 a.e.id, .int .i64 a.e.kind, .int .i64 a.e.x, .int .i64 a.e.y, .int .i64 a.e.vx, .int .i64 a.e.vy, .int .i64 a.e.health, .int .i64 a.e.age, .int .i64 a.e.owner, .int .i64 a.x, .int .i64 a.y], .agg #[.int .i64 b.kind, .int .i64 b.src, .int .i64 b.dst, .int .i64 b.frame, .int .i64 b.e.id, .int .i64 b.e.kind, .int .i64 b.e.x, .int .i64 b.e.y, .int .i64 b.e.vx, .int .i64 b.e.vy, .int .i64 b.e.health, .int .i64 b.e.age, .int .i64 b.e.owner, .int .i64 b.x, .int .i64 b.y]] w fun e w' => e = .returned (.bool (eqCrs a b)) ∧ Below w.heap.size w w' := by
  go_enter Try.func26, Try.ntmps26
  go_wp2
  go_ret
  exact ⟨rfl, ((Below.refl _ _).alloc (Nat.le_refl _) _).alloc (by simp) _⟩

/-- Same, of two lists that are the same. -/
theorem same_Crs (u v : Value) (l : List Crs) (w : World) (hu : IsSl crsC w u l) (hv : IsSl crsC w v l) (hn : l.length ≤ 1000) :
    Calls Try.prog 25 #[u, v, .func (.func 26) #[] #[]] w fun e w' => e = .returned (.bool true) ∧ Below w.heap.size w w' := by
  obtain ⟨A, c, rfl, -, -, ha⟩ := hu
  obtain ⟨B, d, rfl, -, -, hb⟩ := hv
  have Ha := Lib.hid ha
  have Hb := Lib.hid hb
  obtain ⟨n, hnn⟩ : ∃ n, l.length = n := ⟨_, rfl⟩
  rw [hnn] at hn ⊢
  have Hnn := Lib.hid hnn
  have HE := Lib.hid eqf_Crs
  clear ha hb hnn
  go_enter Try.func25, Try.ntmps25
  go_wp2
  go_loopw [7] (fun i wr => ∃ k : Nat, k ≤ n ∧ i = .int .i64 k ∧ Below w.heap.size w wr) (fun i _ => n - (intOf i).toNat)
  case atStart => exact ⟨0, Nat.zero_le _, rfl, Below.refl _ _⟩
  case round =>
    obtain ⟨k, hk, rfl, hbel⟩ := hrel
    have Hbel := Lib.hid hbel
    clear hbel
    by_cases hlt : k < n
    · obtain ⟨x, hx⟩ : ∃ x, l[k]? = some x := ⟨_, List.getElem?_eq_getElem (by rw [Hnn.out]; exact hlt)⟩
      obtain ⟨ba, oa, rfl, hca⟩ := elem_Crs (Ha.out.below Hbel.out) hx
      obtain ⟨bb, ob, rfl, hcb⟩ := elem_Crs (Hb.out.below Hbel.out) hx
      have hba : ba < wr.heap.size := World.block_lt_of_cell? _ _ hca.1
      have hbb : bb < wr.heap.size := World.block_lt_of_cell? _ _ hcb.1
      obtain ⟨a0, a1, a2, a3, a4, a5, a6, a7, a8, a9, a10, a11, a12, a13, a14⟩ := hca
      obtain ⟨b0, b1, b2, b3, b4, b5, b6, b7, b8, b9, b10, b11, b12, b13, b14⟩ := hcb
      have hki : (k : Int) < (n : Int) := by omega
      clear hx
      go_wp2_with fail
      refine plan_region' (S := (fun w' => (∀ b o, b < (wr).heap.size → w'.cell? ⟨b, o, none⟩ = (wr).cell? ⟨b, o, none⟩) ∧ (∀ b o, b < (wr).heap.size → w'.frozen? ⟨b, o, none⟩ = (wr).frozen? ⟨b, o, none⟩) ∧ Below (wr).heap.size (wr) w')) [(0, true), (1, true), (2, true), (3, true), (4, true), (5, true), (6, true), (7, true), (8, true), (9, false), (10, true)] (by kernel_rfl) (by kernel_rfl) (fun _ _ d _ _ h => by cases d <;> exact h) (keepW0 _) (fun hS => ?_)
      simp only [picked, List.getElem?_cons_succ, List.getElem?_cons_zero]
      iterate 9
       refine row_free (v := ?_) (by rfl) ?_ ?_; rotate_left 1; focus (intro w hSw; (try dsimp only at hSw); go_simp; (try with_reducible rfl))
       (try simp only [Act.put, tA, tB, tC])
      refine row_call (by rfl) (fun K hK => ?_)
      go_simp
      (refine (HE.out x x _).mono ?_; rintro e w4 ⟨rfl, hb4⟩)
      (try go_wp2_with fail)
      refine hK.out _ _ ?_ (fun hS' => ?_)
      · (try dsimp only); first | exact keepW (by assumption) (by assumption) | exact keepB (by assumption) (by assumption) | exact keepA (by assumption) | assumption
      clear hS hK K
      have hS := hS'
      clear hS'
      (try simp only [Act.put, tA, tB, tC])
      refine row_free (v := ?_) (by rfl) ?_ ?_; rotate_left 1; focus (intro w hSw; (try dsimp only at hSw); go_simp; (try with_reducible rfl))
      (try simp only [Act.put, tA, tB, tC])
      refine row_done ?_
      (try simp only [eqCrs_self])
      go_wp2
      go_roundw
      case rel => exact ⟨k + 1, by omega, by go_num, Hbel.out.trans (hS.2.2.mono Hbel.out.size)⟩
      case measure => simp [intOf]; omega
    · go_wp2
      go_ret
      exact ⟨rfl, Hbel.out⟩

theorem plain_Crs (u v : Value) (l : List Crs) (w : World) (hu : IsSl crsC w u l) (hv : IsSl crsC w v l) (hn : l.length ≤ 1000) :
    Calls Try.prog 11 #[u, v] w fun e w' => e = .returned (.bool true) ∧ Below w.heap.size w w' := by
  have HS := Lib.hid (same_Crs u v l w hu hv hn)
  obtain ⟨A, c, rfl, -, -, -⟩ := hu
  obtain ⟨B, d, rfl, -, -, -⟩ := hv
  go_enter Try.func11, Try.ntmps11
  go_wp2_with fail
  refine HS.out.mono ?_
  rintro e w' ⟨rfl, hb⟩
  have Hb := Lib.hid hb
  clear hb
  go_wp2
  go_ret
  exact ⟨rfl, Hb.out⟩

end Go.Proofs.Ytlpkaljepaclpaa.Fx
namespace Go.Proofs.Ytlpkaljepaclpaa.Fx
open Go.ChangeShapes Go.WideShapes Go.ChangeAt Go.RowKit
set_option linter.unusedVariables false
set_option maxRecDepth 100000

/-- A value as a cell. -/
def oneV (v : Value) : List Value := [v]

theorem oneV_len (v : Value) : (oneV v).length = 1 := rfl

end Go.Proofs.Ytlpkaljepaclpaa.Fx
