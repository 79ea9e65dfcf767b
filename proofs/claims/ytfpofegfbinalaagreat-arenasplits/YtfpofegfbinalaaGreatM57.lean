/- Contracts of the statements' helpers over slices of Entity (Own, Kept, Plain, Same): what they return; old memory stays. Contracts of the statements' helpers over slices of Cross (Own, Kept, Plain, Same): what they return; old memory stays. Two regions of the same frame and the same list are the same (jousthelp.Region). Two worlds that read alike are the same (jousthelp.World). -/
import Derived.Test.YtfpofegfbinalaaGreatM02
import Derived.Test.YtfpofegfbinalaaGreatM01
import Derived.Maps.AppendAt
import Derived.Deep.DeepMust
import Derived.Test.YtfpofegfbinalaaGreatM03
import Derived.Test.YtfpofegfbinalaaGreatM56
namespace Go.Proofs.YtfpofegfbinalaaGreat.Fx
open Go.ChangeShapes Go.WideShapes Go.ChangeAt Go.RowKit
set_option linter.unusedVariables false
set_option maxRecDepth 100000

/-- What Own leaves: a new block g that holds the list and then three times f. -/
def OwnedEnt (w w' : World) (g : Nat) (l : List Ent) (f : Ent) : Prop :=
  Below w.heap.size w w' ∧ w.heap.size ≤ g ∧ Blk w' g 45 ((l ++ [f, f, f]).flatMap entC).toArray

theorem OwnedEnt.sl {w w' : World} {g : Nat} {l : List Ent} {f : Ent} (h : Blk w g 45 ((l ++ [f, f, f]).flatMap entC).toArray) : IsSl entC w (.slice (some ⟨g, 0, none⟩) l.length (l.length + 3)) l := by
  refine ⟨_, _, rfl, fun h => (by cases h), by omega, fun _ => ⟨g, 0, rfl, fun i v hv => ?_⟩⟩
  rw [Nat.zero_add, h.cell, List.flatMap_append]
  simp only [List.getElem?_toArray]
  rw [List.getElem?_append_left (List.getElem?_eq_some_iff.1 hv).1]
  exact hv

theorem eqf_Ent (a b : Ent) (w : World) :
    Calls Tryz.prog 40 #[.agg #[.int .i64 a.id, .int .i64 a.kind, .int .i64 a.x, .int .i64 a.y, .int .i64 a.vx, .int .i64 a.vy, .int .i64 a.health, .int .i64 a.age, .int .i64 a.owner], .agg #[.int .i64 b.id, .int .i64 b.kind, .int .i64 b.x, .int .i64 b.y, .int .i64 b.vx, .int .i64 b.vy, .int .i64 b.health, .int .i64 b.age, .int .i64 b.owner]] w fun e w' => e = .returned (.bool (eqEnt a b)) ∧ Below w.heap.size w w' := by
  go_enter Tryz.func40, Tryz.ntmps40
  go_wp2
  go_ret
  exact ⟨rfl, ((Below.refl _ _).alloc (Nat.le_refl _) _).alloc (by simp) _⟩

/-- Same, of two lists that are the same. -/
theorem same_Ent (u v : Value) (l : List Ent) (w : World) (hu : IsSl entC w u l) (hv : IsSl entC w v l) (hn : l.length ≤ 1000) :
    Calls Tryz.prog 39 #[u, v, .func (.func 40) #[] #[]] w fun e w' => e = .returned (.bool true) ∧ Below w.heap.size w w' := by
  obtain ⟨A, c, rfl, -, -, ha⟩ := hu
  obtain ⟨B, d, rfl, -, -, hb⟩ := hv
  have Ha := Lib.hid ha
  have Hb := Lib.hid hb
  obtain ⟨n, hnn⟩ : ∃ n, l.length = n := ⟨_, rfl⟩
  rw [hnn] at hn ⊢
  have Hnn := Lib.hid hnn
  have HE := Lib.hid eqf_Ent
  clear ha hb hnn
  go_enter Tryz.func39, Tryz.ntmps39
  go_wp2
  go_loopw [7] (fun i wr => ∃ k : Nat, k ≤ n ∧ i = .int .i64 k ∧ Below w.heap.size w wr) (fun i _ => n - (intOf i).toNat)
  case atStart => exact ⟨0, Nat.zero_le _, rfl, Below.refl _ _⟩
  case round =>
    obtain ⟨k, hk, rfl, hbel⟩ := hrel
    have Hbel := Lib.hid hbel
    clear hbel
    by_cases hlt : k < n
    · obtain ⟨x, hx⟩ : ∃ x, l[k]? = some x := ⟨_, List.getElem?_eq_getElem (by rw [Hnn.out]; exact hlt)⟩
      obtain ⟨ba, oa, rfl, hca⟩ := elem_Ent (Ha.out.below Hbel.out) hx
      obtain ⟨bb, ob, rfl, hcb⟩ := elem_Ent (Hb.out.below Hbel.out) hx
      have hba : ba < wr.heap.size := World.block_lt_of_cell? _ _ hca.1
      have hbb : bb < wr.heap.size := World.block_lt_of_cell? _ _ hcb.1
      obtain ⟨a0, a1, a2, a3, a4, a5, a6, a7, a8⟩ := hca
      obtain ⟨b0, b1, b2, b3, b4, b5, b6, b7, b8⟩ := hcb
      have hki : (k : Int) < (n : Int) := by omega
      clear hx
      go_wp2_with fail
      refine plan_region' (S := (fun w' => (∀ b o, b < (wr).heap.size → w'.cell? ⟨b, o, none⟩ = (wr).cell? ⟨b, o, none⟩) ∧ (∀ b o, b < (wr).heap.size → w'.frozen? ⟨b, o, none⟩ = (wr).frozen? ⟨b, o, none⟩) ∧ Below (wr).heap.size (wr) w')) [(0, true), (1, true), (2, true), (3, true), (4, true), (5, true), (6, true), (7, true), (8, true), (9, false), (10, true)] (by kernel_rfl) (by kernel_rfl) (fun _ _ d _ _ h => by cases d <;> exact h) (keepW0 _) (fun hS => ?_)
      simp only [picked, List.getElem?_cons_succ, List.getElem?_cons_zero]
      iterate 9
       refine row_free (v := ?_) (by rfl) ?_ ?_; rotate_left 1; focus (intro w hSw; (try dsimp only at hSw); go_simp; (try with_reducible rfl))
       (try simp only [Act.put, tA, tB, tC])
      refine row_call (by rfl) (fun K hK => ?_)
      go_simp
      (refine (HE.out x x _).mono ?_; rintro e w4 ⟨rfl, hb4⟩)
      (try go_wp2_with fail)
      refine hK.out _ _ ?_ (fun hS' => ?_)
      · (try dsimp only); first | exact keepW (by assumption) (by assumption) | exact keepB (by assumption) (by assumption) | exact keepA (by assumption) | assumption
      clear hS hK K
      have hS := hS'
      clear hS'
      (try simp only [Act.put, tA, tB, tC])
      refine row_free (v := ?_) (by rfl) ?_ ?_; rotate_left 1; focus (intro w hSw; (try dsimp only at hSw); go_simp; (try with_reducible rfl))
      (try simp only [Act.put, tA, tB, tC])
      refine row_done ?_
      (try simp only [eqEnt_self])
      go_wp2
      go_roundw
      case rel => exact ⟨k + 1, by omega, by go_num, Hbel.out.trans (hS.2.2.mono Hbel.out.size)⟩
      case measure => simp [intOf]; omega
    · go_wp2
      go_ret
      exact ⟨rfl, Hbel.out⟩

theorem plain_Ent (u v : Value) (l : List Ent) (w : World) (hu : IsSl entC w u l) (hv : IsSl entC w v l) (hn : l.length ≤ 1000) :
    Calls Tryz.prog 17 #[u, v] w fun e w' => e = .returned (.bool true) ∧ Below w.heap.size w w' := by
  have HS := Lib.hid (same_Ent u v l w hu hv hn)
  obtain ⟨A, c, rfl, -, -, -⟩ := hu
  obtain ⟨B, d, rfl, -, -, -⟩ := hv
  go_enter Tryz.func17, Tryz.ntmps17
  go_wp2_with fail
  refine HS.out.mono ?_
  rintro e w' ⟨rfl, hb⟩
  have Hb := Lib.hid hb
  clear hb
  go_wp2
  go_ret
  exact ⟨rfl, Hb.out⟩

end Go.Proofs.YtfpofegfbinalaaGreat.Fx
namespace Go.Proofs.YtfpofegfbinalaaGreat.Fx
open Go.ChangeShapes Go.WideShapes Go.ChangeAt Go.RowKit
set_option linter.unusedVariables false
set_option maxRecDepth 100000

/-- What Own leaves: a new block g that holds the list and then three times f. -/
def OwnedCrs (w w' : World) (g : Nat) (l : List Crs) (f : Crs) : Prop :=
  Below w.heap.size w w' ∧ w.heap.size ≤ g ∧ Blk w' g 50 ((l ++ [f, f, f]).flatMap crsC).toArray

theorem OwnedCrs.sl {w w' : World} {g : Nat} {l : List Crs} {f : Crs} (h : Blk w g 50 ((l ++ [f, f, f]).flatMap crsC).toArray) : IsSl crsC w (.slice (some ⟨g, 0, none⟩) l.length (l.length + 3)) l := by
  refine ⟨_, _, rfl, fun h => (by cases h), by omega, fun _ => ⟨g, 0, rfl, fun i v hv => ?_⟩⟩
  rw [Nat.zero_add, h.cell, List.flatMap_append]
  simp only [List.getElem?_toArray]
  rw [List.getElem?_append_left (List.getElem?_eq_some_iff.1 hv).1]
  exact hv

theorem eqf_Crs (a b : Crs) (w : World) :
    Calls Tryz.prog 46 #[.agg #[.int .i64 a.kind, .int .i64 a.src, .int .i64 a.dst, .int .i64 a.frame, .int .i64 a.e.id, .int .i64 a.e.kind, .int .i64 a.e.x, .int .i64 a.e.y, .int .i64 a.e.vx, .int .i64 a.e.vy, .int .i64 a.e.health, .int .i64 a.e.age, .int .i64 a.e.owner, .int .i64 a.x, .int .i64 a.y], .agg #[.int .i64 b.kind, .int .i64 b.src, .int .i64 b.dst, .int .i64 b.frame, .int .i64 b.e.id, .int .i64 b.e.kind, .int .i64 b.e.x, .int .i64 b.e.y, .int .i64 b.e.vx, .int .i64 b.e.vy, .int .i64 b.e.health, .int .i64 b.e.age, .int .i64 b.e.owner, .int .i64 b.x, .int .i64 b.y]] w fun e w' => e = .returned (.bool (eqCrs a b)) ∧ Below w.heap.size w w' := by
  go_enter Tryz.func46, Tryz.ntmps46
  go_wp2
  go_ret
  exact ⟨rfl, ((Below.refl _ _).alloc (Nat.le_refl _) _).alloc (by simp) _⟩

/-- Same, of two lists that are the same. -/
theorem same_Crs (u v : Value) (l : List Crs) (w : World) (hu : IsSl crsC w u l) (hv : IsSl crsC w v l) (hn : l.length ≤ 1000) :
    Calls Tryz.prog 45 #[u, v, .func (.func 46) #[] #[]] w fun e w' => e = .returned (.bool true) ∧ Below w.heap.size w w' := by
  obtain ⟨A, c, rfl, -, -, ha⟩ := hu
  obtain ⟨B, d, rfl, -, -, hb⟩ := hv
  have Ha := Lib.hid ha
  have Hb := Lib.hid hb
  obtain ⟨n, hnn⟩ : ∃ n, l.length = n := ⟨_, rfl⟩
  rw [hnn] at hn ⊢
  have Hnn := Lib.hid hnn
  have HE := Lib.hid eqf_Crs
  clear ha hb hnn
  go_enter Tryz.func45, Tryz.ntmps45
  go_wp2
  go_loopw [7] (fun i wr => ∃ k : Nat, k ≤ n ∧ i = .int .i64 k ∧ Below w.heap.size w wr) (fun i _ => n - (intOf i).toNat)
  case atStart => exact ⟨0, Nat.zero_le _, rfl, Below.refl _ _⟩
  case round =>
    obtain ⟨k, hk, rfl, hbel⟩ := hrel
    have Hbel := Lib.hid hbel
    clear hbel
    by_cases hlt : k < n
    · obtain ⟨x, hx⟩ : ∃ x, l[k]? = some x := ⟨_, List.getElem?_eq_getElem (by rw [Hnn.out]; exact hlt)⟩
      obtain ⟨ba, oa, rfl, hca⟩ := elem_Crs (Ha.out.below Hbel.out) hx
      obtain ⟨bb, ob, rfl, hcb⟩ := elem_Crs (Hb.out.below Hbel.out) hx
      have hba : ba < wr.heap.size := World.block_lt_of_cell? _ _ hca.1
      have hbb : bb < wr.heap.size := World.block_lt_of_cell? _ _ hcb.1
      obtain ⟨a0, a1, a2, a3, a4, a5, a6, a7, a8, a9, a10, a11, a12, a13, a14⟩ := hca
      obtain ⟨b0, b1, b2, b3, b4, b5, b6, b7, b8, b9, b10, b11, b12, b13, b14⟩ := hcb
      have hki : (k : Int) < (n : Int) := by omega
      clear hx
      go_wp2_with fail
      refine plan_region' (S := (fun w' => (∀ b o, b < (wr).heap.size → w'.cell? ⟨b, o, none⟩ = (wr).cell? ⟨b, o, none⟩) ∧ (∀ b o, b < (wr).heap.size → w'.frozen? ⟨b, o, none⟩ = (wr).frozen? ⟨b, o, none⟩) ∧ Below (wr).heap.size (wr) w')) [(0, true), (1, true), (2, true), (3, true), (4, true), (5, true), (6, true), (7, true), (8, true), (9, false), (10, true)] (by kernel_rfl) (by kernel_rfl) (fun _ _ d _ _ h => by cases d <;> exact h) (keepW0 _) (fun hS => ?_)
      simp only [picked, List.getElem?_cons_succ, List.getElem?_cons_zero]
      iterate 9
       refine row_free (v := ?_) (by rfl) ?_ ?_; rotate_left 1; focus (intro w hSw; (try dsimp only at hSw); go_simp; (try with_reducible rfl))
       (try simp only [Act.put, tA, tB, tC])
      refine row_call (by rfl) (fun K hK => ?_)
      go_simp
      (refine (HE.out x x _).mono ?_; rintro e w4 ⟨rfl, hb4⟩)
      (try go_wp2_with fail)
      refine hK.out _ _ ?_ (fun hS' => ?_)
      · (try dsimp only); first | exact keepW (by assumption) (by assumption) | exact keepB (by assumption) (by assumption) | exact keepA (by assumption) | assumption
      clear hS hK K
      have hS := hS'
      clear hS'
      (try simp only [Act.put, tA, tB, tC])
      refine row_free (v := ?_) (by rfl) ?_ ?_; rotate_left 1; focus (intro w hSw; (try dsimp only at hSw); go_simp; (try with_reducible rfl))
      (try simp only [Act.put, tA, tB, tC])
      refine row_done ?_
      (try simp only [eqCrs_self])
      go_wp2
      go_roundw
      case rel => exact ⟨k + 1, by omega, by go_num, Hbel.out.trans (hS.2.2.mono Hbel.out.size)⟩
      case measure => simp [intOf]; omega
    · go_wp2
      go_ret
      exact ⟨rfl, Hbel.out⟩

theorem plain_Crs (u v : Value) (l : List Crs) (w : World) (hu : IsSl crsC w u l) (hv : IsSl crsC w v l) (hn : l.length ≤ 1000) :
    Calls Tryz.prog 20 #[u, v] w fun e w' => e = .returned (.bool true) ∧ Below w.heap.size w w' := by
  have HS := Lib.hid (same_Crs u v l w hu hv hn)
  obtain ⟨A, c, rfl, -, -, -⟩ := hu
  obtain ⟨B, d, rfl, -, -, -⟩ := hv
  go_enter Tryz.func20, Tryz.ntmps20
  go_wp2_with fail
  refine HS.out.mono ?_
  rintro e w' ⟨rfl, hb⟩
  have Hb := Lib.hid hb
  clear hb
  go_wp2
  go_ret
  exact ⟨rfl, Hb.out⟩

end Go.Proofs.YtfpofegfbinalaaGreat.Fx
namespace Go.Proofs.YtfpofegfbinalaaGreat.Fx
open Go.ChangeShapes Go.WideShapes Go.ChangeAt Go.RowKit
set_option linter.unusedVariables false
set_option maxRecDepth 100000

theorem sregion_any (f : Int) (v u : Value) (l : List Ent) (w : World) (hv : IsSl entC w v l) (hu : IsSl entC w u l) (hn : l.length ≤ 1000) :
    Calls Tryz.prog 28 #[.agg #[.int .i64 f, v], .agg #[.int .i64 f, u]] w fun e w' => e = .returned (.bool true) ∧ Below w.heap.size w w' := by
  have HP := Lib.hid (fun w1 (hb : Below w.heap.size w w1) => plain_Ent v u l w1 (hv.below hb) (hu.below hb) hn)
  obtain ⟨A, c, rfl, -⟩ := hv
  obtain ⟨B, d, rfl, -⟩ := hu
  go_enter Tryz.func28, Tryz.ntmps28
  go_wp2_with fail
  refine (HP.out _ (((Below.refl _ _).alloc (Nat.le_refl _) _).alloc (by simp) _)).mono ?_
  rintro e w1 ⟨rfl, hb1⟩
  have HB := Lib.hid (unbox (unbox hb1))
  clear hb1
  go_wp2
  go_ret
  exact ⟨rfl, HB.out⟩

end Go.Proofs.YtfpofegfbinalaaGreat.Fx
namespace Go.Proofs.YtfpofegfbinalaaGreat.Fx
open Go.ChangeShapes Go.WideShapes Go.ChangeAt Go.RowKit
set_option linter.unusedVariables false
set_option maxRecDepth 100000

theorem crosses_any (v u : Value) (l : List Crs) (w : World) (hv : IsSl crsC w v l) (hu : IsSl crsC w u l) (hn : l.length ≤ 1000) :
    Calls Tryz.prog 30 #[v, u] w fun e w' => e = .returned (.bool true) ∧ Below w.heap.size w w' := by
  have HP := Lib.hid (plain_Crs v u l w hv hu hn)
  obtain ⟨A, c, rfl, -⟩ := hv
  obtain ⟨B, d, rfl, -⟩ := hu
  go_enter Tryz.func30, Tryz.ntmps30
  go_wp2_with fail
  refine HP.out.mono ?_
  rintro e w1 ⟨rfl, hb1⟩
  have HB := Lib.hid hb1
  clear hb1
  go_wp2
  go_ret
  exact ⟨rfl, HB.out⟩

theorem same_Regs (u v : Value) (fs : List (Int × List Ent)) (w : World) (hu : RgsSl w u fs) (hv : RgsSl w v fs) (hn : fs.length ≤ 1000) (hl : ∀ g ∈ fs, g.2.length ≤ 1000) :
    Calls Tryz.prog 27 #[u, v, .func (.func 28) #[] #[]] w fun e w' => e = .returned (.bool true) ∧ Below w.heap.size w w' := by
  obtain ⟨rs, hrs, hra⟩ := hu
  obtain ⟨qs, hqs, hqa⟩ := hv
  have HR := Lib.hid hrs
  have HQ := Lib.hid hqs
  have HRa := Lib.hid hra
  have HQa := Lib.hid hqa
  obtain ⟨A, c, rfl, -, -, -⟩ := hrs
  obtain ⟨B, d, rfl, -, -, -⟩ := hqs
  obtain ⟨n, hnn⟩ : ∃ n, fs.length = n := ⟨_, rfl⟩
  rw [hra.1, hnn] at HR ⊢
  rw [hqa.1, hnn] at HQ ⊢
  rw [hnn] at hn
  have Hnn := Lib.hid hnn
  have HL := Lib.hid hl
  have HE := Lib.hid sregion_any
  clear hra hqa hnn hl
  go_enter Tryz.func27, Tryz.ntmps27
  go_wp2
  go_loopw [7] (fun i wr => ∃ k : Nat, k ≤ n ∧ i = .int .i64 k ∧ Below w.heap.size w wr) (fun i _ => n - (intOf i).toNat)
  case atStart => exact ⟨0, Nat.zero_le _, rfl, Below.refl _ _⟩
  case round =>
    obtain ⟨k, hk, rfl, hbel⟩ := hrel
    have Hbel := Lib.hid hbel
    clear hbel
    by_cases hlt : k < n
    · obtain ⟨g, hg⟩ := getE fs k n Hnn.out hlt
      obtain ⟨x, hx⟩ := getE rs k n (by rw [HRa.out.1]; exact Hnn.out) hlt
      obtain ⟨y, hy⟩ := getE qs k n (by rw [HQa.out.1]; exact Hnn.out) hlt
      obtain ⟨xf, xs⟩ := HRa.out.2 k x g hx hg
      obtain ⟨yf, ys⟩ := HQa.out.2 k y g hy hg
      have HXs := Lib.hid (xs.below Hbel.out)
      have HYs := Lib.hid (ys.below Hbel.out)
      have hgl : g.2.length ≤ 1000 := HL.out g (List.mem_of_getElem? hg)
      obtain ⟨ba, oa, rfl, a0, a1⟩ := elem_Reg (HR.out.below Hbel.out).at hx
      obtain ⟨bb, ob, rfl, b0, b1⟩ := elem_Reg (HQ.out.below Hbel.out).at hy
      rw [xf] at a0
      rw [yf] at b0
      obtain ⟨Ax, cx, ex, -⟩ := xs
      obtain ⟨Ay, cy, ey, -⟩ := ys
      rw [ex] at a1 HXs
      rw [ey] at b1 HYs
      have hba : ba < wr.heap.size := World.block_lt_of_cell? _ _ a0
      have hbb : bb < wr.heap.size := World.block_lt_of_cell? _ _ b0
      have hki : (k : Int) < (n : Int) := by omega
      clear hx hy hg xf yf ex ey
      go_wp2_with fail
      refine plan_region' (S := (fun w' => (∀ b o, b < (wr).heap.size → w'.cell? ⟨b, o, none⟩ = (wr).cell? ⟨b, o, none⟩) ∧ (∀ b o, b < (wr).heap.size → w'.frozen? ⟨b, o, none⟩ = (wr).frozen? ⟨b, o, none⟩) ∧ Below (wr).heap.size (wr) w')) [(0, true), (1, true), (2, true), (3, true), (4, true), (5, true), (6, true), (7, true), (8, true), (9, false), (10, true)] (by kernel_rfl) (by kernel_rfl) (fun _ _ d _ _ h => by cases d <;> exact h) (keepW0 _) (fun hS => ?_)
      simp only [picked, List.getElem?_cons_succ, List.getElem?_cons_zero]
      iterate 9
       refine row_free (v := ?_) (by rfl) ?_ ?_; rotate_left 1; focus (intro w hSw; (try dsimp only at hSw); go_simp; (try with_reducible rfl))
       (try simp only [Act.put, tA, tB, tC])
      refine row_call (by rfl) (fun K hK => ?_)
      go_simp
      (refine (HE.out g.1 _ _ g.2 _ (HXs.out.below hS.2.2) (HYs.out.below hS.2.2) hgl).mono ?_; rintro e w4 ⟨rfl, hb4⟩)
      (try go_wp2_with fail)
      refine hK.out _ _ ?_ (fun hS' => ?_)
      · (try dsimp only); first | exact keepW (by assumption) (by assumption) | exact keepB (by assumption) (by assumption) | exact keepA (by assumption) | assumption
      clear hS hK K
      have hS := hS'
      clear hS'
      (try simp only [Act.put, tA, tB, tC])
      refine row_free (v := ?_) (by rfl) ?_ ?_; rotate_left 1; focus (intro w hSw; (try dsimp only at hSw); go_simp; (try with_reducible rfl))
      (try simp only [Act.put, tA, tB, tC])
      refine row_done ?_
      go_wp2
      go_roundw
      case rel => exact ⟨k + 1, by omega, by go_num, Hbel.out.trans (hS.2.2.mono Hbel.out.size)⟩
      case measure => simp [intOf]; omega
    · go_wp2
      go_ret
      exact ⟨rfl, Hbel.out⟩

theorem same_Outs (u v : Value) (os : List (List Crs)) (w : World) (hu : OutSl w u os) (hv : OutSl w v os) (hn : os.length ≤ 1000) (hl : ∀ g ∈ os, g.length ≤ 1000) :
    Calls Tryz.prog 29 #[u, v, .func (.func 30) #[] #[]] w fun e w' => e = .returned (.bool true) ∧ Below w.heap.size w w' := by
  obtain ⟨rs, hrs, hra⟩ := hu
  obtain ⟨qs, hqs, hqa⟩ := hv
  have HR := Lib.hid hrs
  have HQ := Lib.hid hqs
  have HRa := Lib.hid hra
  have HQa := Lib.hid hqa
  obtain ⟨A, c, rfl, -, -, -⟩ := hrs
  obtain ⟨B, d, rfl, -, -, -⟩ := hqs
  obtain ⟨n, hnn⟩ : ∃ n, os.length = n := ⟨_, rfl⟩
  rw [hra.1, hnn] at HR ⊢
  rw [hqa.1, hnn] at HQ ⊢
  rw [hnn] at hn
  have Hnn := Lib.hid hnn
  have HL := Lib.hid hl
  have HE := Lib.hid crosses_any
  clear hra hqa hnn hl
  go_enter Tryz.func29, Tryz.ntmps29
  go_wp2
  go_loopw [7] (fun i wr => ∃ k : Nat, k ≤ n ∧ i = .int .i64 k ∧ Below w.heap.size w wr) (fun i _ => n - (intOf i).toNat)
  case atStart => exact ⟨0, Nat.zero_le _, rfl, Below.refl _ _⟩
  case round =>
    obtain ⟨k, hk, rfl, hbel⟩ := hrel
    have Hbel := Lib.hid hbel
    clear hbel
    by_cases hlt : k < n
    · obtain ⟨g, hg⟩ := getE os k n Hnn.out hlt
      obtain ⟨x, hx⟩ := getE rs k n (by rw [HRa.out.1]; exact Hnn.out) hlt
      obtain ⟨y, hy⟩ := getE qs k n (by rw [HQa.out.1]; exact Hnn.out) hlt
      have xs := HRa.out.2 k x g hx hg
      have ys := HQa.out.2 k y g hy hg
      have HXs := Lib.hid (xs.below Hbel.out)
      have HYs := Lib.hid (ys.below Hbel.out)
      have hgl : g.length ≤ 1000 := HL.out g (List.mem_of_getElem? hg)
      obtain ⟨ba, oa, rfl, hc1⟩ := (HR.out.below Hbel.out).at.elem 1 oneV_len (by omega) hx
      obtain ⟨bb, ob, rfl, hc2⟩ := (HQ.out.below Hbel.out).at.elem 1 oneV_len (by omega) hy
      have a0 := hc1 0 x rfl
      have b0 := hc2 0 y rfl
      rw [Nat.mul_one, Nat.add_zero] at a0 b0
      obtain ⟨Ax, cx, ex, -⟩ := xs
      obtain ⟨Ay, cy, ey, -⟩ := ys
      rw [ex] at a0 HXs
      rw [ey] at b0 HYs
      have hba : ba < wr.heap.size := World.block_lt_of_cell? _ _ a0
      have hbb : bb < wr.heap.size := World.block_lt_of_cell? _ _ b0
      have hki : (k : Int) < (n : Int) := by omega
      clear hx hy hg ex ey hc1 hc2
      go_wp2_with fail
      refine plan_region' (S := (fun w' => (∀ b o, b < (wr).heap.size → w'.cell? ⟨b, o, none⟩ = (wr).cell? ⟨b, o, none⟩) ∧ (∀ b o, b < (wr).heap.size → w'.frozen? ⟨b, o, none⟩ = (wr).frozen? ⟨b, o, none⟩) ∧ Below (wr).heap.size (wr) w')) [(0, true), (1, true), (2, true), (3, true), (4, true), (5, true), (6, true), (7, true), (8, true), (9, false), (10, true)] (by kernel_rfl) (by kernel_rfl) (fun _ _ d _ _ h => by cases d <;> exact h) (keepW0 _) (fun hS => ?_)
      simp only [picked, List.getElem?_cons_succ, List.getElem?_cons_zero]
      iterate 9
       refine row_free (v := ?_) (by rfl) ?_ ?_; rotate_left 1; focus (intro w hSw; (try dsimp only at hSw); go_simp; (try with_reducible rfl))
       (try simp only [Act.put, tA, tB, tC])
      refine row_call (by rfl) (fun K hK => ?_)
      go_simp
      (refine (HE.out _ _ g _ (HXs.out.below hS.2.2) (HYs.out.below hS.2.2) hgl).mono ?_; rintro e w4 ⟨rfl, hb4⟩)
      (try go_wp2_with fail)
      refine hK.out _ _ ?_ (fun hS' => ?_)
      · (try dsimp only); first | exact keepW (by assumption) (by assumption) | exact keepB (by assumption) (by assumption) | exact keepA (by assumption) | assumption
      clear hS hK K
      have hS := hS'
      clear hS'
      (try simp only [Act.put, tA, tB, tC])
      refine row_free (v := ?_) (by rfl) ?_ ?_; rotate_left 1; focus (intro w hSw; (try dsimp only at hSw); go_simp; (try with_reducible rfl))
      (try simp only [Act.put, tA, tB, tC])
      refine row_done ?_
      go_wp2
      go_roundw
      case rel => exact ⟨k + 1, by omega, by go_num, Hbel.out.trans (hS.2.2.mono Hbel.out.size)⟩
      case measure => simp [intOf]; omega
    · go_wp2
      go_ret
      exact ⟨rfl, Hbel.out⟩

end Go.Proofs.YtfpofegfbinalaaGreat.Fx
