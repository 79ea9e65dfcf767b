/- Contracts of the statements' helpers over slices of Cross (Own, Kept, Plain, Same): what they return; old memory stays. -/
import Derived.Test.YtlpkaljepaclpaaGreatM03
import Derived.Test.YtlpkaljepaclpaaGreatM04
import Derived.Maps.AppendAt
import Derived.Deep.DeepMust
namespace Go.Proofs.YtlpkaljepaclpaaGreat.Fx
open Go.ChangeShapes Go.WideShapes Go.ChangeAt Go.RowKit
set_option linter.unusedVariables false
set_option maxRecDepth 100000

/-- What Own leaves: a new block g that holds the list and then three times f. -/
def OwnedCrs (w w' : World) (g : Nat) (l : List Crs) (f : Crs) : Prop :=
  Below w.heap.size w w' ∧ w.heap.size ≤ g ∧ Blk w' g 50 ((l ++ [f, f, f]).flatMap crsC).toArray

theorem OwnedCrs.sl {w w' : World} {g : Nat} {l : List Crs} {f : Crs} (h : Blk w g 50 ((l ++ [f, f, f]).flatMap crsC).toArray) : IsSl crsC w (.slice (some ⟨g, 0, none⟩) l.length (l.length + 3)) l := by
  refine ⟨_, _, rfl, fun h => (by cases h), by omega, fun _ => ⟨g, 0, rfl, fun i v hv => ?_⟩⟩
  rw [Nat.zero_add, h.cell, List.flatMap_append]
  simp only [List.getElem?_toArray]
  rw [List.getElem?_append_left (List.getElem?_eq_some_iff.1 hv).1]
  exact hv

set_option maxHeartbeats 1000000 in
theorem own_Crs (v : Value) (l : List Crs) (f : Crs) (w : World) (hv : IsSl crsC w v l) (hn : l.length ≤ 1000) :
    Calls Tryz.prog 27 #[v, .agg #[.int .i64 f.kind, .int .i64 f.src, .int .i64 f.dst, .int .i64 f.frame, .int .i64 f.e.id, .int .i64 f.e.kind, .int .i64 f.e.x, .int .i64 f.e.y, .int .i64 f.e.vx, .int .i64 f.e.vy, .int .i64 f.e.health, .int .i64 f.e.age, .int .i64 f.e.owner, .int .i64 f.x, .int .i64 f.y]] w fun e w' => ∃ g, e = .returned (.slice (some ⟨g, 0, none⟩) l.length (l.length + 3)) ∧ OwnedCrs w w' g l f := by
  obtain ⟨A, c, rfl, hA, hcap, hat⟩ := hv
  obtain ⟨i0, hi, hz0, hz1, hz2⟩ := info_parts info_Crs
  have HA := Lib.hid hA
  have Hat := Lib.hid hat
  have Hi := Lib.hid hi
  have Hz0 := Lib.hid hz0
  have Hz1 := Lib.hid hz1
  have Hz2 := Lib.hid hz2
  have HLen := Lib.hid (crsC_length l)
  have HGet := Lib.hid (fun (i c : Nat) (hc : c < 15) => flat_get crsC 15 crsC_len (l ++ [f, f, f]) i c hc)
  have HTot := Lib.hid (show ((l ++ [f, f, f]).flatMap crsC).length = (l.length + 3) * 15 from by rw [crsC_length]; simp)
  clear hA hat hi hz0 hz1 hz2
  obtain ⟨n, hnn⟩ : ∃ n, l.length = n := ⟨_, rfl⟩
  rw [hnn] at hn hcap HTot HLen HA ⊢
  have Hnn := Lib.hid hnn
  clear hnn
  go_enter Tryz.func27, Tryz.ntmps27
  go_wp2_with (at_make; go_must (refine wpList_make_own _ (by rfl) _ _ 51 (by rfl) (w.heap.size + 1) 50 i0 (.agg #[.int .i64 0, .int .i64 0, .int .i64 0, .int .i64 0, .int .i64 0, .int .i64 0, .int .i64 0, .int .i64 0, .int .i64 0, .int .i64 0, .int .i64 0, .int .i64 0, .int .i64 0, .int .i64 0, .int .i64 0]) 15 Tryz.underlying51 Hi.out Hz0.out Hz1.out _ _ _ (n + 3) (by rfl) (by rfl) (by omega) (by rw [Hz2.out]; omega) (by unfold maxLen; omega) (by simp) ?_))
  intro w1 hown hgrow
  have Hown := Lib.hid (show w1.ownsRow (w.heap.size + 1) 50 15 (.slice (some ⟨w.heap.size + 1, 0, none⟩) 0 (n + 3)) 0 [] from by simpa using hown)
  have Hgrow := Lib.hid hgrow
  clear hown hgrow
  go_wp2_with (at_builtin; go_must (refine wpList_append_fits_any _ (by rfl) _ _ 51 (by rfl) (w.heap.size + 1) 50 i0 15 Tryz.underlying51 Hi.out Hz1.out (w.heap.size + 1) 0 (n + 3) _ (by first | rfl | simp) Hown.out A n c (l.flatMap crsC) (by rfl) HLen.out HA.out (CellsAt.cells (Hat.out.keep fun p u hp => Hgrow.out.cell (by rw [World.cell?_alloc_lt _ _ _ (World.block_lt_of_cell? _ _ hp)]; exact hp) (by simp))) (crsC_flat _) (by omega) ?_))
  intro w2 hown2 hgrow2
  obtain ⟨cur, hrow, hsz, -, hfirst⟩ := Blk.of_own hown2
  have hb2 : Below (w.heap.size + 1) (w.alloc (.cells (crsC f).toArray 50)) w2 := ((Below.refl _ _).grown Hgrow.out (by simp) (by simp)).grown hgrow2 (by have := Hgrow.out.size; simp at this; omega) (by simp)
  have Hrow := Lib.hid hrow
  have Hb2 := Lib.hid hb2
  have Hfirst := Lib.hid hfirst
  have Hsz := Lib.hid hsz
  clear hown2 hgrow2 hrow hb2 hfirst hsz Hown Hgrow
  go_wp2
  go_loopw [7] (fun i wr => ∃ k : Nat, n ≤ k ∧ k ≤ n + 3 ∧ i = .int .i64 k ∧ Below (w.heap.size + 1) (w.alloc (.cells (crsC f).toArray 50)) wr ∧ ∃ cur, Blk wr (w.heap.size + 1) 50 cur ∧ cur.size = (n + 3) * 15 ∧ (∀ j, j < k * 15 → cur[j]? = ((l ++ [f, f, f]).flatMap crsC)[j]?)) (fun i _ => n + 3 - (intOf i).toNat)
  case atStart =>
    refine ⟨n, Nat.le_refl _, by omega, rfl, Hb2.out, cur, Hrow.out, Hsz.out, fun j hj => ?_⟩
    obtain ⟨u, hu⟩ : ∃ u, (l.flatMap crsC)[j]? = some u := ⟨_, List.getElem?_eq_getElem (by rw [HLen.out]; exact hj)⟩
    rw [Hfirst.out j u (by simpa using hu), List.flatMap_append, List.getElem?_append_left (by rw [HLen.out]; exact hj), hu]
  case round =>
    obtain ⟨k, hk0, hk, rfl, hb, cr, hr, hs, hf⟩ := hrel
    have Hb := Lib.hid hb
    have Hr := Lib.hid hr
    have Hs := Lib.hid hs
    have Hf := Lib.hid hf
    clear hb hr hs hf
    by_cases hlt : k < n + 3
    · skip
      have h0 : wr.cell? ⟨w.heap.size + 1, k * 15, none⟩ = some (nth cr (k * 15)) := Hr.out.has (by rw [Hs.out]; omega)
      have h1 : wr.cell? ⟨w.heap.size + 1, k * 15 + 1, none⟩ = some (nth cr (k * 15 + 1)) := Hr.out.has (by rw [Hs.out]; omega)
      have h2 : wr.cell? ⟨w.heap.size + 1, k * 15 + 2, none⟩ = some (nth cr (k * 15 + 2)) := Hr.out.has (by rw [Hs.out]; omega)
      have h3 : wr.cell? ⟨w.heap.size + 1, k * 15 + 3, none⟩ = some (nth cr (k * 15 + 3)) := Hr.out.has (by rw [Hs.out]; omega)
      have h4 : wr.cell? ⟨w.heap.size + 1, k * 15 + 4, none⟩ = some (nth cr (k * 15 + 4)) := Hr.out.has (by rw [Hs.out]; omega)
      have h5 : wr.cell? ⟨w.heap.size + 1, k * 15 + 5, none⟩ = some (nth cr (k * 15 + 5)) := Hr.out.has (by rw [Hs.out]; omega)
      have h6 : wr.cell? ⟨w.heap.size + 1, k * 15 + 6, none⟩ = some (nth cr (k * 15 + 6)) := Hr.out.has (by rw [Hs.out]; omega)
      have h7 : wr.cell? ⟨w.heap.size + 1, k * 15 + 7, none⟩ = some (nth cr (k * 15 + 7)) := Hr.out.has (by rw [Hs.out]; omega)
      have h8 : wr.cell? ⟨w.heap.size + 1, k * 15 + 8, none⟩ = some (nth cr (k * 15 + 8)) := Hr.out.has (by rw [Hs.out]; omega)
      have h9 : wr.cell? ⟨w.heap.size + 1, k * 15 + 9, none⟩ = some (nth cr (k * 15 + 9)) := Hr.out.has (by rw [Hs.out]; omega)
      have h10 : wr.cell? ⟨w.heap.size + 1, k * 15 + 10, none⟩ = some (nth cr (k * 15 + 10)) := Hr.out.has (by rw [Hs.out]; omega)
      have h11 : wr.cell? ⟨w.heap.size + 1, k * 15 + 11, none⟩ = some (nth cr (k * 15 + 11)) := Hr.out.has (by rw [Hs.out]; omega)
      have h12 : wr.cell? ⟨w.heap.size + 1, k * 15 + 12, none⟩ = some (nth cr (k * 15 + 12)) := Hr.out.has (by rw [Hs.out]; omega)
      have h13 : wr.cell? ⟨w.heap.size + 1, k * 15 + 13, none⟩ = some (nth cr (k * 15 + 13)) := Hr.out.has (by rw [Hs.out]; omega)
      have h14 : wr.cell? ⟨w.heap.size + 1, k * 15 + 14, none⟩ = some (nth cr (k * 15 + 14)) := Hr.out.has (by rw [Hs.out]; omega)
      have z0 : wr.frozen? ⟨w.heap.size + 1, k * 15, none⟩ = false := Hr.out.frozen _
      have z1 : wr.frozen? ⟨w.heap.size + 1, k * 15 + 1, none⟩ = false := Hr.out.frozen _
      have z2 : wr.frozen? ⟨w.heap.size + 1, k * 15 + 2, none⟩ = false := Hr.out.frozen _
      have z3 : wr.frozen? ⟨w.heap.size + 1, k * 15 + 3, none⟩ = false := Hr.out.frozen _
      have z4 : wr.frozen? ⟨w.heap.size + 1, k * 15 + 4, none⟩ = false := Hr.out.frozen _
      have z5 : wr.frozen? ⟨w.heap.size + 1, k * 15 + 5, none⟩ = false := Hr.out.frozen _
      have z6 : wr.frozen? ⟨w.heap.size + 1, k * 15 + 6, none⟩ = false := Hr.out.frozen _
      have z7 : wr.frozen? ⟨w.heap.size + 1, k * 15 + 7, none⟩ = false := Hr.out.frozen _
      have z8 : wr.frozen? ⟨w.heap.size + 1, k * 15 + 8, none⟩ = false := Hr.out.frozen _
      have z9 : wr.frozen? ⟨w.heap.size + 1, k * 15 + 9, none⟩ = false := Hr.out.frozen _
      have z10 : wr.frozen? ⟨w.heap.size + 1, k * 15 + 10, none⟩ = false := Hr.out.frozen _
      have z11 : wr.frozen? ⟨w.heap.size + 1, k * 15 + 11, none⟩ = false := Hr.out.frozen _
      have z12 : wr.frozen? ⟨w.heap.size + 1, k * 15 + 12, none⟩ = false := Hr.out.frozen _
      have z13 : wr.frozen? ⟨w.heap.size + 1, k * 15 + 13, none⟩ = false := Hr.out.frozen _
      have z14 : wr.frozen? ⟨w.heap.size + 1, k * 15 + 14, none⟩ = false := Hr.out.frozen _
      have b0 : wr.cell? ⟨w.heap.size, 0, none⟩ = some (.int .i64 f.kind) := by rw [Hb.out.cell (p := ⟨w.heap.size, 0, none⟩) (Nat.lt_succ_self _)]; simp [crsC]
      have b1 : wr.cell? ⟨w.heap.size, 1, none⟩ = some (.int .i64 f.src) := by rw [Hb.out.cell (p := ⟨w.heap.size, 1, none⟩) (Nat.lt_succ_self _)]; simp [crsC]
      have b2 : wr.cell? ⟨w.heap.size, 2, none⟩ = some (.int .i64 f.dst) := by rw [Hb.out.cell (p := ⟨w.heap.size, 2, none⟩) (Nat.lt_succ_self _)]; simp [crsC]
      have b3 : wr.cell? ⟨w.heap.size, 3, none⟩ = some (.int .i64 f.frame) := by rw [Hb.out.cell (p := ⟨w.heap.size, 3, none⟩) (Nat.lt_succ_self _)]; simp [crsC]
      have b4 : wr.cell? ⟨w.heap.size, 4, none⟩ = some (.int .i64 f.e.id) := by rw [Hb.out.cell (p := ⟨w.heap.size, 4, none⟩) (Nat.lt_succ_self _)]; simp [crsC]
      have b5 : wr.cell? ⟨w.heap.size, 5, none⟩ = some (.int .i64 f.e.kind) := by rw [Hb.out.cell (p := ⟨w.heap.size, 5, none⟩) (Nat.lt_succ_self _)]; simp [crsC]
      have b6 : wr.cell? ⟨w.heap.size, 6, none⟩ = some (.int .i64 f.e.x) := by rw [Hb.out.cell (p := ⟨w.heap.size, 6, none⟩) (Nat.lt_succ_self _)]; simp [crsC]
      have b7 : wr.cell? ⟨w.heap.size, 7, none⟩ = some (.int .i64 f.e.y) := by rw [Hb.out.cell (p := ⟨w.heap.size, 7, none⟩) (Nat.lt_succ_self _)]; simp [crsC]
      have b8 : wr.cell? ⟨w.heap.size, 8, none⟩ = some (.int .i64 f.e.vx) := by rw [Hb.out.cell (p := ⟨w.heap.size, 8, none⟩) (Nat.lt_succ_self _)]; simp [crsC]
      have b9 : wr.cell? ⟨w.heap.size, 9, none⟩ = some (.int .i64 f.e.vy) := by rw [Hb.out.cell (p := ⟨w.heap.size, 9, none⟩) (Nat.lt_succ_self _)]; simp [crsC]
      have b10 : wr.cell? ⟨w.heap.size, 10, none⟩ = some (.int .i64 f.e.health) := by rw [Hb.out.cell (p := ⟨w.heap.size, 10, none⟩) (Nat.lt_succ_self _)]; simp [crsC]
      have b11 : wr.cell? ⟨w.heap.size, 11, none⟩ = some (.int .i64 f.e.age) := by rw [Hb.out.cell (p := ⟨w.heap.size, 11, none⟩) (Nat.lt_succ_self _)]; simp [crsC]
      have b12 : wr.cell? ⟨w.heap.size, 12, none⟩ = some (.int .i64 f.e.owner) := by rw [Hb.out.cell (p := ⟨w.heap.size, 12, none⟩) (Nat.lt_succ_self _)]; simp [crsC]
      have b13 : wr.cell? ⟨w.heap.size, 13, none⟩ = some (.int .i64 f.x) := by rw [Hb.out.cell (p := ⟨w.heap.size, 13, none⟩) (Nat.lt_succ_self _)]; simp [crsC]
      have b14 : wr.cell? ⟨w.heap.size, 14, none⟩ = some (.int .i64 f.y) := by rw [Hb.out.cell (p := ⟨w.heap.size, 14, none⟩) (Nat.lt_succ_self _)]; simp [crsC]
      go_wp2
      go_roundw
      case rel =>
        refine ⟨k + 1, by omega, by omega, by go_num, below_putW Hb.out (Nat.le_refl _) (k * 15) (crsC f), _, Hr.out.puts (k * 15) (crsC f), by rw [size_putAt]; exact Hs.out, fun j hj => ?_⟩
        by_cases e : j < k * 15
        · rw [putAt_out _ _ _ _ (.inl e)]; exact Hf.out j e
        · obtain ⟨c, rfl⟩ : ∃ c, j = k * 15 + c := ⟨j - k * 15, by omega⟩
          have hc : c < 15 := by omega
          rw [putAt_in _ _ _ _ (by rw [crsC_len]; exact hc) (by rw [crsC_len, Hs.out]; omega), HGet.out k c hc]
          have hlk : (l ++ [f, f, f])[k]? = some f := by
            rw [List.getElem?_append_right (by rw [Hnn.out]; exact hk0), Hnn.out]
            have : k - n = 0 ∨ k - n = 1 ∨ k - n = 2 := by omega
            rcases this with e | e | e <;> rw [e] <;> rfl
          rw [hlk]
          rfl
      case measure => simp [intOf]; omega
    · obtain rfl : k = n + 3 := by omega
      have hcr : cr = ((l ++ [f, f, f]).flatMap crsC).toArray := by
        apply Array.ext'
        apply List.ext_getElem?
        intro j
        by_cases hj : j < (n + 3) * 15
        · have := Hf.out j hj
          simpa using this
        · rw [List.getElem?_eq_none (by simp [Hs.out]; omega), List.getElem?_eq_none (by simp only []; rw [HTot.out]; omega)]
      go_wp2
      go_ret
      exact ⟨w.heap.size + 1, rfl, unbox (by simpa using Hb.out), by omega, by rw [← hcr]; exact Hr.out⟩

theorem eqf_Crs (a b : Crs) (w : World) :
    Calls Tryz.prog 60 #[.agg #[.int .i64 a.kind, .int .i64 a.src, .int .i64 a.dst, .int .i64 a.frame, .int .i64 a.e.id, .int .i64 a.e.kind, .int .i64 a.e.x, .int .i64 a.e.y, .int .i64 a.e.vx, .int .i64 a.e.vy, .int .i64 a.e.health, .int .i64 a.e.age, .int .i64 a.e.owner, .int .i64 a.x, .int .i64 a.y], .agg #[.int .i64 b.kind, .int .i64 b.src, .int .i64 b.dst, .int .i64 b.frame, .int .i64 b.e.id, .int .i64 b.e.kind, .int .i64 b.e.x, .int .i64 b.e.y, .int .i64 b.e.vx, .int .i64 b.e.vy, .int .i64 b.e.health, .int .i64 b.e.age, .int .i64 b.e.owner, .int .i64 b.x, .int .i64 b.y]] w fun e w' => e = .returned (.bool (eqCrs a b)) ∧ Below w.heap.size w w' := by
  go_enter Tryz.func60, Tryz.ntmps60
  go_wp2
  go_ret
  exact ⟨rfl, ((Below.refl _ _).alloc (Nat.le_refl _) _).alloc (by simp) _⟩

/-- Same, of two lists that are the same. -/
theorem same_Crs (u v : Value) (l : List Crs) (w : World) (hu : IsSl crsC w u l) (hv : IsSl crsC w v l) (hn : l.length ≤ 1000) :
    Calls Tryz.prog 59 #[u, v, .func (.func 60) #[] #[]] w fun e w' => e = .returned (.bool true) ∧ Below w.heap.size w w' := by
  obtain ⟨A, c, rfl, -, -, ha⟩ := hu
  obtain ⟨B, d, rfl, -, -, hb⟩ := hv
  have Ha := Lib.hid ha
  have Hb := Lib.hid hb
  obtain ⟨n, hnn⟩ : ∃ n, l.length = n := ⟨_, rfl⟩
  rw [hnn] at hn ⊢
  have Hnn := Lib.hid hnn
  have HE := Lib.hid eqf_Crs
  clear ha hb hnn
  go_enter Tryz.func59, Tryz.ntmps59
  go_wp2
  go_loopw [7] (fun i wr => ∃ k : Nat, k ≤ n ∧ i = .int .i64 k ∧ Below w.heap.size w wr) (fun i _ => n - (intOf i).toNat)
  case atStart => exact ⟨0, Nat.zero_le _, rfl, Below.refl _ _⟩
  case round =>
    obtain ⟨k, hk, rfl, hbel⟩ := hrel
    have Hbel := Lib.hid hbel
    clear hbel
    by_cases hlt : k < n
    · obtain ⟨x, hx⟩ : ∃ x, l[k]? = some x := ⟨_, List.getElem?_eq_getElem (by rw [Hnn.out]; exact hlt)⟩
      obtain ⟨ba, oa, rfl, hca⟩ := elem_Crs (Ha.out.below Hbel.out) hx
      obtain ⟨bb, ob, rfl, hcb⟩ := elem_Crs (Hb.out.below Hbel.out) hx
      have hba : ba < wr.heap.size := World.block_lt_of_cell? _ _ hca.1
      have hbb : bb < wr.heap.size := World.block_lt_of_cell? _ _ hcb.1
      obtain ⟨a0, a1, a2, a3, a4, a5, a6, a7, a8, a9, a10, a11, a12, a13, a14⟩ := hca
      obtain ⟨b0, b1, b2, b3, b4, b5, b6, b7, b8, b9, b10, b11, b12, b13, b14⟩ := hcb
      have hki : (k : Int) < (n : Int) := by omega
      clear hx
      go_wp2_with fail
      refine plan_region' (S := (fun w' => (∀ b o, b < (wr).heap.size → w'.cell? ⟨b, o, none⟩ = (wr).cell? ⟨b, o, none⟩) ∧ (∀ b o, b < (wr).heap.size → w'.frozen? ⟨b, o, none⟩ = (wr).frozen? ⟨b, o, none⟩) ∧ Below (wr).heap.size (wr) w')) [(0, true), (1, true), (2, true), (3, true), (4, true), (5, true), (6, true), (7, true), (8, true), (9, false), (10, true)] (by kernel_rfl) (by kernel_rfl) (fun _ _ d _ _ h => by cases d <;> exact h) (keepW0 _) (fun hS => ?_)
      simp only [picked, List.getElem?_cons_succ, List.getElem?_cons_zero]
      iterate 9
       refine row_free (v := ?_) (by rfl) ?_ ?_; rotate_left 1; focus (intro w hSw; (try dsimp only at hSw); go_simp; (try with_reducible rfl))
       (try simp only [Act.put, tA, tB, tC])
      refine row_call (by rfl) (fun K hK => ?_)
      go_simp
      (refine (HE.out x x _).mono ?_; rintro e w4 ⟨rfl, hb4⟩)
      (try go_wp2_with fail)
      refine hK.out _ _ ?_ (fun hS' => ?_)
      · (try dsimp only); first | exact keepW (by assumption) (by assumption) | exact keepB (by assumption) (by assumption) | exact keepA (by assumption) | assumption
      clear hS hK K
      have hS := hS'
      clear hS'
      (try simp only [Act.put, tA, tB, tC])
      refine row_free (v := ?_) (by rfl) ?_ ?_; rotate_left 1; focus (intro w hSw; (try dsimp only at hSw); go_simp; (try with_reducible rfl))
      (try simp only [Act.put, tA, tB, tC])
      refine row_done ?_
      (try simp only [eqCrs_self])
      go_wp2
      go_roundw
      case rel => exact ⟨k + 1, by omega, by go_num, Hbel.out.trans (hS.2.2.mono Hbel.out.size)⟩
      case measure => simp [intOf]; omega
    · go_wp2
      go_ret
      exact ⟨rfl, Hbel.out⟩

theorem plain_Crs (u v : Value) (l : List Crs) (w : World) (hu : IsSl crsC w u l) (hv : IsSl crsC w v l) (hn : l.length ≤ 1000) :
    Calls Tryz.prog 20 #[u, v] w fun e w' => e = .returned (.bool true) ∧ Below w.heap.size w w' := by
  have HS := Lib.hid (same_Crs u v l w hu hv hn)
  obtain ⟨A, c, rfl, -, -, -⟩ := hu
  obtain ⟨B, d, rfl, -, -, -⟩ := hv
  go_enter Tryz.func20, Tryz.ntmps20
  go_wp2_with fail
  refine HS.out.mono ?_
  rintro e w' ⟨rfl, hb⟩
  have Hb := Lib.hid hb
  clear hb
  go_wp2
  go_ret
  exact ⟨rfl, Hb.out⟩

/-- Kept, of what Own left, in a world in which its block and the list are as they were. -/
theorem kept_Crs (v : Value) (g : Nat) (l : List Crs) (f : Crs) (w : World) (hv : IsSl crsC w v l) (hr : Blk w g 50 ((l ++ [f, f, f]).flatMap crsC).toArray) (hn : l.length ≤ 1000) :
    Calls Tryz.prog 40 #[.slice (some ⟨g, 0, none⟩) l.length (l.length + 3), v, .agg #[.int .i64 f.kind, .int .i64 f.src, .int .i64 f.dst, .int .i64 f.frame, .int .i64 f.e.id, .int .i64 f.e.kind, .int .i64 f.e.x, .int .i64 f.e.y, .int .i64 f.e.vx, .int .i64 f.e.vy, .int .i64 f.e.health, .int .i64 f.e.age, .int .i64 f.e.owner, .int .i64 f.x, .int .i64 f.y]] w fun e w' => e = .returned (.bool true) ∧ Below w.heap.size w w' := by
  have HP := Lib.hid (fun w hu hv => plain_Crs (.slice (some ⟨g, 0, none⟩) l.length (l.length + 3)) v l w hu hv hn)
  have HU := Lib.hid (OwnedCrs.sl (w' := w) hr)
  have HV := Lib.hid hv
  have Hr := Lib.hid hr
  have HGet := Lib.hid (fun (i c : Nat) (hc : c < 15) => flat_get crsC 15 crsC_len (l ++ [f, f, f]) i c hc)
  obtain ⟨A, c, rfl, -, -, -⟩ := hv
  obtain ⟨n, hnn⟩ : ∃ n, l.length = n := ⟨_, rfl⟩
  rw [hnn] at hn HP HU HV ⊢
  have Hnn := Lib.hid hnn
  clear hnn hr
  have hg : g < w.heap.size := Hr.out.lt
  go_enter Tryz.func40, Tryz.ntmps40
  go_wp2_with fail
  refine (HP.out _ (HU.out.keep fun p u hp => by rw [World.cell?_alloc_lt _ _ _ (World.block_lt_of_cell? _ _ hp)]; exact hp) (HV.out.keep fun p u hp => by rw [World.cell?_alloc_lt _ _ _ (World.block_lt_of_cell? _ _ hp)]; exact hp)).mono ?_
  rintro e w1 ⟨rfl, hb⟩
  have Hb := Lib.hid hb
  have Hr1 := Lib.hid (Hr.out.below (unbox hb) hg)
  clear hb HP HU HV Hr
  go_wp2
  go_loopw [8] (fun i wr => ∃ k : Nat, n ≤ k ∧ k ≤ n + 3 ∧ i = .int .i64 k ∧ Below w1.heap.size w1 wr) (fun i _ => n + 3 - (intOf i).toNat)
  case atStart => exact ⟨n, Nat.le_refl _, by omega, rfl, Below.refl _ _⟩
  case round =>
    obtain ⟨k, hk0, hk, rfl, hbel⟩ := hrel
    have Hbel := Lib.hid hbel
    clear hbel
    by_cases hlt : k < n + 3
    · have hlk : (l ++ [f, f, f])[k]? = some f := by
        rw [List.getElem?_append_right (by rw [Hnn.out]; exact hk0), Hnn.out]
        have : k - n = 0 ∨ k - n = 1 ∨ k - n = 2 := by omega
        rcases this with e | e | e <;> rw [e] <;> rfl
      have hcl : ∀ c v, c < 15 → (crsC f)[c]? = some v → wr.cell? ⟨g, k * 15 + c, none⟩ = some v := fun c v hc hv => by
        rw [(Hr1.out.below Hbel.out Hr1.out.lt).cell, List.getElem?_toArray, HGet.out k c hc, hlk]
        exact hv
      have a0 : wr.cell? ⟨g, k * 15, none⟩ = some (.int .i64 f.kind) := hcl 0 _ (by omega) rfl
      have a1 : wr.cell? ⟨g, k * 15 + 1, none⟩ = some (.int .i64 f.src) := hcl 1 _ (by omega) rfl
      have a2 : wr.cell? ⟨g, k * 15 + 2, none⟩ = some (.int .i64 f.dst) := hcl 2 _ (by omega) rfl
      have a3 : wr.cell? ⟨g, k * 15 + 3, none⟩ = some (.int .i64 f.frame) := hcl 3 _ (by omega) rfl
      have a4 : wr.cell? ⟨g, k * 15 + 4, none⟩ = some (.int .i64 f.e.id) := hcl 4 _ (by omega) rfl
      have a5 : wr.cell? ⟨g, k * 15 + 5, none⟩ = some (.int .i64 f.e.kind) := hcl 5 _ (by omega) rfl
      have a6 : wr.cell? ⟨g, k * 15 + 6, none⟩ = some (.int .i64 f.e.x) := hcl 6 _ (by omega) rfl
      have a7 : wr.cell? ⟨g, k * 15 + 7, none⟩ = some (.int .i64 f.e.y) := hcl 7 _ (by omega) rfl
      have a8 : wr.cell? ⟨g, k * 15 + 8, none⟩ = some (.int .i64 f.e.vx) := hcl 8 _ (by omega) rfl
      have a9 : wr.cell? ⟨g, k * 15 + 9, none⟩ = some (.int .i64 f.e.vy) := hcl 9 _ (by omega) rfl
      have a10 : wr.cell? ⟨g, k * 15 + 10, none⟩ = some (.int .i64 f.e.health) := hcl 10 _ (by omega) rfl
      have a11 : wr.cell? ⟨g, k * 15 + 11, none⟩ = some (.int .i64 f.e.age) := hcl 11 _ (by omega) rfl
      have a12 : wr.cell? ⟨g, k * 15 + 12, none⟩ = some (.int .i64 f.e.owner) := hcl 12 _ (by omega) rfl
      have a13 : wr.cell? ⟨g, k * 15 + 13, none⟩ = some (.int .i64 f.x) := hcl 13 _ (by omega) rfl
      have a14 : wr.cell? ⟨g, k * 15 + 14, none⟩ = some (.int .i64 f.y) := hcl 14 _ (by omega) rfl
      have b0 : wr.cell? ⟨w.heap.size, 0, none⟩ = some (.int .i64 f.kind) := by rw [Hbel.out.cell (p := ⟨w.heap.size, 0, none⟩) (by have := Hb.out.size; simp at this; exact this), Hb.out.cell (p := ⟨w.heap.size, 0, none⟩) (by simp)]; simp
      have b1 : wr.cell? ⟨w.heap.size, 1, none⟩ = some (.int .i64 f.src) := by rw [Hbel.out.cell (p := ⟨w.heap.size, 1, none⟩) (by have := Hb.out.size; simp at this; exact this), Hb.out.cell (p := ⟨w.heap.size, 1, none⟩) (by simp)]; simp
      have b2 : wr.cell? ⟨w.heap.size, 2, none⟩ = some (.int .i64 f.dst) := by rw [Hbel.out.cell (p := ⟨w.heap.size, 2, none⟩) (by have := Hb.out.size; simp at this; exact this), Hb.out.cell (p := ⟨w.heap.size, 2, none⟩) (by simp)]; simp
      have b3 : wr.cell? ⟨w.heap.size, 3, none⟩ = some (.int .i64 f.frame) := by rw [Hbel.out.cell (p := ⟨w.heap.size, 3, none⟩) (by have := Hb.out.size; simp at this; exact this), Hb.out.cell (p := ⟨w.heap.size, 3, none⟩) (by simp)]; simp
      have b4 : wr.cell? ⟨w.heap.size, 4, none⟩ = some (.int .i64 f.e.id) := by rw [Hbel.out.cell (p := ⟨w.heap.size, 4, none⟩) (by have := Hb.out.size; simp at this; exact this), Hb.out.cell (p := ⟨w.heap.size, 4, none⟩) (by simp)]; simp
      have b5 : wr.cell? ⟨w.heap.size, 5, none⟩ = some (.int .i64 f.e.kind) := by rw [Hbel.out.cell (p := ⟨w.heap.size, 5, none⟩) (by have := Hb.out.size; simp at this; exact this), Hb.out.cell (p := ⟨w.heap.size, 5, none⟩) (by simp)]; simp
      have b6 : wr.cell? ⟨w.heap.size, 6, none⟩ = some (.int .i64 f.e.x) := by rw [Hbel.out.cell (p := ⟨w.heap.size, 6, none⟩) (by have := Hb.out.size; simp at this; exact this), Hb.out.cell (p := ⟨w.heap.size, 6, none⟩) (by simp)]; simp
      have b7 : wr.cell? ⟨w.heap.size, 7, none⟩ = some (.int .i64 f.e.y) := by rw [Hbel.out.cell (p := ⟨w.heap.size, 7, none⟩) (by have := Hb.out.size; simp at this; exact this), Hb.out.cell (p := ⟨w.heap.size, 7, none⟩) (by simp)]; simp
      have b8 : wr.cell? ⟨w.heap.size, 8, none⟩ = some (.int .i64 f.e.vx) := by rw [Hbel.out.cell (p := ⟨w.heap.size, 8, none⟩) (by have := Hb.out.size; simp at this; exact this), Hb.out.cell (p := ⟨w.heap.size, 8, none⟩) (by simp)]; simp
      have b9 : wr.cell? ⟨w.heap.size, 9, none⟩ = some (.int .i64 f.e.vy) := by rw [Hbel.out.cell (p := ⟨w.heap.size, 9, none⟩) (by have := Hb.out.size; simp at this; exact this), Hb.out.cell (p := ⟨w.heap.size, 9, none⟩) (by simp)]; simp
      have b10 : wr.cell? ⟨w.heap.size, 10, none⟩ = some (.int .i64 f.e.health) := by rw [Hbel.out.cell (p := ⟨w.heap.size, 10, none⟩) (by have := Hb.out.size; simp at this; exact this), Hb.out.cell (p := ⟨w.heap.size, 10, none⟩) (by simp)]; simp
      have b11 : wr.cell? ⟨w.heap.size, 11, none⟩ = some (.int .i64 f.e.age) := by rw [Hbel.out.cell (p := ⟨w.heap.size, 11, none⟩) (by have := Hb.out.size; simp at this; exact this), Hb.out.cell (p := ⟨w.heap.size, 11, none⟩) (by simp)]; simp
      have b12 : wr.cell? ⟨w.heap.size, 12, none⟩ = some (.int .i64 f.e.owner) := by rw [Hbel.out.cell (p := ⟨w.heap.size, 12, none⟩) (by have := Hb.out.size; simp at this; exact this), Hb.out.cell (p := ⟨w.heap.size, 12, none⟩) (by simp)]; simp
      have b13 : wr.cell? ⟨w.heap.size, 13, none⟩ = some (.int .i64 f.x) := by rw [Hbel.out.cell (p := ⟨w.heap.size, 13, none⟩) (by have := Hb.out.size; simp at this; exact this), Hb.out.cell (p := ⟨w.heap.size, 13, none⟩) (by simp)]; simp
      have b14 : wr.cell? ⟨w.heap.size, 14, none⟩ = some (.int .i64 f.y) := by rw [Hbel.out.cell (p := ⟨w.heap.size, 14, none⟩) (by have := Hb.out.size; simp at this; exact this), Hb.out.cell (p := ⟨w.heap.size, 14, none⟩) (by simp)]; simp
      clear hcl hlk
      go_wp2_with fail
      go_region
      (try simp only [eqCrs_self])
      go_wp2
      go_roundw
      case rel => exact ⟨k + 1, by omega, by omega, by go_num, Hbel.out.drew⟩
      case measure => simp [intOf]; omega
    · go_wp2
      go_ret
      exact ⟨rfl, (unbox Hb.out).trans (Hbel.out.mono (unbox Hb.out).size)⟩

end Go.Proofs.YtlpkaljepaclpaaGreat.Fx
