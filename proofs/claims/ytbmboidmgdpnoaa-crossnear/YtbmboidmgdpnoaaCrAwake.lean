/- joustlaw06's awake. -/
import Derived.Test.YtbmboidmgdpnoaaCrSort
namespace Go.Proofs.Ytbmboidmgdpnoaa.Fx
open Go.ChangeShapes Go.WideShapes Go.ChangeAt Go.RowKit
set_option linter.unusedVariables false

def cTo (r : Int) : Crs := ⟨0, 0, r, 0, ⟨0, 0, 0, 0, 0, 0, 0, 0, 0⟩, 0, 0⟩

/-- A new block that holds some values. -/
theorem vals_new (w : World) (vs : List Value) (t g : Nat) (hg : g = w.heap.size) : IsSl oneV (w.alloc (.cells vs.toArray t)) (.slice (some ⟨g, 0, none⟩) vs.length vs.length) vs := by
  subst hg
  refine ⟨_, _, rfl, fun h => (by cases h), Nat.le_refl _, fun _ => ⟨_, _, rfl, fun i v hv => ?_⟩⟩
  rw [flat_oneV] at hv
  rw [Nat.zero_add, World.cell?_alloc_new]
  simpa using hv

theorem st_awake : st lessB [cTo 2, cTo 1] = [cTo 1, cTo 2] := by
  show mrg lessB [cTo 2] (mrg lessB [cTo 1] []) = _
  rw [mrg_nil, mrg_lt lessB _ _ (by rfl), mrg_nil]

theorem to_awake : toL [cTo 1, cTo 2] 2 = [cTo 2] := by rfl

set_option maxHeartbeats 1000000 in
theorem awake_cr (w : World) :
    Calls Try.prog 9 #[] w fun e w' => e = .returned (.bool true) ∧ Below w.heap.size w w' := by
  have HS := Lib.hid (fun V vs ls w hV hA hk hn => csort_any V vs ls w hV hA hk hn)
  have HL := Lib.hid less_any
  have HT := Lib.hid cto_any
  have h1 := one_Crs w (cTo 2) w.heap.size 1 rfl (by omega)
  have h2 := one_Crs (w.alloc (.cells (crsC (cTo 2)).toArray 28)) (cTo 1) (w.heap.size + 1) 1 (by simp) (by omega)
  have hx := csort_any _ _ [[cTo 2], [cTo 1]] _ (vals_new ((w.alloc (.cells (crsC (cTo 2)).toArray 28)).alloc (.cells (crsC (cTo 1)).toArray 28)) [.slice (some ⟨w.heap.size, 0, none⟩) 1 1, .slice (some ⟨w.heap.size + 1, 0, none⟩) 1 1] 29 (w.heap.size + 1 + 1) (by simp))
    ((AllSl.cons (h1.below ((Below.refl _ _).alloc (Nat.le_refl _) _)) (AllSl.cons h2 (AllSl.nil _))).below ((Below.refl _ _).alloc (Nat.le_refl _) _)) (by simp) (by simp)
  rw [show ([[cTo 2], [cTo 1]] : List (List Crs)).flatten = [cTo 2, cTo 1] from rfl, st_awake] at hx
  have HX := Lib.hid hx
  clear h1 h2 hx HS
  go_enter Try.func9, Try.ntmps9
  go_wp2_with fail
  refine HX.out.mono ?_
  rintro e w1 ⟨v, rfl, ho, hb⟩
  have Hb1 := Lib.hid (unbox (unbox (unbox hb)))
  have HV := Lib.hid (owned_sl ho)
  obtain ⟨g, cap, rfl⟩ : ∃ g cap, v = .slice (some ⟨g, 0, none⟩) 2 cap := by
    rcases ho.2 with ⟨h1, h2⟩ | ⟨g, cap, cur, h1, _⟩
    · cases h2
    · exact ⟨g, cap, h1⟩
  obtain ⟨cur, hblk, -, -, hcur⟩ := Blk.of_own ho
  have hc : ∀ i u, ([cTo 1, cTo 2].flatMap crsC)[i]? = some u → w1.cell? ⟨g, i, none⟩ = some u := fun i u hu => by rw [hblk.cell]; exact hcur i u hu
  have c0 : w1.cell? ⟨g, 0, none⟩ = some (.int .i64 (cTo 1).kind) := hc 0 _ rfl
  have c1 : w1.cell? ⟨g, 1, none⟩ = some (.int .i64 (cTo 1).src) := hc 1 _ rfl
  have c2 : w1.cell? ⟨g, 2, none⟩ = some (.int .i64 (cTo 1).dst) := hc 2 _ rfl
  have c3 : w1.cell? ⟨g, 3, none⟩ = some (.int .i64 (cTo 1).frame) := hc 3 _ rfl
  have c4 : w1.cell? ⟨g, 4, none⟩ = some (.int .i64 (cTo 1).e.id) := hc 4 _ rfl
  have c5 : w1.cell? ⟨g, 5, none⟩ = some (.int .i64 (cTo 1).e.kind) := hc 5 _ rfl
  have c6 : w1.cell? ⟨g, 6, none⟩ = some (.int .i64 (cTo 1).e.x) := hc 6 _ rfl
  have c7 : w1.cell? ⟨g, 7, none⟩ = some (.int .i64 (cTo 1).e.y) := hc 7 _ rfl
  have c8 : w1.cell? ⟨g, 8, none⟩ = some (.int .i64 (cTo 1).e.vx) := hc 8 _ rfl
  have c9 : w1.cell? ⟨g, 9, none⟩ = some (.int .i64 (cTo 1).e.vy) := hc 9 _ rfl
  have c10 : w1.cell? ⟨g, 10, none⟩ = some (.int .i64 (cTo 1).e.health) := hc 10 _ rfl
  have c11 : w1.cell? ⟨g, 11, none⟩ = some (.int .i64 (cTo 1).e.age) := hc 11 _ rfl
  have c12 : w1.cell? ⟨g, 12, none⟩ = some (.int .i64 (cTo 1).e.owner) := hc 12 _ rfl
  have c13 : w1.cell? ⟨g, 13, none⟩ = some (.int .i64 (cTo 1).x) := hc 13 _ rfl
  have c14 : w1.cell? ⟨g, 14, none⟩ = some (.int .i64 (cTo 1).y) := hc 14 _ rfl
  have d0 : w1.cell? ⟨g, 15, none⟩ = some (.int .i64 (cTo 2).kind) := hc (15 + 0) _ rfl
  have d1 : w1.cell? ⟨g, 16, none⟩ = some (.int .i64 (cTo 2).src) := hc (15 + 1) _ rfl
  have d2 : w1.cell? ⟨g, 17, none⟩ = some (.int .i64 (cTo 2).dst) := hc (15 + 2) _ rfl
  have d3 : w1.cell? ⟨g, 18, none⟩ = some (.int .i64 (cTo 2).frame) := hc (15 + 3) _ rfl
  have d4 : w1.cell? ⟨g, 19, none⟩ = some (.int .i64 (cTo 2).e.id) := hc (15 + 4) _ rfl
  have d5 : w1.cell? ⟨g, 20, none⟩ = some (.int .i64 (cTo 2).e.kind) := hc (15 + 5) _ rfl
  have d6 : w1.cell? ⟨g, 21, none⟩ = some (.int .i64 (cTo 2).e.x) := hc (15 + 6) _ rfl
  have d7 : w1.cell? ⟨g, 22, none⟩ = some (.int .i64 (cTo 2).e.y) := hc (15 + 7) _ rfl
  have d8 : w1.cell? ⟨g, 23, none⟩ = some (.int .i64 (cTo 2).e.vx) := hc (15 + 8) _ rfl
  have d9 : w1.cell? ⟨g, 24, none⟩ = some (.int .i64 (cTo 2).e.vy) := hc (15 + 9) _ rfl
  have d10 : w1.cell? ⟨g, 25, none⟩ = some (.int .i64 (cTo 2).e.health) := hc (15 + 10) _ rfl
  have d11 : w1.cell? ⟨g, 26, none⟩ = some (.int .i64 (cTo 2).e.age) := hc (15 + 11) _ rfl
  have d12 : w1.cell? ⟨g, 27, none⟩ = some (.int .i64 (cTo 2).e.owner) := hc (15 + 12) _ rfl
  have d13 : w1.cell? ⟨g, 28, none⟩ = some (.int .i64 (cTo 2).x) := hc (15 + 13) _ rfl
  have d14 : w1.cell? ⟨g, 29, none⟩ = some (.int .i64 (cTo 2).y) := hc (15 + 14) _ rfl
  have hgw : g < w1.heap.size := hblk.lt
  clear hc hcur hblk ho hb HX
  simp only [cTo] at c0 c1 c2 c3 c4 c5 c6 c7 c8 c9 c10 c11 c12 c13 c14 d0 d1 d2 d3 d4 d5 d6 d7 d8 d9 d10 d11 d12 d13 d14
  go_wp2_with fail
  refine plan_region' (S := (fun w' => (∀ b o, b < (w1).heap.size → w'.cell? ⟨b, o, none⟩ = (w1).cell? ⟨b, o, none⟩) ∧ (∀ b o, b < (w1).heap.size → w'.frozen? ⟨b, o, none⟩ = (w1).frozen? ⟨b, o, none⟩) ∧ Below (w1).heap.size (w1) w')) [(0, true), (1, true), (2, true), (3, true), (4, true), (5, true), (6, true), (7, true), (8, true), (9, true), (10, true), (11, true), (12, true), (13, true), (14, true), (15, true), (16, true), (17, false), (18, true), (19, true), (20, true), (21, false), (22, true), (23, true), (24, true), (25, true)] (by kernel_rfl) (by kernel_rfl) (fun _ _ d _ _ h => by cases d <;> exact h) (keepW0 _) (fun hS => ?_)
  simp only [picked, List.getElem?_cons_succ, List.getElem?_cons_zero]
  refine row_free (v := ?_) (by rfl) ?_ ?_
  rotate_left 1
  focus (intro w hSw; (try dsimp only at hSw); go_simp; (try with_reducible rfl))
  (try simp only [Act.put, List.setIfInBounds_toArray, List.set_cons_zero, List.set_cons_succ])
  refine row_free (v := ?_) (by rfl) ?_ ?_
  rotate_left 1
  focus (intro w hSw; (try dsimp only at hSw); go_simp; (try with_reducible rfl))
  (try simp only [Act.put, List.setIfInBounds_toArray, List.set_cons_zero, List.set_cons_succ])
  refine row_free (v := ?_) (by rfl) ?_ ?_
  rotate_left 1
  focus (intro w hSw; (try dsimp only at hSw); go_simp; (try with_reducible rfl))
  (try simp only [Act.put, List.setIfInBounds_toArray, List.set_cons_zero, List.set_cons_succ])
  refine row_free (v := ?_) (by rfl) ?_ ?_
  rotate_left 1
  focus (intro w hSw; (try dsimp only at hSw); go_simp; (try with_reducible rfl))
  (try simp only [Act.put, List.setIfInBounds_toArray, List.set_cons_zero, List.set_cons_succ])
  refine row_free (v := ?_) (by rfl) ?_ ?_
  rotate_left 1
  focus (intro w hSw; (try dsimp only at hSw); go_simp; (try with_reducible rfl))
  (try simp only [Act.put, List.setIfInBounds_toArray, List.set_cons_zero, List.set_cons_succ])
  refine row_free (v := ?_) (by rfl) ?_ ?_
  rotate_left 1
  focus (intro w hSw; (try dsimp only at hSw); go_simp; (try with_reducible rfl))
  (try simp only [Act.put, List.setIfInBounds_toArray, List.set_cons_zero, List.set_cons_succ])
  refine row_free (v := ?_) (by rfl) ?_ ?_
  rotate_left 1
  focus (intro w hSw; (try dsimp only at hSw); go_simp; (try with_reducible rfl))
  (try simp only [Act.put, List.setIfInBounds_toArray, List.set_cons_zero, List.set_cons_succ])
  refine row_free (v := ?_) (by rfl) ?_ ?_
  rotate_left 1
  focus (intro w hSw; (try dsimp only at hSw); go_simp; (try with_reducible rfl))
  (try simp only [Act.put, List.setIfInBounds_toArray, List.set_cons_zero, List.set_cons_succ])
  refine row_free (v := ?_) (by rfl) ?_ ?_
  rotate_left 1
  focus (intro w hSw; (try dsimp only at hSw); go_simp; (try with_reducible rfl))
  (try simp only [Act.put, List.setIfInBounds_toArray, List.set_cons_zero, List.set_cons_succ])
  refine row_free (v := ?_) (by rfl) ?_ ?_
  rotate_left 1
  focus (intro w hSw; (try dsimp only at hSw); go_simp; (try with_reducible rfl))
  (try simp only [Act.put, List.setIfInBounds_toArray, List.set_cons_zero, List.set_cons_succ])
  refine row_free (v := ?_) (by rfl) ?_ ?_
  rotate_left 1
  focus (intro w hSw; (try dsimp only at hSw); go_simp; (try with_reducible rfl))
  (try simp only [Act.put, List.setIfInBounds_toArray, List.set_cons_zero, List.set_cons_succ])
  refine row_free (v := ?_) (by rfl) ?_ ?_
  rotate_left 1
  focus (intro w hSw; (try dsimp only at hSw); go_simp; (try with_reducible rfl))
  (try simp only [Act.put, List.setIfInBounds_toArray, List.set_cons_zero, List.set_cons_succ])
  refine row_free (v := ?_) (by rfl) ?_ ?_
  rotate_left 1
  focus (intro w hSw; (try dsimp only at hSw); go_simp; (try with_reducible rfl))
  (try simp only [Act.put, List.setIfInBounds_toArray, List.set_cons_zero, List.set_cons_succ])
  refine row_free (v := ?_) (by rfl) ?_ ?_
  rotate_left 1
  focus (intro w hSw; (try dsimp only at hSw); go_simp; (try with_reducible rfl))
  (try simp only [Act.put, List.setIfInBounds_toArray, List.set_cons_zero, List.set_cons_succ])
  refine row_free (v := ?_) (by rfl) ?_ ?_
  rotate_left 1
  focus (intro w hSw; (try dsimp only at hSw); go_simp; (try with_reducible rfl))
  (try simp only [Act.put, List.setIfInBounds_toArray, List.set_cons_zero, List.set_cons_succ])
  refine row_free (v := ?_) (by rfl) ?_ ?_
  rotate_left 1
  focus (intro w hSw; (try dsimp only at hSw); go_simp; (try with_reducible rfl))
  (try simp only [Act.put, List.setIfInBounds_toArray, List.set_cons_zero, List.set_cons_succ])
  refine row_free (v := ?_) (by rfl) ?_ ?_
  rotate_left 1
  focus (intro w hSw; (try dsimp only at hSw); go_simp; (try with_reducible rfl))
  (try simp only [Act.put, List.setIfInBounds_toArray, List.set_cons_zero, List.set_cons_succ])
  refine row_call (by rfl) (fun K hK => ?_)
  go_simp
  (refine (HL.out (cTo 1) (cTo 2) _).mono ?_; rw [show lessB (cTo 1) (cTo 2) = true from rfl]; rintro e w4 ⟨rfl, hb4⟩)
  (try go_wp2_with fail)
  refine hK.out _ _ ?_ (fun hS' => ?_)
  · (try dsimp only); first | exact keepW (by assumption) (by assumption) | exact keepB (by assumption) (by assumption) | exact keepA (by assumption) | assumption
  clear hS hK K
  have hS := hS'
  clear hS'
  (try simp only [Act.put, List.setIfInBounds_toArray, List.set_cons_zero, List.set_cons_succ])
  refine row_free (v := ?_) (by rfl) ?_ ?_
  rotate_left 1
  focus (intro w hSw; (try dsimp only at hSw); go_simp; (try with_reducible rfl))
  (try simp only [Act.put, List.setIfInBounds_toArray, List.set_cons_zero, List.set_cons_succ])
  refine row_free (v := ?_) (by rfl) ?_ ?_
  rotate_left 1
  focus (intro w hSw; (try dsimp only at hSw); go_simp; (try with_reducible rfl))
  (try simp only [Act.put, List.setIfInBounds_toArray, List.set_cons_zero, List.set_cons_succ])
  refine row_free (v := ?_) (by rfl) ?_ ?_
  rotate_left 1
  focus (intro w hSw; (try dsimp only at hSw); go_simp; (try with_reducible rfl))
  (try simp only [Act.put, List.setIfInBounds_toArray, List.set_cons_zero, List.set_cons_succ])
  refine row_call (by rfl) (fun K hK => ?_)
  go_simp
  (refine (HT.out _ [cTo 1, cTo 2] 2 _ (HV.out.below hS.2.2) (by simp)).mono ?_; rw [to_awake]; rintro e w5 ⟨v5, rfl, ho5, hb5⟩; obtain ⟨A5, c5', rfl, -⟩ := owned_sl ho5)
  (try go_wp2_with fail)
  refine hK.out _ _ ?_ (fun hS' => ?_)
  · (try dsimp only); first | exact keepW (by assumption) (by assumption) | exact keepB (by assumption) (by assumption) | exact keepA (by assumption) | assumption
  clear hS hK K
  have hS := hS'
  clear hS'
  (try simp only [Act.put, List.setIfInBounds_toArray, List.set_cons_zero, List.set_cons_succ])
  refine row_free (v := ?_) (by rfl) ?_ ?_
  rotate_left 1
  focus (intro w hSw; (try dsimp only at hSw); go_simp; (try with_reducible rfl))
  (try simp only [Act.put, List.setIfInBounds_toArray, List.set_cons_zero, List.set_cons_succ])
  refine row_free (v := ?_) (by rfl) ?_ ?_
  rotate_left 1
  focus (intro w hSw; (try dsimp only at hSw); go_simp; (try with_reducible rfl))
  (try simp only [Act.put, List.setIfInBounds_toArray, List.set_cons_zero, List.set_cons_succ])
  refine row_free (v := ?_) (by rfl) ?_ ?_
  rotate_left 1
  focus (intro w hSw; (try dsimp only at hSw); go_simp; (try with_reducible rfl))
  (try simp only [Act.put, List.setIfInBounds_toArray, List.set_cons_zero, List.set_cons_succ])
  refine row_free (v := ?_) (by rfl) ?_ ?_
  rotate_left 1
  focus (intro w hSw; (try dsimp only at hSw); go_simp; (try with_reducible rfl))
  (try simp only [Act.put, List.setIfInBounds_toArray, List.set_cons_zero])
  refine row_done ?_
  go_wp2
  go_ret
  exact ⟨rfl, Hb1.out.trans (hS.2.2.mono Hb1.out.size)⟩

end Go.Proofs.Ytbmboidmgdpnoaa.Fx
