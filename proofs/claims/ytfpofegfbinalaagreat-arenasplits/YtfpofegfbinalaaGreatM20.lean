/- Package moving's Steer and Shoot, and the document's: what they return, for every input; old memory stays. Package moving's Go and the document's: what they return, for every input; old memory stays. -/
import Derived.Test.YtfpofegfbinalaaGreatM11
import Derived.Test.YtfpofegfbinalaaGreatM05
import Derived.Test.YtfpofegfbinalaaGreatM01
import Derived.Lib.MinMax
import Derived.Test.YtfpofegfbinalaaGreatM12
import Derived.Test.YtfpofegfbinalaaGreatM03
import Derived.Deep.DeepCutAuto
namespace Go.Proofs.YtfpofegfbinalaaGreat.Fx
open Go.ChangeShapes Go.WideShapes Go.ChangeAt Go.RowKit
set_option linter.unusedVariables false
set_option maxRecDepth 100000

theorem bx0 (w : World) (A : Array Value) (t : TypeId) (B C : Obj) (o : Nat) : (((w.alloc (.cells A t)).alloc B).alloc C).cell? ⟨w.heap.size, o, none⟩ = A[o]? := by
  rw [World.cell?_alloc_lt _ _ _ (by simp; omega), World.cell?_alloc_lt _ _ _ (by simp), World.cell?_alloc_new]

theorem bx1 (w : World) (A : Obj) (B : Array Value) (t : TypeId) (C : Obj) (o : Nat) : (((w.alloc A).alloc (.cells B t)).alloc C).cell? ⟨w.heap.size + 1, o, none⟩ = B[o]? := by
  rw [World.cell?_alloc_lt _ _ _ (by simp), show w.heap.size + 1 = (w.alloc A).heap.size by simp, World.cell?_alloc_new]

theorem bx2 (w : World) (A B : Obj) (C : Array Value) (t : TypeId) (o : Nat) : (((w.alloc A).alloc B).alloc (.cells C t)).cell? ⟨w.heap.size + 1 + 1, o, none⟩ = C[o]? := by
  rw [show w.heap.size + 1 + 1 = ((w.alloc A).alloc B).heap.size by simp, World.cell?_alloc_new]

theorem bxf (w : World) (A B C : Array Value) (t u v : TypeId) (b o : Nat) (h : w.heap.size ≤ b) : (((w.alloc (.cells A t)).alloc (.cells B u)).alloc (.cells C v)).frozen? ⟨b, o, none⟩ = false := by
  rw [frozen?_alloc_cells, frozen?_alloc_cells, frozen?_alloc_cells]
  simp [World.frozen?, h]

theorem bset {B : Nat} {w w' : World} {b o : Nat} {v : Value} (h : Below B w w') (hb : B ≤ b) : Below B w (w'.setCell ⟨b, o, none⟩ v) := h.setCell hb v

theorem bal3 (w : World) (A B C : Obj) : Below w.heap.size w (((w.alloc A).alloc B).alloc C) :=
  (((Below.refl _ _).alloc (Nat.le_refl _) _).alloc (by simp) _).alloc (by simp; omega) _

theorem cooler_any (v : Int) (w : World) (h : v ≤ 9223372036854775807) :
    Calls Tryz.prog 185 #[.int .i64 v] w fun e w' => e = .returned (.int .i64 (max 1 v - 1)) ∧ w = w' := by
  go_enter Tryz.func185, Tryz.ntmps185
  go_wp2
  all_goals go_ret
  all_goals exact ⟨ret_int (by omega), rfl⟩

theorem sgn_bd (v : Int) : -1 ≤ sgn v ∧ sgn v ≤ 1 := by unfold sgn; repeat' split <;> omega

theorem flight_any (v : Int) (w : World) :
    Calls Tryz.prog 186 #[.int .i64 v] w fun e w' => e = .returned (.int .i64 (sgn v * 160)) ∧ w = w' := by
  have hs : clamp v (-1) 1 = sgn v := by unfold clamp sgn; repeat' split <;> omega
  have hb := sgn_bd v
  have HC := Lib.hid (fun w => clamp_any v (-1) 1 w)
  rw [hs] at HC
  clear hs
  generalize sgn v = s at *
  go_enter Tryz.func186, Tryz.ntmps186
  go_wp2_with fail
  refine (HC.out _).mono ?_
  rintro e w' ⟨rfl, rfl⟩
  go_wp2
  go_ret
  exact ⟨rfl, rfl⟩

theorem rsign_any (v : Int) (w : World) :
    Calls Tryz.prog 120 #[.int .i64 v] w fun e w' => e = .returned (.int .i64 (sgn v)) ∧ w = w' := by
  go_enter Tryz.func120, Tryz.ntmps120
  go_wp2
  all_goals go_ret
  all_goals exact ⟨ret_int (by unfold sgn; repeat' split <;> omega), rfl⟩

theorem steer_off {y : Ent} {dx dy : Int} (f : Bool) (h : ¬ (y.kind = 1 ∧ irt dx dy = true)) : steerE y dx dy f = y ∧ steerB y dx dy f = false := by
  refine ⟨if_neg h, decide_eq_false fun h' => h ⟨h'.1, h'.2.1⟩⟩

theorem steer_yes (i0 x0 y0 vx vy he ow dx dy : Int) (h : irt dx dy = true) : steerE ⟨i0, 1, x0, y0, vx, vy, he, 0, ow⟩ dx dy true = ⟨i0, 1, x0, y0, dx * 32, dy * 32, he, 6, ow⟩ ∧ steerB ⟨i0, 1, x0, y0, vx, vy, he, 0, ow⟩ dx dy true = true := by
  unfold steerE steerB
  simp [h]

theorem steer_no (i0 x0 y0 vx vy he ag ow dx dy : Int) (f : Bool) (h : irt dx dy = true) (hf : ¬ (f = true ∧ ag = 0)) : steerE ⟨i0, 1, x0, y0, vx, vy, he, ag, ow⟩ dx dy f = ⟨i0, 1, x0, y0, dx * 32, dy * 32, he, max 1 ag - 1, ow⟩ ∧ steerB ⟨i0, 1, x0, y0, vx, vy, he, ag, ow⟩ dx dy f = false := by
  unfold steerE steerB
  rw [if_pos ⟨rfl, h⟩]
  simp only [if_neg hf]
  exact ⟨trivial, decide_eq_false fun h' => hf h'.2.2⟩

end Go.Proofs.YtfpofegfbinalaaGreat.Fx
namespace Go.Proofs.YtfpofegfbinalaaGreat.Fx
open Go.ChangeShapes Go.WideShapes Go.ChangeAt Go.RowKit
set_option linter.unusedVariables false
set_option maxRecDepth 100000

theorem ints_old1 (w : World) (T : TypeId) (a : Int) (o : Obj) (g : Nat) (hg : g = w.heap.size) : IntsAt ((w.alloc (.cells #[.int .i64 a] T)).alloc o) (some ⟨g, 0, none⟩) 1 [a] :=
  (ints_new1 w T a g hg).below ((Below.refl _ _).alloc (Nat.le_refl _) _)

theorem IntsAt.drew {w : World} {A : Option Addr} {n : Nat} {l : List Int} (h : IntsAt w A n l) : IntsAt w.drew A n l := h.keep fun _ _ h => h

theorem addl2 (v s : Int) (h1 : -1000000 ≤ v ∧ v ≤ 1000000) (h2 : -1000000 ≤ s ∧ s ≤ 1000000) : addl [v, s] = v + s := by
  simp only [addl, List.foldl]
  rw [held_id v (by omega) (by omega), held_id s (by omega) (by omega), held_id (0 + v) (by omega) (by omega), held_id _ (by omega) (by omega)]
  omega

def stepv (v s : Int) : Nat → Int
  | 0 => v
  | _ + 1 => addl [v, s]

theorem step_any (v s : Int) (A : Option Addr) (c : Nat) (w : World) (hl : IntsAt w A 1 [s]) :
    Calls Tryz.prog 187 #[.int .i64 v, .slice A 1 c] w fun e w' => e = .returned (.int .i64 (addl [v, s])) ∧ Below w.heap.size w w' := by
  have HL := Lib.hid hl
  have HA := Lib.hid (fun (w : World) (g : Nat) (hg : g = w.heap.size) T => add_any (some ⟨g, 0, none⟩) 2 2 [v, s] (w.alloc (.cells #[.int .i64 v, .int .i64 s] T)) (ints_new2 _ _ _ _ _ hg) (by decide))
  have HR := Lib.hid (show stepv v s 1 = addl [v, s] from rfl)
  clear hl
  generalize addl [v, s] = r at *
  go_enter Tryz.func187, Tryz.ntmps187
  go_wp2_with fail
  go_loopw [0, 9] (fun f i wr => ∃ k : Nat, k ≤ 1 ∧ i = .int .i64 k ∧ f = .int .i64 (stepv v s k) ∧ Below w.heap.size w wr) (fun _ i _ => 1 - (intOf i).toNat)
  case atStart => exact ⟨0, Nat.zero_le _, rfl, rfl, Below.refl _ _⟩
  case round =>
    obtain ⟨k, hk, rfl, rfl, hbel⟩ := hrel
    have Hbel := Lib.hid hbel
    rcases (show k = 0 ∨ k = 1 by omega) with rfl | rfl
    · obtain ⟨-, hat⟩ := HL.out.below hbel
      obtain ⟨b, off, rfl, hc⟩ := hat (by omega)
      have hc0 := hc 0 (by omega)
      simp only [gi, List.getD_cons_zero, Nat.add_zero] at hc0
      clear hc hat hbel
      have hs0 : stepv v s 0 = v := rfl
      simp only [hs0]
      go_wp2_with fail
      refine (HA.out _ _ rfl _).mono ?_
      rintro e w2 ⟨rfl, rfl⟩
      go_wp2_with fail
      go_roundw
      case rel => exact ⟨1, by omega, rfl, by rw [HR.out], Hbel.out.alloc Hbel.out.size _⟩
      case measure => simp [intOf]
    · rw [HR.out]
      go_wp2
      go_ret
      exact ⟨rfl, Hbel.out⟩

set_option maxHeartbeats 2000000 in
theorem walk_any (a b p n s : Int) (i0 kd x0 y0 vx vy he ag ow : Int) (w : World) (hr : rt a b p n = true) (hx : -1000000 ≤ x0 ∧ x0 ≤ 1000000) (hy : -1000000 ≤ y0 ∧ y0 ≤ 1000000) (hvx : -1000000 ≤ vx ∧ vx ≤ 1000000) (hvy : -1000000 ≤ vy ∧ vy ≤ 1000000) :
    Calls Tryz.prog 144 #[.agg #[.int .i64 a, .int .i64 b, .int .i64 p, .int .i64 n, .int .u64 s], .agg #[.int .i64 (⟨i0, kd, x0, y0, vx, vy, he, ag, ow⟩ : Ent).id, .int .i64 (⟨i0, kd, x0, y0, vx, vy, he, ag, ow⟩ : Ent).kind, .int .i64 (⟨i0, kd, x0, y0, vx, vy, he, ag, ow⟩ : Ent).x, .int .i64 (⟨i0, kd, x0, y0, vx, vy, he, ag, ow⟩ : Ent).y, .int .i64 (⟨i0, kd, x0, y0, vx, vy, he, ag, ow⟩ : Ent).vx, .int .i64 (⟨i0, kd, x0, y0, vx, vy, he, ag, ow⟩ : Ent).vy, .int .i64 (⟨i0, kd, x0, y0, vx, vy, he, ag, ow⟩ : Ent).health, .int .i64 (⟨i0, kd, x0, y0, vx, vy, he, ag, ow⟩ : Ent).age, .int .i64 (⟨i0, kd, x0, y0, vx, vy, he, ag, ow⟩ : Ent).owner]] w fun e w' => e = .returned (.agg #[.int .i64 (⟨i0, kd, clamp (x0 + vx) 0 (a * 1024 - 1), clamp (y0 + vy) 0 (b * 1024 - 1), vx, vy, he, ag, ow⟩ : Ent).id, .int .i64 (⟨i0, kd, clamp (x0 + vx) 0 (a * 1024 - 1), clamp (y0 + vy) 0 (b * 1024 - 1), vx, vy, he, ag, ow⟩ : Ent).kind, .int .i64 (⟨i0, kd, clamp (x0 + vx) 0 (a * 1024 - 1), clamp (y0 + vy) 0 (b * 1024 - 1), vx, vy, he, ag, ow⟩ : Ent).x, .int .i64 (⟨i0, kd, clamp (x0 + vx) 0 (a * 1024 - 1), clamp (y0 + vy) 0 (b * 1024 - 1), vx, vy, he, ag, ow⟩ : Ent).y, .int .i64 (⟨i0, kd, clamp (x0 + vx) 0 (a * 1024 - 1), clamp (y0 + vy) 0 (b * 1024 - 1), vx, vy, he, ag, ow⟩ : Ent).vx, .int .i64 (⟨i0, kd, clamp (x0 + vx) 0 (a * 1024 - 1), clamp (y0 + vy) 0 (b * 1024 - 1), vx, vy, he, ag, ow⟩ : Ent).vy, .int .i64 (⟨i0, kd, clamp (x0 + vx) 0 (a * 1024 - 1), clamp (y0 + vy) 0 (b * 1024 - 1), vx, vy, he, ag, ow⟩ : Ent).health, .int .i64 (⟨i0, kd, clamp (x0 + vx) 0 (a * 1024 - 1), clamp (y0 + vy) 0 (b * 1024 - 1), vx, vy, he, ag, ow⟩ : Ent).age, .int .i64 (⟨i0, kd, clamp (x0 + vx) 0 (a * 1024 - 1), clamp (y0 + vy) 0 (b * 1024 - 1), vx, vy, he, ag, ow⟩ : Ent).owner]) ∧ Below w.heap.size w w' := by
  obtain ⟨r1, r2, r3, r4, -⟩ := rt_bd hr
  have HW := Lib.hid (fun w => width_any a b p n s w)
  have HH := Lib.hid (fun w => height_any a b p n s w)
  have hwe : wid a b p n = a * 1024 := by unfold wid; rw [if_pos hr]
  have hhe : hei a b p n = b * 1024 := by unfold hei; rw [if_pos hr]
  rw [hwe] at HW
  rw [hhe] at HH
  have HS1 := Lib.hid (fun A c w h => step_any x0 vx A c w h)
  have HS2 := Lib.hid (fun A c w h => step_any y0 vy A c w h)
  rw [addl2 x0 vx hx hvx] at HS1
  rw [addl2 y0 vy hy hvy] at HS2
  have HC1 := Lib.hid (fun w => clamp_any (x0 + vx) 0 (a * 1024 - 1) w)
  have HC2 := Lib.hid (fun w => clamp_any (y0 + vy) 0 (b * 1024 - 1) w)
  clear hwe hhe hr
  dsimp only
  generalize clamp (x0 + vx) 0 (a * 1024 - 1) = X at *
  generalize clamp (y0 + vy) 0 (b * 1024 - 1) = Y at *
  have hm1 : IntKind.i64.wrap (a * 1024 - 1) = a * 1024 - 1 := by rw [IntKind.wrap_i64]; omega
  have hm2 : IntKind.i64.wrap (b * 1024 - 1) = b * 1024 - 1 := by rw [IntKind.wrap_i64]; omega
  go_enter Tryz.func144, Tryz.ntmps144
  go_upto_region 1 with fail
  generalize hW : World.alloc (World.alloc (World.alloc w _) _) _ = W0
  have hg : CfgBox W0 w.heap.size ⟨a, b, p, n, s⟩ := by rw [← hW]; exact CfgBox.n3a _ _ _ _ _ rfl
  have hc : EntBox W0 (w.heap.size + 1) ⟨i0, kd, x0, y0, vx, vy, he, ag, ow⟩ := by rw [← hW]; exact EntBox.n3b _ _ _ _ _ rfl
  have hr : EntBox W0 (w.heap.size + 1 + 1) nobody := by rw [← hW]; exact EntBox.n3c _ _ _ _ _ rfl
  have hz : w.heap.size + 1 + 1 < W0.heap.size := by rw [← hW]; simp
  have hza : w.heap.size < W0.heap.size := by omega
  have hzb : w.heap.size + 1 < W0.heap.size := by omega
  have HB := Lib.hid (show Below w.heap.size w W0 from by rw [← hW]; exact bal3 _ _ _ _)
  clear hW
  have hg' := Lib.hid hg
  obtain ⟨g0, g1, g2, g3, g4, -⟩ := hg
  have hc' := Lib.hid hc
  obtain ⟨c0, c1, c2, c3, c4, c5, c6, c7, c8, -⟩ := hc
  refine tail_region (S := (fun w' => (∀ b o, b < (W0).heap.size → w'.cell? ⟨b, o, none⟩ = (W0).cell? ⟨b, o, none⟩) ∧ (∀ b o, b < (W0).heap.size → w'.frozen? ⟨b, o, none⟩ = (W0).frozen? ⟨b, o, none⟩) ∧ Below (W0).heap.size (W0) w')) 11 (.free 0 (.free 1 (.free 2 (.free 3 (.free 6 (.one 4 (.one 5 (.one 7 (.free 8 (.one 9 (.free 10 .tail))))))))))) (by kernel_rfl) (by kernel_rfl) (fun _ _ d _ _ h => by cases d <;> exact h) (keepW0 _) (fun hS => ?_)
  simp only [writtenT, List.drop_succ_cons, List.drop_zero, List.getElem?_cons_succ, List.getElem?_cons_zero]
  iterate 5
   refine rz_free (v := ?_) (by rfl) ?_ ?_; rotate_left 1; focus (intro w hSw; (try dsimp only at hSw); go_simp; (try with_reducible rfl))
   (try simp only [Act.put, tA, tB, tC])
  refine rz_call (by rfl) (fun K hK => ?_)
  go_simp
  (skip)
  (try go_wp2_with fail)
  refine hK.out _ _ ?_ (fun hS' => ?_)
  · (try dsimp only); first | exact keepW (by assumption) (by assumption) | exact keepB (by assumption) (by assumption) | exact keepA (by assumption) | assumption
  clear hS hK K
  have hS := hS'
  clear hS'
  (try simp only [Act.put, tA, tB, tC])
  refine rz_call (by rfl) (fun K hK => ?_)
  go_simp
  (refine (HS1.out _ _ _ (by first | exact ints_new1 _ _ _ _ rfl | exact (ints_new1 _ _ _ _ rfl).drew)).mono ?_; rintro e w4 ⟨rfl, hb4⟩)
  (try go_wp2_with fail)
  refine hK.out _ _ ?_ (fun hS' => ?_)
  · (try dsimp only); first | exact keepW (by assumption) (by assumption) | exact keepB (by assumption) (by assumption) | exact keepA (by assumption) | assumption
  clear hS hK K
  have hS := hS'
  clear hS'
  (try simp only [Act.put, tA, tB, tC])
  refine rz_call (by rfl) (fun K hK => ?_)
  go_simp
  (refine (HW.out _).mono ?_; rintro e w5 ⟨rfl, hb5⟩)
  (try go_wp2_with fail)
  refine hK.out _ _ ?_ (fun hS' => ?_)
  · (try dsimp only); first | exact keepW (by assumption) (by assumption) | exact keepB (by assumption) (by assumption) | exact keepA (by assumption) | assumption
  clear hS hK K
  have hS := hS'
  clear hS'
  (try simp only [Act.put, tA, tB, tC])
  refine rz_free (v := ?_) (by rfl) ?_ ?_; rotate_left 1; focus (intro w hSw; (try dsimp only at hSw); go_simp; (try with_reducible rfl))
  (try simp only [Act.put, tA, tB, tC])
  refine rz_call (by rfl) (fun K hK => ?_)
  go_simp
  (refine (HC1.out _).mono ?_; rintro e w6 ⟨rfl, rfl⟩)
  (try go_wp2_with fail)
  refine hK.out _ _ ?_ (fun hS' => ?_)
  · (try dsimp only); first | exact keepW (by assumption) (by assumption) | exact keepB (by assumption) (by assumption) | exact keepA (by assumption) | assumption
  clear hS hK K
  have hS := hS'
  clear hS'
  (try simp only [Act.put, tA, tB, tC])
  refine rz_free (v := ?_) (by rfl) ?_ ?_; rotate_left 1; focus (intro w hSw; (try dsimp only at hSw); go_simp; (try with_reducible rfl))
  (try simp only [Act.put, tA, tB, tC])
  refine rz_done ?_
  have hc1 := hc'.out.below hS.2.2 hzb
  have hr1 := hr.below hS.2.2 hz
  have hg1 : CfgBox w5 w.heap.size ⟨a, b, p, n, s⟩ := hg'.out.below hS.2.2 hza
  have hz1 := Nat.lt_of_lt_of_le hz hS.2.2.size
  replace HB := Lib.hid (nextW HB.out hS.2.2)
  have hc1' := Lib.hid hc1
  clear hS g0 g1 g2 g3 g4 c0 c1 c2 c3 c4 c5 c6 c7 c8 hza hzb hz hr hb4 hb5 HS1 HW HC1 hc' hg'
  obtain ⟨c0, c1, c2, c3, c4, c5, c6, c7, c8, f0, f1, f2, f3, f4, f5, f6, f7, f8⟩ := hc1
  go_upto_region 2 with fail
  generalize hW : World.setCell _ _ _ = W2
  have hc : EntBox W2 (w.heap.size + 1) ⟨i0, kd, X, y0, vx, vy, he, ag, ow⟩ := by rw [← hW]; exact hc1'.out.set2 _
  have hr : EntBox W2 (w.heap.size + 1 + 1) nobody := by rw [← hW]; exact hr1.far (by omega) _ _
  have hg : CfgBox W2 w.heap.size ⟨a, b, p, n, s⟩ := by rw [← hW]; exact hg1.far (by omega) _ _
  have hz : w.heap.size + 1 + 1 < W2.heap.size := by rw [← hW]; simpa using hz1
  have hza : w.heap.size < W2.heap.size := by omega
  have hzb : w.heap.size + 1 < W2.heap.size := by omega
  replace HB := Lib.hid (show Below w.heap.size w W2 from by rw [← hW]; exact bset HB.out (by omega))
  clear hW hc1' hr1 hg1 hz1 c0 c1 c2 c3 c4 c5 c6 c7 c8 f0 f1 f2 f3 f4 f5 f6 f7 f8
  obtain ⟨g0, g1, g2, g3, g4, -⟩ := hg
  have hc' := Lib.hid hc
  obtain ⟨c0, c1, c2, c3, c4, c5, c6, c7, c8, -⟩ := hc
  refine tail_region (S := (fun w' => (∀ b o, b < (W2).heap.size → w'.cell? ⟨b, o, none⟩ = (W2).cell? ⟨b, o, none⟩) ∧ (∀ b o, b < (W2).heap.size → w'.frozen? ⟨b, o, none⟩ = (W2).frozen? ⟨b, o, none⟩) ∧ Below (W2).heap.size (W2) w')) 11 (.free 0 (.free 1 (.free 2 (.free 3 (.free 6 (.one 4 (.one 5 (.one 7 (.free 8 (.one 9 (.free 10 .tail))))))))))) (by kernel_rfl) (by kernel_rfl) (fun _ _ d _ _ h => by cases d <;> exact h) (keepW0 _) (fun hS => ?_)
  simp only [writtenT, List.drop_succ_cons, List.drop_zero, List.getElem?_cons_succ, List.getElem?_cons_zero]
  iterate 5
   refine rz_free (v := ?_) (by rfl) ?_ ?_; rotate_left 1; focus (intro w hSw; (try dsimp only at hSw); go_simp; (try with_reducible rfl))
   (try simp only [Act.put, tA, tB, tC])
  refine rz_call (by rfl) (fun K hK => ?_)
  go_simp
  (skip)
  (try go_wp2_with fail)
  refine hK.out _ _ ?_ (fun hS' => ?_)
  · (try dsimp only); first | exact keepW (by assumption) (by assumption) | exact keepB (by assumption) (by assumption) | exact keepA (by assumption) | assumption
  clear hS hK K
  have hS := hS'
  clear hS'
  (try simp only [Act.put, tA, tB, tC])
  refine rz_call (by rfl) (fun K hK => ?_)
  go_simp
  (refine (HS2.out _ _ _ (by first | exact ints_new1 _ _ _ _ rfl | exact (ints_new1 _ _ _ _ rfl).drew)).mono ?_; rintro e w7 ⟨rfl, hb7⟩)
  (try go_wp2_with fail)
  refine hK.out _ _ ?_ (fun hS' => ?_)
  · (try dsimp only); first | exact keepW (by assumption) (by assumption) | exact keepB (by assumption) (by assumption) | exact keepA (by assumption) | assumption
  clear hS hK K
  have hS := hS'
  clear hS'
  (try simp only [Act.put, tA, tB, tC])
  refine rz_call (by rfl) (fun K hK => ?_)
  go_simp
  (refine (HH.out _).mono ?_; rintro e w8 ⟨rfl, hb8⟩)
  (try go_wp2_with fail)
  refine hK.out _ _ ?_ (fun hS' => ?_)
  · (try dsimp only); first | exact keepW (by assumption) (by assumption) | exact keepB (by assumption) (by assumption) | exact keepA (by assumption) | assumption
  clear hS hK K
  have hS := hS'
  clear hS'
  (try simp only [Act.put, tA, tB, tC])
  refine rz_free (v := ?_) (by rfl) ?_ ?_; rotate_left 1; focus (intro w hSw; (try dsimp only at hSw); go_simp; (try with_reducible rfl))
  (try simp only [Act.put, tA, tB, tC])
  refine rz_call (by rfl) (fun K hK => ?_)
  go_simp
  (refine (HC2.out _).mono ?_; rintro e w9 ⟨rfl, rfl⟩)
  (try go_wp2_with fail)
  refine hK.out _ _ ?_ (fun hS' => ?_)
  · (try dsimp only); first | exact keepW (by assumption) (by assumption) | exact keepB (by assumption) (by assumption) | exact keepA (by assumption) | assumption
  clear hS hK K
  have hS := hS'
  clear hS'
  (try simp only [Act.put, tA, tB, tC])
  refine rz_free (v := ?_) (by rfl) ?_ ?_; rotate_left 1; focus (intro w hSw; (try dsimp only at hSw); go_simp; (try with_reducible rfl))
  (try simp only [Act.put, tA, tB, tC])
  refine rz_done ?_
  have hc1 := hc'.out.below hS.2.2 hzb
  have hr1 := hr.below hS.2.2 hz
  replace HB := Lib.hid (nextW HB.out hS.2.2)
  clear hS g0 g1 g2 g3 g4 c0 c1 c2 c3 c4 c5 c6 c7 c8 hza hzb hz hr hb7 hb8 HS2 HH HC2 hc'
  obtain ⟨c0, c1, c2, c3, c4, c5, c6, c7, c8, f0, f1, f2, f3, f4, f5, f6, f7, f8⟩ := hc1
  obtain ⟨R0, R1, R2, R3, R4, R5, R6, R7, R8, G0, G1, G2, G3, G4, G5, G6, G7, G8⟩ := hr1
  go_wp2
  refine bodyPost_ret (v := .agg #[.int .i64 (⟨i0, kd, X, Y, vx, vy, he, ag, ow⟩ : Ent).id, .int .i64 (⟨i0, kd, X, Y, vx, vy, he, ag, ow⟩ : Ent).kind, .int .i64 (⟨i0, kd, X, Y, vx, vy, he, ag, ow⟩ : Ent).x, .int .i64 (⟨i0, kd, X, Y, vx, vy, he, ag, ow⟩ : Ent).y, .int .i64 (⟨i0, kd, X, Y, vx, vy, he, ag, ow⟩ : Ent).vx, .int .i64 (⟨i0, kd, X, Y, vx, vy, he, ag, ow⟩ : Ent).vy, .int .i64 (⟨i0, kd, X, Y, vx, vy, he, ag, ow⟩ : Ent).health, .int .i64 (⟨i0, kd, X, Y, vx, vy, he, ag, ow⟩ : Ent).age, .int .i64 (⟨i0, kd, X, Y, vx, vy, he, ag, ow⟩ : Ent).owner]) (by simp [results, Tryz.results144, go_sem, *]) rfl ⟨rfl, ?_⟩
  iterate 10 (refine bset ?_ (by omega))
  exact HB.out

set_option maxHeartbeats 2000000 in
theorem fly_any (a b p n s : Int) (i0 kd x0 y0 vx vy he ag ow : Int) (r : Bool) (w : World) (hR : r = (decide (12 < ag + 1) || !ins a b p n (x0 + vx) (y0 + vy))) (hag : -1000000 ≤ ag ∧ ag ≤ 1000000) (hx : -1000000 ≤ x0 ∧ x0 ≤ 1000000) (hy : -1000000 ≤ y0 ∧ y0 ≤ 1000000) (hvx : -1000000 ≤ vx ∧ vx ≤ 1000000) (hvy : -1000000 ≤ vy ∧ vy ≤ 1000000) :
    Calls Tryz.prog 145 #[.agg #[.int .i64 a, .int .i64 b, .int .i64 p, .int .i64 n, .int .u64 s], .agg #[.int .i64 (⟨i0, kd, x0, y0, vx, vy, he, ag, ow⟩ : Ent).id, .int .i64 (⟨i0, kd, x0, y0, vx, vy, he, ag, ow⟩ : Ent).kind, .int .i64 (⟨i0, kd, x0, y0, vx, vy, he, ag, ow⟩ : Ent).x, .int .i64 (⟨i0, kd, x0, y0, vx, vy, he, ag, ow⟩ : Ent).y, .int .i64 (⟨i0, kd, x0, y0, vx, vy, he, ag, ow⟩ : Ent).vx, .int .i64 (⟨i0, kd, x0, y0, vx, vy, he, ag, ow⟩ : Ent).vy, .int .i64 (⟨i0, kd, x0, y0, vx, vy, he, ag, ow⟩ : Ent).health, .int .i64 (⟨i0, kd, x0, y0, vx, vy, he, ag, ow⟩ : Ent).age, .int .i64 (⟨i0, kd, x0, y0, vx, vy, he, ag, ow⟩ : Ent).owner]] w fun e w' => e = .returned (.tuple #[.agg #[.int .i64 (bif r then nobody else (⟨i0, kd, x0 + vx, y0 + vy, vx, vy, he, ag + 1, ow⟩ : Ent)).id, .int .i64 (bif r then nobody else (⟨i0, kd, x0 + vx, y0 + vy, vx, vy, he, ag + 1, ow⟩ : Ent)).kind, .int .i64 (bif r then nobody else (⟨i0, kd, x0 + vx, y0 + vy, vx, vy, he, ag + 1, ow⟩ : Ent)).x, .int .i64 (bif r then nobody else (⟨i0, kd, x0 + vx, y0 + vy, vx, vy, he, ag + 1, ow⟩ : Ent)).y, .int .i64 (bif r then nobody else (⟨i0, kd, x0 + vx, y0 + vy, vx, vy, he, ag + 1, ow⟩ : Ent)).vx, .int .i64 (bif r then nobody else (⟨i0, kd, x0 + vx, y0 + vy, vx, vy, he, ag + 1, ow⟩ : Ent)).vy, .int .i64 (bif r then nobody else (⟨i0, kd, x0 + vx, y0 + vy, vx, vy, he, ag + 1, ow⟩ : Ent)).health, .int .i64 (bif r then nobody else (⟨i0, kd, x0 + vx, y0 + vy, vx, vy, he, ag + 1, ow⟩ : Ent)).age, .int .i64 (bif r then nobody else (⟨i0, kd, x0 + vx, y0 + vy, vx, vy, he, ag + 1, ow⟩ : Ent)).owner], .bool (!r)]) ∧ Below w.heap.size w w' := by
  have HS0 := Lib.hid (fun A c w h => step_any ag 1 A c w h)
  have HS1 := Lib.hid (fun A c w h => step_any x0 vx A c w h)
  have HS2 := Lib.hid (fun A c w h => step_any y0 vy A c w h)
  rw [addl2 ag 1 hag (by omega)] at HS0
  rw [addl2 x0 vx hx hvx] at HS1
  rw [addl2 y0 vy hy hvy] at HS2
  have HI := Lib.hid (fun w => inside_any a b p n s (x0 + vx) (y0 + vy) w)
  have HR := Lib.hid hR
  clear hR
  dsimp only
  generalize x0 + vx = X at *
  generalize y0 + vy = Y at *
  obtain ⟨A1, hA1⟩ : ∃ A1, ag + 1 = A1 := ⟨_, rfl⟩
  rw [hA1] at HS0 HR ⊢
  clear hA1
  generalize ins a b p n X Y = io at *
  go_enter Tryz.func145, Tryz.ntmps145
  go_upto_region 1 with fail
  generalize hW : World.alloc (World.alloc (World.alloc w _) _) _ = W0
  have hg : CfgBox W0 w.heap.size ⟨a, b, p, n, s⟩ := by rw [← hW]; exact CfgBox.n3a _ _ _ _ _ rfl
  have hc : EntBox W0 (w.heap.size + 1) ⟨i0, kd, x0, y0, vx, vy, he, ag, ow⟩ := by rw [← hW]; exact EntBox.n3b _ _ _ _ _ rfl
  have hr : EntBox W0 (w.heap.size + 1 + 1) nobody := by rw [← hW]; exact EntBox.n3c _ _ _ _ _ rfl
  have hz : w.heap.size + 1 + 1 < W0.heap.size := by rw [← hW]; simp
  have HB := Lib.hid (show Below w.heap.size w W0 from by rw [← hW]; exact bal3 _ _ _ _)
  clear hW
  have hc' := Lib.hid hc
  obtain ⟨c0, c1, c2, c3, c4, c5, c6, c7, c8, -⟩ := hc
  go_wp2_with fail
  refine (HS0.out _ _ _ (ints_new1 _ _ _ _ rfl)).mono ?_
  rintro e w1 ⟨rfl, hb1⟩
  replace hb1 := unbox hb1
  have hc1 := hc'.out.below hb1 (by omega)
  have hr1 := hr.below hb1 hz
  have hg1 := hg.below hb1 (by omega)
  have hz1 := Nat.lt_of_lt_of_le hz hb1.size
  replace HB := Lib.hid (nextW HB.out hb1)
  have hc1' := Lib.hid hc1
  clear c0 c1 c2 c3 c4 c5 c6 c7 c8 hc' hb1 hz hr hg HS0
  obtain ⟨c0, c1, c2, c3, c4, c5, c6, c7, c8, f0, f1, f2, f3, f4, f5, f6, f7, f8⟩ := hc1
  go_upto_region 2 with fail
  generalize hW : World.setCell _ _ _ = W2
  have hc : EntBox W2 (w.heap.size + 1) ⟨i0, kd, x0, y0, vx, vy, he, A1, ow⟩ := by rw [← hW]; exact hc1'.out.set7 _
  have hr : EntBox W2 (w.heap.size + 1 + 1) nobody := by rw [← hW]; exact hr1.far (by omega) _ _
  have hg : CfgBox W2 w.heap.size ⟨a, b, p, n, s⟩ := by rw [← hW]; exact hg1.far (by omega) _ _
  have hz : w.heap.size + 1 + 1 < W2.heap.size := by rw [← hW]; simpa using hz1
  have hza : w.heap.size < W2.heap.size := by omega
  have hzb : w.heap.size + 1 < W2.heap.size := by omega
  replace HB := Lib.hid (show Below w.heap.size w W2 from by rw [← hW]; exact bset HB.out (by omega))
  clear hW hc1' hr1 hg1 hz1 c0 c1 c2 c3 c4 c5 c6 c7 c8 f0 f1 f2 f3 f4 f5 f6 f7 f8
  go_cut [] (fun wx => EntBox wx (w.heap.size + 1) ⟨i0, kd, X, Y, vx, vy, he, A1, ow⟩ ∧ EntBox wx (w.heap.size + 1 + 1) nobody ∧ CfgBox wx w.heap.size ⟨a, b, p, n, s⟩ ∧ Below w.heap.size w wx ∧ w.heap.size + 1 + 1 < wx.heap.size)
  case first =>
    have hc' := Lib.hid hc
    obtain ⟨c0, c1, c2, c3, c4, c5, c6, c7, c8, -⟩ := hc
    refine tail_region (S := (fun w' => (∀ b o, b < (W2).heap.size → w'.cell? ⟨b, o, none⟩ = (W2).cell? ⟨b, o, none⟩) ∧ (∀ b o, b < (W2).heap.size → w'.frozen? ⟨b, o, none⟩ = (W2).frozen? ⟨b, o, none⟩) ∧ Below (W2).heap.size (W2) w')) 13 (.free 0 (.free 1 (.free 2 (.free 3 (.free 6 (.free 7 (.free 8 (.free 9 (.two 4 (.two 5 (.free 12 (.one 10 (.one 11 .tail))) 10 (.one 5 (.free 12 (.one 11 .tail)))) 10 (.one 4 (.one 5 (.free 12 (.one 11 .tail))))))))))))) (by kernel_rfl) (by kernel_rfl) (fun _ _ d _ _ h => by cases d <;> exact h) (keepW0 _) (fun hS => ?_)
    simp only [writtenT, List.drop_succ_cons, List.drop_zero, List.getElem?_cons_succ, List.getElem?_cons_zero]
    iterate 8
     refine rz_free (v := ?_) (by rfl) ?_ ?_; rotate_left 1; focus (intro w hSw; (try dsimp only at hSw); go_simp; (try with_reducible rfl))
     (try simp only [Act.put, tA, tB, tC])
    refine rz_two ?_ ?_
    · skip
      refine rz_call (by rfl) (fun K hK => ?_)
      go_simp
      (skip)
      (try go_wp2_with fail)
      refine hK.out _ _ ?_ (fun hS' => ?_)
      · (try dsimp only); first | exact keepW (by assumption) (by assumption) | exact keepB (by assumption) (by assumption) | exact keepA (by assumption) | assumption
      clear hS hK K
      have hS := hS'
      clear hS'
      (try simp only [Act.put, tA, tB, tC])
      refine rz_two ?_ ?_
      · skip
        refine rz_call (by rfl) (fun K hK => ?_)
        go_simp
        (refine (HS1.out _ _ _ (by first | exact ints_new1 _ _ _ _ rfl | exact (ints_new1 _ _ _ _ rfl).drew | exact ints_old1 _ _ _ _ _ rfl | exact (ints_old1 _ _ _ _ _ rfl).drew | exact ints_new1 _ _ _ _ (by simp) | exact (ints_new1 _ _ _ _ (by simp)).drew | exact (ints_new1 _ _ _ _ (by simp)).below (by assumption) | exact (ints_old1 _ _ _ _ _ (by simp)).below (by assumption) | exact (ints_new1 _ _ _ _ (by simp)).drew.below hb4 | exact (ints_old1 _ _ _ _ _ rfl).drew.below hb4)).mono ?_; rintro e w4 ⟨rfl, hb4⟩)
        (try go_wp2_with fail)
        refine hK.out _ _ ?_ (fun hS' => ?_)
        · (try dsimp only); first | exact keepW (by assumption) (by assumption) | exact keepB (by assumption) (by assumption) | exact keepA (by assumption) | assumption
        clear hS hK K
        have hS := hS'
        clear hS'
        (try simp only [Act.put, tA, tB, tC])
        refine rz_free (v := ?_) (by rfl) ?_ ?_; rotate_left 1; focus (intro w hSw; (try dsimp only at hSw); go_simp; (try with_reducible rfl))
        (try simp only [Act.put, tA, tB, tC])
        refine rz_call (by rfl) (fun K hK => ?_)
        go_simp
        (skip)
        (try go_wp2_with fail)
        refine hK.out _ _ ?_ (fun hS' => ?_)
        · (try dsimp only); first | exact keepW (by assumption) (by assumption) | exact keepB (by assumption) (by assumption) | exact keepA (by assumption) | assumption
        clear hS hK K
        have hS := hS'
        clear hS'
        (try simp only [Act.put, tA, tB, tC])
        refine rz_call (by rfl) (fun K hK => ?_)
        go_simp
        (refine (HS2.out _ _ _ (by first | exact ints_new1 _ _ _ _ rfl | exact (ints_new1 _ _ _ _ rfl).drew | exact ints_old1 _ _ _ _ _ rfl | exact (ints_old1 _ _ _ _ _ rfl).drew | exact ints_new1 _ _ _ _ (by simp) | exact (ints_new1 _ _ _ _ (by simp)).drew | exact (ints_new1 _ _ _ _ (by simp)).below (by assumption) | exact (ints_old1 _ _ _ _ _ (by simp)).below (by assumption) | exact (ints_new1 _ _ _ _ (by simp)).drew.below hb4 | exact (ints_old1 _ _ _ _ _ rfl).drew.below hb4)).mono ?_; rintro e w5 ⟨rfl, hb5⟩)
        (try go_wp2_with fail)
        refine hK.out _ _ ?_ (fun hS' => ?_)
        · (try dsimp only); first | exact keepW (by assumption) (by assumption) | exact keepB (by assumption) (by assumption) | exact keepA (by assumption) | assumption
        clear hS hK K
        have hS := hS'
        clear hS'
        (try simp only [Act.put, tA, tB, tC])
        refine rz_done ?_
        have hc1 := hc'.out.below hS.2.2 hzb
        have hr1 := hr.below hS.2.2 hz
        have hg1 := hg.below hS.2.2 hza
        have hz1 := Nat.lt_of_lt_of_le hz hS.2.2.size
        replace HB := Lib.hid (nextW HB.out hS.2.2)
        have hc1' := Lib.hid hc1
        clear hS c0 c1 c2 c3 c4 c5 c6 c7 c8 hza hzb hz hr hb4 hb5 hg hc'
        obtain ⟨c0, c1, c2, c3, c4, c5, c6, c7, c8, f0, f1, f2, f3, f4, f5, f6, f7, f8⟩ := hc1
        go_wp2_with fail
        go_meet
        exact ⟨(hc1'.out.set2 _).set3 _, (hr1.far (by omega) _ _).far (by omega) _ _, (hg1.far (by omega) _ _).far (by omega) _ _, bset (bset HB.out (by omega)) (by omega), by simpa using hz1⟩
      · skip
        refine rz_call (by rfl) (fun K hK => ?_)
        go_simp
        (skip)
        (try go_wp2_with fail)
        refine hK.out _ _ ?_ (fun hS' => ?_)
        · (try dsimp only); first | exact keepW (by assumption) (by assumption) | exact keepB (by assumption) (by assumption) | exact keepA (by assumption) | assumption
        clear hS hK K
        have hS := hS'
        clear hS'
        (try simp only [Act.put, tA, tB, tC])
        refine rz_call (by rfl) (fun K hK => ?_)
        go_simp
        (refine (HS1.out _ _ _ (by first | exact ints_new1 _ _ _ _ rfl | exact (ints_new1 _ _ _ _ rfl).drew | exact ints_old1 _ _ _ _ _ rfl | exact (ints_old1 _ _ _ _ _ rfl).drew | exact ints_new1 _ _ _ _ (by simp) | exact (ints_new1 _ _ _ _ (by simp)).drew | exact (ints_new1 _ _ _ _ (by simp)).below (by assumption) | exact (ints_old1 _ _ _ _ _ (by simp)).below (by assumption) | exact (ints_new1 _ _ _ _ (by simp)).drew.below hb4 | exact (ints_old1 _ _ _ _ _ rfl).drew.below hb4)).mono ?_; rintro e w4 ⟨rfl, hb4⟩)
        (try go_wp2_with fail)
        refine hK.out _ _ ?_ (fun hS' => ?_)
        · (try dsimp only); first | exact keepW (by assumption) (by assumption) | exact keepB (by assumption) (by assumption) | exact keepA (by assumption) | assumption
        clear hS hK K
        have hS := hS'
        clear hS'
        (try simp only [Act.put, tA, tB, tC])
        refine rz_free (v := ?_) (by rfl) ?_ ?_; rotate_left 1; focus (intro w hSw; (try dsimp only at hSw); go_simp; (try with_reducible rfl))
        (try simp only [Act.put, tA, tB, tC])
        refine rz_call (by rfl) (fun K hK => ?_)
        go_simp
        (refine (HS2.out _ _ _ (by first | exact ints_new1 _ _ _ _ rfl | exact (ints_new1 _ _ _ _ rfl).drew | exact ints_old1 _ _ _ _ _ rfl | exact (ints_old1 _ _ _ _ _ rfl).drew | exact ints_new1 _ _ _ _ (by simp) | exact (ints_new1 _ _ _ _ (by simp)).drew | exact (ints_new1 _ _ _ _ (by simp)).below (by assumption) | exact (ints_old1 _ _ _ _ _ (by simp)).below (by assumption) | exact (ints_new1 _ _ _ _ (by simp)).drew.below hb4 | exact (ints_old1 _ _ _ _ _ rfl).drew.below hb4)).mono ?_; rintro e w5 ⟨rfl, hb5⟩)
        (try go_wp2_with fail)
        refine hK.out _ _ ?_ (fun hS' => ?_)
        · (try dsimp only); first | exact keepW (by assumption) (by assumption) | exact keepB (by assumption) (by assumption) | exact keepA (by assumption) | assumption
        clear hS hK K
        have hS := hS'
        clear hS'
        (try simp only [Act.put, tA, tB, tC])
        refine rz_done ?_
        have hc1 := hc'.out.below hS.2.2 hzb
        have hr1 := hr.below hS.2.2 hz
        have hg1 := hg.below hS.2.2 hza
        have hz1 := Nat.lt_of_lt_of_le hz hS.2.2.size
        replace HB := Lib.hid (nextW HB.out hS.2.2)
        have hc1' := Lib.hid hc1
        clear hS c0 c1 c2 c3 c4 c5 c6 c7 c8 hza hzb hz hr hb4 hb5 hg hc'
        obtain ⟨c0, c1, c2, c3, c4, c5, c6, c7, c8, f0, f1, f2, f3, f4, f5, f6, f7, f8⟩ := hc1
        go_wp2_with fail
        go_meet
        exact ⟨(hc1'.out.set2 _).set3 _, (hr1.far (by omega) _ _).far (by omega) _ _, (hg1.far (by omega) _ _).far (by omega) _ _, bset (bset HB.out (by omega)) (by omega), by simpa using hz1⟩
    · skip
      refine rz_call (by rfl) (fun K hK => ?_)
      go_simp
      (skip)
      (try go_wp2_with fail)
      refine hK.out _ _ ?_ (fun hS' => ?_)
      · (try dsimp only); first | exact keepW (by assumption) (by assumption) | exact keepB (by assumption) (by assumption) | exact keepA (by assumption) | assumption
      clear hS hK K
      have hS := hS'
      clear hS'
      (try simp only [Act.put, tA, tB, tC])
      refine rz_call (by rfl) (fun K hK => ?_)
      go_simp
      (skip)
      (try go_wp2_with fail)
      refine hK.out _ _ ?_ (fun hS' => ?_)
      · (try dsimp only); first | exact keepW (by assumption) (by assumption) | exact keepB (by assumption) (by assumption) | exact keepA (by assumption) | assumption
      clear hS hK K
      have hS := hS'
      clear hS'
      (try simp only [Act.put, tA, tB, tC])
      refine rz_call (by rfl) (fun K hK => ?_)
      go_simp
      (refine (HS1.out _ _ _ (by first | exact ints_new1 _ _ _ _ rfl | exact (ints_new1 _ _ _ _ rfl).drew | exact ints_old1 _ _ _ _ _ rfl | exact (ints_old1 _ _ _ _ _ rfl).drew | exact ints_new1 _ _ _ _ (by simp) | exact (ints_new1 _ _ _ _ (by simp)).drew | exact (ints_new1 _ _ _ _ (by simp)).below (by assumption) | exact (ints_old1 _ _ _ _ _ (by simp)).below (by assumption) | exact (ints_new1 _ _ _ _ (by simp)).drew.below hb4 | exact (ints_old1 _ _ _ _ _ rfl).drew.below hb4)).mono ?_; rintro e w4 ⟨rfl, hb4⟩)
      (try go_wp2_with fail)
      refine hK.out _ _ ?_ (fun hS' => ?_)
      · (try dsimp only); first | exact keepW (by assumption) (by assumption) | exact keepB (by assumption) (by assumption) | exact keepA (by assumption) | assumption
      clear hS hK K
      have hS := hS'
      clear hS'
      (try simp only [Act.put, tA, tB, tC])
      refine rz_free (v := ?_) (by rfl) ?_ ?_; rotate_left 1; focus (intro w hSw; (try dsimp only at hSw); go_simp; (try with_reducible rfl))
      (try simp only [Act.put, tA, tB, tC])
      refine rz_call (by rfl) (fun K hK => ?_)
      go_simp
      (refine (HS2.out _ _ _ (by first | exact ints_new1 _ _ _ _ rfl | exact (ints_new1 _ _ _ _ rfl).drew | exact ints_old1 _ _ _ _ _ rfl | exact (ints_old1 _ _ _ _ _ rfl).drew | exact ints_new1 _ _ _ _ (by simp) | exact (ints_new1 _ _ _ _ (by simp)).drew | exact (ints_new1 _ _ _ _ (by simp)).below (by assumption) | exact (ints_old1 _ _ _ _ _ (by simp)).below (by assumption) | exact (ints_new1 _ _ _ _ (by simp)).drew.below hb4 | exact (ints_old1 _ _ _ _ _ rfl).drew.below hb4)).mono ?_; rintro e w5 ⟨rfl, hb5⟩)
      (try go_wp2_with fail)
      refine hK.out _ _ ?_ (fun hS' => ?_)
      · (try dsimp only); first | exact keepW (by assumption) (by assumption) | exact keepB (by assumption) (by assumption) | exact keepA (by assumption) | assumption
      clear hS hK K
      have hS := hS'
      clear hS'
      (try simp only [Act.put, tA, tB, tC])
      refine rz_done ?_
      have hc1 := hc'.out.below hS.2.2 hzb
      have hr1 := hr.below hS.2.2 hz
      have hg1 := hg.below hS.2.2 hza
      have hz1 := Nat.lt_of_lt_of_le hz hS.2.2.size
      replace HB := Lib.hid (nextW HB.out hS.2.2)
      have hc1' := Lib.hid hc1
      clear hS c0 c1 c2 c3 c4 c5 c6 c7 c8 hza hzb hz hr hb4 hb5 hg hc'
      obtain ⟨c0, c1, c2, c3, c4, c5, c6, c7, c8, f0, f1, f2, f3, f4, f5, f6, f7, f8⟩ := hc1
      go_wp2_with fail
      go_meet
      exact ⟨(hc1'.out.set2 _).set3 _, (hr1.far (by omega) _ _).far (by omega) _ _, (hg1.far (by omega) _ _).far (by omega) _ _, bset (bset HB.out (by omega)) (by omega), by simpa using hz1⟩
  case rest =>
    clear hc hr hg hz hza hzb HB HS1 HS2
    obtain ⟨hc, hr, hg, hb, hz⟩ := hcut
    have HB := Lib.hid hb
    clear hb
    by_cases h12 : 12 < A1
    · obtain rfl : r = true := by rw [HR.out]; simp [h12]
      clear HR HI hg
      have hd : decide (12 < A1) = true := decide_eq_true h12
      obtain ⟨c0, c1, c2, c3, c4, c5, c6, c7, c8, -⟩ := hc
      obtain ⟨R0, R1, R2, R3, R4, R5, R6, R7, R8, G0, G1, G2, G3, G4, G5, G6, G7, G8⟩ := hr
      go_wp2
      refine bodyPost_ret (v := .tuple #[.agg #[.int .i64 nobody.id, .int .i64 nobody.kind, .int .i64 nobody.x, .int .i64 nobody.y, .int .i64 nobody.vx, .int .i64 nobody.vy, .int .i64 nobody.health, .int .i64 nobody.age, .int .i64 nobody.owner], .bool false]) (by simp [results, Tryz.results145, go_sem, nobody, *]) rfl ⟨rfl, ?_⟩
      iterate 9 (refine bset ?_ (by omega))
      exact HB.out
    · have hd : decide (12 < A1) = false := decide_eq_false h12
      have hrio : r = !io := by rw [HR.out, hd]; rfl
      subst hrio
      clear HR
      have hc' := Lib.hid hc
      obtain ⟨c0, c1, c2, c3, c4, c5, c6, c7, c8, -⟩ := hc
      obtain ⟨g0, g1, g2, g3, g4, -⟩ := hg
      go_wp2_with fail
      refine (HI.out _).mono ?_
      rintro e w1 ⟨rfl, hb1⟩
      have hc1 := hc'.out.below hb1 (by omega)
      have hr1 := hr.below hb1 hz
      replace HB := Lib.hid (nextW HB.out hb1)
      clear c0 c1 c2 c3 c4 c5 c6 c7 c8 hc' hb1 hr HI g0 g1 g2 g3 g4
      obtain ⟨c0, c1, c2, c3, c4, c5, c6, c7, c8, -⟩ := hc1
      obtain ⟨R0, R1, R2, R3, R4, R5, R6, R7, R8, G0, G1, G2, G3, G4, G5, G6, G7, G8⟩ := hr1
      cases io
      · skip
        go_wp2
        refine bodyPost_ret (v := .tuple #[.agg #[.int .i64 nobody.id, .int .i64 nobody.kind, .int .i64 nobody.x, .int .i64 nobody.y, .int .i64 nobody.vx, .int .i64 nobody.vy, .int .i64 nobody.health, .int .i64 nobody.age, .int .i64 nobody.owner], .bool false]) (by simp [results, Tryz.results145, go_sem, nobody, *]) rfl ⟨rfl, ?_⟩
        iterate 9 (refine bset ?_ (by omega))
        exact HB.out
      · skip
        go_wp2
        refine bodyPost_ret (v := .tuple #[.agg #[.int .i64 (⟨i0, kd, X, Y, vx, vy, he, A1, ow⟩ : Ent).id, .int .i64 (⟨i0, kd, X, Y, vx, vy, he, A1, ow⟩ : Ent).kind, .int .i64 (⟨i0, kd, X, Y, vx, vy, he, A1, ow⟩ : Ent).x, .int .i64 (⟨i0, kd, X, Y, vx, vy, he, A1, ow⟩ : Ent).y, .int .i64 (⟨i0, kd, X, Y, vx, vy, he, A1, ow⟩ : Ent).vx, .int .i64 (⟨i0, kd, X, Y, vx, vy, he, A1, ow⟩ : Ent).vy, .int .i64 (⟨i0, kd, X, Y, vx, vy, he, A1, ow⟩ : Ent).health, .int .i64 (⟨i0, kd, X, Y, vx, vy, he, A1, ow⟩ : Ent).age, .int .i64 (⟨i0, kd, X, Y, vx, vy, he, A1, ow⟩ : Ent).owner], .bool true]) (by simp [results, Tryz.results145, go_sem, nobody, *]) rfl ⟨rfl, ?_⟩
        iterate 9 (refine bset ?_ (by omega))
        exact HB.out

end Go.Proofs.YtfpofegfbinalaaGreat.Fx
