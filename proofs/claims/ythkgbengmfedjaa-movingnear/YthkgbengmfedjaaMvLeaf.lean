/- Package moving's Steer and Shoot, and the document's: what they return, for every input; old memory stays. -/
import Derived.Test.YthkgbengmfedjaaMvPure
import Derived.Test.YthkgbengmfedjaaFxAdd
import Derived.Test.YthkgbengmfedjaaGSeqT
import Derived.Lib.MinMax
namespace Go.Proofs.Ythkgbengmfedjaa.Fx
open Go.ChangeShapes Go.WideShapes Go.ChangeAt Go.RowKit
set_option linter.unusedVariables false

theorem bx0 (w : World) (A : Array Value) (t : TypeId) (B C : Obj) (o : Nat) : (((w.alloc (.cells A t)).alloc B).alloc C).cell? ⟨w.heap.size, o, none⟩ = A[o]? := by
  rw [World.cell?_alloc_lt _ _ _ (by simp; omega), World.cell?_alloc_lt _ _ _ (by simp), World.cell?_alloc_new]

theorem bx1 (w : World) (A : Obj) (B : Array Value) (t : TypeId) (C : Obj) (o : Nat) : (((w.alloc A).alloc (.cells B t)).alloc C).cell? ⟨w.heap.size + 1, o, none⟩ = B[o]? := by
  rw [World.cell?_alloc_lt _ _ _ (by simp), show w.heap.size + 1 = (w.alloc A).heap.size by simp, World.cell?_alloc_new]

theorem bx2 (w : World) (A B : Obj) (C : Array Value) (t : TypeId) (o : Nat) : (((w.alloc A).alloc B).alloc (.cells C t)).cell? ⟨w.heap.size + 1 + 1, o, none⟩ = C[o]? := by
  rw [show w.heap.size + 1 + 1 = ((w.alloc A).alloc B).heap.size by simp, World.cell?_alloc_new]

theorem bxf (w : World) (A B C : Array Value) (t u v : TypeId) (b o : Nat) (h : w.heap.size ≤ b) : (((w.alloc (.cells A t)).alloc (.cells B u)).alloc (.cells C v)).frozen? ⟨b, o, none⟩ = false := by
  rw [frozen?_alloc_cells, frozen?_alloc_cells, frozen?_alloc_cells]
  simp [World.frozen?, h]

theorem bset {B : Nat} {w w' : World} {b o : Nat} {v : Value} (h : Below B w w') (hb : B ≤ b) : Below B w (w'.setCell ⟨b, o, none⟩ v) := h.setCell hb v

theorem bal3 (w : World) (A B C : Obj) : Below w.heap.size w (((w.alloc A).alloc B).alloc C) :=
  (((Below.refl _ _).alloc (Nat.le_refl _) _).alloc (by simp) _).alloc (by simp; omega) _

theorem cooler_any (v : Int) (w : World) (h : v ≤ 9223372036854775807) :
    Calls Try.prog 26 #[.int .i64 v] w fun e w' => e = .returned (.int .i64 (max 1 v - 1)) ∧ w = w' := by
  go_enter Try.func26, Try.ntmps26
  go_wp2
  all_goals go_ret
  all_goals exact ⟨ret_int (by omega), rfl⟩

theorem sgn_bd (v : Int) : -1 ≤ sgn v ∧ sgn v ≤ 1 := by unfold sgn; repeat' split <;> omega

theorem flight_any (v : Int) (w : World) :
    Calls Try.prog 33 #[.int .i64 v] w fun e w' => e = .returned (.int .i64 (sgn v * 160)) ∧ w = w' := by
  have hs : clamp v (-1) 1 = sgn v := by unfold clamp sgn; repeat' split <;> omega
  have hb := sgn_bd v
  have HC := Lib.hid (fun w => clamp_any v (-1) 1 w)
  rw [hs] at HC
  clear hs
  generalize sgn v = s at *
  go_enter Try.func33, Try.ntmps33
  go_wp2_with fail
  refine (HC.out _).mono ?_
  rintro e w' ⟨rfl, rfl⟩
  go_wp2
  go_ret
  exact ⟨rfl, rfl⟩

theorem rsign_any (v : Int) (w : World) :
    Calls Try.prog 34 #[.int .i64 v] w fun e w' => e = .returned (.int .i64 (sgn v)) ∧ w = w' := by
  go_enter Try.func34, Try.ntmps34
  go_wp2
  all_goals go_ret
  all_goals exact ⟨ret_int (by unfold sgn; repeat' split <;> omega), rfl⟩

theorem steer_off {y : Ent} {dx dy : Int} (f : Bool) (h : ¬ (y.kind = 1 ∧ irt dx dy = true)) : steerE y dx dy f = y ∧ steerB y dx dy f = false := by
  refine ⟨if_neg h, decide_eq_false fun h' => h ⟨h'.1, h'.2.1⟩⟩

theorem steer_yes (i0 x0 y0 vx vy he ow dx dy : Int) (h : irt dx dy = true) : steerE ⟨i0, 1, x0, y0, vx, vy, he, 0, ow⟩ dx dy true = ⟨i0, 1, x0, y0, dx * 32, dy * 32, he, 6, ow⟩ ∧ steerB ⟨i0, 1, x0, y0, vx, vy, he, 0, ow⟩ dx dy true = true := by
  unfold steerE steerB
  simp [h]

theorem steer_no (i0 x0 y0 vx vy he ag ow dx dy : Int) (f : Bool) (h : irt dx dy = true) (hf : ¬ (f = true ∧ ag = 0)) : steerE ⟨i0, 1, x0, y0, vx, vy, he, ag, ow⟩ dx dy f = ⟨i0, 1, x0, y0, dx * 32, dy * 32, he, max 1 ag - 1, ow⟩ ∧ steerB ⟨i0, 1, x0, y0, vx, vy, he, ag, ow⟩ dx dy f = false := by
  unfold steerE steerB
  rw [if_pos ⟨rfl, h⟩]
  simp only [if_neg hf]
  exact ⟨trivial, decide_eq_false fun h' => hf h'.2.2⟩

end Go.Proofs.Ythkgbengmfedjaa.Fx
