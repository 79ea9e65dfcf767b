/- Package check: layer 13's awake. -/
import Derived.Test.YthmdnemibdmhgaaCkRef
namespace Go.Proofs.Ythmdnemibdmhgaa.Fx
open Go.ChangeShapes Go.WideShapes Go.ChangeAt Go.RowKit
set_option linter.unusedVariables false
set_option maxRecDepth 100000

set_option maxHeartbeats 1000000 in
theorem awake_ck (w : World) : Calls Try.prog 7 #[] w fun e w' => e = .returned (.bool true) ∧ Below w.heap.size w w' := by
  have HS := Lib.hid (fun v w1 h => seal_any v [1, 2] w1 h (by simp))
  have hO := fun v w1 h => copen_any v (sealL [1, 2]) w1 h (by rw [sealL_len]; simp)
  rw [open_seal] at hO
  have HO := Lib.hid hO
  have HB := Lib.hid same_by
  have hC := fun w1 => csum_any (.slice none 0 0) [] [] w1 (IsSl.nil _ _) ⟨rfl, by simp⟩ (by simp) (by simp)
  rw [show sumL ([] : List (List Int)).flatten = 2611923443488327891 from rfl] at hC
  have HC := Lib.hid hC
  clear hO hC
  generalize sealL [1, 2] = Z at *
  go_enter Try.func7, Try.ntmps7
  go_wp2_with fail
  refine (HS.out _ _ (by exact new_by w [1, 2] _ 2 rfl (by simp))).mono ?_
  rintro e w1 ⟨v1, rfl, ho1, hb1⟩
  obtain ⟨A1, c1, rfl, -⟩ := ho1.sl
  have HO1 := Lib.hid ho1.sl
  have HB1 := Lib.hid (unbox hb1)
  clear ho1 hb1
  go_wp2_with fail
  refine (HO.out _ _ HO1.out).mono ?_
  rintro e w2 ⟨v2, rfl, ho2, hb2⟩
  obtain ⟨A2, c2, rfl, -⟩ := ho2.sl
  have HO2 := Lib.hid ho2.sl
  have HB2 := Lib.hid (nextW HB1.out hb2)
  clear ho2 hb2
  go_wp2_with fail
  refine (HB.out _ _ [1, 2] _ (HO2.out.below ((Below.refl _ _).alloc (Nat.le_refl _) _)) (by exact new_by w2 [1, 2] _ 2 rfl (by simp))).mono ?_
  rintro e w3 ⟨rfl, rfl⟩
  go_wp2_with fail
  refine (HC.out _).mono ?_
  rintro e w4 ⟨rfl, rfl⟩
  go_wp2
  go_ret
  exact ⟨rfl, HB2.out.alloc HB2.out.size _⟩

end Go.Proofs.Ythmdnemibdmhgaa.Fx
