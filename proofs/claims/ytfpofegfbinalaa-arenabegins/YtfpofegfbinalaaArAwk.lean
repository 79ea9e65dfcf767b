/- Layer 10's awake. -/
import Derived.Test.YtfpofegfbinalaaArBeg
namespace Go.Proofs.Ytfpofegfbinalaa.Fx
open Go.ChangeShapes Go.WideShapes Go.ChangeAt Go.RowKit
set_option linter.unusedVariables false
set_option maxRecDepth 100000

/-- The regions behind Begin. -/
def begF (a b n : Int) (P R : Nat) : List (Int × List Ent) := (List.range R).map fun r => (0, begL R (plr a b P n R) P r)

theorem awake_fs : (listsL (begF 2 1 1 3 2)).length = 3 ∧ (handsL (List.replicate 2 [])).length = 0 := by decide +kernel

set_option maxHeartbeats 4000000 in
theorem awake_ar (w : World) : Calls Try.prog 7 #[] w fun e w' => e = .returned (.bool true) ∧ Below w.heap.size w w' := by
  have HG := Lib.hid (fun w => begin_yes 2 1 1 0 3 2 (by decide) (by decide) w)
  have hl : (allL (begF 2 1 1 3 2) (List.replicate 2 [])).length = 3 := by unfold allL; rw [st_length, List.length_append, awake_fs.1, awake_fs.2]
  have HA := Lib.hid (fun v u w hr ho => aall_any v u (begF 2 1 1 3 2) (List.replicate 2 []) w hr ho (by rw [awake_fs.1]; omega) (by rw [awake_fs.2]; omega) (by intro o ho; rw [List.eq_of_mem_replicate ho]; simp) (by simp [begF]) (by simp))
  have Hl := Lib.hid hl
  clear hl
  go_enter Try.func7, Try.ntmps7
  go_wp2_with fail
  refine (HG.out _).mono ?_
  rintro e w1 ⟨⟨g1, g2, rfl, hr, ho⟩, hb⟩
  have HB := Lib.hid hb
  have HR := Lib.hid hr
  have HO := Lib.hid ho
  clear hb hr ho HG
  go_upto_region 2 with fail
  generalize hW : World.alloc _ _ = W
  have b0 : W.cell? ⟨w1.heap.size, 0, none⟩ = some (.slice (some ⟨g1, 0, none⟩) 2 2) := by rw [← hW, World.cell?_alloc_new]; rfl
  have b1 : W.cell? ⟨w1.heap.size, 1, none⟩ = some (.slice (some ⟨g2, 0, none⟩) 2 2) := by rw [← hW, World.cell?_alloc_new]; rfl
  have hal : Below w1.heap.size w1 W := by rw [← hW]; exact (Below.refl _ _).alloc (Nat.le_refl _) _
  replace HB := Lib.hid (nextW HB.out hal)
  replace HR := Lib.hid (HR.out.below hal)
  replace HO := Lib.hid (HO.out.below hal)
  generalize w1.heap.size = gx at *
  have hbl := World.block_lt_of_cell? _ _ b0
  clear hW hal
  go_wp2_with fail
  refine (HA.out _ _ _ HR.out HO.out).mono ?_
  rintro e w2 ⟨⟨v', rfl, ho2⟩, hb2⟩
  obtain ⟨A, c, hv, -⟩ := owned_cells ho2
  rw [Hl.out] at hv
  subst hv
  replace HB := Lib.hid (nextW HB.out hb2)
  clear ho2 hb2
  go_wp2
  go_ret
  exact ⟨rfl, HB.out⟩

end Go.Proofs.Ytfpofegfbinalaa.Fx
