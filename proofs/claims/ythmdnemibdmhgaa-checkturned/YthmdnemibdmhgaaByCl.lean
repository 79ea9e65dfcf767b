/- slices.Clone over bytes. -/
import Derived.Test.YthmdnemibdmhgaaByTyp
import Derived.Lib.AppendZerosOnto
namespace Go.Proofs.Ythmdnemibdmhgaa.Fx
open Go.ChangeShapes Go.WideShapes Go.ChangeAt Go.RowKit
set_option linter.unusedVariables false
set_option maxRecDepth 100000

theorem clone_by (v : Value) (l : List Int) (w : World) (hv : IsSl byC w v l) (hn : l.length ≤ 1000000) :
    Calls Try.prog 19 #[v] w (RetBy l w) := by
  have HV := Lib.hid hv
  obtain ⟨A, c, rfl, hA, hcap, hat⟩ := hv
  have HA := Lib.hid hA
  cases A with
  | none =>
    obtain ⟨h0, rfl⟩ := hA rfl
    obtain rfl : l = [] := List.eq_nil_of_length_eq_zero h0
    clear hat HV HA hA hcap h0
    simp only [List.length_nil]
    go_enter Try.func19, Try.ntmps19
    go_wp2
    go_ret
    exact ⟨_, rfl, ownB.nil _ _, Below.refl _ _⟩
  | some a =>
    have Hcap := Lib.hid hcap
    clear hat hA hcap
    go_enter Try.func19, Try.ntmps19
    go_wp2_with (at_builtin; go_must (refine appL_by (by rfl) (.tmp 5) (.tmp 6) (by rfl) w.heap.size _ [] (by rfl) (by first | exact World.ownsRow_made w #[] 0 (Nat.le_refl _) (by unfold maxLen; omega) (by simp)) _ l (by rfl) (HV.out.keep fun p u hp => by rw [World.cell?_alloc_lt _ _ _ (World.block_lt_of_cell? _ _ hp)]; exact hp) (by simp; omega) (by simp) ?_))
    intro v' w1 ho hb hg
    have HO := Lib.hid (show ownB w.heap.size w1 v' l from by simpa using ho)
    have HB := Lib.hid ((Below.refl _ w).alloc (Nat.le_refl _) _ |>.trans hb)
    clear ho hb hg
    go_wp2
    go_ret
    exact ⟨_, rfl, HO.out, HB.out⟩

end Go.Proofs.Ythmdnemibdmhgaa.Fx
