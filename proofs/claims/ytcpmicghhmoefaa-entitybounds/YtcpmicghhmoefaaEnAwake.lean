/- joustlaw05's awake, by package entity's contracts. -/
import Derived.Test.YtcpmicghhmoefaaEnCon
import Derived.Test.YtcpmicghhmoefaaGSeq
namespace Go.Proofs.Ytcpmicghhmoefaa.Fx
open Go.ChangeShapes Go.WideShapes Go.ChangeAt Go.RowKit
set_option linter.unusedVariables false

def e5 : Ent := ⟨5, 0, 0, 0, 0, 0, 0, 0, 0⟩

theorem awake_en (C : EnC) (w : World) :
    Calls Try.prog 7 #[] w fun e w' => e = .returned (.bool true) ∧ Below w.heap.size w w' := by
  have HP := Lib.hid C.puts
  have HF := Lib.hid C.find
  have HS := Lib.hid C.sorted
  clear C
  go_enter Try.func7, Try.ntmps7
  go_wp2_with fail
  refine (HP.out _ [] _ [e5] _ (IsSl.nil _ _) (by simp) (one_Ent w e5 _ 1 (by rfl) (by omega)) (by simp)).mono ?_
  rintro e w1 ⟨v, rfl, hsl, hb⟩
  obtain ⟨A, c, rfl, -⟩ := hsl
  have Hb1 := Lib.hid (unbox hb)
  clear hb
  rw [show (puts [] [e5]).length = 1 from rfl]
  go_wp2_with fail
  refine (HF.out _ [e5] 5 _ (one_Ent w1 e5 _ 1 (by rfl) (by omega)) (by simp)).mono ?_
  rintro e w2 ⟨rfl, hb⟩
  rw [show fnd [e5] 5 = 0 from rfl]
  have Hb2 := Lib.hid (unbox hb)
  clear hb
  go_wp2_with fail
  refine (HS.out _ [] _ (IsSl.nil _ _) (by simp)).mono ?_
  rintro e w3 ⟨rfl, hb⟩
  rw [show srt [] = true from rfl]
  have Hb3 := Lib.hid hb
  clear hb
  go_wp2
  go_ret
  exact ⟨rfl, (Hb1.out.trans (Hb2.out.mono Hb1.out.size)).trans (Hb3.out.mono (Nat.le_trans Hb1.out.size Hb2.out.size))⟩

end Go.Proofs.Ytcpmicghhmoefaa.Fx
