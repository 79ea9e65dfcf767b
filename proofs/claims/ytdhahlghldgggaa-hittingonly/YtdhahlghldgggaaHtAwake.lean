/- joustlaw08's awake. -/
import Derived.Test.YtdhahlghldgggaaHtBlow
import Derived.Test.YtdhahlghldgggaaHtOwn
namespace Go.Proofs.Ytdhahlghldgggaa.Fx
open Go.ChangeShapes Go.WideShapes Go.ChangeAt Go.RowKit
set_option linter.unusedVariables false

/-- A slice's literal reads as its list. -/
theorem lit_Ent (w : World) (es : List Ent) (A : Array Value) (T : TypeId) (g n c : Nat) (hg : g = w.heap.size) (hn : n = es.length) (hc : n ≤ c) (hA : A.toList = es.flatMap entC) : IsSl entC (w.alloc (.cells A T)) (.slice (some ⟨g, 0, none⟩) n c) es := by
  subst hg hn
  refine ⟨_, _, rfl, fun h => (by cases h), hc, fun _ => ⟨_, _, rfl, fun i v hv => ?_⟩⟩
  rw [Nat.zero_add, World.cell?_alloc_new, ← Array.getElem?_toList, hA]
  exact hv

theorem awake_ht (w : World) : Calls Try.prog 7 #[] w fun e w' => e = .returned (.bool true) ∧ Below w.heap.size w w' := by
  have HS := Lib.hid (fun v w hv => shotsH_any v [⟨1, 1, 0, 0, 0, 0, 50, 0, 0⟩, ⟨1000, 2, 0, 0, 0, 0, 0, 0, 2⟩] w hv (by simp))
  have HF := Lib.hid (fun v w hv => fallenH_any v [⟨3, 1, 0, 0, 0, 0, 0, 0, 0⟩] w hv (by simp))
  rw [fallen_awake] at HF
  rw [shots_awake] at HS
  go_enter Try.func7, Try.ntmps7
  go_wp2_with fail
  refine (HS.out _ _ (lit_Ent _ _ _ _ _ _ _ rfl rfl (by simp) rfl)).mono ?_
  rintro e w1 ⟨v, rfl, ho, hb⟩
  obtain ⟨g, c, rfl, hg, hgw, -, hcs, -⟩ := own_at_Ent ho (k := 0) rfl
  simp only [Nat.zero_add, Nat.zero_mul] at hcs
  have h6 := hcs.2.2.2.2.2.2.1
  have Hb := Lib.hid (unbox hb)
  clear hb hcs ho
  go_wp2_with fail
  refine (HF.out _ _ (lit_Ent _ _ _ _ _ _ _ (by simp) rfl (by simp) rfl)).mono ?_
  rintro e w2 ⟨v2, rfl, ho2, hb2⟩
  obtain ⟨A2, c2, rfl, -⟩ := owned_ints ho2
  have Hb2 := Lib.hid (nextW (Hb.out.alloc Hb.out.size _) hb2)
  clear hb2 ho2
  go_wp2
  go_ret
  exact ⟨rfl, Hb2.out⟩

end Go.Proofs.Ytdhahlghldgggaa.Fx
