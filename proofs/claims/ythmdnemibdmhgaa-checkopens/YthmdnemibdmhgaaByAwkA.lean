/- joustlaw11.awake. -/
import Derived.Test.YthmdnemibdmhgaaByAwk
namespace Go.Proofs.Ythmdnemibdmhgaa.Fx
open Go.ChangeShapes Go.WideShapes Go.ChangeAt Go.RowKit
set_option linter.unusedVariables false
set_option maxRecDepth 100000

/-- Bytes that came in. -/
theorem IsRow.sl8 {w : World} {a : Option Addr} {len cap : Nat} {zs : List Int} (h : IsRow .u8 w a len cap zs) : IsSl byC w (.slice a len cap) (zs.take len) ∧ ByOk (zs.take len) ∧ (zs.take len).length = len := by
  rcases h with ⟨rfl, rfl, rfl, rfl⟩ | ⟨x, rfl, hl, hm, hz, hcell, hwz⟩
  · exact ⟨IsSl.nil _ _, fun x hx => by simp at hx, rfl⟩
  · have hlen : (zs.take len).length = len := by rw [List.length_take]; omega
    refine ⟨?_, fun x hx => by have := bounds_u8 (hwz x (List.mem_of_mem_take hx)); omega, hlen⟩
    refine ⟨some x, cap, by rw [hlen], fun h => (by cases h), by omega, fun hx => ?_⟩
    obtain ⟨b, off, spot⟩ := x
    have h0 : 0 < zs.length := by
      cases zs with
      | nil => simp at hx
      | cons z zs => simp
    have hspot : spot = none := by simpa [Addr.add] using World.cell?_spot (hcell 0 h0)
    subst hspot
    refine ⟨b, off, rfl, fun i v hv => ?_⟩
    rw [byC_map] at hv
    obtain ⟨hi, hv⟩ := List.getElem?_eq_some_iff.1 hv
    simp at hi hv
    subst hv
    have h := hcell i (by omega)
    have e : (Addr.mk b off none).add i = ⟨b, off + i, none⟩ := by unfold Addr.add; split <;> simp_all
    rw [e] at h
    rw [h]
    simp [List.getD_eq_getElem?_getD, List.getElem?_eq_getElem (show i < zs.length by omega)]

theorem numsL_awk : numsL [0, -1, 64] = [0, 1, 128, 1] := by
  have h : numsL [0, -1, 64] = num 0 ++ (num 1 ++ (num 128 ++ [])) := rfl
  rw [h, num_lt (by omega), num_lt (by omega), num_ge (by omega), num_lt (by omega)]
  rfl

theorem int_awk : (Rd.mk [128, 1] 0).int = (64, ⟨[], 0⟩) := rfl

end Go.Proofs.Ythmdnemibdmhgaa.Fx
