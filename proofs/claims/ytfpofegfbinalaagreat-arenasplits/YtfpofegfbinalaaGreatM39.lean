/- A row of inputs that do nothing; layer 9's awake. Rows known whole, as lists. -/
import Derived.Test.YtfpofegfbinalaaGreatM38
import Derived.Test.YtfpofegfbinalaaGreatM19
import Derived.Test.YtfpofegfbinalaaGreatM08
import Derived.Test.YtfpofegfbinalaaGreatM15
namespace Go.Proofs.YtfpofegfbinalaaGreat.Fx
open Go.ChangeShapes Go.WideShapes Go.ChangeAt Go.RowKit
set_option linter.unusedVariables false
set_option maxRecDepth 100000

/-- An input that does nothing. -/
def inp0 : Inp := ⟨0, 0, false⟩

theorem made_inp (n : Nat) : (madeCells (Value.cells (.agg #[.int .i64 0, .int .i64 0, .bool false])) (n * 3)) = ((List.replicate n inp0).flatMap inpC).toArray := by
  apply Array.ext'
  apply List.ext_getElem?
  intro i
  rw [show i = i / 3 * 3 + i % 3 by omega, flat_get inpC 3 (fun _ => rfl) _ _ _ (Nat.mod_lt _ (by omega))]
  by_cases hi : i / 3 < n
  · rw [List.getElem?_replicate, if_pos hi]
    have h : i / 3 * 3 + i % 3 < n * 3 := by omega
    simp only [madeCells, Array.toList_map, Array.toList_range, List.getElem?_map, List.getElem?_range h]
    have hm : (i / 3 * 3 + i % 3) % 3 = i % 3 := by omega
    have h3 : i % 3 = 0 ∨ i % 3 = 1 ∨ i % 3 = 2 := by omega
    rcases h3 with h3 | h3 | h3 <;> simp [Value.cells, h3, inpC, inp0]
  · rw [List.getElem?_replicate, if_neg hi]
    have h : n * 3 ≤ i / 3 * 3 + i % 3 := by omega
    rw [List.getElem?_eq_none (by simp [madeCells]; exact h)]
    rfl

theorem make_inp (n : Nat) (hn : n ≤ 1000) (w : World) : (Instr.makeSlice 55 (.int .i64 (n : Int)) (.int .i64 (n : Int))).run Tryz.prog w = .ok (.slice (some ⟨w.heap.size, 0, none⟩) n n) (w.alloc (.cells ((List.replicate n inp0).flatMap inpC).toArray 71)) := by
  obtain ⟨i0, hi, hz0, hz1, hz2⟩ := info_parts info_Inp
  have hr := run_make (P := Tryz.prog) w 55 71 i0 _ Tryz.underlying55 hi hz0 .i64 .i64 n n (by omega) (Int.le_refl _) (by rw [hz2]; omega) (by omega)
  rw [hz1, Int.toNat_natCast, made_inp] at hr
  exact hr

theorem make_row (n : Nat) (hn : n ≤ 1000) (w : World) (base : Nat) (hb : base ≤ w.heap.size) : (w.alloc (.cells ((List.replicate n inp0).flatMap inpC).toArray 71)).ownsRow base 71 3 (.slice (some ⟨w.heap.size, 0, none⟩) n n) (List.replicate n inp0).length ((List.replicate n inp0).flatMap inpC) := by
  have h := World.ownsRow_lit (size := 3) (e := 71) w (((List.replicate n inp0).flatMap inpC).toArray) n hb (by unfold maxLen; omega) (by rw [List.size_toArray, flat_len inpC 3 (fun _ => rfl), List.length_replicate])
  rw [List.length_replicate]
  exact h

theorem all_rep (n : Nat) : (List.replicate n inp0).all irtI = true := by
  rw [List.all_eq_true]
  intro x hx
  rw [List.eq_of_mem_replicate hx]
  rfl

theorem below_swap {B : Nat} {W w : World} {o o' : Obj} (h : Below B W (w.alloc o)) (hle : B ≤ w.heap.size) : Below B W (w.alloc o') := by
  refine ⟨h.os, h.tape, h.output, by have := h.size; simp at this ⊢; exact this, fun k hk => ?_⟩
  have := h.block k hk
  rw [heap_alloc_old w o (show k < w.heap.size by omega)] at this
  rw [heap_alloc_old w o' (show k < w.heap.size by omega)]
  exact this

end Go.Proofs.YtfpofegfbinalaaGreat.Fx
namespace Go.Proofs.YtfpofegfbinalaaGreat.Fx
open Go.ChangeShapes Go.WideShapes Go.ChangeAt Go.RowKit
set_option linter.unusedVariables false
set_option maxRecDepth 100000

end Go.Proofs.YtfpofegfbinalaaGreat.Fx
