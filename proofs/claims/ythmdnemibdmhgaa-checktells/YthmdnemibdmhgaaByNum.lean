/- Numbers in bytes: what a number's bytes are, plainly; contracts of folded, unfolded, withNumber. -/
import Derived.Test.YthmdnemibdmhgaaGRows
import Derived.Lib.MinMax
import Derived.LoopTactic
import Derived.Maps.AppendAt
import Derived.Deep.DeepMust
namespace Go.Proofs.Ythmdnemibdmhgaa.Fx
open Go.ChangeShapes Go.WideShapes Go.ChangeAt Go.RowKit
set_option linter.unusedVariables false
set_option maxRecDepth 100000

/-- A number, held. -/
def hold (v : Int) : Int := max (-4611686018427387904) (min v 4611686018427387903)
/-- As a number from 0 on. -/
def zig (v : Int) : Int := if v < 0 then 2 * (-v - 1) + 1 else 2 * v
def zag (u : Int) : Int := if u % 2 = 1 then -(u / 2) - 1 else u / 2
/-- The bytes of a number from 0 on. -/
def num (u : Nat) : List Int := if u < 128 then [(u : Int)] else ((u % 128 + 128 : Nat) : Int) :: num (u / 128)
/-- The bytes of any number. -/
def nums (v : Int) : List Int := num (zig (hold v)).toNat
def numsL (l : List Int) : List Int := l.flatMap nums

def byC (x : Int) : List Value := [.int .u8 x]
/-- Bytes, each within its bounds. -/
def ByOk (l : List Int) : Prop := ∀ x ∈ l, 0 ≤ x ∧ x < 256

theorem byC_map (l : List Int) : l.flatMap byC = l.map (Value.int .u8) := by
  induction l with
  | nil => rfl
  | cons x l ih => rw [List.flatMap_cons, ih]; rfl

theorem hold_bd (v : Int) : -4611686018427387904 ≤ hold v ∧ hold v ≤ 4611686018427387903 := by unfold hold; omega
theorem hold_in {v : Int} (h : -4611686018427387904 ≤ v ∧ v ≤ 4611686018427387903) : hold v = v := by unfold hold; omega
theorem hold_min (v : Int) : min (max v (-4611686018427387904)) 4611686018427387903 = hold v := by unfold hold; omega
theorem zig_bd {v : Int} (h : -4611686018427387904 ≤ v ∧ v ≤ 4611686018427387903) : 0 ≤ zig v ∧ zig v ≤ 9223372036854775807 := by unfold zig; split <;> omega
theorem zag_zig (v : Int) : zag (zig v) = v := by unfold zag zig; split <;> split <;> omega

theorem num_lt {u : Nat} (h : u < 128) : num u = [(u : Int)] := by rw [num, if_pos h]
theorem num_ge {u : Nat} (h : 128 ≤ u) : num u = ((u % 128 + 128 : Nat) : Int) :: num (u / 128) := by rw [num, if_neg (by omega)]

theorem num_ok (u : Nat) : ByOk (num u) := by
  induction u using Nat.strongRecOn with
  | _ u ih =>
    by_cases h : u < 128
    · rw [num_lt h]; intro x hx; simp at hx; omega
    · rw [num_ge (by omega)]
      intro x hx
      rcases List.mem_cons.1 hx with rfl | hx
      · omega
      · exact ih (u / 128) (by omega) x hx

theorem num_le (k : Nat) : ∀ u, u < 128 ^ (k + 1) → (num u).length ≤ k + 1 := by
  induction k with
  | zero => intro u h; rw [num_lt (by simpa using h)]; simp
  | succ k ih =>
    intro u h
    by_cases hu : u < 128
    · rw [num_lt hu]; simp
    · rw [num_ge (by omega), List.length_cons]
      have := ih (u / 128) (by rw [Nat.pow_succ] at h; omega)
      omega

theorem num_pos (u : Nat) : 0 < (num u).length := by
  by_cases h : u < 128
  · rw [num_lt h]; simp
  · rw [num_ge (by omega)]; simp

theorem nums_len (v : Int) : 0 < (nums v).length ∧ (nums v).length ≤ 9 := by
  have h := zig_bd (hold_bd v)
  exact ⟨num_pos _, num_le 8 _ (by omega)⟩
theorem nums_ok (v : Int) : ByOk (nums v) := num_ok _

theorem nums_nn {n : Int} (h0 : 0 ≤ n) : ∃ x r, nums n = x :: r := by
  cases h : nums n with
  | nil => have := (nums_len n).1; rw [h] at this; simp at this
  | cons x r => exact ⟨x, r, rfl⟩

theorem info_u8 : (Try.prog.info? 5).map (fun i => (i.zero, i.size, i.bytes)) = some (some (.int .u8 0), 1, 1) := by kernel_rfl

/-- A row of bytes of the call's own. -/
def ownB (base : Nat) (w : World) (v : Value) (l : List Int) : Prop := w.ownsRow base 5 1 v l.length (l.map (Value.int .u8))
theorem ownB.nil (base : Nat) (w : World) : ownB base w (.slice none 0 0) [] := ⟨by simp, .inl ⟨rfl, rfl⟩⟩
theorem ownB.below {base : Nat} {w w' : World} {v : Value} {l : List Int} (h : ownB base w v l) (hb : Below w.heap.size w w') : ownB base w' v l := own_below h hb
theorem ownB.sl {base : Nat} {w : World} {v : Value} {l : List Int} (h : ownB base w v l) : IsSl byC w v l := owned_sl (enc := byC) (e := 5) (size := 1) (by rw [byC_map]; exact h)

end Go.Proofs.Ythmdnemibdmhgaa.Fx
