/- Numbers in bytes: what a number's bytes are, plainly; contracts of folded, unfolded, withNumber. -/
import Derived.Test.YtigcpgkiankjpaaGRows
import Derived.Lib.MinMax
import Derived.LoopTactic
import Derived.Maps.AppendAt
import Derived.Deep.DeepMust
namespace Go.Proofs.Ytigcpgkiankjpaa.Fx
open Go.ChangeShapes Go.WideShapes Go.ChangeAt Go.RowKit
set_option linter.unusedVariables false
set_option maxRecDepth 100000

/-- A number, held. -/
def hold (v : Int) : Int := max (-4611686018427387904) (min v 4611686018427387903)
/-- As a number from 0 on. -/
def zig (v : Int) : Int := if v < 0 then 2 * (-v - 1) + 1 else 2 * v
def zag (u : Int) : Int := if u % 2 = 1 then -(u / 2) - 1 else u / 2
/-- The bytes of a number from 0 on. -/
def num (u : Nat) : List Int := if u < 128 then [(u : Int)] else ((u % 128 + 128 : Nat) : Int) :: num (u / 128)
/-- The bytes of any number. -/
def nums (v : Int) : List Int := num (zig (hold v)).toNat
def numsL (l : List Int) : List Int := l.flatMap nums

def byC (x : Int) : List Value := [.int .u8 x]
/-- Bytes, each within its bounds. -/
def ByOk (l : List Int) : Prop := ∀ x ∈ l, 0 ≤ x ∧ x < 256

theorem byC_map (l : List Int) : l.flatMap byC = l.map (Value.int .u8) := by
  induction l with
  | nil => rfl
  | cons x l ih => rw [List.flatMap_cons, ih]; rfl

theorem hold_bd (v : Int) : -4611686018427387904 ≤ hold v ∧ hold v ≤ 4611686018427387903 := by unfold hold; omega
theorem hold_in {v : Int} (h : -4611686018427387904 ≤ v ∧ v ≤ 4611686018427387903) : hold v = v := by unfold hold; omega
theorem hold_min (v : Int) : min (max v (-4611686018427387904)) 4611686018427387903 = hold v := by unfold hold; omega
theorem zig_bd {v : Int} (h : -4611686018427387904 ≤ v ∧ v ≤ 4611686018427387903) : 0 ≤ zig v ∧ zig v ≤ 9223372036854775807 := by unfold zig; split <;> omega
theorem zag_zig (v : Int) : zag (zig v) = v := by unfold zag zig; split <;> split <;> omega

theorem num_lt {u : Nat} (h : u < 128) : num u = [(u : Int)] := by rw [num, if_pos h]
theorem num_ge {u : Nat} (h : 128 ≤ u) : num u = ((u % 128 + 128 : Nat) : Int) :: num (u / 128) := by rw [num, if_neg (by omega)]

theorem num_ok (u : Nat) : ByOk (num u) := by
  induction u using Nat.strongRecOn with
  | _ u ih =>
    by_cases h : u < 128
    · rw [num_lt h]; intro x hx; simp at hx; omega
    · rw [num_ge (by omega)]
      intro x hx
      rcases List.mem_cons.1 hx with rfl | hx
      · omega
      · exact ih (u / 128) (by omega) x hx

theorem num_le (k : Nat) : ∀ u, u < 128 ^ (k + 1) → (num u).length ≤ k + 1 := by
  induction k with
  | zero => intro u h; rw [num_lt (by simpa using h)]; simp
  | succ k ih =>
    intro u h
    by_cases hu : u < 128
    · rw [num_lt hu]; simp
    · rw [num_ge (by omega), List.length_cons]
      have := ih (u / 128) (by rw [Nat.pow_succ] at h; omega)
      omega

theorem num_pos (u : Nat) : 0 < (num u).length := by
  by_cases h : u < 128
  · rw [num_lt h]; simp
  · rw [num_ge (by omega)]; simp

theorem nums_len (v : Int) : 0 < (nums v).length ∧ (nums v).length ≤ 9 := by
  have h := zig_bd (hold_bd v)
  exact ⟨num_pos _, num_le 8 _ (by omega)⟩
theorem nums_ok (v : Int) : ByOk (nums v) := num_ok _

theorem nums_nn {n : Int} (h0 : 0 ≤ n) : ∃ x r, nums n = x :: r := by
  cases h : nums n with
  | nil => have := (nums_len n).1; rw [h] at this; simp at this
  | cons x r => exact ⟨x, r, rfl⟩

theorem info_u8 : (Try.prog.info? 5).map (fun i => (i.zero, i.size, i.bytes)) = some (some (.int .u8 0), 1, 1) := by kernel_rfl

theorem folded_by (x : Int) (w : World) (hx : -4611686018427387904 ≤ x ∧ x ≤ 4611686018427387903) :
    Calls Try.prog 38 #[.int .i64 x] w fun e w' => e = .returned (.int .i64 (zig x)) ∧ w = w' := by
  obtain ⟨h0, h1⟩ := hx
  go_enter Try.func38, Try.ntmps38
  by_cases hn : x < 0
  · go_wp2
    go_ret
    exact ⟨ret_int (by unfold zig; split <;> omega), rfl⟩
  · go_wp2
    go_ret
    exact ⟨ret_int (by unfold zig; split <;> omega), rfl⟩

theorem unfolded_by (u : Int) (w : World) (h0 : 0 ≤ u) (h1 : u ≤ 9223372036854775807) :
    Calls Try.prog 42 #[.int .i64 u] w fun e w' => e = .returned (.int .i64 (zag u)) ∧ w = w' := by
  go_enter Try.func42, Try.ntmps42
  by_cases hn : u % 2 = 1
  · go_wp2
    go_ret
    exact ⟨ret_int (by unfold zag; split <;> omega), rfl⟩
  · go_wp2
    go_ret
    exact ⟨ret_int (by unfold zag; split <;> omega), rfl⟩

/-- A row of bytes of the call's own. -/
def ownB (base : Nat) (w : World) (v : Value) (l : List Int) : Prop := w.ownsRow base 5 1 v l.length (l.map (Value.int .u8))
theorem ownB.nil (base : Nat) (w : World) : ownB base w (.slice none 0 0) [] := ⟨by simp, .inl ⟨rfl, rfl⟩⟩
theorem ownB.below {base : Nat} {w w' : World} {v : Value} {l : List Int} (h : ownB base w v l) (hb : Below w.heap.size w w') : ownB base w' v l := own_below h hb
theorem ownB.sl {base : Nat} {w : World} {v : Value} {l : List Int} (h : ownB base w v l) : IsSl byC w v l := owned_sl (enc := byC) (e := 5) (size := 1) (by rw [byC_map]; exact h)

set_option maxHeartbeats 4000000 in
theorem withnum_any (base : Nat) (v : Value) (l : List Int) (x : Int) (w : World) (hown : ownB base w v l) (hbase : base ≤ w.heap.size) (hl : l.length ≤ 100000000) :
    Calls Try.prog 28 #[v, .int .i64 x] w fun e w' => (∃ v', e = .returned v' ∧ ownB base w' v' (l ++ nums x)) ∧ Below base w w' := by
  obtain ⟨i0, Hi, Hz⟩ : ∃ i, Hid (Try.prog.info? 5 = some i) ∧ Hid (i.zero = some (.int .u8 0) ∧ i.size = 1 ∧ i.bytes = 1) := by
    have h := info_u8
    cases hi : Try.prog.info? 5 with
    | none => rw [hi] at h; simp at h
    | some i => rw [hi] at h; simp at h; exact ⟨i, rfl, h⟩
  have hh := hold_bd x
  have hm := hold_min x
  have hz := zig_bd hh
  have Hown := Lib.hid hown
  have Hl9 := Lib.hid (nums_len x).2
  have HN := Lib.hid (show nums x = num (zig (hold x)).toNat from rfl)
  generalize nums x = Nx at *
  clear hown
  go_enter Try.func28, Try.ntmps28
  go_wp2_with fail
  clear hm
  refine (folded_by _ _ hh).mono ?_
  rintro e w' ⟨rfl, rfl⟩
  obtain ⟨u, hu⟩ := Int.eq_ofNat_of_zero_le hz.1
  rw [hu] at HN hz ⊢
  clear hu hh
  have hu := hz.2
  clear hz
  go_wp2
  go_loopw [0, 5] (fun v i wr => ∃ (k : Nat) (r : List Int), k ≤ u ∧ i = .int .i64 k ∧ ownB base wr v (l ++ r) ∧ r ++ num k = Nx ∧ Below base w wr) (fun _ i _ => (intOf i).toNat)
  case atStart => exact ⟨u, [], Nat.le_refl _, rfl, by simpa using Hown.out, by rw [HN.out]; simp, Below.refl _ _⟩
  case round =>
    obtain ⟨k, r, hk, rfl, hown, hr, hbel⟩ := hrel
    have Hown2 := Lib.hid hown
    have Hbel := Lib.hid hbel
    have Hr := Lib.hid hr
    have hbs := hbel.size
    have hrl : r.length ≤ 9 := by have := congrArg List.length hr; simp at this; have := Hl9.out; omega
    clear hown hbel hr
    by_cases hlt : k < 128
    · have e1 : IntKind.u8.wrap (k : Int) = k := by rw [IntKind.wrap_u8]; omega
      have Hf := Lib.hid (num_lt hlt)
      go_wp2_with (at_builtin; go_must (refine append_int (by rfl) (.tmp 21) (.tmp 24) 26 (by rfl) base 5 .u8 i0 1 Try.underlying26 Hi.out Hz.out.1 Hz.out.2.1 Hz.out.2.2 (by omega) _ (l ++ r) Hown2.out k (by rfl) wr.heap.size 1 (by rfl) (by rfl) (by simp; omega) (by omega) ?_); intro v' w5 hown5 hb5)
      have HO5 := Lib.hid hown5
      have HB5 := Lib.hid (Hbel.out.trans hb5)
      clear hown5 hb5
      go_wp2
      go_ret
      refine ⟨⟨_, rfl, ?_⟩, HB5.out⟩
      have h := HO5.out
      rw [List.append_assoc, show r ++ [(k : Int)] = Nx by rw [← Hr.out, Hf.out]] at h
      exact h
    · have e1 : IntKind.u8.wrap ((k : Int) % 128 + 128) = (k : Int) % 128 + 128 := by rw [IntKind.wrap_u8]; omega
      have Hf := Lib.hid (num_ge (Nat.le_of_not_lt hlt))
      go_wp2_with (at_builtin; go_must (refine append_int (by rfl) (.tmp 14) (.tmp 19) 26 (by rfl) base 5 .u8 i0 1 Try.underlying26 Hi.out Hz.out.1 Hz.out.2.1 Hz.out.2.2 (by omega) _ (l ++ r) Hown2.out ((k : Int) % 128 + 128) (by rfl) wr.heap.size 1 (by rfl) (by rfl) (by simp; omega) (by omega) ?_); intro v' w5 hown5 hb5)
      have HO5 := Lib.hid hown5
      have HB5 := Lib.hid (Hbel.out.trans hb5)
      clear hown5 hb5
      go_wp2
      go_roundw
      case rel => exact ⟨k / 128, r ++ [(k : Int) % 128 + 128], by omega, by go_num, by have h := HO5.out; rw [List.append_assoc] at h; exact h, by rw [← Hr.out, Hf.out]; simp, HB5.out⟩
      case measure => simp [intOf]; omega

end Go.Proofs.Ytigcpgkiankjpaa.Fx
