/- Is one message among some (jousthelp.In)? -/
import Derived.Test.YtbmboidmgdpnoaaGTypCross
import Derived.Test.YtbmboidmgdpnoaaEnRef
namespace Go.Proofs.Ytbmboidmgdpnoaa.Fx
open Go.ChangeShapes Go.WideShapes Go.ChangeAt Go.RowKit
set_option linter.unusedVariables false

/-- One that is among them is found. -/
theorem in_Crs (v : Value) (l : List Crs) (y : Crs) (w : World) (hv : IsSl crsC w v l) (hn : l.length ≤ 1000) (hy : y ∈ l) :
    Calls Try.prog 22 #[v, .agg #[.int .i64 y.kind, .int .i64 y.src, .int .i64 y.dst, .int .i64 y.frame, .int .i64 y.e.id, .int .i64 y.e.kind, .int .i64 y.e.x, .int .i64 y.e.y, .int .i64 y.e.vx, .int .i64 y.e.vy, .int .i64 y.e.health, .int .i64 y.e.age, .int .i64 y.e.owner, .int .i64 y.x, .int .i64 y.y]] w fun e w' => e = .returned (.bool true) ∧ Below w.heap.size w w' := by
  obtain ⟨A, c, rfl, -, -, hat⟩ := hv
  have Hat := Lib.hid hat
  obtain ⟨n, hnn⟩ : ∃ n, l.length = n := ⟨_, rfl⟩
  rw [hnn] at hn ⊢
  have Hn := Lib.hid hnn
  have Hy := Lib.hid hy
  clear hat hnn hy
  go_enter Try.func22, Try.ntmps22
  go_wp2
  go_loopw [5] (fun i wr => ∃ k : Nat, k ≤ n ∧ i = .int .i64 k ∧ (∀ x ∈ l.take k, ¬ x = y) ∧ Below (w.heap.size + 1) (w.alloc (.cells (crsC y).toArray 28)) wr) (fun i _ => n - (intOf i).toNat)
  case atStart => exact ⟨0, Nat.zero_le _, rfl, by simp, Below.refl _ _⟩
  case round =>
    obtain ⟨k, hk, rfl, hno, hbel⟩ := hrel
    have Hno := Lib.hid hno
    have Hbel := Lib.hid hbel
    have Hb0 := Lib.hid (show Below w.heap.size w wr from unbox (by simpa using hbel))
    have hbc : ∀ i u, (crsC y)[i]? = some u → wr.cell? ⟨w.heap.size, i, none⟩ = some u := fun i u hu => by
      rw [hbel.cell (p := ⟨w.heap.size, i, none⟩) (Nat.lt_succ_self _), World.cell?_alloc_new]; simpa using hu
    have e0 : wr.cell? ⟨w.heap.size, 0, none⟩ = some (.int .i64 y.kind) := hbc 0 _ rfl
    have e1 : wr.cell? ⟨w.heap.size, 1, none⟩ = some (.int .i64 y.src) := hbc 1 _ rfl
    have e2 : wr.cell? ⟨w.heap.size, 2, none⟩ = some (.int .i64 y.dst) := hbc 2 _ rfl
    have e3 : wr.cell? ⟨w.heap.size, 3, none⟩ = some (.int .i64 y.frame) := hbc 3 _ rfl
    have e4 : wr.cell? ⟨w.heap.size, 4, none⟩ = some (.int .i64 y.e.id) := hbc 4 _ rfl
    have e5 : wr.cell? ⟨w.heap.size, 5, none⟩ = some (.int .i64 y.e.kind) := hbc 5 _ rfl
    have e6 : wr.cell? ⟨w.heap.size, 6, none⟩ = some (.int .i64 y.e.x) := hbc 6 _ rfl
    have e7 : wr.cell? ⟨w.heap.size, 7, none⟩ = some (.int .i64 y.e.y) := hbc 7 _ rfl
    have e8 : wr.cell? ⟨w.heap.size, 8, none⟩ = some (.int .i64 y.e.vx) := hbc 8 _ rfl
    have e9 : wr.cell? ⟨w.heap.size, 9, none⟩ = some (.int .i64 y.e.vy) := hbc 9 _ rfl
    have e10 : wr.cell? ⟨w.heap.size, 10, none⟩ = some (.int .i64 y.e.health) := hbc 10 _ rfl
    have e11 : wr.cell? ⟨w.heap.size, 11, none⟩ = some (.int .i64 y.e.age) := hbc 11 _ rfl
    have e12 : wr.cell? ⟨w.heap.size, 12, none⟩ = some (.int .i64 y.e.owner) := hbc 12 _ rfl
    have e13 : wr.cell? ⟨w.heap.size, 13, none⟩ = some (.int .i64 y.x) := hbc 13 _ rfl
    have e14 : wr.cell? ⟨w.heap.size, 14, none⟩ = some (.int .i64 y.y) := hbc 14 _ rfl
    clear hno hbel hbc
    by_cases hlt : k < n
    · obtain ⟨x, hx⟩ := getE l k n Hn.out hlt
      have HX := Lib.hid (take_at hx)
      obtain ⟨b, off, rfl, hc⟩ := elem_Crs (Hat.out.below Hb0.out) hx
      obtain ⟨c0, c1, c2, c3, c4, c5, c6, c7, c8, c9, c10, c11, c12, c13, c14⟩ := hc
      have hkn : (k : Int) < (n : Int) := by omega
      clear hx
      by_cases hxy : x = y
      · subst hxy
        go_wp2_with fail
        go_region
        (try simp only [eqCrs_self])
        go_wp2
        go_ret
        exact ⟨rfl, Hb0.out.drew⟩
      · have hxy' : eqCrs x y = false := decide_eq_false hxy
        go_wp2_with fail
        go_region
        go_wp2
        go_roundw
        case rel => exact ⟨k + 1, by omega, by go_num, fun z hz => by rw [HX.out] at hz; rcases List.mem_append.1 hz with h | h; exact Hno.out z h; rw [List.mem_singleton.1 h]; exact hxy, Hbel.out.drew⟩
        case measure => simp [intOf]; omega
    · exfalso
      have h := Hno.out y (by rw [List.take_of_length_le (by have := Hn.out; omega)]; exact Hy.out)
      exact h rfl

end Go.Proofs.Ytbmboidmgdpnoaa.Fx
