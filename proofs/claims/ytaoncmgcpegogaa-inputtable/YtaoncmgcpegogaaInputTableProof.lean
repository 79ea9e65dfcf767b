/- joustlaw04.InputTable returns true for every input; no conditions. -/
import Derived.Test.YtaoncmgcpegogaaInTab
import Derived.Test.YtaoncmgcpegogaaRows
import Derived.WalkKit
import Derived.ProofKit
import Derived.OpenShut
import Derived.ShutString
import Derived.ChangeOld
import Derived.Below
namespace Go.Proofs.Ytaoncmgcpegogaa.inputTable
open Go.ChangeShapes Go.WideShapes Go.ChangeAt Go.RowKit
open Go.ChangeMaps (open_string shut_string)
set_option linter.unusedVariables false

theorem own : ownKnob Try.prog.godebug = none := by kernel_rfl
theorem laidOut : laidOutB Try.prog = true := by kernel_rfl


open Fx

/-- The code of round j. -/
def bat (a : Int) (j : Nat) : Int := (a + j) % 256

/-- How many of the first k rounds' codes are inputs. -/
def cnt (a : Int) : Nat → Int
  | 0 => 0
  | k + 1 => cnt a k + if bat a k ≤ 49 then 1 else 0

/-- How many numbers under m leave at most 49 by 256. -/
def low (m : Int) : Int := m / 256 * 50 + min (m % 256) 50

theorem cnt_low (a : Int) (k : Nat) : cnt a k = low (a + k) - low a := by
  induction k with
  | zero => simp [cnt]
  | succ k ih =>
    rw [cnt, ih]
    unfold low bat
    split <;> omega

theorem cnt_all (a : Int) : cnt a 256 = 50 := by
  rw [cnt_low]
  unfold low
  omega

theorem cnt_bd (a : Int) (k : Nat) : 0 ≤ cnt a k ∧ cnt a k ≤ k := by
  induction k with
  | zero => simp [cnt]
  | succ k ih =>
    rw [cnt]
    split <;> omega

/-- What the input before is, behind k rounds. -/
def Lst (a : Int) (k : Nat) (x y : Int) (f : Bool) : Prop := (x = 9 ∧ y = 0 ∧ f = false) ∨ ∃ j, j < k ∧ bat a j ≤ 49 ∧ x = fcx (bat a j) ∧ y = fcy (bat a j) ∧ f = fcf (bat a j)

theorem from_back' (b : Int) (h0 : 0 ≤ b) (h : b ≤ 49) : irt (fcx b) (fcy b) = true ∧ cod (fcx b) (fcy b) (fcf b) = b := by
  obtain ⟨k, rfl⟩ : ∃ k : Nat, b = k := ⟨b.toNat, by omega⟩
  exact from_back k (by omega)

theorem bat_bd (a : Int) (k : Nat) : 0 ≤ bat a k ∧ bat a k ≤ 255 := by unfold bat; omega

theorem lst_not {a : Int} {k : Nat} {x y : Int} {f : Bool} (hk : k < 256) (h : Lst a k x y f) (hb : bat a k ≤ 49) : same (fcx (bat a k)) (fcy (bat a k)) (fcf (bat a k)) x y f = false := by
  obtain ⟨r, c⟩ := from_back' _ (bat_bd a k).1 hb
  refine decide_eq_false fun ⟨e1, e2, e3⟩ => ?_
  rcases h with ⟨rfl, rfl, rfl⟩ | ⟨j, hj, hbj, rfl, rfl, rfl⟩
  · have := irt_bd r
    omega
  · obtain ⟨-, c2⟩ := from_back' _ (bat_bd a j).1 hbj
    rw [e1, e2, e3, c2] at c
    unfold bat at c
    omega

set_option maxRecDepth 100000 in
set_option maxHeartbeats 1000000 in
theorem walk (a0 : Int) (w : World) (w0 : (Lit.int .u8 a0).wf = true) :
    Calls Try.prog 7 #[.int .u8 a0] w fun e w' => e = .returned (.bool true) ∧ Below w.heap.size w w' := by
  have b1 := bounds_u8 w0
  clear w0
  have H0 := Lib.hid awake_in
  have H1 := Lib.hid (fun b h0 h1 w => from_in b w h0 h1)
  have H2 := Lib.hid code_in
  go_enter Try.func7, Try.ntmps7
  go_wp2
  go_loopw [3, 5] (fun n k wr => ∃ j : Nat, j ≤ 256 ∧ k = .int .i64 j ∧ n = .int .i64 (cnt a0 j) ∧ (∃ X Y F, wr.cell? ⟨w.heap.size, 0, none⟩ = some (.int .i64 X) ∧ wr.cell? ⟨w.heap.size, 1, none⟩ = some (.int .i64 Y) ∧ wr.cell? ⟨w.heap.size, 2, none⟩ = some (.bool F) ∧ Lst a0 j X Y F) ∧ (∀ o, wr.frozen? ⟨w.heap.size, o, none⟩ = false) ∧ Below w.heap.size w wr) (fun _ k _ => 256 - (intOf k).toNat)
  case atStart =>
    refine ⟨0, by omega, rfl, rfl, ⟨9, 0, false, by simp, by simp, by simp, .inl ⟨rfl, rfl, rfl⟩⟩, by simp, (Below.refl _ _).alloc (Nat.le_refl _) _⟩
  case round =>
    obtain ⟨j, hj, rfl, rfl, ⟨X, Y, F, c0, c1, c2, hl⟩, hfr, hbel⟩ := hrel
    have hz := World.block_lt_of_cell? _ _ c0
    have Hl := Lib.hid hl
    have Hbel := Lib.hid hbel
    clear hl hbel
    have hcn := cnt_bd a0 j
    by_cases hlt : j < 256
    · have hb := bat_bd a0 j
      have e1 : IntKind.u8.wrap (j : Int) = j := by rw [IntKind.wrap_u8]; omega
      have e2 : IntKind.u8.wrap (a0 + j) = bat a0 j := by rw [IntKind.wrap_u8]; rfl
      have HN := Lib.hid (show cnt a0 (j + 1) = cnt a0 j + if bat a0 j ≤ 49 then 1 else 0 from rfl)
      have HM := Lib.hid (fun h => lst_not (x := X) (y := Y) (f := F) hlt Hl.out h)
      have HF := Lib.hid (H1.out (bat a0 j) hb.1 hb.2)
      have HC := Lib.hid (fun h => from_back' (bat a0 j) hb.1 h)
      have HD := Lib.hid (H2.out (fcx (bat a0 j)) (fcy (bat a0 j)) (fcf (bat a0 j)))
      have HL1 := Lib.hid (fun (h : bat a0 j ≤ 49) => (show Lst a0 (j + 1) (fcx (bat a0 j)) (fcy (bat a0 j)) (fcf (bat a0 j)) from .inr ⟨j, by omega, h, rfl, rfl, rfl⟩))
      have HL2 := Lib.hid (show Lst a0 (j + 1) X Y F from by
        rcases Hl.out with h | ⟨q, hq, r⟩
        · exact .inl h
        · exact .inr ⟨q, by omega, r⟩)
      have HG := Lib.hid (show ¬ bat a0 j ≤ 49 → fcx (bat a0 j) = 0 ∧ fcy (bat a0 j) = 0 ∧ fcf (bat a0 j) = false from fun h => ⟨by unfold fcx; rw [if_neg h], by unfold fcy; rw [if_neg h], by simp [fcf, h]⟩)
      clear Hl
      go_wp2_with fail
      clear e1 e2
      generalize cnt a0 j = N at *
      generalize bat a0 j = b at *
      generalize fcx b = U at *
      generalize fcy b = V at *
      generalize fcf b = G at *
      refine (HF.out _).mono ?_
      rintro e v1 ⟨rfl, hb1⟩
      obtain ⟨hc1, hf1⟩ := bcell hb1
      have hz1 : w.heap.size < v1.heap.size := by have := hb1.size; omega
      have HB1 := Lib.hid (Hbel.out.trans (hb1.mono Hbel.out.size))
      have d0 : (v1).cell? ⟨w.heap.size, 0, none⟩ = some (.int .i64 X) := by rw [hc1 _ _ hz]; assumption
      have d1 : (v1).cell? ⟨w.heap.size, 1, none⟩ = some (.int .i64 Y) := by rw [hc1 _ _ hz]; assumption
      have d2 : (v1).cell? ⟨w.heap.size, 2, none⟩ = some (.bool F) := by rw [hc1 _ _ hz]; assumption
      have hfr1 : ∀ o, v1.frozen? ⟨w.heap.size, o, none⟩ = false := fun o => by rw [hf1 _ _ hz]; exact hfr o
      clear hc1 hf1 hb1 hfr c0 c1 c2 Hbel HF H1 H2
      by_cases hb49 : b ≤ 49
      · have hbd : decide (b ≤ 49) = true := decide_eq_true hb49
        obtain ⟨q1, q2⟩ := HC.out hb49
        have hsm := HM.out hb49
        rw [q2] at HD
        clear q1 q2 HC HM HG HL2
        rw [if_pos hb49] at HN
        go_wp2_with fail
        refine (HD.out _).mono ?_
        rintro e v2 ⟨rfl, hb2⟩
        obtain ⟨hc2, hf2⟩ := bcell hb2
        have hz2 : v1.heap.size < v2.heap.size := by have := hb2.size; simp at this; omega
        have HB2 := Lib.hid (HB1.out.trans ((unbox hb2).mono (by omega)))
        have hz3 : w.heap.size < v1.heap.size + 1 := by omega
        have hz4 : w.heap.size < v2.heap.size := by omega
        have f0 : (v2).cell? ⟨w.heap.size, 0, none⟩ = some (.int .i64 X) := by rw [hc2 _ _ (by simp; omega), World.cell?_alloc_lt _ _ _ hz1]; assumption
        have f1 : (v2).cell? ⟨w.heap.size, 1, none⟩ = some (.int .i64 Y) := by rw [hc2 _ _ (by simp; omega), World.cell?_alloc_lt _ _ _ hz1]; assumption
        have f2 : (v2).cell? ⟨w.heap.size, 2, none⟩ = some (.bool F) := by rw [hc2 _ _ (by simp; omega), World.cell?_alloc_lt _ _ _ hz1]; assumption
        have g0 : (v2).cell? ⟨v1.heap.size, 0, none⟩ = some (.int .i64 U) := by rw [hc2 _ _ (by simp)]; simp
        have g1 : (v2).cell? ⟨v1.heap.size, 1, none⟩ = some (.int .i64 V) := by rw [hc2 _ _ (by simp)]; simp
        have g2 : (v2).cell? ⟨v1.heap.size, 2, none⟩ = some (.bool G) := by rw [hc2 _ _ (by simp)]; simp
        have hfr2 : ∀ o, v2.frozen? ⟨w.heap.size, o, none⟩ = false := fun o => by rw [hf2 _ _ (by simp; omega)]; rw [World.frozen?_alloc_past _ _ _ hz1]; exact hfr1 o
        clear hc2 hf2 hb2 hfr1 d0 d1 d2 HB1 HD
        go_wp2
        go_roundw
        case rel =>
          exact ⟨j + 1, by omega, by go_num, by rw [HN.out], ⟨U, V, G, by simp [go_sem, f0, f1, f2], by simp [go_sem, f0, f1, f2], by simp [go_sem, f0, f1, f2], HL1.out hb49⟩, by simp [go_sem, hfr2], ((HB2.out.setCell (Nat.le_refl _) _).setCell (Nat.le_refl _) _).setCell (Nat.le_refl _) _⟩
        case measure => simp [intOf]; omega
      · have hbd : decide (b ≤ 49) = false := decide_eq_false hb49
        obtain ⟨rfl, rfl, rfl⟩ := HG.out (by omega)
        rw [if_neg hb49] at HN
        clear HC HM HG HL1
        go_wp2
        go_roundw
        case rel => exact ⟨j + 1, by omega, by go_num, by rw [HN.out, Int.add_zero], ⟨X, Y, F, by rw [World.cell?_alloc_lt _ _ _ hz1]; exact d0, by rw [World.cell?_alloc_lt _ _ _ hz1]; exact d1, by rw [World.cell?_alloc_lt _ _ _ hz1]; exact d2, HL2.out⟩, fun o => by rw [World.frozen?_alloc_past _ _ _ hz1]; exact hfr1 o, HB1.out.alloc (by omega) _⟩
        case measure => simp [intOf]; omega
    · obtain rfl : j = 256 := by omega
      have hA := cnt_all a0
      generalize cnt a0 256 = N at *
      subst hA
      go_wp2_with fail
      refine (H0.out _).mono ?_
      rintro e v1 ⟨rfl, hb1⟩
      have HB1 := Lib.hid (Hbel.out.trans (hb1.mono Hbel.out.size))
      clear hb1 Hbel Hl c0 c1 c2 hfr
      go_wp2
      go_ret
      exact ⟨rfl, HB1.out⟩

set_option maxRecDepth 100000 in
theorem lifted (os : Os) (started : os.Started) (H : Type) (enc : TypeId × Value → H) :
    ReturnsInHanded {} Try.checked os 7 .any (Rows.inputTableSpec.pre6 enc Try.prog Try.f7 Rows.inputTableRow.domain false) (Rows.inputTableSpec.post enc Try.prog Try.f7 false true false false) := by
  refine returnsInHanded_of_change (C := Try.checked) own started (by kernel_rfl) Try.func7
    (ChangeSpec.witness6 (enc := enc) (C := Try.checked) false ⟨#[], #[.int .u8 0], []⟩ 8 (by kernel_rfl) (by kernel_rfl) (by kernel_rfl) (by kernel_rfl)) ?_
  intro W base args ds gs before hval0 hW hcnd _
  have hval : ∀ (j : Nat) t v, Try.f7.params[j]? = some t → args[j]? = some v → Value.okWide Try.prog W .any base t v := hval0
  have hW' := hW
  obtain ⟨p, q, hA0, hV, rfl, hfz, hnd⟩ := hW
  have hA : DataW.TrodAll enc Try.prog W 0 (fun _ => true) true Try.f7.params.toList args.toList ds p := hA0
  rw [Try.params7] at hA hval
  obtain ⟨v0, vs0, d0, ds0, p0, q0, hargs, rfl, rfl, h0, r0⟩ := trodAll_cons hA
  obtain ⟨rfl, rfl, rfl⟩ := trodAll_nil r0
  obtain rfl : args = #[v0] := by cases args; simp_all
  obtain ⟨rfl, rfl⟩ := trodVars_none hV
  obtain ⟨a0, rfl, rfl, rfl, w0⟩ := open_int Try.underlying5 (hval 0 5 v0 rfl rfl) h0
  clear hA0 hval0
  refine (walk a0 W w0).mono fun e W' ⟨he, bel⟩ => ?_
  subst he
  exact ⟨_, rfl, _, _, _, [], _, [], hW', trodAll_mk1 (shut_bool Try.underlying4 _), (trodAll_cons_mk (shut_int Try.underlying5 w0) trodAll_mk0), rfl, bel.frame _, fun h => by cases h⟩

theorem over : Rows.inputTableRow.holds Try.pinned (OpenSpec.ofChange Rows.inputTableSpec) :=
  OpenClaim.holds_of_wide 7 Try.f7 rfl rfl rfl rfl rfl rfl rfl ⟨rfl, rfl, rfl, rfl, rfl⟩ rfl rfl rfl rfl rfl (by kernel_rfl) Try.func7 (by kernel_rfl)
    (of_decide_eq_true (by kernel_rfl)) (by unfold Func.isWrapper; first | (rw [if_pos (by decide +kernel)]; kernel_rfl) | (rw [if_neg (by decide +kernel)]; exact ⟨rfl, rfl⟩))
    (fun os started H enc _ => lifted os started H enc)

end Go.Proofs.Ytaoncmgcpegogaa.inputTable
namespace Go.Proofs.Ytaoncmgcpegogaa
theorem inputTable_proved : Rows.InputTableSaid := inputTable.over
end Go.Proofs.Ytaoncmgcpegogaa
