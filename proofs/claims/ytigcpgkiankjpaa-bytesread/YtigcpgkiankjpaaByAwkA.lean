/- joustlaw11.awake. -/
import Derived.Test.YtigcpgkiankjpaaByAwk
namespace Go.Proofs.Ytigcpgkiankjpaa.Fx
open Go.ChangeShapes Go.WideShapes Go.ChangeAt Go.RowKit
set_option linter.unusedVariables false
set_option maxRecDepth 100000

/-- Bytes that came in. -/
theorem IsRow.sl8 {w : World} {a : Option Addr} {len cap : Nat} {zs : List Int} (h : IsRow .u8 w a len cap zs) : IsSl byC w (.slice a len cap) (zs.take len) ∧ ByOk (zs.take len) ∧ (zs.take len).length = len := by
  rcases h with ⟨rfl, rfl, rfl, rfl⟩ | ⟨x, rfl, hl, hm, hz, hcell, hwz⟩
  · exact ⟨IsSl.nil _ _, fun x hx => by simp at hx, rfl⟩
  · have hlen : (zs.take len).length = len := by rw [List.length_take]; omega
    refine ⟨?_, fun x hx => by have := bounds_u8 (hwz x (List.mem_of_mem_take hx)); omega, hlen⟩
    refine ⟨some x, cap, by rw [hlen], fun h => (by cases h), by omega, fun hx => ?_⟩
    obtain ⟨b, off, spot⟩ := x
    have h0 : 0 < zs.length := by
      cases zs with
      | nil => simp at hx
      | cons z zs => simp
    have hspot : spot = none := by simpa [Addr.add] using World.cell?_spot (hcell 0 h0)
    subst hspot
    refine ⟨b, off, rfl, fun i v hv => ?_⟩
    rw [byC_map] at hv
    obtain ⟨hi, hv⟩ := List.getElem?_eq_some_iff.1 hv
    simp at hi hv
    subst hv
    have h := hcell i (by omega)
    have e : (Addr.mk b off none).add i = ⟨b, off + i, none⟩ := by unfold Addr.add; split <;> simp_all
    rw [e] at h
    rw [h]
    simp [List.getD_eq_getElem?_getD, List.getElem?_eq_getElem (show i < zs.length by omega)]

theorem numsL_awk : numsL [0, -1, 64] = [0, 1, 128, 1] := by
  have h : numsL [0, -1, 64] = num 0 ++ (num 1 ++ (num 128 ++ [])) := rfl
  rw [h, num_lt (by omega), num_lt (by omega), num_ge (by omega), num_lt (by omega)]
  rfl

theorem int_awk : (Rd.mk [128, 1] 0).int = (64, ⟨[], 0⟩) := rfl

set_option maxHeartbeats 1000000 in
theorem awake_by (w : World) : Calls Try.prog 8 #[] w fun e w' => e = .returned (.bool true) ∧ Below w.heap.size w w' := by
  have HP := Lib.hid put_any
  have HR := Lib.hid read_any
  have HB := Lib.hid wbytes_any
  have HS := Lib.hid same_by
  have HI := Lib.hid rint_any
  go_enter Try.func8, Try.ntmps8
  go_wp2_with fail
  generalize hW : (w.alloc _).alloc _ = W
  have hb : Below w.heap.size w W := by rw [← hW]; exact ((Below.refl _ _).alloc (Nat.le_refl _) _).alloc (by simp) _
  have hwr : WrAt (w.heap.size + 1) W w.heap.size [] := by rw [← hW]; exact (WrAt.new w _).below ((Below.refl _ _).alloc (Nat.le_refl _) _)
  have hin : IntsAt W (some ⟨w.heap.size + 1, 0, none⟩) 3 [0, -1, 64] := by rw [← hW]; exact ints_new3 _ _ _ _ _ _ (by simp)
  have HW := Lib.hid (And.intro hb hwr)
  clear hW hb hwr
  refine (HP.out (w.heap.size + 1) _ [] _ _ _ [0, -1, 64] _ (.inr ⟨_, rfl, HW.out.2⟩) hin (by omega)).mono ?_
  rintro e w1 ⟨rfl, -, h1⟩
  obtain ⟨h1, hg1⟩ := h1 _ rfl
  rw [numsL_awk] at h1
  have H1 := Lib.hid (show WrAt (w.heap.size + 1) w1 w.heap.size [0, 1, 128, 1] from h1)
  have HB1 := Lib.hid (HW.out.1.grown hg1 HW.out.1.size (by simp))
  clear h1 hg1 hin HW
  go_wp2_with fail
  refine (HR.out _ [128, 1] _ (new_by w1 [128, 1] _ 2 rfl (by simp)) (by simp)).mono ?_
  rintro e w2 ⟨b2, rfl, hb2s, -, hr2, hb2⟩
  have hle1 := HB1.out.size
  have hb2' : Below w1.heap.size w1 w2 := ((Below.refl _ _).alloc (Nat.le_refl _) _).trans (hb2.mono (by simp))
  have H2 := Lib.hid (H1.out.below hb2')
  have HR2 := Lib.hid (hr2 (· = b2) rfl (fun k hk => .inr (by omega)))
  have HB2 := Lib.hid (HB1.out.trans (hb2'.mono hle1))
  have HS2 := Lib.hid (show w.heap.size ≤ b2 from by simp at hb2s; omega)
  clear hb2s hr2 hb2 hb2' H1 HB1 hle1
  go_wp2_with fail
  refine (HB.out (w.heap.size + 1) _ _ _ H2.out (by simp)).mono ?_
  rintro e w3 ⟨v3, rfl, ho3, hb3⟩
  have hle2 := HB2.out.size
  have HO3 := Lib.hid ho3.sl
  have HR3 := Lib.hid (HR2.out.below hb3)
  have HB3 := Lib.hid (HB2.out.trans (hb3.mono hle2))
  obtain ⟨A3, c3, rfl, -⟩ := ho3.sl
  clear ho3 hb3 hle2 H2 HR2 HB2
  go_wp2_with fail
  have hle3 := HB3.out.size
  refine (HS.out _ _ [0, 1, 128, 1] _ (HO3.out.below ((Below.refl _ _).alloc (Nat.le_refl _) _)) (new_by _ [0, 1, 128, 1] _ 4 rfl (by simp))).mono ?_
  rintro e w4 ⟨rfl, hw4⟩
  have HR4 := Lib.hid (show RdAt _ w4 b2 ⟨[128, 1], 0⟩ from by rw [← hw4]; exact HR3.out.below ((Below.refl _ _).alloc (Nat.le_refl _) _))
  have HB4 := Lib.hid (show Below w.heap.size w w4 from by rw [← hw4]; exact HB3.out.alloc hle3 _)
  clear hw4 hle3 HR3 HO3
  go_wp2_with fail
  refine (HI.out _ b2 _ _ HR4.out (by intro x hx; simp at hx; omega) (by simp)).mono ?_
  rintro e w5 ⟨rfl, hr5, hg5⟩
  have HB5 := Lib.hid (HB4.out.grown hg5 HB4.out.size (by have := HS2.out; simp; exact this))
  rw [int_awk]
  clear hr5 hg5
  go_wp2
  go_ret
  exact ⟨rfl, HB5.out⟩

end Go.Proofs.Ytigcpgkiankjpaa.Fx
