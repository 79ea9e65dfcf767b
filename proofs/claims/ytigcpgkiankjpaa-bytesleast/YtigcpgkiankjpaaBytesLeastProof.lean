/- joustlaw11.BytesLeast returns true for every input; no conditions. -/
import Derived.Test.YtigcpgkiankjpaaByAwkA
import Derived.Deep.DeepCutAuto
import Derived.Test.YtigcpgkiankjpaaRows
import Derived.WalkKit
import Derived.ProofKit
import Derived.OpenShut
import Derived.ShutString
import Derived.ChangeOld
import Derived.Below
namespace Go.Proofs.Ytigcpgkiankjpaa.bytesLeast
open Go.ChangeShapes Go.WideShapes Go.ChangeAt Go.RowKit
open Go.ChangeMaps (open_string shut_string)
set_option linter.unusedVariables false
set_option maxRecDepth 100000

theorem own : ownKnob Try.prog.godebug = none := by kernel_rfl
theorem laidOut : laidOutB Try.prog = true := by kernel_rfl


open Fx

theorem num_end (u : Nat) : ∃ pre x, num u = pre ++ [x] ∧ (∀ y ∈ pre, (128 : Int) ≤ y) ∧ 0 ≤ x ∧ x < 128 := by
  induction u using Nat.strongRecOn with
  | _ u ih =>
    by_cases h : u < 128
    · exact ⟨[], (u : Int), by rw [num_lt h]; rfl, fun y hy => by simp at hy, by omega, by omega⟩
    · obtain ⟨pre, x, h1, h2, h3⟩ := ih (u / 128) (by omega)
      refine ⟨((u % 128 + 128 : Nat) : Int) :: pre, x, by rw [num_ge (by omega), h1]; rfl, fun y hy => ?_, h3⟩
      rcases List.mem_cons.1 hy with rfl | hy
      · omega
      · exact h2 y hy

theorem nlen_long (pre : List Int) (x : Int) (h : ∀ y ∈ pre, (128 : Int) ≤ y) (hx : 0 ≤ x) : nlen (pre ++ [x + 128, 0]) = pre.length + 2 := by
  induction pre with
  | nil =>
    have h0 : nlen [(0 : Int)] = 1 := rfl
    show nlen [x + 128, 0] = 2
    rw [nlen_ge (by omega) (by rw [h0]; omega), h0]
  | cons y pre ih =>
    have := ih (fun z hz => h z (List.mem_cons_of_mem _ hz))
    rw [List.cons_append, nlen_ge (by have := h y (List.mem_cons_self ..); omega) (by omega), this, List.length_cons]

theorem int_long (pre : List Int) (x : Int) (h : ∀ y ∈ pre, (128 : Int) ≤ y) (hx : 0 ≤ x) : (Rd.mk (pre ++ [x + 128, 0]) 0).int = (0, ⟨[], 4⟩) := by
  rw [Rd.int_eq]
  simp only [nlen_long pre x h hx]
  rw [if_neg (by simp), if_neg (by omega), if_pos]
  refine .inr ⟨by omega, ?_⟩
  simp [gi, List.getD_eq_getElem?_getD]

theorem or_last (x : Int) (h0 : 0 ≤ x) (h1 : x < 128) : bits .or .u8 x 128 = x + 128 := by
  obtain ⟨n, rfl⟩ := Int.eq_ofNat_of_zero_le h0
  have : ∀ n : Fin 128, bits .or .u8 ((n : Nat) : Int) 128 = ((n : Nat) : Int) + 128 := by decide
  exact this ⟨n, by omega⟩

theorem num_mono (v : Nat) : ∀ u, u ≤ v → (num u).length ≤ (num v).length := by
  induction v using Nat.strongRecOn with
  | _ v ih =>
    intro u h
    by_cases hu : u < 128
    · rw [num_lt hu]; exact num_pos v
    · rw [num_ge (by omega), num_ge (show 128 ≤ v by omega), List.length_cons, List.length_cons]
      have := ih (v / 128) (by omega) (u / 128) (Nat.div_le_div_right h)
      omega

theorem tdiv_two (v : Int) : (0 ≤ v → v.tdiv 2 = v / 2) ∧ (v < 0 → v.tdiv 2 = -((-v) / 2)) := by
  refine ⟨fun h => Int.tdiv_eq_ediv_of_nonneg h, fun h => ?_⟩
  have h1 : v.tdiv 2 = -((-v).tdiv 2) := by rw [Int.neg_tdiv]; omega
  rw [h1, Int.tdiv_eq_ediv_of_nonneg (by omega)]

theorem half_le (v : Int) : (nums (v.tdiv 2)).length ≤ (nums v).length := by
  unfold nums
  refine num_mono _ _ ?_
  have h1 := zig_bd (hold_bd v)
  have h2 := zig_bd (hold_bd (v.tdiv 2))
  have : zig (hold (v.tdiv 2)) ≤ zig (hold v) := by
    have ht := tdiv_two v
    generalize v.tdiv 2 = t at *
    unfold zig hold
    split <;> split <;> omega
  omega

theorem walk (a0 : Int) (w : World) (w0 : (Lit.int .i64 a0).wf = true) :
    Calls Try.prog 5 #[.int .i64 a0] w fun e w' => e = .returned (.bool true) ∧ Below w.heap.size w w' := by
  have HA := Lib.hid awake_by
  have hb0 := bounds_i64 w0
  have hwt : wrap64 (a0.tdiv 2) = a0.tdiv 2 := IntWalk.wrap64_in _ (by have := tdiv_two a0; omega)
  clear w0 hb0
  have HP := Lib.hid put_any
  have HRp := Lib.hid (rput_any (.slice none 0 0) [] a0 w (IsSl.nil _ _) (by simp))
  have HRd := Lib.hid read_any
  have HI := Lib.hid rint_any
  have HE := Lib.hid rerr_any
  have HB := Lib.hid wbytes_any
  have Hh := Lib.hid (half_le a0)
  have H9 := Lib.hid (nums_len a0)
  have H9x := Lib.hid (nums_len (a0.tdiv 2))
  have HOk := Lib.hid (nums_ok a0)
  obtain ⟨pre, x, hpx, hpre, hx0, hx1⟩ : ∃ pre x, nums a0 = pre ++ [x] ∧ (∀ y ∈ pre, (128 : Int) ≤ y) ∧ 0 ≤ x ∧ x < 128 := num_end _
  obtain ⟨m, hm⟩ : ∃ m, pre.length = m := ⟨_, rfl⟩
  have HL := Lib.hid (show (nums a0).length = m + 1 from by rw [hpx, List.length_append, hm]; rfl)
  have HPx := Lib.hid hpx
  have HPm := Lib.hid hm
  have HInt := Lib.hid (int_long pre x hpre hx0)
  have HOr := Lib.hid (or_last x hx0 hx1)
  have h9 : m + 1 ≤ 9 := by have := H9.out.2; rw [HL.out] at this; exact this
  clear hpx hm hpre
  go_enter Try.func5, Try.ntmps5
  go_wp2_with fail
  refine HRp.out.mono ?_
  rintro e w1 ⟨v1, rfl, ho1, hb1⟩
  have HO1 := Lib.hid (show ownB w.heap.size w1 v1 (nums a0) from by simpa using ho1)
  have HB1 := Lib.hid hb1
  obtain ⟨A1, c1, hv1, -⟩ := HO1.out.sl
  rw [HL.out] at hv1
  subst hv1
  clear ho1 hb1
  go_wp2_with (at_builtin; go_must (refine appL_by (by rfl) (.const (.slice none 0 0)) (.tmp 11) (by rfl) w1.heap.size _ [] (by rfl) (ownB.nil _ _) _ (nums a0) (by rfl) HO1.out.sl (by have := HL.out; simp; omega) (Nat.le_refl _) ?_))
  intro v2 w2 ho2 hb2 _
  have HO2 := Lib.hid (show ownB w1.heap.size w2 v2 (nums a0) from by simpa using ho2)
  have HB2 := Lib.hid hb2
  obtain ⟨g, cap, rfl, hg⟩ : ∃ g cap, v2 = .slice (some ⟨g, 0, none⟩) (m + 1) cap ∧ w1.heap.size ≤ g := by
    rcases HO2.out.2 with ⟨-, h⟩ | ⟨g, cap, cur, hv, hb, -⟩
    · have := HL.out; omega
    · exact ⟨g, cap, by rw [hv, HL.out], hb⟩
  have hcell : w2.cell? ⟨g, m, none⟩ = some (.int .u8 x) := by
    have h := HO2.out
    unfold ownB at h
    rw [HL.out] at h
    rw [h.cellAt m (by omega), HPx.out]
    simp [← HPm.out]
  have hfz : w2.frozen? ⟨g, m, none⟩ = false := by
    have h := HO2.out
    unfold ownB at h
    rw [HL.out] at h
    exact h.frozenAt m
  clear ho2 hb2
  go_upto_region 4 with fail
  have ho3 : ownB w1.heap.size (w2.setCell ⟨g, m, none⟩ (.int .u8 (bits .or .u8 x 128))) (.slice (some ⟨g, 0, none⟩) (m + 1) cap) (pre ++ [x + 128]) := by
    have h := HO2.out
    unfold ownB at h
    rw [HL.out, HPx.out] at h
    have h2 := (h.stored m (.int .u8 (bits .or .u8 x 128))).1
    unfold ownB
    rw [show (pre ++ [x + 128]).length = m + 1 by rw [List.length_append, HPm.out]; rfl]
    rw [show (pre ++ [x + 128]).map (Value.int .u8) = ((pre ++ [x]).map (Value.int .u8)).set m (.int .u8 (bits .or .u8 x 128)) from ?_]
    · exact h2
    · rw [HOr.out, List.map_append, List.map_append, List.set_append_right _ _ (by simp [HPm.out])]
      simp [HPm.out]
  have hb3 : Below w.heap.size w (w2.setCell ⟨g, m, none⟩ (.int .u8 (bits .or .u8 x 128))) := (HB1.out.trans (HB2.out.mono HB1.out.size)).setCell (by have := HB1.out.size; show w.heap.size ≤ g; omega) _
  have hs3 : w1.heap.size ≤ (w2.setCell ⟨g, m, none⟩ (.int .u8 (bits .or .u8 x 128))).heap.size := by have := HB2.out.size; simp; omega
  have hc3 : Below w1.heap.size w1 (w2.setCell ⟨g, m, none⟩ (.int .u8 (bits .or .u8 x 128))) := HB2.out.setCell hg _
  generalize w2.setCell ⟨g, m, none⟩ (.int .u8 (bits .or .u8 x 128)) = w3 at *
  have HO3 := Lib.hid ho3
  have HB3 := Lib.hid hb3
  have HS3 := Lib.hid hs3
  have HC3 := Lib.hid hc3
  clear ho3 hb3 hs3 hc3 HO2 HB2 hcell hfz
  obtain ⟨i0, hi, hz0, hz1, hz2⟩ := info_parts info_u8
  have Hi := Lib.hid hi
  have Hz := Lib.hid (And.intro hz0 (And.intro hz1 hz2))
  clear hi hz0 hz1 hz2
  go_wp2_with (at_builtin; go_must (refine append_int (by rfl) (.tmp 25) (.tmp 26) 26 (by rfl) w1.heap.size 5 .u8 i0 1 Try.underlying26 Hi.out Hz.out.1 Hz.out.2.1 Hz.out.2.2 (by omega) _ (pre ++ [x + 128]) HO3.out 0 (by rfl) w3.heap.size 1 (by rfl) (by rfl) (by rw [List.length_append, HPm.out]; simp; omega) HS3.out ?_); intro v4 w4 ho4 hb4)
  have HO4 := Lib.hid (show ownB w1.heap.size w4 v4 (pre ++ [x + 128, 0]) from by have h := ho4; rw [List.append_assoc] at h; exact h)
  have HC4 := Lib.hid (HC3.out.trans hb4)
  have HB4 := Lib.hid (HB3.out.trans (hb4.mono HB1.out.size))
  clear ho4 hb4 HO3 HB3 HS3 HC3
  go_wp2_with fail
  refine (HRd.out _ _ _ HO4.out.sl (by rw [List.length_append, HPm.out]; simp; omega)).mono ?_
  rintro e w5 ⟨b5, rfl, hb5s, hb5l, hr5, hb5⟩
  have HR5 := Lib.hid (hr5 (fun k => b5 ≤ k) (Nat.le_refl _) (fun k hk => .inr hk))
  have HB5 := Lib.hid (HB4.out.trans (hb5.mono HB4.out.size))
  have HC5 := Lib.hid (HC4.out.trans (hb5.mono HC4.out.size))
  have HS5 := Lib.hid (show w1.heap.size ≤ b5 from Nat.le_trans HC4.out.size hb5s)
  clear hr5 hb5 hb5s HO4 HB4 HC4
  go_wp2_with fail
  refine (HI.out _ b5 _ _ HR5.out (by
    intro y hy
    have := HOk.out
    rw [HPx.out] at this
    simp at hy
    rcases hy with hy | rfl | rfl
    · exact this y (List.mem_append_left _ hy)
    · omega
    · omega) (by simp [HPm.out]; omega)).mono ?_
  rintro e w6 ⟨rfl, hr6, hg6⟩
  rw [HInt.out] at hr6 ⊢
  have HR6l := Lib.hid (And.intro (show b5 < w6.heap.size from Nat.lt_of_lt_of_le hb5l hg6.size) (show b5 ≤ b5 from Nat.le_refl _))
  have HR6 := Lib.hid (show RdAt _ w6 b5 ⟨[], 4⟩ from hr6)
  have HB6 := Lib.hid (HB5.out.grown hg6 HB5.out.size (by have := HS5.out; have := HB1.out.size; simp; omega))
  have HC6 := Lib.hid (HC5.out.grown hg6 HC5.out.size (by have := HS5.out; simp; omega))
  clear hr6 hg6 HR5 HB5 HC5
  go_wp2_with fail
  generalize hW : ((w6.alloc _).alloc _).alloc _ = W
  have hbW : Below w6.heap.size w6 W := by rw [← hW]; exact (((Below.refl _ _).alloc (Nat.le_refl _) _).alloc (by simp) _).alloc (by simp; omega) _
  have hwa : WrAt (w6.heap.size + 2) W w6.heap.size [] := by rw [← hW]; exact (((WrAt.new w6 _).below ((Below.refl _ _).alloc (Nat.le_refl _) _)).more (by omega) (by simp)).below ((Below.refl _ _).alloc (Nat.le_refl _) _)
  have hwb : WrAt (w6.heap.size + 2) W (w6.heap.size + 1) [] := by rw [← hW]; have := (WrAt.new (w6.alloc (.cells #[.pointer none] 25)) 25).below ((Below.refl _ _).alloc (Nat.le_refl _) (.cells #[.int .i64 a0] 3)); simpa using this
  have hin : IntsAt W (some ⟨w6.heap.size + 2, 0, none⟩) 1 [a0] := by rw [← hW]; exact ints_new1 _ _ _ _ (by simp)
  have HW := Lib.hid (And.intro hwa hwb)
  have HBW := Lib.hid (HB6.out.trans (hbW.mono HB6.out.size))
  have HCW := Lib.hid (HC6.out.trans (hbW.mono HC6.out.size))
  have HRW := Lib.hid (HR6.out.below hbW)
  have HSW := Lib.hid hbW.size
  clear hW hbW hwa hwb HR6
  refine (HP.out (w6.heap.size + 2) _ [] _ _ _ [a0] _ (.inr ⟨_, rfl, HW.out.1⟩) hin (by omega)).mono ?_
  rintro e w7 ⟨rfl, -, h7⟩
  obtain ⟨h7, hg7⟩ := h7 _ rfl
  have H7a := Lib.hid (show WrAt (w6.heap.size + 2) w7 w6.heap.size (nums a0) from by simpa [numsL] using h7)
  have H7b := Lib.hid (HW.out.2.grown hg7 (by simp) (by omega))
  have HB7 := Lib.hid (HBW.out.grown hg7 HBW.out.size (by have := HB6.out.size; simp; exact this))
  have HS7 := Lib.hid (show w6.heap.size ≤ w7.heap.size from Nat.le_trans HSW.out hg7.size)
  have HR7 := Lib.hid (HRW.out.grown hg7 (by have := HR6l.out; omega) (by have := HR6l.out; omega))
  clear h7 hg7 hin HW HBW HRW HSW HCW
  go_wp2_with fail
  refine (HP.out (w6.heap.size + 2) _ [] _ _ _ [a0.tdiv 2] _ (.inr ⟨_, rfl, H7b.out.below ((Below.refl _ _).alloc (Nat.le_refl _) _)⟩) (ints_new1 _ _ _ _ rfl) (by omega)).mono ?_
  rintro e w8 ⟨rfl, -, h8⟩
  obtain ⟨h8, hg8⟩ := h8 _ rfl
  have H8b := Lib.hid (show WrAt (w6.heap.size + 2) w8 (w6.heap.size + 1) (nums (a0.tdiv 2)) from by simpa [numsL] using h8)
  have H8a := Lib.hid ((H7a.out.below ((Below.refl _ _).alloc (Nat.le_refl _) _)).grown hg8 (by simp) (by omega))
  have HB8 := Lib.hid ((HB7.out.alloc HB7.out.size _).grown hg8 (by have := HB7.out.size; simp; omega) (by have := HB6.out.size; simp; omega))
  have HR8 := Lib.hid ((HR7.out.below ((Below.refl _ _).alloc (Nat.le_refl _) _)).grown hg8 (by have := HR6l.out; omega) (by have := HR6l.out; omega))
  clear h8 hg8 H7a H7b HB7 HR7 HS7
  go_wp2_with fail
  refine (HA.out _).mono ?_
  rintro e w9 ⟨rfl, hb9⟩
  have H9a := Lib.hid (H8a.out.below hb9)
  have H9b := Lib.hid (H8b.out.below hb9)
  have HR9 := Lib.hid (HR8.out.below hb9)
  have HB9 := Lib.hid (HB8.out.trans (hb9.mono HB8.out.size))
  clear hb9 H8a H8b HR8 HB8
  go_wp2_with fail
  refine (HE.out _ b5 _ _ HR9.out).mono ?_
  rintro e w10 ⟨rfl, rfl⟩
  go_wp2_with fail
  refine (HB.out (w6.heap.size + 2) _ _ _ H9a.out (by have := H9.out; omega)).mono ?_
  rintro e w10 ⟨v10, rfl, ho10, hb10⟩
  have H10a := Lib.hid (H9a.out.below hb10)
  have H10b := Lib.hid (H9b.out.below hb10)
  have HB10 := Lib.hid (HB9.out.trans (hb10.mono HB9.out.size))
  obtain ⟨A10, c10, hv10, -⟩ := ho10.sl
  rw [HL.out] at hv10
  subst hv10
  clear ho10 hb10 H9a H9b HB9 HR9
  go_wp2_with fail
  refine (HB.out (w6.heap.size + 2) _ _ _ H10b.out (by have := H9x.out; omega)).mono ?_
  rintro e w11 ⟨v11, rfl, ho11, hb11⟩
  have H11a := Lib.hid (H10a.out.below hb11)
  have HB11 := Lib.hid (HB10.out.trans (hb11.mono HB10.out.size))
  obtain ⟨A11, c11, rfl, -⟩ := ho11.sl
  clear ho11 hb11 H10a H10b HB10
  have hq := Hh.out
  rw [HL.out] at hq
  have HQ := Lib.hid hq
  generalize (nums (a0.tdiv 2)).length = q at *
  clear hq
  go_wp2_with fail
  refine (HB.out (w6.heap.size + 2) _ _ _ H11a.out (by have := H9.out; omega)).mono ?_
  rintro e w12 ⟨v12, rfl, ho12, hb12⟩
  have HB12 := Lib.hid (HB11.out.trans (hb12.mono HB11.out.size))
  obtain ⟨A12, c12, hv12, -⟩ := ho12.sl
  rw [HL.out] at hv12
  subst hv12
  clear ho12 hb12 H11a HB11
  have hq1 : (q : Int) ≤ (m : Int) + 1 := by have := HQ.out; omega
  have hq2 : (m : Int) + 1 ≤ 9 := by omega
  go_wp2
  go_ret
  exact ⟨rfl, HB12.out⟩

set_option maxRecDepth 100000 in
theorem lifted (os : Os) (started : os.Started) (H : Type) (enc : TypeId × Value → H) :
    ReturnsInHanded {} Try.checked os 5 .any (Rows.bytesLeastSpec.pre6 enc Try.prog Try.f5 Rows.bytesLeastRow.domain false) (Rows.bytesLeastSpec.post enc Try.prog Try.f5 false true false false) := by
  refine returnsInHanded_of_change (C := Try.checked) own started (by kernel_rfl) Try.func5
    (ChangeSpec.witness6 (enc := enc) (C := Try.checked) false ⟨#[], #[.int .i64 0], []⟩ 8 (by kernel_rfl) (by kernel_rfl) (by kernel_rfl) (by kernel_rfl)) ?_
  intro W base args ds gs before hval0 hW hcnd _
  have hval : ∀ (j : Nat) t v, Try.f5.params[j]? = some t → args[j]? = some v → Value.okWide Try.prog W .any base t v := hval0
  have hW' := hW
  obtain ⟨p, q, hA0, hV, rfl, hfz, hnd⟩ := hW
  have hA : DataW.TrodAll enc Try.prog W 0 (fun _ => true) true Try.f5.params.toList args.toList ds p := hA0
  rw [Try.params5] at hA hval
  obtain ⟨v0, vs0, d0, ds0, p0, q0, hargs, rfl, rfl, h0, r0⟩ := trodAll_cons hA
  obtain ⟨rfl, rfl, rfl⟩ := trodAll_nil r0
  obtain rfl : args = #[v0] := by cases args; simp_all
  obtain ⟨rfl, rfl⟩ := trodVars_none hV
  obtain ⟨a0, rfl, rfl, rfl, w0⟩ := open_int Try.underlying3 (hval 0 3 v0 rfl rfl) h0
  clear hA0 hval0
  refine (walk a0 W w0).mono fun e W' ⟨he, bel⟩ => ?_
  subst he
  exact ⟨_, rfl, _, _, _, [], _, [], hW', trodAll_mk1 (shut_bool Try.underlying4 _), (trodAll_cons_mk (shut_int Try.underlying3 w0) trodAll_mk0), rfl, bel.frame _, fun h => by cases h⟩

theorem over : Rows.bytesLeastRow.holds Try.pinned (OpenSpec.ofChange Rows.bytesLeastSpec) :=
  OpenClaim.holds_of_wide 5 Try.f5 rfl rfl rfl rfl rfl rfl rfl ⟨rfl, rfl, rfl, rfl, rfl⟩ rfl rfl rfl rfl rfl (by kernel_rfl) Try.func5 (by kernel_rfl)
    (of_decide_eq_true (by kernel_rfl)) (by unfold Func.isWrapper; first | (rw [if_pos (by decide +kernel)]; kernel_rfl) | (rw [if_neg (by decide +kernel)]; exact ⟨rfl, rfl⟩))
    (fun os started H enc _ => lifted os started H enc)

end Go.Proofs.Ytigcpgkiankjpaa.bytesLeast
namespace Go.Proofs.Ytigcpgkiankjpaa
theorem bytesLeast_proved : Rows.BytesLeastSaid := bytesLeast.over
end Go.Proofs.Ytigcpgkiankjpaa
