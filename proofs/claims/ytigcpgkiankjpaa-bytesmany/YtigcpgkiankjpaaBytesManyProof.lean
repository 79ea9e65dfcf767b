/- joustlaw11.BytesMany returns true for every input; no conditions. -/
import Derived.Test.YtigcpgkiankjpaaByAwkA
import Derived.Test.YtigcpgkiankjpaaRows
import Derived.WalkKit
import Derived.ProofKit
import Derived.OpenShut
import Derived.ShutString
import Derived.ChangeOld
import Derived.Below
namespace Go.Proofs.Ytigcpgkiankjpaa.bytesMany
open Go.ChangeShapes Go.WideShapes Go.ChangeAt Go.RowKit
open Go.ChangeMaps (open_string shut_string)
set_option linter.unusedVariables false
set_option maxRecDepth 100000

theorem own : ownKnob Try.prog.godebug = none := by kernel_rfl
theorem laidOut : laidOutB Try.prog = true := by kernel_rfl
open Fx (IsRow)

open Fx

theorem walk (a0 : Option Addr) (len0 cap0 : Nat) (z0 : List Int) (a1 : Option Addr) (len1 cap1 : Nat) (z1 : List Int) (w : World) (w0 : IsRow .i64 w a0 len0 cap0 z0) (w1 : IsRow .u8 w a1 len1 cap1 z1) :
    Calls Try.prog 7 #[.slice a0 len0 cap0, .slice a1 len1 cap1] w fun e w' => e = .returned (.bool true) ∧ Below w.heap.size w w' := by
  have hl := w0.ints
  obtain ⟨hsl, -, hlen⟩ := w1.sl8
  have Hl := Lib.hid hl
  have HS := Lib.hid hsl
  have HLen := Lib.hid hlen
  have HN := Lib.hid numsL_len
  clear w0 w1 hl hsl hlen
  generalize z0.take len0 = l at *
  generalize z1.take len1 = m at *
  have HA := Lib.hid awake_by
  by_cases hlong : 60 < len0 ∨ 300 < len1
  · by_cases h0 : 60 < len0
    · clear hlong
      go_enter Try.func7, Try.ntmps7
      go_wp2_with fail
      refine (HA.out _).mono ?_
      rintro e w1 ⟨rfl, hb⟩
      go_wp2
      go_ret
      exact ⟨rfl, hb⟩
    · have h1 : 300 < len1 := hlong.resolve_left h0
      clear hlong
      go_enter Try.func7, Try.ntmps7
      go_wp2_with fail
      refine (HA.out _).mono ?_
      rintro e w1 ⟨rfl, hb⟩
      go_wp2
      go_ret
      exact ⟨rfl, hb⟩
  · have h0 : ¬ 60 < len0 := fun h => hlong (.inl h)
    have h1 : ¬ 300 < len1 := fun h => hlong (.inr h)
    clear hlong
    have HP := Lib.hid put_any
    have HR := Lib.hid wraw_any
    have HB := Lib.hid wbytes_any
    have HSm := Lib.hid same_by
    go_enter Try.func7, Try.ntmps7
    go_wp2_with fail
    generalize hW : (w.alloc _).alloc _ = W
    have hb : Below w.heap.size w W := by rw [← hW]; exact ((Below.refl _ _).alloc (Nat.le_refl _) _).alloc (by simp) _
    have hwa : WrAt (w.heap.size + 2) W w.heap.size [] := by rw [← hW]; exact ((WrAt.new w _).below ((Below.refl _ _).alloc (Nat.le_refl _) _)).more (by omega) (by simp)
    have hwb : WrAt (w.heap.size + 2) W (w.heap.size + 1) [] := by rw [← hW]; have := WrAt.new (w.alloc (.cells #[.pointer none] 25)) 25; simpa using this
    have HW := Lib.hid (And.intro hb (And.intro hwa hwb))
    have HWl := Lib.hid (Hl.out.below hb)
    have HWs := Lib.hid (HS.out.below hb)
    clear hW hb hwa hwb
    refine (HP.out (w.heap.size + 2) _ [] _ _ _ l _ (.inr ⟨_, rfl, HW.out.2.1⟩) HWl.out (by omega)).mono ?_
    rintro e w1 ⟨rfl, -, h1⟩
    obtain ⟨h1, hg1⟩ := h1 _ rfl
    have HB1 := Lib.hid (HW.out.1.grown hg1 HW.out.1.size (by simp))
    have H1a := Lib.hid (show WrAt (w.heap.size + 2) w1 w.heap.size (numsL l) from h1)
    have H1b := Lib.hid (HW.out.2.2.grown hg1 (by simp) (by omega))
    clear h1 hg1 HW HWl HWs
    go_wp2_with fail
    refine (HR.out (w.heap.size + 2) _ (numsL l) _ m _ (.inr ⟨_, rfl, H1a.out⟩) (HS.out.below HB1.out) (by rw [HLen.out]; omega)).mono ?_
    rintro e w2 ⟨rfl, -, h2⟩
    obtain ⟨h2, hg2⟩ := h2 _ rfl
    have HB2 := Lib.hid (HB1.out.grown hg2 HB1.out.size (by simp))
    have H2a := Lib.hid h2
    have H2b := Lib.hid (H1b.out.grown hg2 (by simp) (by omega))
    clear h2 hg2 HB1 H1a H1b
    rw [HLen.out] at H2a
    go_wp2
    go_loopw [7] (fun i wr => ∃ k : Nat, k ≤ len0 ∧ i = .int .i64 k ∧ WrAt (w.heap.size + 2) wr w.heap.size (numsL l ++ (nums len1 ++ m)) ∧ WrAt (w.heap.size + 2) wr (w.heap.size + 1) (numsL (l.take k)) ∧ Below w.heap.size w wr) (fun i _ => len0 - (intOf i).toNat)
    case atStart => exact ⟨0, Nat.zero_le _, rfl, H2a.out, H2b.out, HB2.out⟩
    case round =>
      clear H2a H2b HB2
      obtain ⟨k, hk, rfl, ha, hb, hbel⟩ := hrel
      have Ha := Lib.hid ha
      have Hb := Lib.hid hb
      have HBr := Lib.hid hbel
      have hbs := hbel.size
      clear ha hb hbel
      by_cases hlt : k < len0
      · obtain ⟨b, off, hA, hc⟩ := Hl.out.2 (by omega)
        have hck : wr.cell? ⟨b, off + k, none⟩ = some (.int .i64 (gi l k)) := (HBr.out.cell (p := ⟨b, off + k, none⟩) (World.block_lt_of_cell? _ _ (hc k hlt))).trans (hc k hlt)
        subst hA
        have HT := Lib.hid (numsL_take Hl.out.1 hlt)
        clear hc
        go_wp2_with fail
        refine (HP.out (w.heap.size + 2) _ (numsL (l.take k)) _ _ _ [gi l k] _ (.inr ⟨_, rfl, Hb.out.below ((Below.refl _ _).alloc (Nat.le_refl _) _)⟩) (ints_new1 _ _ _ _ rfl) (by omega)).mono ?_
        rintro e w5 ⟨rfl, -, h5⟩
        obtain ⟨h5, hg5⟩ := h5 _ rfl
        have HB5 := Lib.hid ((HBr.out.alloc hbs _).grown hg5 (by simp; omega) (by simp))
        have H5b := Lib.hid (show WrAt (w.heap.size + 2) w5 (w.heap.size + 1) (numsL (l.take (k + 1))) from by rw [HT.out]; simpa [numsL] using h5)
        have H5a := Lib.hid ((Ha.out.below ((Below.refl _ _).alloc (Nat.le_refl _) _)).grown hg5 (by simp) (by omega))
        clear h5 hg5
        go_wp2
        go_roundw
        case rel => exact ⟨k + 1, by omega, by go_num, H5a.out, H5b.out, HB5.out⟩
        case measure => simp [intOf]; omega
      · obtain rfl : k = len0 := by omega
        have hall : l.take k = l := List.take_of_length_le (by rw [Hl.out.1]; exact Nat.le_refl _)
        rw [hall] at Hb
        have h9 := HN.out l
        rw [Hl.out.1] at h9
        have H9 := Lib.hid h9
        have Hm9 := Lib.hid (nums_len len1).2
        clear hall h9
        go_wp2_with fail
        refine (HP.out (w.heap.size + 2) _ (numsL l) _ _ _ [(len1 : Int)] _ (.inr ⟨_, rfl, Hb.out.below ((Below.refl _ _).alloc (Nat.le_refl _) _)⟩) (ints_new1 _ _ _ _ rfl) (by omega)).mono ?_
        rintro e w5 ⟨rfl, -, h5⟩
        obtain ⟨h5, hg5⟩ := h5 _ rfl
        have HB5 := Lib.hid ((HBr.out.alloc hbs _).grown hg5 (by simp; omega) (by simp))
        have H5b := Lib.hid (show WrAt (w.heap.size + 2) w5 (w.heap.size + 1) (numsL l ++ nums len1) from by simpa [numsL] using h5)
        have H5a := Lib.hid ((Ha.out.below ((Below.refl _ _).alloc (Nat.le_refl _) _)).grown hg5 (by simp) (by omega))
        clear h5 hg5 Ha Hb HBr
        go_wp2_with fail
        refine (HB.out (w.heap.size + 2) _ _ _ H5b.out (by have := H9.out; have := Hm9.out; simp; omega)).mono ?_
        rintro e w6 ⟨v6, rfl, ho6, hb6⟩
        have HO6 := Lib.hid ho6
        have Hb56 := Lib.hid hb6
        have HB6 := Lib.hid (HB5.out.trans (hb6.mono HB5.out.size))
        have HS6 := Lib.hid hb6.size
        have HL5 := Lib.hid HB5.out.size
        clear ho6 hb6 H5b
        go_wp2_with (at_builtin; go_must (refine appL_by (by rfl) (.tmp 38) (.tmp 39) (by rfl) w5.heap.size _ _ (by rfl) HO6.out _ m (by rfl) (HS.out.below HB6.out) (by have := H9.out; have := Hm9.out; have := HLen.out; simp; omega) HS6.out ?_))
        intro v7 w7 ho7 hb7 _
        have HO7 := Lib.hid ho7.sl
        have hb57 := Hb56.out.trans hb7
        have H7a := Lib.hid (H5a.out.below hb57)
        have HB7 := Lib.hid (HB5.out.trans (hb57.mono HL5.out))
        have hDl : (numsL l ++ (nums len1 ++ m)).length ≤ 1000000 := by have := H9.out; have := Hm9.out; have := HLen.out; simp; omega
        generalize numsL l ++ (nums len1 ++ m) = D at HO7 H7a hDl
        have HDl := Lib.hid hDl
        obtain ⟨A7, c7, rfl, -⟩ := HO7.out
        clear hDl
        clear ho7 hb7 hb57 H5a Hb56 HO6 HB6 HB5 HS6 HL5
        go_wp2_with fail
        refine (HA.out _).mono ?_
        rintro e w8 ⟨rfl, hb8⟩
        have H8a := Lib.hid (H7a.out.below hb8)
        have HO8 := Lib.hid (HO7.out.below hb8)
        have HB8 := Lib.hid (HB7.out.trans (hb8.mono HB7.out.size))
        clear hb8 H7a HO7 HB7
        go_wp2_with fail
        refine (HB.out (w.heap.size + 2) _ _ _ H8a.out HDl.out).mono ?_
        rintro e w9 ⟨v9, rfl, ho9, hb9⟩
        have HO9 := Lib.hid ho9.sl
        have HO9b := Lib.hid (HO8.out.below hb9)
        have HB9 := Lib.hid (HB8.out.trans (hb9.mono HB8.out.size))
        obtain ⟨A9, c9, rfl, -⟩ := ho9.sl
        clear ho9 hb9 HO8 HB8 H8a
        go_wp2_with fail
        refine (HSm.out _ _ D _ HO9.out HO9b.out).mono ?_
        rintro e w10 ⟨rfl, rfl⟩
        go_wp2
        go_ret
        exact ⟨rfl, HB9.out⟩

set_option maxRecDepth 100000 in
theorem lifted (os : Os) (started : os.Started) (H : Type) (enc : TypeId × Value → H) :
    ReturnsInHanded {} Try.checked os 7 .any (Rows.bytesManySpec.pre6 enc Try.prog Try.f7 Rows.bytesManyRow.domain false) (Rows.bytesManySpec.post enc Try.prog Try.f7 false true false false) := by
  refine returnsInHanded_of_change (C := Try.checked) own started (by kernel_rfl) Try.func7
    (ChangeSpec.witness6 (enc := enc) (C := Try.checked) false ⟨#[], #[.slice none 0 0, .slice none 0 0], []⟩ 8 (by kernel_rfl) (by kernel_rfl) (by kernel_rfl) (by kernel_rfl)) ?_
  intro W base args ds gs before hval0 hW hcnd _
  have hval : ∀ (j : Nat) t v, Try.f7.params[j]? = some t → args[j]? = some v → Value.okWide Try.prog W .any base t v := hval0
  have hW' := hW
  obtain ⟨p, q, hA0, hV, rfl, hfz, hnd⟩ := hW
  have hA : DataW.TrodAll enc Try.prog W 0 (fun _ => true) true Try.f7.params.toList args.toList ds p := hA0
  rw [Try.params7] at hA hval
  obtain ⟨v0, vs0, d0, ds0, p0, q0, hargs, rfl, rfl, h0, r0⟩ := trodAll_cons hA
  obtain ⟨v1, vs1, d1, ds1, p1, q1, rfl, rfl, rfl, h1, r1⟩ := trodAll_cons r0
  obtain ⟨rfl, rfl, rfl⟩ := trodAll_nil r1
  obtain rfl : args = #[v0, v1] := by cases args; simp_all
  obtain ⟨rfl, rfl⟩ := trodVars_none hV
  obtain ⟨a0, len0, cap0, rfl⟩ := okWide_slice Try.underlying42 (hval 0 42 v0 rfl rfl)
  have k0 := h0
  have lt0 : ∀ x ∈ p0, x.block < W.heap.size := by obtain ⟨m, hm⟩ := k0; exact DataW.trod_lt m _ _ _ hm
  obtain ⟨z0, w0⟩ : ∃ zs, IsRow .i64 W a0 len0 cap0 zs := by
    obtain ⟨fuel, hf⟩ := h0
    rcases open_ints Try.underlying42 Try.underlying3 (by kernel_rfl) hf with ⟨hcs, _⟩ | ⟨x, l, c, zs, hcs, _, hl, hm, hz, _, hcell, hwz⟩
    · simp [Value.cells] at hcs
      obtain ⟨rfl, rfl, rfl⟩ := hcs
      exact ⟨[], .inl ⟨rfl, rfl, rfl, rfl⟩⟩
    · simp [Value.cells] at hcs
      obtain ⟨rfl, rfl, rfl⟩ := hcs
      exact ⟨zs, .inr ⟨_, rfl, hl, hm, by simpa using hz, hcell, hwz⟩⟩
  obtain ⟨a1, len1, cap1, rfl⟩ := okWide_slice Try.underlying26 (hval 1 26 v1 rfl rfl)
  have k1 := h1
  have lt1 : ∀ x ∈ p1, x.block < W.heap.size := by obtain ⟨m, hm⟩ := k1; exact DataW.trod_lt m _ _ _ hm
  obtain ⟨z1, w1⟩ : ∃ zs, IsRow .u8 W a1 len1 cap1 zs := by
    obtain ⟨fuel, hf⟩ := h1
    rcases open_ints Try.underlying26 Try.underlying5 (by kernel_rfl) hf with ⟨hcs, _⟩ | ⟨x, l, c, zs, hcs, _, hl, hm, hz, _, hcell, hwz⟩
    · simp [Value.cells] at hcs
      obtain ⟨rfl, rfl, rfl⟩ := hcs
      exact ⟨[], .inl ⟨rfl, rfl, rfl, rfl⟩⟩
    · simp [Value.cells] at hcs
      obtain ⟨rfl, rfl, rfl⟩ := hcs
      exact ⟨zs, .inr ⟨_, rfl, hl, hm, by simpa using hz, hcell, hwz⟩⟩
  clear hA0 hval0
  refine (walk a0 len0 cap0 z0 a1 len1 cap1 z1 W w0 w1).mono fun e W' ⟨he, bel⟩ => ?_
  subst he
  exact ⟨_, rfl, _, _, _, [], _, [], hW', trodAll_mk1 (shut_bool Try.underlying4 _), (trodAll_cons_mk (Below.trod laidOut (by kernel_rfl) (of_decide_eq_true (by kernel_rfl)) k0 bel lt0) (trodAll_cons_mk (Below.trod laidOut (by kernel_rfl) (of_decide_eq_true (by kernel_rfl)) k1 bel lt1) trodAll_mk0)), rfl, bel.frame _, fun h => by cases h⟩

theorem over : Rows.bytesManyRow.holds Try.pinned (OpenSpec.ofChange Rows.bytesManySpec) :=
  OpenClaim.holds_of_wide 7 Try.f7 rfl rfl rfl rfl rfl rfl rfl ⟨rfl, rfl, rfl, rfl, rfl⟩ rfl rfl rfl rfl rfl (by kernel_rfl) Try.func7 (by kernel_rfl)
    (of_decide_eq_true (by kernel_rfl)) (by unfold Func.isWrapper; first | (rw [if_pos (by decide +kernel)]; kernel_rfl) | (rw [if_neg (by decide +kernel)]; exact ⟨rfl, rfl⟩))
    (fun os started H enc _ => lifted os started H enc)

end Go.Proofs.Ytigcpgkiankjpaa.bytesMany
namespace Go.Proofs.Ytigcpgkiankjpaa
theorem bytesMany_proved : Rows.BytesManySaid := bytesMany.over
end Go.Proofs.Ytigcpgkiankjpaa
