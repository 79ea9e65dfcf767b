/- Package bytes' statements: jousthelp.Bytes, the document's Put and Raw, awake. -/
import Derived.Test.YtigcpgkiankjpaaByRdR
import Derived.Laws.BytesString
import Derived.Laws.Concat
namespace Go.Proofs.Ytigcpgkiankjpaa.Fx
open Go.ChangeShapes Go.WideShapes Go.ChangeAt Go.RowKit
set_option linter.unusedVariables false
set_option maxRecDepth 100000

/-- Bytes as a string. -/
def byS (l : List Int) : ByteArray := l.foldl (fun r n => r.push (UInt8.ofNat n.toNat)) ByteArray.empty

theorem conv_by {w : World} {v : Value} {l : List Int} (h : IsSl byC w v l) : (convert 26 9 v).run Try.prog w = .ok (.string (byS l)) w := by
  obtain ⟨A, c, rfl, hA, hc, hat⟩ := h
  rw [run_convert_bytes_string w 26 9 5 A l.length c Try.underlying26 Try.underlying5 Try.underlying9]
  cases A with
  | none =>
    have := (hA rfl).1
    obtain rfl : l = [] := List.eq_nil_of_length_eq_zero this
    rfl
  | some a =>
    refine run_bytesToString w a l.length c l ?_
    have := run_loadCells_list (P := Try.prog) w a (l.map (Value.int .u8)) (by rw [byC_map] at hat; exact hat.cells a rfl)
    simpa using this

/-- Equal bytes. -/
theorem same_by (u v : Value) (l : List Int) (w : World) (hu : IsSl byC w u l) (hv : IsSl byC w v l) :
    Calls Try.prog 15 #[u, v] w fun e w' => e = .returned (.bool true) ∧ w = w' := by
  have e1 := conv_by hu
  have e2 := conv_by hv
  obtain ⟨A, c, rfl, -⟩ := hu
  obtain ⟨B, d, rfl, -⟩ := hv
  generalize byS l = S at *
  go_enter Try.func15, Try.ntmps15
  go_wp2
  go_ret
  exact ⟨ret_bool (by simp), rfl⟩

set_option maxHeartbeats 4000000 in
theorem rput_any (v : Value) (l : List Int) (x : Int) (w : World) (hv : IsSl byC w v l) (hl : l.length ≤ 100000000) :
    Calls Try.prog 12 #[v, .int .i64 x] w (RetBy (l ++ nums x) w) := by
  obtain ⟨i0, Hi, Hz⟩ : ∃ i, Hid (Try.prog.info? 5 = some i) ∧ Hid (i.zero = some (.int .u8 0) ∧ i.size = 1 ∧ i.bytes = 1) := by
    have h := info_u8
    cases hi : Try.prog.info? 5 with
    | none => rw [hi] at h; simp at h
    | some i => rw [hi] at h; simp at h; exact ⟨i, rfl, h⟩
  have hh := hold_bd x
  have hm : max (-4611686018427387904) (min x 4611686018427387903) = hold x := rfl
  have hz := zig_bd hh
  have HV := Lib.hid hv
  have Hl9 := Lib.hid (nums_len x).2
  have HN := Lib.hid (show nums x = num (zig (hold x)).toNat from rfl)
  generalize nums x = Nx at *
  obtain ⟨u, hu⟩ := Int.eq_ofNat_of_zero_le hz.1
  have HZ := Lib.hid (show zig (hold x) = if hold x < 0 then 2 * (-hold x - 1) + 1 else 2 * hold x from rfl)
  rw [hu] at HN hz HZ
  rw [Int.toNat_natCast] at HN
  clear hu
  generalize hold x = y at *
  obtain ⟨A, c, rfl, hA, -⟩ := hv
  obtain ⟨n, hnn⟩ : ∃ n, l.length = n := ⟨_, rfl⟩
  rw [hnn] at hl HV
  simp only [hnn]
  have HL := Lib.hid hnn
  have hu2 := hz.2
  clear hnn hz hA
  by_cases hneg : y < 0
  · have hZ : -(y + 1) * 2 + 1 = (u : Int) := by have := HZ.out; rw [if_pos hneg] at this; omega
    clear HZ
    go_enter Try.func12, Try.ntmps12
    go_wp2_with (at_builtin; go_must (refine appL_by (by rfl) (.const (.slice none 0 0)) (.tmp 21) (by rfl) w.heap.size _ [] (by rfl) (ownB.nil _ _) _ l (by rfl) HV.out (by have := HL.out; simp; omega) (Nat.le_refl _) ?_))
    intro v1 w1 ho1 hb1 _
    have HO1 := Lib.hid (show ownB w.heap.size w1 v1 l from by simpa using ho1)
    have HB1 := Lib.hid hb1
    clear ho1 hb1 hneg hh
    go_wp2
    go_loopw [5, 6] (fun i v wr => ∃ (k : Nat) (r : List Int), k ≤ u ∧ i = .int .u64 k ∧ ownB w.heap.size wr v (l ++ r) ∧ r ++ num k = Nx ∧ Below w.heap.size w wr) (fun i _ _ => (intOf i).toNat)
    case atStart => exact ⟨u, [], Nat.le_refl _, rfl, by simpa using HO1.out, by rw [HN.out]; simp, HB1.out⟩
    case round =>
      clear HO1 HB1 hm hZ
      obtain ⟨k, r, hk, rfl, hown, hr, hbel⟩ := hrel
      have Hown2 := Lib.hid hown
      have Hbel := Lib.hid hbel
      have Hr := Lib.hid hr
      have hbs := hbel.size
      have hrl : r.length ≤ 9 := by have := congrArg List.length hr; simp at this; have := Hl9.out; omega
      clear hown hbel hr
      by_cases hlt : k < 128
      · have e1 : IntKind.u8.wrap (k : Int) = k := by rw [IntKind.wrap_u8]; omega
        have Hf := Lib.hid (num_lt hlt)
        go_wp2_with (at_builtin; go_must (refine append_int (by rfl) (.tmp 34) (.tmp 37) 26 (by rfl) w.heap.size 5 .u8 i0 1 Try.underlying26 Hi.out Hz.out.1 Hz.out.2.1 Hz.out.2.2 (by omega) _ (l ++ r) Hown2.out k (by rfl) wr.heap.size 1 (by rfl) (by rfl) (by have := HL.out; simp; omega) (by omega) ?_); intro v' w5 hown5 hb5)
        have HO5 := Lib.hid hown5
        have HB5 := Lib.hid (Hbel.out.trans hb5)
        clear hown5 hb5
        go_wp2
        go_ret
        refine ⟨_, rfl, ?_, HB5.out⟩
        have h := HO5.out
        rw [List.append_assoc, show r ++ [(k : Int)] = Nx by rw [← Hr.out, Hf.out]] at h
        exact h
      · have e1 : IntKind.u8.wrap ((k : Int) % 128 + 128) = (k : Int) % 128 + 128 := by rw [IntKind.wrap_u8]; omega
        have Hf := Lib.hid (num_ge (Nat.le_of_not_lt hlt))
        go_wp2_with (at_builtin; go_must (refine append_int (by rfl) (.tmp 25) (.tmp 30) 26 (by rfl) w.heap.size 5 .u8 i0 1 Try.underlying26 Hi.out Hz.out.1 Hz.out.2.1 Hz.out.2.2 (by omega) _ (l ++ r) Hown2.out ((k : Int) % 128 + 128) (by rfl) wr.heap.size 1 (by rfl) (by rfl) (by have := HL.out; simp; omega) (by omega) ?_); intro v' w5 hown5 hb5)
        have HO5 := Lib.hid hown5
        have HB5 := Lib.hid (Hbel.out.trans hb5)
        clear hown5 hb5
        go_wp2
        go_roundw
        case rel => exact ⟨k / 128, r ++ [(k : Int) % 128 + 128], by omega, by go_num, by have h := HO5.out; rw [List.append_assoc] at h; exact h, by rw [← Hr.out, Hf.out]; simp, HB5.out⟩
        case measure => simp [intOf]; omega
  · have hZ : y * 2 = (u : Int) := by have := HZ.out; rw [if_neg hneg] at this; omega
    clear HZ
    go_enter Try.func12, Try.ntmps12
    go_wp2_with (at_builtin; go_must (refine appL_by (by rfl) (.const (.slice none 0 0)) (.tmp 21) (by rfl) w.heap.size _ [] (by rfl) (ownB.nil _ _) _ l (by rfl) HV.out (by have := HL.out; simp; omega) (Nat.le_refl _) ?_))
    intro v1 w1 ho1 hb1 _
    have HO1 := Lib.hid (show ownB w.heap.size w1 v1 l from by simpa using ho1)
    have HB1 := Lib.hid hb1
    clear ho1 hb1 hneg hh
    go_wp2
    go_loopw [5, 6] (fun i v wr => ∃ (k : Nat) (r : List Int), k ≤ u ∧ i = .int .u64 k ∧ ownB w.heap.size wr v (l ++ r) ∧ r ++ num k = Nx ∧ Below w.heap.size w wr) (fun i _ _ => (intOf i).toNat)
    case atStart => exact ⟨u, [], Nat.le_refl _, rfl, by simpa using HO1.out, by rw [HN.out]; simp, HB1.out⟩
    case round =>
      clear HO1 HB1 hm hZ
      obtain ⟨k, r, hk, rfl, hown, hr, hbel⟩ := hrel
      have Hown2 := Lib.hid hown
      have Hbel := Lib.hid hbel
      have Hr := Lib.hid hr
      have hbs := hbel.size
      have hrl : r.length ≤ 9 := by have := congrArg List.length hr; simp at this; have := Hl9.out; omega
      clear hown hbel hr
      by_cases hlt : k < 128
      · have e1 : IntKind.u8.wrap (k : Int) = k := by rw [IntKind.wrap_u8]; omega
        have Hf := Lib.hid (num_lt hlt)
        go_wp2_with (at_builtin; go_must (refine append_int (by rfl) (.tmp 34) (.tmp 37) 26 (by rfl) w.heap.size 5 .u8 i0 1 Try.underlying26 Hi.out Hz.out.1 Hz.out.2.1 Hz.out.2.2 (by omega) _ (l ++ r) Hown2.out k (by rfl) wr.heap.size 1 (by rfl) (by rfl) (by have := HL.out; simp; omega) (by omega) ?_); intro v' w5 hown5 hb5)
        have HO5 := Lib.hid hown5
        have HB5 := Lib.hid (Hbel.out.trans hb5)
        clear hown5 hb5
        go_wp2
        go_ret
        refine ⟨_, rfl, ?_, HB5.out⟩
        have h := HO5.out
        rw [List.append_assoc, show r ++ [(k : Int)] = Nx by rw [← Hr.out, Hf.out]] at h
        exact h
      · have e1 : IntKind.u8.wrap ((k : Int) % 128 + 128) = (k : Int) % 128 + 128 := by rw [IntKind.wrap_u8]; omega
        have Hf := Lib.hid (num_ge (Nat.le_of_not_lt hlt))
        go_wp2_with (at_builtin; go_must (refine append_int (by rfl) (.tmp 25) (.tmp 30) 26 (by rfl) w.heap.size 5 .u8 i0 1 Try.underlying26 Hi.out Hz.out.1 Hz.out.2.1 Hz.out.2.2 (by omega) _ (l ++ r) Hown2.out ((k : Int) % 128 + 128) (by rfl) wr.heap.size 1 (by rfl) (by rfl) (by have := HL.out; simp; omega) (by omega) ?_); intro v' w5 hown5 hb5)
        have HO5 := Lib.hid hown5
        have HB5 := Lib.hid (Hbel.out.trans hb5)
        clear hown5 hb5
        go_wp2
        go_roundw
        case rel => exact ⟨k / 128, r ++ [(k : Int) % 128 + 128], by omega, by go_num, by have h := HO5.out; rw [List.append_assoc] at h; exact h, by rw [← Hr.out, Hf.out]; simp, HB5.out⟩
        case measure => simp [intOf]; omega

theorem rraw2_any (v m : Value) (l x : List Int) (w : World) (hv : IsSl byC w v l) (hm : IsSl byC w m x) (hl : l.length ≤ 10000000) (hx : x.length ≤ 10000000) :
    Calls Try.prog 10 #[v, m] w (RetBy (l ++ nums x.length ++ x) w) := by
  have HM := Lib.hid hm
  have HP := Lib.hid (rput_any v l x.length w hv (by omega))
  have H9 := Lib.hid (nums_len x.length).2
  obtain ⟨A, c, rfl, -⟩ := hm
  obtain ⟨B, d, rfl, -⟩ := hv
  go_enter Try.func10, Try.ntmps10
  go_wp2_with fail
  refine HP.out.mono ?_
  rintro e w1 ⟨v1, rfl, ho1, hb1⟩
  have HO1 := Lib.hid ho1
  have HB1 := Lib.hid hb1
  clear ho1 hb1
  go_wp2_with (at_builtin; go_must (refine appL_by (by rfl) (.tmp 8) (.tmp 9) (by rfl) w.heap.size _ (l ++ nums x.length) (by rfl) HO1.out _ x (by rfl) (HM.out.below HB1.out) (by have := H9.out; simp; omega) HB1.out.size ?_))
  intro v2 w2 ho2 hb2 _
  have HO2 := Lib.hid ho2
  have HB2 := Lib.hid (HB1.out.trans hb2)
  clear ho2 hb2
  go_wp2
  go_ret
  exact ⟨_, rfl, by rw [List.append_assoc]; exact (show ownB w.heap.size w2 v2 (l ++ (nums x.length ++ x)) from by first | exact HO2.out | (rw [← List.append_assoc]; exact HO2.out)), HB2.out⟩

end Go.Proofs.Ytigcpgkiankjpaa.Fx
