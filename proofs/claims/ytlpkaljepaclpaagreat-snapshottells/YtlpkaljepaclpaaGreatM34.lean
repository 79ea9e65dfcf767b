/- Contracts of grid.New and of the statements' Config: what each returns; old memory stays. joustlaw12.awake. Package bytes' statements: jousthelp.Bytes, the document's Put and Raw, awake. -/
import Derived.Test.YtlpkaljepaclpaaGreatM05
import Derived.Test.YtlpkaljepaclpaaGreatM33
import Derived.Deep.RegionHeld3
import Derived.Test.YtlpkaljepaclpaaGreatM30
import Derived.Laws.BytesString
import Derived.Laws.Concat
namespace Go.Proofs.YtlpkaljepaclpaaGreat.Fx
open Go.ChangeShapes Go.WideShapes Go.ChangeAt Go.RowKit
set_option linter.unusedVariables false
set_option maxRecDepth 100000

theorem new_yes (a b p n s : Int) (w : World) (h : rt a b p n = true) :
    Calls Tryz.prog 15 #[.agg #[.int .i64 a, .int .i64 b, .int .i64 p, .int .i64 n, .int .u64 s]] w fun e w' => e = .returned (.tuple #[.agg #[.int .i64 a, .int .i64 b, .int .i64 p, .int .i64 n, .int .u64 s], .int .i64 0]) ∧ Below w.heap.size w w' := by
  have HT := Lib.hid (fun w => told_any a b p n s w)
  rw [h] at HT
  clear h
  go_enter Tryz.func15, Tryz.ntmps15
  go_wp2_with fail
  refine (HT.out _).mono ?_
  rintro e w1 ⟨rfl, hbw1⟩
  obtain ⟨hcw1, hfw1⟩ := bcell hbw1
  have hzw1 : w.heap.size < w1.heap.size := by have := hbw1.size; (try simp at this); omega
  have hzw1_1 : w.heap.size + 1 < w1.heap.size := by have := hbw1.size; (try simp at this); omega
  have hzw1_2 : w.heap.size + 2 < w1.heap.size := by have := hbw1.size; (try simp at this); omega
  have Hbw1 := Lib.hid hbw1
  clear hbw1
  go_wp2
  refine bodyPost_ret (v := .tuple #[.agg #[.int .i64 a, .int .i64 b, .int .i64 p, .int .i64 n, .int .u64 s], .int .i64 0]) (by simp [results, Tryz.results15, go_sem, hcw1]) rfl ⟨rfl, ?_⟩
  exact (((((unbox (unbox (unbox Hbw1.out))).setCell (Nat.le_succ _) _).setCell (Nat.le_succ _) _).setCell (Nat.le_succ _) _).setCell (Nat.le_succ _) _).setCell (Nat.le_succ _) _

theorem new_no (a b p n s : Int) (w : World) (h : rt a b p n = false) :
    Calls Tryz.prog 15 #[.agg #[.int .i64 a, .int .i64 b, .int .i64 p, .int .i64 n, .int .u64 s]] w fun e w' => e = .returned (.tuple #[.agg #[.int .i64 0, .int .i64 0, .int .i64 0, .int .i64 0, .int .u64 0], .int .i64 10]) ∧ Below w.heap.size w w' := by
  have HT := Lib.hid (fun w => told_any a b p n s w)
  rw [h] at HT
  clear h
  go_enter Tryz.func15, Tryz.ntmps15
  go_wp2_with fail
  refine (HT.out _).mono ?_
  rintro e w1 ⟨rfl, hbw1⟩
  obtain ⟨hcw1, hfw1⟩ := bcell hbw1
  have hzw1 : w.heap.size < w1.heap.size := by have := hbw1.size; (try simp at this); omega
  have hzw1_1 : w.heap.size + 1 < w1.heap.size := by have := hbw1.size; (try simp at this); omega
  have hzw1_2 : w.heap.size + 2 < w1.heap.size := by have := hbw1.size; (try simp at this); omega
  have Hbw1 := Lib.hid hbw1
  clear hbw1
  go_wp2
  refine bodyPost_ret (v := .tuple #[.agg #[.int .i64 0, .int .i64 0, .int .i64 0, .int .i64 0, .int .u64 0], .int .i64 10]) (by simp [results, Tryz.results15, go_sem, hcw1]) rfl ⟨rfl, ?_⟩
  exact (((((unbox (unbox (unbox Hbw1.out))).setCell (Nat.le_succ _) _).setCell (Nat.le_succ _) _).setCell (Nat.le_succ _) _).setCell (Nat.le_succ _) _).setCell (Nat.le_succ _) _

/-- A config that is right and not too great. -/
def Small (a b p n : Int) : Prop := rt a b p n = true ∧ a ≤ 3 ∧ b ≤ 3 ∧ p ≤ 4

/-- A config that is right and not too great comes back. -/
def RetSmall (s : Int) (w : World) (e : Ending) (w' : World) : Prop := ∃ a b p n, e = .returned (.agg #[.int .i64 a, .int .i64 b, .int .i64 p, .int .i64 n, .int .u64 s]) ∧ Small a b p n ∧ Below w.heap.size w w'

set_option maxHeartbeats 1000000 in
theorem config_any (a b p n s : Int) (w : World) :
    Calls Tryz.prog 8 #[.agg #[.int .i64 a, .int .i64 b, .int .i64 p, .int .i64 n, .int .u64 s]] w (RetSmall s w) := by
  have HT := Lib.hid (fun w => right_any a b p n s w)
  by_cases h : rt a b p n = true ∧ a ≤ 3 ∧ b ≤ 3 ∧ p ≤ 4
  · have HS := Lib.hid (show Small a b p n from h)
    obtain ⟨h, h1, h2, h3⟩ := h
    rw [h] at HT
    clear h
    go_enter Tryz.func8, Tryz.ntmps8
    go_wp2_with fail
    refine (HT.out _).mono ?_
    rintro e w1 ⟨rfl, hbw1⟩
    obtain ⟨hcw1, hfw1⟩ := bcell hbw1
    have hzw1 : w.heap.size < w1.heap.size := by have := hbw1.size; (try simp at this); omega
    have hzw1_1 : w.heap.size + 1 < w1.heap.size := by have := hbw1.size; (try simp at this); omega
    have Hbw1 := Lib.hid hbw1
    clear hbw1
    go_wp2
    refine bodyPost_ret (v := .agg #[.int .i64 a, .int .i64 b, .int .i64 p, .int .i64 n, .int .u64 s]) (by simp [results, Tryz.results8, go_sem, hcw1]) rfl ⟨a, b, p, n, rfl, HS.out, ?_⟩
    exact (((((unbox (unbox Hbw1.out)).setCell (Nat.le_succ _) _).setCell (Nat.le_succ _) _).setCell (Nat.le_succ _) _).setCell (Nat.le_succ _) _).setCell (Nat.le_succ _) _
  · have HS : ∃ a' b' p' n', wrap64 (1 + wrap64 ((IntKind.u64.wrap a).tmod 3)) = a' ∧ wrap64 (1 + wrap64 ((IntKind.u64.wrap b).tmod 3)) = b' ∧ wrap64 (1 + wrap64 ((IntKind.u64.wrap p).tmod 4)) = p' ∧ wrap64 (1 + wrap64 ((IntKind.u64.wrap n).tmod 8)) = n' ∧ Small a' b' p' n' := by
      refine ⟨_, _, _, _, rfl, rfl, rfl, rfl, ?_⟩
      have m1 := umod1 a 3 (by decide) (by decide)
      have m2 := umod1 b 3 (by decide) (by decide)
      have m3 := umod1 p 4 (by decide) (by decide)
      have m4 := umod1 n 8 (by decide) (by decide)
      refine ⟨by unfold rt; exact decide_eq_true (by omega), by omega, by omega, by omega⟩
    obtain ⟨a', b', p', n', e1, e2, e3, e4, hs⟩ := HS
    have HS := Lib.hid hs
    have E1 := Lib.hid e1
    have E2 := Lib.hid e2
    have E3 := Lib.hid e3
    have E4 := Lib.hid e4
    clear hs e1 e2 e3 e4
    cases hrt : rt a b p n
    · rw [hrt] at HT
      clear hrt h
      go_enter Tryz.func8, Tryz.ntmps8
      go_wp2_with fail
      refine (HT.out _).mono ?_
      rintro e w1 ⟨rfl, hbw1⟩
      obtain ⟨hcw1, hfw1⟩ := bcell hbw1
      have hzw1 : w.heap.size < w1.heap.size := by have := hbw1.size; (try simp at this); omega
      have hzw1_1 : w.heap.size + 1 < w1.heap.size := by have := hbw1.size; (try simp at this); omega
      have Hbw1 := Lib.hid hbw1
      clear hbw1
      go_wp2
      rw [E1.out, E2.out, E3.out, E4.out]
      refine bodyPost_ret (v := .agg #[.int .i64 a', .int .i64 b', .int .i64 p', .int .i64 n', .int .u64 s]) (by simp [results, Tryz.results8, go_sem, hcw1]) rfl ⟨a', b', p', n', rfl, HS.out, ?_⟩
      exact (((((unbox (unbox Hbw1.out)).setCell (Nat.le_succ _) _).setCell (Nat.le_succ _) _).setCell (Nat.le_succ _) _).setCell (Nat.le_succ _) _).setCell (Nat.le_succ _) _
    · rw [hrt] at HT
      have H := Lib.hid (fun h' : a ≤ 3 ∧ b ≤ 3 ∧ p ≤ 4 => h ⟨hrt, h'⟩)
      clear hrt h
      go_enter Tryz.func8, Tryz.ntmps8
      go_wp2_with fail
      refine (HT.out _).mono ?_
      rintro e w1 ⟨rfl, hbw1⟩
      obtain ⟨hcw1, hfw1⟩ := bcell hbw1
      have hzw1 : w.heap.size < w1.heap.size := by have := hbw1.size; (try simp at this); omega
      have hzw1_1 : w.heap.size + 1 < w1.heap.size := by have := hbw1.size; (try simp at this); omega
      have Hbw1 := Lib.hid hbw1
      clear hbw1
      go_wp2
      all_goals first | (exfalso; exact H.out ⟨by omega, by omega, by omega⟩) | skip
      all_goals
        rw [E1.out, E2.out, E3.out, E4.out]
        refine bodyPost_ret (v := .agg #[.int .i64 a', .int .i64 b', .int .i64 p', .int .i64 n', .int .u64 s]) (by simp [results, Tryz.results8, go_sem, hcw1]) rfl ⟨a', b', p', n', rfl, HS.out, ?_⟩
        exact (((((unbox (unbox Hbw1.out)).setCell (Nat.le_succ _) _).setCell (Nat.le_succ _) _).setCell (Nat.le_succ _) _).setCell (Nat.le_succ _) _).setCell (Nat.le_succ _) _

end Go.Proofs.YtlpkaljepaclpaaGreat.Fx
namespace Go.Proofs.YtlpkaljepaclpaaGreat.Fx
open Go.ChangeShapes Go.WideShapes Go.ChangeAt Go.RowKit
set_option linter.unusedVariables false
set_option maxRecDepth 100000

theorem pkC_nil (a b p n : Int) : pkC a b p n [] = ([0], 0) := by
  have h : packM [] = [0] := by
    have h1 : nums 0 = [0] := by
      unfold nums
      rw [show (zig (hold 0)).toNat = 0 from by decide, num_lt (by omega)]
      rfl
    simpa [packM] using h1
  unfold pkC
  rw [h]
  simp

set_option maxHeartbeats 2000000 in
theorem awake_sn (w : World) : Calls Tryz.prog 26 #[] w fun e w' => e = .returned (.bool true) ∧ Below w.heap.size w w' := by
  have HN := Lib.hid (fun w => new_yes 1 1 1 1 0 w (by decide))
  have HP := Lib.hid (fun w => packcross_any 1 1 1 1 0 (.slice none 0 0) [] w (IsSl.nil _ _) (by simp))
  rw [pkC_nil] at HP
  have HM := Lib.hid (fun w => may_any 1 1 1 1 0 0 0 (.slice none 0 0) [] (.slice none 0 0) [] w (IsSl.nil _ _) (by simp) (IsSl.nil _ _) (by simp))
  rw [show mayB 1 1 1 1 0 0 [] [] = true from by decide] at HM
  go_enter Tryz.func26, Tryz.ntmps26
  go_wp2_with fail
  refine (HN.out _).mono ?_
  rintro e w1 ⟨rfl, hb1⟩
  have HB := Lib.hid hb1
  clear hb1
  go_upto_region 2 with fail
  generalize hW : World.alloc _ _ = W
  have BG := Lib.hid (show CfgBox W w1.heap.size ⟨1, 1, 1, 1, 0⟩ from by rw [← hW]; exact CfgBox.n1 _ ⟨1, 1, 1, 1, 0⟩ _ rfl)
  replace HB := Lib.hid (show Below w.heap.size w W from by rw [← hW]; exact HB.out.alloc HB.out.size _)
  clear hW
  have hgg := BG.out.has
  obtain ⟨g0, g1, g2, g3, g4, -⟩ := BG.out
  go_wp2_with fail
  refine (HP.out _).mono ?_
  rintro e w2 ⟨v2, rfl, ho2, hb2⟩
  obtain ⟨A2, c2, rfl, -⟩ := ho2.sl
  have NX := nextW HB.out hb2
  replace HB := Lib.hid NX
  replace BG := Lib.hid (BG.out.nx hb2)
  clear hb2 ho2 NX g0 g1 g2 g3 g4 hgg
  have hgg := BG.out.has
  obtain ⟨g0, g1, g2, g3, g4, -⟩ := BG.out
  simp only [List.length_singleton]
  go_wp2_with fail
  refine (HM.out _).mono ?_
  rintro e w3 ⟨rfl, hb3⟩
  have NX := nextW HB.out hb3
  clear hb3
  go_wp2
  go_ret
  exact ⟨rfl, NX⟩

end Go.Proofs.YtlpkaljepaclpaaGreat.Fx
namespace Go.Proofs.YtlpkaljepaclpaaGreat.Fx
open Go.ChangeShapes Go.WideShapes Go.ChangeAt Go.RowKit
set_option linter.unusedVariables false
set_option maxRecDepth 100000

/-- Bytes as a string. -/
def byS (l : List Int) : ByteArray := l.foldl (fun r n => r.push (UInt8.ofNat n.toNat)) ByteArray.empty

theorem conv_by {w : World} {v : Value} {l : List Int} (h : IsSl byC w v l) : (convert 64 9 v).run Tryz.prog w = .ok (.string (byS l)) w := by
  obtain ⟨A, c, rfl, hA, hc, hat⟩ := h
  rw [run_convert_bytes_string w 64 9 5 A l.length c Tryz.underlying64 Tryz.underlying5 Tryz.underlying9]
  cases A with
  | none =>
    have := (hA rfl).1
    obtain rfl : l = [] := List.eq_nil_of_length_eq_zero this
    rfl
  | some a =>
    refine run_bytesToString w a l.length c l ?_
    have := run_loadCells_list (P := Tryz.prog) w a (l.map (Value.int .u8)) (by rw [byC_map] at hat; exact hat.cells a rfl)
    simpa using this

/-- Equal bytes. -/
theorem same_by (u v : Value) (l : List Int) (w : World) (hu : IsSl byC w u l) (hv : IsSl byC w v l) :
    Calls Tryz.prog 36 #[u, v] w fun e w' => e = .returned (.bool true) ∧ w = w' := by
  have e1 := conv_by hu
  have e2 := conv_by hv
  obtain ⟨A, c, rfl, -⟩ := hu
  obtain ⟨B, d, rfl, -⟩ := hv
  generalize byS l = S at *
  go_enter Tryz.func36, Tryz.ntmps36
  go_wp2
  go_ret
  exact ⟨ret_bool (by simp), rfl⟩

set_option maxHeartbeats 4000000 in
theorem fput_any (v : Value) (l : List Int) (x : Int) (w : World) (hv : IsSl byC w v l) (hl : l.length ≤ 100000000) :
    Calls Tryz.prog 136 #[v, .int .i64 x] w (RetBy (l ++ nums x) w) := by
  obtain ⟨i0, Hi, Hz⟩ : ∃ i, Hid (Tryz.prog.info? 5 = some i) ∧ Hid (i.zero = some (.int .u8 0) ∧ i.size = 1 ∧ i.bytes = 1) := by
    have h := info_u8
    cases hi : Tryz.prog.info? 5 with
    | none => rw [hi] at h; simp at h
    | some i => rw [hi] at h; simp at h; exact ⟨i, rfl, h⟩
  have hh := hold_bd x
  have hm : max (-4611686018427387904) (min x 4611686018427387903) = hold x := rfl
  have hz := zig_bd hh
  have HV := Lib.hid hv
  have Hl9 := Lib.hid (nums_len x).2
  have HN := Lib.hid (show nums x = num (zig (hold x)).toNat from rfl)
  generalize nums x = Nx at *
  obtain ⟨u, hu⟩ := Int.eq_ofNat_of_zero_le hz.1
  have HZ := Lib.hid (show zig (hold x) = if hold x < 0 then 2 * (-hold x - 1) + 1 else 2 * hold x from rfl)
  rw [hu] at HN hz HZ
  rw [Int.toNat_natCast] at HN
  clear hu
  generalize hold x = y at *
  obtain ⟨A, c, rfl, hA, -⟩ := hv
  obtain ⟨n, hnn⟩ : ∃ n, l.length = n := ⟨_, rfl⟩
  rw [hnn] at hl HV
  simp only [hnn]
  have HL := Lib.hid hnn
  have hu2 := hz.2
  clear hnn hz hA
  by_cases hneg : y < 0
  · have hZ : -(y + 1) * 2 + 1 = (u : Int) := by have := HZ.out; rw [if_pos hneg] at this; omega
    clear HZ
    go_enter Tryz.func136, Tryz.ntmps136
    go_wp2_with (at_builtin; go_must (refine appL_by (by rfl) (.const (.slice none 0 0)) (.tmp 21) (by rfl) w.heap.size _ [] (by rfl) (ownB.nil _ _) _ l (by rfl) HV.out (by have := HL.out; simp; omega) (Nat.le_refl _) ?_))
    intro v1 w1 ho1 hb1 _
    have HO1 := Lib.hid (show ownB w.heap.size w1 v1 l from by simpa using ho1)
    have HB1 := Lib.hid hb1
    clear ho1 hb1 hneg hh
    go_wp2
    go_loopw [5, 6] (fun i v wr => ∃ (k : Nat) (r : List Int), k ≤ u ∧ i = .int .u64 k ∧ ownB w.heap.size wr v (l ++ r) ∧ r ++ num k = Nx ∧ Below w.heap.size w wr) (fun i _ _ => (intOf i).toNat)
    case atStart => exact ⟨u, [], Nat.le_refl _, rfl, by simpa using HO1.out, by rw [HN.out]; simp, HB1.out⟩
    case round =>
      clear HO1 HB1 hm hZ
      obtain ⟨k, r, hk, rfl, hown, hr, hbel⟩ := hrel
      have Hown2 := Lib.hid hown
      have Hbel := Lib.hid hbel
      have Hr := Lib.hid hr
      have hbs := hbel.size
      have hrl : r.length ≤ 9 := by have := congrArg List.length hr; simp at this; have := Hl9.out; omega
      clear hown hbel hr
      by_cases hlt : k < 128
      · have e1 : IntKind.u8.wrap (k : Int) = k := by rw [IntKind.wrap_u8]; omega
        have Hf := Lib.hid (num_lt hlt)
        go_wp2_with (at_builtin; go_must (refine append_int (by rfl) (.tmp 34) (.tmp 37) 64 (by rfl) w.heap.size 5 .u8 i0 1 Tryz.underlying64 Hi.out Hz.out.1 Hz.out.2.1 Hz.out.2.2 (by omega) _ (l ++ r) Hown2.out k (by rfl) wr.heap.size 1 (by rfl) (by rfl) (by have := HL.out; simp; omega) (by omega) ?_); intro v' w5 hown5 hb5)
        have HO5 := Lib.hid hown5
        have HB5 := Lib.hid (Hbel.out.trans hb5)
        clear hown5 hb5
        go_wp2
        go_ret
        refine ⟨_, rfl, ?_, HB5.out⟩
        have h := HO5.out
        rw [List.append_assoc, show r ++ [(k : Int)] = Nx by rw [← Hr.out, Hf.out]] at h
        exact h
      · have e1 : IntKind.u8.wrap ((k : Int) % 128 + 128) = (k : Int) % 128 + 128 := by rw [IntKind.wrap_u8]; omega
        have Hf := Lib.hid (num_ge (Nat.le_of_not_lt hlt))
        go_wp2_with (at_builtin; go_must (refine append_int (by rfl) (.tmp 25) (.tmp 30) 64 (by rfl) w.heap.size 5 .u8 i0 1 Tryz.underlying64 Hi.out Hz.out.1 Hz.out.2.1 Hz.out.2.2 (by omega) _ (l ++ r) Hown2.out ((k : Int) % 128 + 128) (by rfl) wr.heap.size 1 (by rfl) (by rfl) (by have := HL.out; simp; omega) (by omega) ?_); intro v' w5 hown5 hb5)
        have HO5 := Lib.hid hown5
        have HB5 := Lib.hid (Hbel.out.trans hb5)
        clear hown5 hb5
        go_wp2
        go_roundw
        case rel => exact ⟨k / 128, r ++ [(k : Int) % 128 + 128], by omega, by go_num, by have h := HO5.out; rw [List.append_assoc] at h; exact h, by rw [← Hr.out, Hf.out]; simp, HB5.out⟩
        case measure => simp [intOf]; omega
  · have hZ : y * 2 = (u : Int) := by have := HZ.out; rw [if_neg hneg] at this; omega
    clear HZ
    go_enter Tryz.func136, Tryz.ntmps136
    go_wp2_with (at_builtin; go_must (refine appL_by (by rfl) (.const (.slice none 0 0)) (.tmp 21) (by rfl) w.heap.size _ [] (by rfl) (ownB.nil _ _) _ l (by rfl) HV.out (by have := HL.out; simp; omega) (Nat.le_refl _) ?_))
    intro v1 w1 ho1 hb1 _
    have HO1 := Lib.hid (show ownB w.heap.size w1 v1 l from by simpa using ho1)
    have HB1 := Lib.hid hb1
    clear ho1 hb1 hneg hh
    go_wp2
    go_loopw [5, 6] (fun i v wr => ∃ (k : Nat) (r : List Int), k ≤ u ∧ i = .int .u64 k ∧ ownB w.heap.size wr v (l ++ r) ∧ r ++ num k = Nx ∧ Below w.heap.size w wr) (fun i _ _ => (intOf i).toNat)
    case atStart => exact ⟨u, [], Nat.le_refl _, rfl, by simpa using HO1.out, by rw [HN.out]; simp, HB1.out⟩
    case round =>
      clear HO1 HB1 hm hZ
      obtain ⟨k, r, hk, rfl, hown, hr, hbel⟩ := hrel
      have Hown2 := Lib.hid hown
      have Hbel := Lib.hid hbel
      have Hr := Lib.hid hr
      have hbs := hbel.size
      have hrl : r.length ≤ 9 := by have := congrArg List.length hr; simp at this; have := Hl9.out; omega
      clear hown hbel hr
      by_cases hlt : k < 128
      · have e1 : IntKind.u8.wrap (k : Int) = k := by rw [IntKind.wrap_u8]; omega
        have Hf := Lib.hid (num_lt hlt)
        go_wp2_with (at_builtin; go_must (refine append_int (by rfl) (.tmp 34) (.tmp 37) 64 (by rfl) w.heap.size 5 .u8 i0 1 Tryz.underlying64 Hi.out Hz.out.1 Hz.out.2.1 Hz.out.2.2 (by omega) _ (l ++ r) Hown2.out k (by rfl) wr.heap.size 1 (by rfl) (by rfl) (by have := HL.out; simp; omega) (by omega) ?_); intro v' w5 hown5 hb5)
        have HO5 := Lib.hid hown5
        have HB5 := Lib.hid (Hbel.out.trans hb5)
        clear hown5 hb5
        go_wp2
        go_ret
        refine ⟨_, rfl, ?_, HB5.out⟩
        have h := HO5.out
        rw [List.append_assoc, show r ++ [(k : Int)] = Nx by rw [← Hr.out, Hf.out]] at h
        exact h
      · have e1 : IntKind.u8.wrap ((k : Int) % 128 + 128) = (k : Int) % 128 + 128 := by rw [IntKind.wrap_u8]; omega
        have Hf := Lib.hid (num_ge (Nat.le_of_not_lt hlt))
        go_wp2_with (at_builtin; go_must (refine append_int (by rfl) (.tmp 25) (.tmp 30) 64 (by rfl) w.heap.size 5 .u8 i0 1 Tryz.underlying64 Hi.out Hz.out.1 Hz.out.2.1 Hz.out.2.2 (by omega) _ (l ++ r) Hown2.out ((k : Int) % 128 + 128) (by rfl) wr.heap.size 1 (by rfl) (by rfl) (by have := HL.out; simp; omega) (by omega) ?_); intro v' w5 hown5 hb5)
        have HO5 := Lib.hid hown5
        have HB5 := Lib.hid (Hbel.out.trans hb5)
        clear hown5 hb5
        go_wp2
        go_roundw
        case rel => exact ⟨k / 128, r ++ [(k : Int) % 128 + 128], by omega, by go_num, by have h := HO5.out; rw [List.append_assoc] at h; exact h, by rw [← Hr.out, Hf.out]; simp, HB5.out⟩
        case measure => simp [intOf]; omega

end Go.Proofs.YtlpkaljepaclpaaGreat.Fx
