/- Package check: the document's Seal and Open. -/
import Derived.Test.YthmdnemibdmhgaaCkLeaf
namespace Go.Proofs.Ythmdnemibdmhgaa.Fx
open Go.ChangeShapes Go.WideShapes Go.ChangeAt Go.RowKit
set_option linter.unusedVariables false
set_option maxRecDepth 100000

theorem wrap_head {x : Int} (h0 : 0 ≤ x) (d : Int) : IntKind.u8.wrap (x / d) = x / d % 256 := by rw [IntKind.wrap_u8]

theorem head_next (x : Int) (k : Nat) (hk8 : k < 8) : ∃ y, (headL x).take (k + 1) = (headL x).take k ++ [y] ∧ (headL x)[k]? = some y := by
  obtain ⟨y, hy⟩ := getE (headL x) k 8 (headL_len x) hk8
  exact ⟨y, take_at hy, hy⟩

set_option maxHeartbeats 2000000 in
theorem rseal_any (v : Value) (l : List Int) (w : World) (hv : IsSl byC w v l) (hl : l.length ≤ 1000000) :
    Calls Try.prog 15 #[v] w (RetBy (sealL l) w) := by
  obtain ⟨i0, Hi, Hz⟩ : ∃ i, Hid (Try.prog.info? 5 = some i) ∧ Hid (i.zero = some (.int .u8 0) ∧ i.size = 1 ∧ i.bytes = 1) := by
    have h := info_u8
    cases hi : Try.prog.info? 5 with
    | none => rw [hi] at h; simp at h
    | some i => rw [hi] at h; simp at h; exact ⟨i, rfl, h⟩
  have HV := Lib.hid hv
  have HS := Lib.hid (rsum_any v l w hv hl)
  have HL := Lib.hid hl
  obtain ⟨A, c, rfl, -⟩ := hv
  have HQ := Lib.hid (show headL (sumL l) ++ l = sealL l from rfl)
  generalize sealL l = Q at *
  have Hbd := Lib.hid (sumL_bd l)
  generalize sumL l = x at *
  obtain ⟨n, hn⟩ : ∃ n, l.length = n := ⟨_, rfl⟩
  simp only [hn] at HS HV ⊢
  have HN := Lib.hid hn
  clear hl hn
  go_enter Try.func15, Try.ntmps15
  go_wp2_with fail
  refine HS.out.mono ?_
  rintro e w1 ⟨rfl, rfl⟩
  go_wp2
  go_loopw [4, 5] (fun o i wr => ∃ k : Nat, k ≤ 8 ∧ i = .int .i64 (7 - (k : Int)) ∧ ownB w.heap.size wr o ((headL x).take k) ∧ Below w.heap.size w wr) (fun _ i _ => (intOf i + 1).toNat)
  case atStart => exact ⟨0, Nat.zero_le _, rfl, ownB.nil _ _, Below.refl _ _⟩
  case round =>
    obtain ⟨k, hk8, rfl, ho, hb⟩ := hrel
    have HO := Lib.hid ho
    have HB := Lib.hid hb
    have hbs := hb.size
    clear ho hb
    by_cases hlt : k < 8
    · obtain ⟨y, hy, hyk⟩ := head_next x k hlt
      have HY := Lib.hid hy
      have hlen : ((headL x).take k).length ≤ 8 := by rw [List.length_take, headL_len]; omega
      have HT := Lib.hid hlen
      clear hy hlen
      have hx0 := Hbd.out.1
      have h : k = 0 ∨ k = 1 ∨ k = 2 ∨ k = 3 ∨ k = 4 ∨ k = 5 ∨ k = 6 ∨ k = 7 := by omega
      rcases h with rfl | rfl | rfl | rfl | rfl | rfl | rfl | rfl
      all_goals
        simp only [headL, List.getElem?_cons_zero, List.getElem?_cons_succ, Option.some.injEq] at hyk
        subst hyk
        go_wp2_with (at_builtin; go_must (refine append_int (by rfl) (.tmp 12) (.tmp 19) 22 (by rfl) w.heap.size 5 .u8 i0 1 Try.underlying22 Hi.out Hz.out.1 Hz.out.2.1 Hz.out.2.2 (by omega) _ _ HO.out _ (by rfl) wr.heap.size 1 (by rfl) (by rfl) (by have := HT.out; omega) (by omega) ?_); intro v' w5 hown5 hb5)
        have HO5 := Lib.hid hown5
        have HB5 := Lib.hid (HB.out.trans hb5)
        clear hown5 hb5
        go_wp2
        go_roundw
        case rel => first | exact ⟨1, by omega, rfl, by rw [HY.out]; exact HO5.out, HB5.out⟩ | exact ⟨2, by omega, rfl, by rw [HY.out]; exact HO5.out, HB5.out⟩ | exact ⟨3, by omega, rfl, by rw [HY.out]; exact HO5.out, HB5.out⟩ | exact ⟨4, by omega, rfl, by rw [HY.out]; exact HO5.out, HB5.out⟩ | exact ⟨5, by omega, rfl, by rw [HY.out]; exact HO5.out, HB5.out⟩ | exact ⟨6, by omega, rfl, by rw [HY.out]; exact HO5.out, HB5.out⟩ | exact ⟨7, by omega, rfl, by rw [HY.out]; exact HO5.out, HB5.out⟩ | exact ⟨8, by omega, rfl, by rw [HY.out]; exact HO5.out, HB5.out⟩
        case measure => simp [intOf]
    · obtain rfl : k = 8 := by omega
      have HO := Lib.hid (show ownB w.heap.size wr _ (headL x) from by have h := HO.out; rw [List.take_of_length_le (by rw [headL_len]; omega)] at h; exact h)
      go_wp2_with (at_builtin; go_must (refine appL_by (by rfl) (.tmp 21) (.tmp 22) (by rfl) w.heap.size _ (headL x) (by rfl) HO.out _ l (by rfl) (HV.out.below HB.out) (by rw [headL_len]; have := HL.out; have := HN.out; omega) HB.out.size ?_))
      intro v2 w2 ho2 hb2 _
      have HO2 := Lib.hid ho2
      have HB2 := Lib.hid (HB.out.trans hb2)
      clear ho2 hb2
      go_wp2
      go_ret
      exact ⟨_, rfl, by rw [← HQ.out]; exact HO2.out, HB2.out⟩

theorem drop_ok {l : List Int} (h : ByOk l) (k : Nat) : ByOk (l.drop k) := fun x hx => h x (List.mem_of_mem_drop hx)
theorem take_ok {l : List Int} (h : ByOk l) (k : Nat) : ByOk (l.take k) := fun x hx => h x (List.mem_of_mem_take hx)

set_option maxHeartbeats 1000000 in
theorem ropen_any (v : Value) (l : List Int) (w : World) (hv : IsSl byC w v l) (hl : l.length ≤ 1000000) (hok : ByOk l) :
    Calls Try.prog 10 #[v] w (RetOp (openL l) w) := by
  have HV := Lib.hid hv
  have HL := Lib.hid hl
  obtain ⟨Q, hQ⟩ : ∃ Q, openL l = Q := ⟨_, rfl⟩
  rw [hQ]
  unfold openL at hQ
  by_cases hs : l.length < 8
  · rw [if_pos hs] at hQ
    subst hQ
    obtain ⟨A, c, rfl, -⟩ := hv
    generalize l.length = n at *
    go_enter Try.func10, Try.ntmps10
    go_wp2
    exact bodyPost_ret (v := .tuple #[.slice none 0 0, .int .i64 5]) (by simp [results, Try.results10, go_sem]) rfl ⟨_, rfl, ownB.nil _ _, Below.refl _ _⟩
  · rw [if_neg hs] at hQ
    have HI := Lib.hid (hv.since 1 8 byC_len (by omega) (by omega))
    have hdl : (l.drop 8).length ≤ 1000000 := by simp; omega
    have HDL := Lib.hid hdl
    have HS := Lib.hid (fun v w1 h => rseal_any v (l.drop 8) w1 h hdl)
    have HE := Lib.hid (fun a b w1 h1 h2 => bytes_any a b (sealL (l.drop 8)) l w1 h1 h2 (sealL_ok (drop_ok hok 8)) hok)
    have hQ' : (if sealL (l.drop 8) = l then (l.drop 8, (0 : Int)) else ([], 9)) = Q := by
      rw [← hQ]
      by_cases h : l.take 8 = headL (sumL (l.drop 8))
      · rw [if_pos h, if_pos ((open_is l (by omega)).1 h)]
      · rw [if_neg h, if_neg (fun h2 => h ((open_is l (by omega)).2 h2))]
    have HQ := Lib.hid hQ'
    generalize sealL (l.drop 8) = S at *
    generalize l.drop 8 = D at *
    obtain ⟨A, c, rfl, -, hcap, -⟩ := hv
    generalize hn : l.length = n at *
    obtain ⟨AI, cI, hI, -⟩ := HI.out
    clear hQ hQ' hl hdl
    have h8 : (8 : Int) ≤ (n : Int) := by omega
    generalize hDl : D.length = dl at *
    have hI' : slFrom 1 (.slice A n c) (Int.toNat 8) = .slice AI dl cI := hI
    rw [hI] at HI
    by_cases he : S = l
    · have HQ := Lib.hid (show (D, (0 : Int)) = Q from by rw [← HQ.out, if_pos he])
      have Hhe := Lib.hid he
      clear he
      go_enter Try.func10, Try.ntmps10
      go_wp2_with fail
      refine (HS.out (.slice AI dl cI) _ HI.out).mono ?_
      rintro e w1 ⟨v1, rfl, ho1, hb1⟩
      have HO1 := Lib.hid ho1.sl
      have HB1 := Lib.hid hb1
      obtain ⟨A1, c1, rfl, -⟩ := ho1.sl
      clear ho1 hb1
      go_wp2_with fail
      refine (HE.out _ _ _ HO1.out (HV.out.below HB1.out)).mono ?_
      rw [decide_eq_true Hhe.out]
      rintro e w2 ⟨rfl, rfl⟩
      go_wp2_with (at_builtin; go_must (refine appL_by (by rfl) (.const (.slice none 0 0)) (.tmp 14) (by rfl) w.heap.size _ [] (by rfl) (ownB.nil _ _) (.slice AI dl cI) D (by rfl) (HI.out.below HB1.out) (by have := HDL.out; simp; omega) HB1.out.size ?_))
      intro v2 w3 ho3 hb3 _
      have HO3 := Lib.hid ho3
      have HB3 := Lib.hid (HB1.out.trans hb3)
      obtain ⟨A3, c3, rfl, -⟩ := ho3.sl
      clear ho3 hb3
      go_wp2
      exact bodyPost_ret (v := .tuple #[.slice A3 ([] ++ D).length c3, .int .i64 0]) (by simp [results, Try.results10, go_sem]) rfl ⟨_, by rw [← HQ.out]; first | done | rfl, by rw [← HQ.out]; exact HO3.out, HB3.out⟩
    · have HQ := Lib.hid (show (([], 9) : List Int × Int) = Q from by rw [← HQ.out, if_neg he])
      go_enter Try.func10, Try.ntmps10
      go_wp2_with fail
      refine (HS.out (.slice AI dl cI) _ HI.out).mono ?_
      rintro e w1 ⟨v1, rfl, ho1, hb1⟩
      have HO1 := Lib.hid ho1.sl
      have HB1 := Lib.hid hb1
      obtain ⟨A1, c1, rfl, -⟩ := ho1.sl
      clear ho1 hb1
      go_wp2_with fail
      refine (HE.out _ _ _ HO1.out (HV.out.below HB1.out)).mono ?_
      rw [decide_eq_false he]
      rintro e w2 ⟨rfl, rfl⟩
      go_wp2
      exact bodyPost_ret (v := .tuple #[.slice none 0 0, .int .i64 9]) (by simp [results, Try.results10, go_sem]) rfl ⟨_, by rw [← HQ.out]; first | done | rfl, by rw [← HQ.out]; exact ownB.nil _ _, HB1.out⟩

end Go.Proofs.Ythmdnemibdmhgaa.Fx
