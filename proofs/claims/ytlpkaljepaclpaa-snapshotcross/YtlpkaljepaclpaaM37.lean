/- Contracts of grid.New and of the statements' Config: what each returns; old memory stays. joustlaw12.awake. What is near (the same as in GrLaw, without what GrLaw leans on; do not import both). What is packed is taken, and nothing else, plainly. -/
import Derived.Test.YtlpkaljepaclpaaM07
import Derived.Test.YtlpkaljepaclpaaM36
import Derived.Deep.RegionHeld3
import Derived.Test.YtlpkaljepaclpaaM08
import Derived.Test.YtlpkaljepaclpaaM20
import Derived.Test.YtlpkaljepaclpaaM19
namespace Go.Proofs.Ytlpkaljepaclpaa.Fx
open Go.ChangeShapes Go.WideShapes Go.ChangeAt Go.RowKit
set_option linter.unusedVariables false
set_option maxRecDepth 100000

theorem new_yes (a b p n s : Int) (w : World) (h : rt a b p n = true) :
    Calls Try.prog 5 #[.agg #[.int .i64 a, .int .i64 b, .int .i64 p, .int .i64 n, .int .u64 s]] w fun e w' => e = .returned (.tuple #[.agg #[.int .i64 a, .int .i64 b, .int .i64 p, .int .i64 n, .int .u64 s], .int .i64 0]) ∧ Below w.heap.size w w' := by
  have HT := Lib.hid (fun w => told_any a b p n s w)
  rw [h] at HT
  clear h
  go_enter Try.func5, Try.ntmps5
  go_wp2_with fail
  refine (HT.out _).mono ?_
  rintro e w1 ⟨rfl, hbw1⟩
  obtain ⟨hcw1, hfw1⟩ := bcell hbw1
  have hzw1 : w.heap.size < w1.heap.size := by have := hbw1.size; (try simp at this); omega
  have hzw1_1 : w.heap.size + 1 < w1.heap.size := by have := hbw1.size; (try simp at this); omega
  have hzw1_2 : w.heap.size + 2 < w1.heap.size := by have := hbw1.size; (try simp at this); omega
  have Hbw1 := Lib.hid hbw1
  clear hbw1
  go_wp2
  refine bodyPost_ret (v := .tuple #[.agg #[.int .i64 a, .int .i64 b, .int .i64 p, .int .i64 n, .int .u64 s], .int .i64 0]) (by simp [results, Try.results5, go_sem, hcw1]) rfl ⟨rfl, ?_⟩
  exact (((((unbox (unbox (unbox Hbw1.out))).setCell (Nat.le_succ _) _).setCell (Nat.le_succ _) _).setCell (Nat.le_succ _) _).setCell (Nat.le_succ _) _).setCell (Nat.le_succ _) _

/-- A config that is right and not too great. -/
def Small (a b p n : Int) : Prop := rt a b p n = true ∧ a ≤ 3 ∧ b ≤ 3 ∧ p ≤ 4

/-- A config that is right and not too great comes back. -/
def RetSmall (s : Int) (w : World) (e : Ending) (w' : World) : Prop := ∃ a b p n, e = .returned (.agg #[.int .i64 a, .int .i64 b, .int .i64 p, .int .i64 n, .int .u64 s]) ∧ Small a b p n ∧ Below w.heap.size w w'

set_option maxHeartbeats 1000000 in
theorem config_any (a b p n s : Int) (w : World) :
    Calls Try.prog 4 #[.agg #[.int .i64 a, .int .i64 b, .int .i64 p, .int .i64 n, .int .u64 s]] w (RetSmall s w) := by
  have HT := Lib.hid (fun w => right_any a b p n s w)
  by_cases h : rt a b p n = true ∧ a ≤ 3 ∧ b ≤ 3 ∧ p ≤ 4
  · have HS := Lib.hid (show Small a b p n from h)
    obtain ⟨h, h1, h2, h3⟩ := h
    rw [h] at HT
    clear h
    go_enter Try.func4, Try.ntmps4
    go_wp2_with fail
    refine (HT.out _).mono ?_
    rintro e w1 ⟨rfl, hbw1⟩
    obtain ⟨hcw1, hfw1⟩ := bcell hbw1
    have hzw1 : w.heap.size < w1.heap.size := by have := hbw1.size; (try simp at this); omega
    have hzw1_1 : w.heap.size + 1 < w1.heap.size := by have := hbw1.size; (try simp at this); omega
    have Hbw1 := Lib.hid hbw1
    clear hbw1
    go_wp2
    refine bodyPost_ret (v := .agg #[.int .i64 a, .int .i64 b, .int .i64 p, .int .i64 n, .int .u64 s]) (by simp [results, Try.results4, go_sem, hcw1]) rfl ⟨a, b, p, n, rfl, HS.out, ?_⟩
    exact (((((unbox (unbox Hbw1.out)).setCell (Nat.le_succ _) _).setCell (Nat.le_succ _) _).setCell (Nat.le_succ _) _).setCell (Nat.le_succ _) _).setCell (Nat.le_succ _) _
  · have HS : ∃ a' b' p' n', wrap64 (1 + wrap64 ((IntKind.u64.wrap a).tmod 3)) = a' ∧ wrap64 (1 + wrap64 ((IntKind.u64.wrap b).tmod 3)) = b' ∧ wrap64 (1 + wrap64 ((IntKind.u64.wrap p).tmod 4)) = p' ∧ wrap64 (1 + wrap64 ((IntKind.u64.wrap n).tmod 8)) = n' ∧ Small a' b' p' n' := by
      refine ⟨_, _, _, _, rfl, rfl, rfl, rfl, ?_⟩
      have m1 := umod1 a 3 (by decide) (by decide)
      have m2 := umod1 b 3 (by decide) (by decide)
      have m3 := umod1 p 4 (by decide) (by decide)
      have m4 := umod1 n 8 (by decide) (by decide)
      refine ⟨by unfold rt; exact decide_eq_true (by omega), by omega, by omega, by omega⟩
    obtain ⟨a', b', p', n', e1, e2, e3, e4, hs⟩ := HS
    have HS := Lib.hid hs
    have E1 := Lib.hid e1
    have E2 := Lib.hid e2
    have E3 := Lib.hid e3
    have E4 := Lib.hid e4
    clear hs e1 e2 e3 e4
    cases hrt : rt a b p n
    · rw [hrt] at HT
      clear hrt h
      go_enter Try.func4, Try.ntmps4
      go_wp2_with fail
      refine (HT.out _).mono ?_
      rintro e w1 ⟨rfl, hbw1⟩
      obtain ⟨hcw1, hfw1⟩ := bcell hbw1
      have hzw1 : w.heap.size < w1.heap.size := by have := hbw1.size; (try simp at this); omega
      have hzw1_1 : w.heap.size + 1 < w1.heap.size := by have := hbw1.size; (try simp at this); omega
      have Hbw1 := Lib.hid hbw1
      clear hbw1
      go_wp2
      rw [E1.out, E2.out, E3.out, E4.out]
      refine bodyPost_ret (v := .agg #[.int .i64 a', .int .i64 b', .int .i64 p', .int .i64 n', .int .u64 s]) (by simp [results, Try.results4, go_sem, hcw1]) rfl ⟨a', b', p', n', rfl, HS.out, ?_⟩
      exact (((((unbox (unbox Hbw1.out)).setCell (Nat.le_succ _) _).setCell (Nat.le_succ _) _).setCell (Nat.le_succ _) _).setCell (Nat.le_succ _) _).setCell (Nat.le_succ _) _
    · rw [hrt] at HT
      have H := Lib.hid (fun h' : a ≤ 3 ∧ b ≤ 3 ∧ p ≤ 4 => h ⟨hrt, h'⟩)
      clear hrt h
      go_enter Try.func4, Try.ntmps4
      go_wp2_with fail
      refine (HT.out _).mono ?_
      rintro e w1 ⟨rfl, hbw1⟩
      obtain ⟨hcw1, hfw1⟩ := bcell hbw1
      have hzw1 : w.heap.size < w1.heap.size := by have := hbw1.size; (try simp at this); omega
      have hzw1_1 : w.heap.size + 1 < w1.heap.size := by have := hbw1.size; (try simp at this); omega
      have Hbw1 := Lib.hid hbw1
      clear hbw1
      go_wp2
      all_goals first | (exfalso; exact H.out ⟨by omega, by omega, by omega⟩) | skip
      all_goals
        rw [E1.out, E2.out, E3.out, E4.out]
        refine bodyPost_ret (v := .agg #[.int .i64 a', .int .i64 b', .int .i64 p', .int .i64 n', .int .u64 s]) (by simp [results, Try.results4, go_sem, hcw1]) rfl ⟨a', b', p', n', rfl, HS.out, ?_⟩
        exact (((((unbox (unbox Hbw1.out)).setCell (Nat.le_succ _) _).setCell (Nat.le_succ _) _).setCell (Nat.le_succ _) _).setCell (Nat.le_succ _) _).setCell (Nat.le_succ _) _

end Go.Proofs.Ytlpkaljepaclpaa.Fx
namespace Go.Proofs.Ytlpkaljepaclpaa.Fx
open Go.ChangeShapes Go.WideShapes Go.ChangeAt Go.RowKit
set_option linter.unusedVariables false
set_option maxRecDepth 100000

theorem pkC_nil (a b p n : Int) : pkC a b p n [] = ([0], 0) := by
  have h : packM [] = [0] := by
    have h1 : nums 0 = [0] := by
      unfold nums
      rw [show (zig (hold 0)).toNat = 0 from by decide, num_lt (by omega)]
      rfl
    simpa [packM] using h1
  unfold pkC
  rw [h]
  simp

set_option maxHeartbeats 2000000 in
theorem awake_sn (w : World) : Calls Try.prog 6 #[] w fun e w' => e = .returned (.bool true) ∧ Below w.heap.size w w' := by
  have HN := Lib.hid (fun w => new_yes 1 1 1 1 0 w (by decide))
  have HP := Lib.hid (fun w => packcross_any 1 1 1 1 0 (.slice none 0 0) [] w (IsSl.nil _ _) (by simp))
  rw [pkC_nil] at HP
  have HM := Lib.hid (fun w => may_any 1 1 1 1 0 0 0 (.slice none 0 0) [] (.slice none 0 0) [] w (IsSl.nil _ _) (by simp) (IsSl.nil _ _) (by simp))
  rw [show mayB 1 1 1 1 0 0 [] [] = true from by decide] at HM
  go_enter Try.func6, Try.ntmps6
  go_wp2_with fail
  refine (HN.out _).mono ?_
  rintro e w1 ⟨rfl, hb1⟩
  have HB := Lib.hid hb1
  clear hb1
  go_upto_region 2 with fail
  generalize hW : World.alloc _ _ = W
  have BG := Lib.hid (show CfgBox W w1.heap.size ⟨1, 1, 1, 1, 0⟩ from by rw [← hW]; exact CfgBox.n1 _ ⟨1, 1, 1, 1, 0⟩ _ rfl)
  replace HB := Lib.hid (show Below w.heap.size w W from by rw [← hW]; exact HB.out.alloc HB.out.size _)
  clear hW
  have hgg := BG.out.has
  obtain ⟨g0, g1, g2, g3, g4, -⟩ := BG.out
  go_wp2_with fail
  refine (HP.out _).mono ?_
  rintro e w2 ⟨v2, rfl, ho2, hb2⟩
  obtain ⟨A2, c2, rfl, -⟩ := ho2.sl
  have NX := nextW HB.out hb2
  replace HB := Lib.hid NX
  replace BG := Lib.hid (BG.out.nx hb2)
  clear hb2 ho2 NX g0 g1 g2 g3 g4 hgg
  have hgg := BG.out.has
  obtain ⟨g0, g1, g2, g3, g4, -⟩ := BG.out
  simp only [List.length_singleton]
  go_wp2_with fail
  refine (HM.out _).mono ?_
  rintro e w3 ⟨rfl, hb3⟩
  have NX := nextW HB.out hb3
  clear hb3
  go_wp2
  go_ret
  exact ⟨rfl, NX⟩

end Go.Proofs.Ytlpkaljepaclpaa.Fx
namespace Go.Proofs.Ytlpkaljepaclpaa.Fx
open Go.ChangeShapes Go.WideShapes Go.ChangeAt Go.RowKit
set_option linter.unusedVariables false
set_option maxRecDepth 100000

theorem mem_nrTo (a r y : Int) (k : Nat) : y ∈ nrTo a r k ↔ 0 ≤ y ∧ y < k ∧ nearB a r y = true := by
  induction k with
  | zero => simp [nrTo]; omega
  | succ k ih =>
    unfold nrTo
    by_cases h : nearB a r k = true
    · rw [if_pos h, List.mem_append, ih, List.mem_singleton]
      constructor
      · rintro (⟨h0, h1, h2⟩ | rfl)
        · exact ⟨h0, by omega, h2⟩
        · exact ⟨by omega, by omega, h⟩
      · rintro ⟨h0, h1, h2⟩
        by_cases e : y = k
        · exact .inr e
        · exact .inl ⟨h0, by omega, h2⟩
    · rw [if_neg h, List.append_nil, ih]
      constructor
      · rintro ⟨h0, h1, h2⟩
        exact ⟨h0, by omega, h2⟩
      · rintro ⟨h0, h1, h2⟩
        refine ⟨h0, ?_, h2⟩
        by_cases e : y = k
        · subst e; exact absurd h2 h
        · omega

theorem mem_nr {a b p n r y : Int} (h : hasB a b p n r = true) : y ∈ nr a b p n r ↔ 0 ≤ y ∧ y < a * b ∧ nearB a r y = true := by
  unfold nr
  rw [if_pos h, mem_nrTo]
  obtain ⟨-, h0, h1, ha, ha4, hb, hb4, -⟩ := hasB_rt h
  have := mul_le4 ha ha4 hb hb4
  constructor <;> (rintro ⟨x, y, z⟩; exact ⟨x, by omega, z⟩)

end Go.Proofs.Ytlpkaljepaclpaa.Fx
namespace Go.Proofs.Ytlpkaljepaclpaa.Fx
open Go.ChangeShapes Go.WideShapes Go.ChangeAt Go.RowKit
set_option linter.unusedVariables false
set_option maxRecDepth 100000

theorem many_len' {α : Type} (one : Rd → α × Rd) (m : Nat) : ∀ r : Rd, (Rd.many one m r).1.length ≤ m := by
  induction m with
  | zero => intro r; exact Nat.le_refl _
  | succ m ih =>
    intro r
    by_cases he : r.e = 0
    · have : Rd.many one (m + 1) r = ((one r).1 :: (Rd.many one m (one r).2).1, (Rd.many one m (one r).2).2) := by
        show (if r.e ≠ 0 then _ else _) = _
        rw [if_neg (by simp [he])]
      rw [this]; simpa using ih _
    · rw [many_stuck _ he]; simp

theorem list_le' {α : Type} (one : Rd → α × Rd) (r : Rd) : (Rd.list one r).1.length ≤ 1000 := by
  have hb : (r.count 1000).1.toNat ≤ 1000 := by
    unfold Rd.count
    split
    · simp
    · rename_i h
      by_cases he : r.int.2.e = 0
      · have : ¬ (r.int.1 < 0 ∨ 1000 < r.int.1) := fun h2 => h ⟨he, h2⟩
        omega
      · have : r.int.1 = 0 := by
          unfold Rd.int at he ⊢
          split
          · rfl
          · rename_i h1
            rw [if_neg h1] at he
            split
            · rfl
            · rename_i h2
              rw [if_neg h2] at he
              split
              · rfl
              · rename_i h3
                rw [if_neg h3] at he
                exact absurd rfl he
        omega
  exact Nat.le_trans (many_len' _ _ _) hb

theorem cright_rt {a b p n : Int} {c : Crs} (h : crightB a b p n c = true) : rt a b p n = true ∧ 0 ≤ c.src ∧ c.src < 16 ∧ 0 ≤ c.dst ∧ c.dst < 16 := by
  unfold crightB at h
  rw [Bool.and_eq_true] at h
  have hh := nr_has h.1
  obtain ⟨h1, h2, h3, ha, ha4, hb, hb4, -⟩ := hasB_rt hh
  have hm := h.1
  unfold inB at hm
  rw [decide_eq_true_eq, mem_nr hh] at hm
  have := mul_le4 ha ha4 hb hb4
  exact ⟨h1, by omega⟩

theorem crFit_of {a b p n : Int} {c : Crs} (h : crightB a b p n c = true) : CrFit c := by
  obtain ⟨hrt, hs0, hs1, hd0, hd1⟩ := cright_rt h
  obtain ⟨ha, ha4, hb, hb4, -⟩ := rt_bd hrt
  unfold crightB at h
  rw [Bool.and_eq_true, Bool.and_eq_true] at h
  obtain ⟨-, hf, hk⟩ := h
  have hf' : 0 ≤ c.frame ∧ c.frame ≤ 9999 := by simpa [wi] using hf
  by_cases h1 : c.kind = 1
  · rw [if_pos h1] at hk
    unfold handB at hk
    simp only [Bool.and_eq_true, decide_eq_true_eq] at hk
    obtain ⟨-, hx, hy, he, -⟩ := hk
    have hE := eok_fit hrt he
    refine ⟨fun v hv => ?_, .inl ⟨h1, hx, hy⟩⟩
    unfold crN crT at hv
    rw [if_pos h1] at hv
    simp only [List.mem_cons] at hv
    rcases hv with rfl | rfl | rfl | rfl | hv
    · exact hold_in (by omega)
    · exact hold_in (by omega)
    · exact hold_in (by omega)
    · exact hold_in (by omega)
    · exact hE v hv
  · rw [if_neg h1] at hk
    by_cases h2 : c.kind = 2
    · rw [if_pos h2] at hk
      unfold blastB at hk
      rw [Bool.and_eq_true] at hk
      have he : c.e = e0 := of_decide_eq_true hk.2
      have hin : 0 ≤ c.x ∧ c.x < 4096 ∧ 0 ≤ c.y ∧ c.y < 4096 := by have h3 := hk.1; simp [ins, wid, hei, hrt] at h3; omega
      refine ⟨fun v hv => ?_, .inr ⟨h2, he⟩⟩
      unfold crN crT at hv
      rw [if_neg h1] at hv
      simp only [List.mem_cons, List.not_mem_nil, or_false] at hv
      rcases hv with rfl | rfl | rfl | rfl | rfl | rfl <;> exact hold_in (by omega)
    · rw [if_neg h2] at hk; simp at hk

theorem numsL_ok (l : List Int) : ByOk (numsL l) := by
  intro x hx
  unfold numsL at hx
  obtain ⟨v, -, hv⟩ := List.mem_flatMap.1 hx
  exact nums_ok v x hv

theorem flat_ok {α : Type} (f : α → List Int) (hf : ∀ a, ByOk (f a)) (l : List α) : ByOk (l.flatMap f) := by
  intro x hx
  obtain ⟨v, -, hv⟩ := List.mem_flatMap.1 hx
  exact hf v x hv

theorem ByOk.app {l m : List Int} (h : ByOk l) (h' : ByOk m) : ByOk (l ++ m) := fun x hx => by
  rcases List.mem_append.1 hx with h1 | h1
  · exact h x h1
  · exact h' x h1

theorem packM_ok (l : List Crs) : ByOk (packM l) := (nums_ok _).app (flat_ok _ (fun c => numsL_ok _) l)
theorem packB_ok (f : Int) (es : List Ent) (l : List Crs) : ByOk (packB f es l) := (nums_ok _).app (((nums_ok _).app (flat_ok _ (fun c => numsL_ok _) es)).app (packM_ok l))

theorem tkC_pack {a b p n : Int} {l : List Crs} (h : l.all (crightB a b p n) = true) (hn : l.length ≤ 1000) : tkC a b p n (packM l) = (l, 0) := by
  have hl : Rd.list Rd.crs ⟨packM l, 0⟩ = (l, ⟨[], 0⟩) := by
    have := list_fwd crs_codes l [] hn (fun c hc => crFit_of (List.all_eq_true.1 h c hc))
    rw [← this]
    unfold packM
    simp
  unfold tkC
  rw [hl]
  simp [h]

theorem rgB_fit {a b p n r f : Int} {es : List Ent} (h : rgB a b p n r f es = true) : hold f = f ∧ (∀ e ∈ es, EnFit e) := by
  unfold rgB at h
  simp only [Bool.and_eq_true, decide_eq_true_eq] at h
  obtain ⟨⟨⟨⟨h1, h2⟩, -⟩, -⟩, h5⟩ := h
  have hrt := (hasB_rt h1).1
  refine ⟨hold_in (by omega), fun e he => ?_⟩
  have h6 := List.all_eq_true.1 h5 e he
  unfold hereOk at h6
  rw [Bool.and_eq_true] at h6
  exact eok_fit hrt h6.1

theorem base_pack {a b p n r f : Int} {es : List Ent} {l : List Crs} (h : mayB a b p n r f es l = true) (t : List Int) (hn : es.length ≤ 1000) (hm : l.length ≤ 1000) : Rd.base ⟨packB f es l ++ t, 0⟩ = (⟨f, es, l⟩, ⟨t, 0⟩) := by
  unfold mayB at h
  simp only [Bool.and_eq_true] at h
  obtain ⟨h1, h2, -⟩ := h
  obtain ⟨hf, he⟩ := rgB_fit h1
  exact base_fwd f es l t hf he (fun c hc => crFit_of (List.all_eq_true.1 h2 c hc)) hn hm

/-- What is packed is taken. -/
theorem tkB_pack {a b p n r f : Int} {es : List Ent} {l : List Crs} (h : mayB a b p n r f es l = true) (hn : es.length ≤ 1000) (hm : l.length ≤ 1000) : tkB a b p n r (packB f es l) = (⟨f, es, l⟩, 0) := by
  have hb := base_pack h [] hn hm
  rw [List.append_nil] at hb
  unfold tkB
  rw [hb]
  simp [h]

/-- Something more is wrong. -/
theorem tkB_more {a b p n r f : Int} {es : List Ent} {l : List Crs} (h : mayB a b p n r f es l = true) (hn : es.length ≤ 1000) (hm : l.length ≤ 1000) (x : Int) (t : List Int) : tkB a b p n r (packB f es l ++ x :: t) = (⟨0, [], []⟩, 4) := by
  unfold tkB
  rw [base_pack h (x :: t) hn hm]
  simp

/-- What is taken was packed. -/
theorem tkB_inv {a b p n r : Int} {x : List Int} (hok : ByOk x) (h : (tkB a b p n r x).2 = 0) : (tkB a b p n r x).1 = (Rd.base ⟨x, 0⟩).1 ∧ x = packB (Rd.base ⟨x, 0⟩).1.f (Rd.base ⟨x, 0⟩).1.es (Rd.base ⟨x, 0⟩).1.l ∧ mayB a b p n r (Rd.base ⟨x, 0⟩).1.f (Rd.base ⟨x, 0⟩).1.es (Rd.base ⟨x, 0⟩).1.l = true := by
  unfold tkB at h ⊢
  by_cases h1 : (Rd.base ⟨x, 0⟩).2.e = 0
  · rw [if_neg (by simp [h1])] at h ⊢
    by_cases h2 : (Rd.base ⟨x, 0⟩).2.l = []
    · rw [if_neg (by simp [h2])] at h ⊢
      by_cases h3 : mayB a b p n r (Rd.base ⟨x, 0⟩).1.f (Rd.base ⟨x, 0⟩).1.es (Rd.base ⟨x, 0⟩).1.l = true
      · rw [if_pos h3]
        have := base_eq hok h1
        rw [h2, List.append_nil] at this
        exact ⟨rfl, this, h3⟩
      · rw [if_neg h3] at h; simp at h
    · rw [if_pos h2] at h; simp at h
  · rw [if_pos h1] at h; exact absurd h h1

/-- A beginning is not taken. -/
theorem tkB_cut {a b p n r f : Int} {es : List Ent} {l : List Crs} (h : mayB a b p n r f es l = true) (hn : es.length ≤ 1000) (hm : l.length ≤ 1000) (k : Nat) (hk : k < (packB f es l).length) : (tkB a b p n r ((packB f es l).take k)).2 ≠ 0 := by
  intro h0
  have hok : ByOk ((packB f es l).take k) := (packB_ok f es l).tk k
  obtain ⟨-, h2, h3⟩ := tkB_inv hok h0
  have hle1 : (Rd.base ⟨(packB f es l).take k, 0⟩).1.es.length ≤ 1000 := (by
    have : ∀ (r : Rd), (Rd.list Rd.ent r).1.length ≤ 1000 := fun r => list_le' _ r
    exact this _)
  have hle2 : (Rd.base ⟨(packB f es l).take k, 0⟩).1.l.length ≤ 1000 := (by
    have : ∀ (r : Rd), (Rd.list Rd.crs r).1.length ≤ 1000 := fun r => list_le' _ r
    exact this _)
  have h4 := base_pack h3 ((packB f es l).drop k) hle1 hle2
  rw [← h2, List.take_append_drop] at h4
  have h5 := base_pack h [] hn hm
  rw [List.append_nil, h4] at h5
  have h6 : (packB f es l).drop k = [] := by have := congrArg (fun q => q.2.l) h5; simpa using this
  have := congrArg List.length h6
  rw [List.length_drop] at this
  simp at this
  omega

end Go.Proofs.Ytlpkaljepaclpaa.Fx
