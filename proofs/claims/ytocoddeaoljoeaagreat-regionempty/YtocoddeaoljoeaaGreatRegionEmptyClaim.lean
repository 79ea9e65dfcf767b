/- joustlaw09.RegionEmpty returns true for every input; no conditions. -/
import Derived.Test.YtocoddeaoljoeaaGreatM39
import Derived.Test.YtocoddeaoljoeaaGreatM01
import Derived.Test.YtocoddeaoljoeaaGreatRows
import Derived.WalkKit
import Derived.ProofKit
import Derived.OpenShut
import Derived.ShutString
import Derived.ChangeOld
import Derived.Below
namespace Go.Proofs.YtocoddeaoljoeaaGreat.regionEmpty
open Go.ChangeShapes Go.WideShapes Go.ChangeAt Go.RowKit
open Go.ChangeMaps (open_string shut_string)
set_option linter.unusedVariables false
set_option maxRecDepth 100000

theorem own : ownKnob Tryz.prog.godebug = none := by kernel_rfl
theorem laidOut : laidOutB Tryz.prog = true := by kernel_rfl

theorem open_T24 {H : Type} {enc : TypeId × Value → H} {W : World} {fuel : Nat} {cs : List Value} {x : DataW H × List MemPlace} (h : DataW.trod enc Tryz.prog W 0 (fun _ => true) true fuel 24 cs = some x) :
    ∃ (a0 : Int) (a1 : Int) (a2 : Int) (a3 : Int) (a4 : Int), cs = [.int .i64 a0, .int .i64 a1, .int .i64 a2, .int .i64 a3, .int .u64 a4] ∧ (Lit.int .i64 a0).wf = true ∧ (Lit.int .i64 a1).wf = true ∧ (Lit.int .i64 a2).wf = true ∧ (Lit.int .i64 a3).wf = true ∧ (Lit.int .u64 a4).wf = true := by
  obtain ⟨xs, n, -, -, hl, hxl, hg⟩ := DataW.trod_struct Tryz.underlying24 h
  have hl' : cs.length = 5 := hl.trans (by kernel_rfl)
  have c3 : Tryz.prog.cellsOf 3 = 1 := by kernel_rfl
  have c22 : Tryz.prog.cellsOf 22 = 1 := by kernel_rfl
  clear hl h
  match cs, hl' with
  | [z0, z1, z2, z3, z4], _ =>
    have g0 : DataW.trod enc Tryz.prog W 0 (fun _ => true) true n 3 (([z0, z1, z2, z3, z4].drop 0).take (Tryz.prog.cellsOf 3)) = xs[0]? := hg 0 _ rfl
    rw [c3, List.getElem?_eq_getElem (show 0 < xs.length by rw [hxl]; decide)] at g0
    have g1 : DataW.trod enc Tryz.prog W 0 (fun _ => true) true n 3 (([z0, z1, z2, z3, z4].drop 1).take (Tryz.prog.cellsOf 3)) = xs[1]? := hg 1 _ rfl
    rw [c3, List.getElem?_eq_getElem (show 1 < xs.length by rw [hxl]; decide)] at g1
    have g2 : DataW.trod enc Tryz.prog W 0 (fun _ => true) true n 3 (([z0, z1, z2, z3, z4].drop 2).take (Tryz.prog.cellsOf 3)) = xs[2]? := hg 2 _ rfl
    rw [c3, List.getElem?_eq_getElem (show 2 < xs.length by rw [hxl]; decide)] at g2
    have g3 : DataW.trod enc Tryz.prog W 0 (fun _ => true) true n 3 (([z0, z1, z2, z3, z4].drop 3).take (Tryz.prog.cellsOf 3)) = xs[3]? := hg 3 _ rfl
    rw [c3, List.getElem?_eq_getElem (show 3 < xs.length by rw [hxl]; decide)] at g3
    have g4 : DataW.trod enc Tryz.prog W 0 (fun _ => true) true n 22 (([z0, z1, z2, z3, z4].drop 4).take (Tryz.prog.cellsOf 22)) = xs[4]? := hg 4 _ rfl
    rw [c22, List.getElem?_eq_getElem (show 4 < xs.length by rw [hxl]; decide)] at g4
    obtain ⟨a0, e0, -, w0⟩ := DataW.trod_int (cs := [z0]) Tryz.underlying3 g0
    simp only [List.cons.injEq, and_true] at e0
    subst e0
    clear g0
    obtain ⟨a1, e1, -, w1⟩ := DataW.trod_int (cs := [z1]) Tryz.underlying3 g1
    simp only [List.cons.injEq, and_true] at e1
    subst e1
    clear g1
    obtain ⟨a2, e2, -, w2⟩ := DataW.trod_int (cs := [z2]) Tryz.underlying3 g2
    simp only [List.cons.injEq, and_true] at e2
    subst e2
    clear g2
    obtain ⟨a3, e3, -, w3⟩ := DataW.trod_int (cs := [z3]) Tryz.underlying3 g3
    simp only [List.cons.injEq, and_true] at e3
    subst e3
    clear g3
    obtain ⟨a4, e4, -, w4⟩ := DataW.trod_int (cs := [z4]) Tryz.underlying22 g4
    simp only [List.cons.injEq, and_true] at e4
    subst e4
    clear g4
    exact ⟨a0, a1, a2, a3, a4, rfl, w0, w1, w2, w3, w4⟩

open Fx

theorem zrowN (X : World) (P : Nat) (hP : P ≤ 1000) {g : Nat} (hg : g = X.heap.size) : IsSl inpC (X.alloc (.cells ((List.replicate P inp0).flatMap inpC).toArray 58)) (.slice (some ⟨g, 0, none⟩) P P) (List.replicate P inp0) := by
  have h := owned_sl (make_row P hP X 0 (Nat.zero_le _))
  exact hg ▸ h

theorem zrowND (X : World) (P : Nat) (hP : P ≤ 1000) {g : Nat} (hg : g = X.heap.size) : IsSl inpC (X.alloc (.cells ((List.replicate P inp0).flatMap inpC).toArray 58)).drew (.slice (some ⟨g, 0, none⟩) P P) (List.replicate P inp0) := (zrowN X P hP hg).below (Below.refl _ _).drew

theorem zrowNA (X : World) (o : Obj) (P : Nat) (hP : P ≤ 1000) {g : Nat} (hg : g = X.heap.size) : IsSl inpC ((X.alloc (.cells ((List.replicate P inp0).flatMap inpC).toArray 58)).alloc o) (.slice (some ⟨g, 0, none⟩) P P) (List.replicate P inp0) := (zrowN X P hP hg).below ((Below.refl _ _).alloc (Nat.le_refl _) _)

theorem zrowNE (X : World) (o : Obj) (P : Nat) (hP : P ≤ 1000) {g : Nat} (hg : g = X.heap.size) : IsSl inpC ((X.alloc (.cells ((List.replicate P inp0).flatMap inpC).toArray 58)).alloc o).drew (.slice (some ⟨g, 0, none⟩) P P) (List.replicate P inp0) := (zrowNA X o P hP hg).below (Below.refl _ _).drew

theorem own_old2 {w : World} {base size n b : Nat} {e : TypeId} {v : Value} {xs : List Value} (h : w.ownsRow base e size v n xs) (hb : b < base) (x y : Value) : ((w.setCell ⟨b, 0, none⟩ x).setCell ⟨b, 1, none⟩ y).ownsRow base e size v n xs :=
  h.kept (grown_trans (grown_set w b 0 x) (grown_set _ b 1 y)) (.inr fun hh => by have := (h.lt b hh).1; omega)

/-- Where nobody is. -/
theorem empty_step {a b p n s r f : Int} {inp : Int → Inp} (hh : hasB a b p n r = true) (hf : 0 ≤ f ∧ f ≤ 9999) :
    st lessB (outsL a b p n s r f inp [] []) = [] ∧ (stayL a b p n s r f inp [] [] = [] ∨ ∃ x y, stayL a b p n s r f inp [] [] = [⟨newId (regs a b p n) r f 0, 3, x, y, 0, 0, 1, 0, 0⟩] ∧ ofr a b p n x y = r) := by
  have hr := hasB_rt hh
  have h1 : 1000 ≤ newId (regs a b p n) r f 0 ∧ newId (regs a b p n) r f 0 ≤ 2147483647 := by
    unfold newId
    have hR := regs_bd a b p n
    have e1 := Int.mul_le_mul_of_nonneg_left hR.2 hf.1
    have e2 := Int.mul_nonneg hf.1 hR.1
    have := hr.2.1
    have := hr.2.2.1
    omega
  obtain ⟨-, g2⟩ := gem_right (s := s) (f := f) hh h1.1 h1.2
  unfold stayL outsL
  rw [upTo_nobody]
  simp only
  rcases gemsIn_nobody a b p n s r f with h | h
  · rw [h]
    exact ⟨rfl, .inl rfl⟩
  · rw [h]
    have hb : hereB a b p n r ⟨newId (regs a b p n) r f 0, 3, crx a b p n r + bel 1024 s [4, f, r], cry a b p n r + bel 1024 s [5, f, r], 0, 0, 1, 0, 0⟩ = true := by unfold hereB; exact decide_eq_true g2
    rw [List.filter_cons_of_pos hb, List.filter_cons_of_neg (by rw [hb]; simp)]
    exact ⟨rfl, .inr ⟨_, _, rfl, g2⟩⟩

set_option maxRecDepth 100000 in
set_option maxHeartbeats 16000000 in
theorem walk (a0_0 : Int) (a0_1 : Int) (a0_2 : Int) (a0_3 : Int) (a0_4 : Int) (a1 : Int) (a2 : Int) (w : World) (w0_0 : (Lit.int .i64 a0_0).wf = true) (w0_1 : (Lit.int .i64 a0_1).wf = true) (w0_2 : (Lit.int .i64 a0_2).wf = true) (w0_3 : (Lit.int .i64 a0_3).wf = true) (w0_4 : (Lit.int .u64 a0_4).wf = true) (w1 : (Lit.int .i64 a1).wf = true) (w2 : (Lit.int .i64 a2).wf = true) :
    Calls Tryz.prog 7 #[.agg #[.int .i64 a0_0, .int .i64 a0_1, .int .i64 a0_2, .int .i64 a0_3, .int .u64 a0_4], .int .i64 a1, .int .i64 a2] w fun e w' => e = .returned (.bool true) ∧ Below w.heap.size w w' := by
  clear w0_0 w0_1 w0_2 w0_3 w1 w2
  have hs4 : 0 ≤ a0_4 ∧ a0_4 < 18446744073709551616 := by have := bounds_u64 w0_4; omega
  have HA := Lib.hid awake_rg
  go_enter Tryz.func7, Tryz.ntmps7
  go_wp2_with fail
  refine (config_any _ _ _ _ _ _).mono ?_
  rintro e v1 ⟨a, b, p, n, rfl, hsm, hb1⟩
  obtain ⟨hrt, ha3, hb3, hp4⟩ := hsm
  have hrd := rt_bd hrt
  obtain ⟨P, rfl⟩ : ∃ P : Nat, p = (P : Int) := ⟨p.toNat, by omega⟩
  have hP : P ≤ 4 := by omega
  have Hb1 := Lib.hid (unbox hb1)
  have BC1 := Lib.hid ((CfgBox.n1 w ⟨a0_0, a0_1, a0_2, a0_3, a0_4⟩ 24 rfl).nx hb1)
  have HN := Lib.hid (fun w => new_yes a b P n a0_4 w hrt)
  have hre : regs a b P n = a * b := by unfold regs; rw [if_pos hrt]
  have hR : 1 ≤ regs a b P n ∧ regs a b P n ≤ 9 := by
    rw [hre]
    have : a = 1 ∨ a = 2 ∨ a = 3 := by omega
    rcases this with rfl | rfl | rfl <;> omega
  have HR := Lib.hid (fun w => regions_any a b P n a0_4 w)
  have HO := Lib.hid (fun x y w => of_any a b P n a0_4 x y w)
  have hb9 := umod a1 (regs a b P n) hR.1 (by omega)
  have hb8 := umod a2 10000 (by decide) (by decide)
  obtain ⟨r, hr⟩ : ∃ r, wrap64 ((IntKind.u64.wrap a1).tmod (regs a b P n)) = r := ⟨_, rfl⟩
  obtain ⟨f, hf⟩ : ∃ f, wrap64 ((IntKind.u64.wrap a2).tmod 10000) = f := ⟨_, rfl⟩
  rw [hr] at hb9
  rw [hf] at hb8
  have hr9 : 0 ≤ r ∧ r < regs a b P n := by obtain ⟨e1, e2, e3⟩ := hb9; rw [e1]; exact ⟨e2, e3⟩
  have hf9 : 0 ≤ f ∧ f ≤ 9999 := by omega
  clear hb9 hb8
  have hhas : hasB a b P n r = true := by unfold hasB; exact decide_eq_true hr9
  have hq : whyNot a b P n r f [] (List.replicate P inp0) [] = 0 := by
    unfold whyNot
    rw [if_pos hhas, if_pos (by unfold rgB; simp [hhas, srt, things]; omega), if_pos (by unfold inpsB; rw [all_rep]; simp), if_pos (by simp), if_neg (by omega)]
  obtain ⟨he1, he2⟩ := empty_step (s := a0_4) (inp := inpOf (List.replicate P inp0)) hhas hf9
  have HS := Lib.hid (fun w v hv => rgstep_yes a b P n a0_4 r f hs4 (.slice none 0 0) [] v (List.replicate P inp0) (.slice none 0 0) [] w (IsSl.nil _ _) (by simp) hv (by simp; omega) (IsSl.nil _ _) (by simp) (f + 1) _ [] hq rfl rfl he1.symm)
  have hmk : ∀ w, (Instr.makeSlice 26 (.int .i64 (P : Int)) (.int .i64 (P : Int))).run Tryz.prog w = .ok (.slice (some ⟨w.heap.size, 0, none⟩) P P) (w.alloc (.cells ((List.replicate P inp0).flatMap inpC).toArray 58)) := fun w => make_inp P (by omega) w
  have Hmk := Lib.hid hmk
  have HI := Lib.hid (show newId (regs a b P n) r f 0 = 1000 + (f * regs a b P n + r) * 8 from by unfold newId; omega)
  have hp1 : 0 ≤ f * regs a b P n ∧ f * regs a b P n ≤ 89991 := by
    have e1 := Int.mul_le_mul_of_nonneg_left hR.2 hf9.1
    have e2 := Int.mul_nonneg hf9.1 (show 0 ≤ regs a b P n by omega)
    omega
  have He2 := Lib.hid he2
  generalize stayL a b P n a0_4 r f (inpOf (List.replicate P inp0)) [] [] = X at *
  generalize newId (regs a b P n) r f 0 = id at *
  generalize regs a b P n = R at *
  clear hb1 hrt hre hmk he1 he2 hq hhas hrd
  have g0 := BC1.out.c0
  have g1 := BC1.out.c1
  have g2 := BC1.out.c2
  have g3 := BC1.out.c3
  have g4 := BC1.out.c4
  have f0 := BC1.out.f0
  have f1 := BC1.out.f1
  have f2 := BC1.out.f2
  have f3 := BC1.out.f3
  have f4 := BC1.out.f4
  have hgl := BC1.out.has
  have HB := Lib.hid (CfgBox.bel Hb1.out ⟨a, b, P, n, a0_4⟩ (Nat.le_refl _) rfl)
  have BC := Lib.hid (BC1.out.put ⟨a, b, P, n, a0_4⟩)
  go_wp2_with fail
  refine (HN.out _).mono ?_
  rintro e v2 ⟨rfl, hb2⟩
  replace HB := Lib.hid (nextW HB.out hb2)
  replace BC := Lib.hid (BC.out.nx hb2)
  have BG := Lib.hid (CfgBox.n1 v2 ⟨a, b, P, n, a0_4⟩ 30 rfl)
  replace BC := Lib.hid (BC.out.alloc BC.out.has (.cells #[.int .i64 a, .int .i64 b, .int .i64 P, .int .i64 n, .int .u64 a0_4] 30))
  replace HB := Lib.hid (HB.out.alloc HB.out.size (.cells #[.int .i64 a, .int .i64 b, .int .i64 P, .int .i64 n, .int .u64 a0_4] 30))
  clear hb2 g0 g1 g2 g3 g4 f0 f1 f2 f3 f4 hgl BC1 Hb1 HN
  go_wp2_with fail
  refine (HA.out _).mono ?_
  rintro e v3 ⟨rfl, hb3⟩
  replace HB := Lib.hid (nextW HB.out hb3)
  replace BC := Lib.hid (BC.out.nx hb3)
  replace BG := Lib.hid (BG.out.nx hb3)
  clear hb3
  generalize hgb : v2.heap.size = gb at *
  clear hgb
  have hgl := BG.out.has
  have hcl := BC.out.has
  obtain ⟨g0, g1, g2, g3, g4, -⟩ := BG.out
  have hu : IntKind.u64.wrap R = R := by rw [IntKind.wrap_u64]; omega
  have hRn : ¬ R = 0 := by omega
  go_wp2_with fail
  refine (HR.out _).mono ?_
  rintro e v4 ⟨rfl, hb4⟩
  replace HB := Lib.hid (nextW HB.out hb4)
  replace BC := Lib.hid (BC.out.nx hb4)
  replace BG := Lib.hid (BG.out.nx hb4)
  clear hb4 g0 g1 g2 g3 g4 hgl hcl
  have hgl := BG.out.has
  have hcl := BC.out.has
  obtain ⟨g0, g1, g2, g3, g4, -⟩ := BG.out
  obtain ⟨c0, c1, c2, c3, c4, -⟩ := BC.out
  go_upto_region 6 with fail
  simp only [hr, hf, hu]
  clear hr hf hu hRn
  obtain ⟨W, hWv⟩ : ∃ W, W = v4 := ⟨_, rfl⟩
  subst hWv
  go_cut [9, 10, 11] (fun s9 s10 s11 wx => ∃ blk A5 n5 A6 n6, s9 = .pointer (some ⟨blk, 0, none⟩) ∧ s10 = .slice A6 0 n6 ∧ s11 = .int .i64 0 ∧ RegBox wx blk ⟨f + 1, .slice A5 X.length n5⟩ ∧ IsSl entC wx (.slice A5 X.length n5) X ∧ Below W.heap.size W wx)
  case first =>
    refine tree_region (S := (fun w' => (∀ b o, b < (W).heap.size → w'.cell? ⟨b, o, none⟩ = (W).cell? ⟨b, o, none⟩) ∧ (∀ b o, b < (W).heap.size → w'.frozen? ⟨b, o, none⟩ = (W).frozen? ⟨b, o, none⟩) ∧ Below (W).heap.size (W) w')) (.free 0 (.free 1 (.free 2 (.free 3 (.free 4 (.free 5 (.two 6 (.two 7 (.free 8 (.free 9 (.free 10 (.free 11 (.one 12 (.one 13 (.free 14 (.free 15 .done)))))))) 12 (.one 7 (.free 8 (.free 9 (.free 10 (.free 11 (.one 13 (.free 14 (.free 15 .done))))))))) 12 (.one 6 (.one 7 (.free 8 (.free 9 (.free 10 (.free 11 (.one 13 (.free 14 (.free 15 .done)))))))))))))))) (by kernel_rfl) (by kernel_rfl) (fun _ _ d _ _ h => by cases d <;> exact h) (keepW0 _) (fun hS => ?_)
    simp only [written, List.getElem?_cons_succ, List.getElem?_cons_zero]
    refine rw_free (v := ?_) (by rfl) ?_ ?_
    rotate_left 1
    focus (intro w hSw; (try dsimp only at hSw); go_simp; (try with_reducible rfl))
    (try simp only [Act.put, List.setIfInBounds_toArray, List.set_cons_zero, List.set_cons_succ])
    refine rw_free (v := ?_) (by rfl) ?_ ?_
    rotate_left 1
    focus (intro w hSw; (try dsimp only at hSw); go_simp; (try with_reducible rfl))
    (try simp only [Act.put, List.setIfInBounds_toArray, List.set_cons_zero, List.set_cons_succ])
    refine rw_free (v := ?_) (by rfl) ?_ ?_
    rotate_left 1
    focus (intro w hSw; (try dsimp only at hSw); go_simp; (try with_reducible rfl))
    (try simp only [Act.put, List.setIfInBounds_toArray, List.set_cons_zero, List.set_cons_succ])
    refine rw_free (v := ?_) (by rfl) ?_ ?_
    rotate_left 1
    focus (intro w hSw; (try dsimp only at hSw); go_simp; (try with_reducible rfl))
    (try simp only [Act.put, List.setIfInBounds_toArray, List.set_cons_zero, List.set_cons_succ])
    refine rw_free (v := ?_) (by rfl) ?_ ?_
    rotate_left 1
    focus (intro w hSw; (try dsimp only at hSw); go_simp; (try with_reducible rfl))
    (try simp only [Act.put, List.setIfInBounds_toArray, List.set_cons_zero, List.set_cons_succ])
    refine rw_free (v := ?_) (by rfl) ?_ ?_
    rotate_left 1
    focus (intro w hSw; (try dsimp only at hSw); go_simp; (try with_reducible rfl))
    (try simp only [Act.put, List.setIfInBounds_toArray, List.set_cons_zero, List.set_cons_succ])
    refine rw_two ?_ ?_
    · skip
      refine rw_call (by rfl) (fun K hK => ?_)
      go_simp
      (simp only [Hmk.out])
      (try go_wp2_with fail)
      refine hK.out _ _ ?_ (fun hS' => ?_)
      · (try dsimp only); first | exact keepW (by assumption) (by assumption) | exact keepB (by assumption) (by assumption) | exact keepA (by assumption) | assumption
      clear hS hK K
      have hS := hS'
      clear hS'
      (try simp only [Act.put, List.setIfInBounds_toArray, List.set_cons_zero, List.set_cons_succ])
      refine rw_two ?_ ?_
      · skip
        refine rw_call (by rfl) (fun K hK => ?_)
        go_simp
        (refine (HS.out _ _ (by first | with_reducible exact zrowN _ P (by omega) (by simp) | with_reducible exact zrowND _ P (by omega) (by simp) | with_reducible exact zrowNA _ _ P (by omega) (by simp) | with_reducible exact zrowNE _ _ P (by omega) (by simp))).mono ?_; rintro e w5 ⟨⟨vl, vo, rfl, ho5, ho6⟩, hb5⟩; obtain ⟨A5, n5, rfl, -⟩ := owned_sl ho5; obtain ⟨A6, n6, rfl, -⟩ := owned_sl ho6)
        (try go_wp2_with fail)
        refine hK.out _ _ ?_ (fun hS' => ?_)
        · (try dsimp only); first | exact keepW (by assumption) (by assumption) | exact keepB (by assumption) (by assumption) | exact keepA (by assumption) | assumption
        clear hS hK K
        have hS := hS'
        clear hS'
        (try simp only [Act.put, List.setIfInBounds_toArray, List.set_cons_zero, List.set_cons_succ])
        refine rw_free (v := ?_) (by rfl) ?_ ?_
        rotate_left 1
        focus (intro w hSw; (try dsimp only at hSw); go_simp; (try with_reducible rfl))
        (try simp only [Act.put, List.setIfInBounds_toArray, List.set_cons_zero, List.set_cons_succ])
        refine rw_free (v := ?_) (by rfl) ?_ ?_
        rotate_left 1
        focus (intro w hSw; (try dsimp only at hSw); go_simp; (try with_reducible rfl))
        (try simp only [Act.put, List.setIfInBounds_toArray, List.set_cons_zero, List.set_cons_succ])
        refine rw_free (v := ?_) (by rfl) ?_ ?_
        rotate_left 1
        focus (intro w hSw; (try dsimp only at hSw); go_simp; (try with_reducible rfl))
        (try simp only [Act.put, List.setIfInBounds_toArray, List.set_cons_zero, List.set_cons_succ])
        refine rw_free (v := ?_) (by rfl) ?_ ?_
        rotate_left 1
        focus (intro w hSw; (try dsimp only at hSw); go_simp; (try with_reducible rfl))
        (try simp only [Act.put, List.setIfInBounds_toArray, List.set_cons_zero, List.set_cons_succ])
        refine rw_call (by rfl) (fun K hK => ?_)
        go_simp
        (skip)
        (try go_wp2_with fail)
        refine hK.out _ _ ?_ (fun hS' => ?_)
        · (try dsimp only); first | exact keepW (by assumption) (by assumption) | exact keepB (by assumption) (by assumption) | exact keepA (by assumption) | assumption
        clear hS hK K
        have hS := hS'
        clear hS'
        (try simp only [Act.put, List.setIfInBounds_toArray, List.set_cons_zero, List.set_cons_succ])
        first | (with_reducible have hs := (by first | exact RegBox.nx (zrA _ rfl) hb5 | exact RegBox.nx (zrB _ rfl) hb5 | exact RegBox.nx (zrC _ _ rfl) hb5 | exact RegBox.nx (zrD _ _ rfl) hb5 : RegBox w5 _ r0); (try simp only [World.size_alloc] at hs); have Hs := Lib.hid hs; obtain ⟨n0, n1, m0, m1⟩ := hs) | skip
        refine rw_call (by rfl) (fun K hK => ?_)
        go_simp
        (skip)
        (try go_wp2_with fail)
        refine hK.out _ _ ?_ (fun hS' => ?_)
        · (try dsimp only); first | (have _h := Hs.out; exact keepOf (RegBox.bel hS.2.2 ⟨f + 1, .slice A5 X.length n5⟩ (by first | exact Nat.le_refl _ | simp) rfl)) | exact keepOf (below_swap hS.2.2 (by have := hb5.size; simp at this; omega))
        clear hS hK K
        have hS := hS'
        clear hS'
        (try simp only [Act.put, List.setIfInBounds_toArray, List.set_cons_zero, List.set_cons_succ])
        refine rw_free (v := ?_) (by rfl) ?_ ?_
        rotate_left 1
        focus (intro w hSw; (try dsimp only at hSw); go_simp; (try with_reducible rfl))
        (try simp only [Act.put, List.setIfInBounds_toArray, List.set_cons_zero, List.set_cons_succ])
        refine rw_free (v := ?_) (by rfl) ?_ ?_
        rotate_left 1
        focus (intro w hSw; (try dsimp only at hSw); go_simp; (try with_reducible rfl))
        (try simp only [Act.put, List.setIfInBounds_toArray, List.set_cons_zero, List.set_cons_succ])
        refine rw_done ?_
        (try clear n0 n1 m0 m1)
        go_wp2_with fail
        go_meet
        exact ⟨_, A5, n5, A6, n6, rfl, rfl, rfl, (by first | (have _h := Hs.out; exact _h.put ⟨f + 1, .slice A5 X.length n5⟩) | exact RegBox.n1 _ ⟨f + 1, .slice A5 X.length n5⟩ _ rfl), (by first | (have _h := Hs.out; exact owned_sl (own_old2 ho5 (by simp <;> omega) _ _)) | exact (owned_sl ho5).below ((Below.refl _ _).alloc (Nat.le_refl _) _)), hS.2.2⟩
      · skip
        refine rw_call (by rfl) (fun K hK => ?_)
        go_simp
        (skip)
        (try go_wp2_with fail)
        refine hK.out _ _ ?_ (fun hS' => ?_)
        · (try dsimp only); first | exact keepW (by assumption) (by assumption) | exact keepB (by assumption) (by assumption) | exact keepA (by assumption) | assumption
        clear hS hK K
        have hS := hS'
        clear hS'
        (try simp only [Act.put, List.setIfInBounds_toArray, List.set_cons_zero, List.set_cons_succ])
        refine rw_call (by rfl) (fun K hK => ?_)
        go_simp
        (refine (HS.out _ _ (by first | with_reducible exact zrowN _ P (by omega) (by simp) | with_reducible exact zrowND _ P (by omega) (by simp) | with_reducible exact zrowNA _ _ P (by omega) (by simp) | with_reducible exact zrowNE _ _ P (by omega) (by simp))).mono ?_; rintro e w5 ⟨⟨vl, vo, rfl, ho5, ho6⟩, hb5⟩; obtain ⟨A5, n5, rfl, -⟩ := owned_sl ho5; obtain ⟨A6, n6, rfl, -⟩ := owned_sl ho6)
        (try go_wp2_with fail)
        refine hK.out _ _ ?_ (fun hS' => ?_)
        · (try dsimp only); first | exact keepW (by assumption) (by assumption) | exact keepB (by assumption) (by assumption) | exact keepA (by assumption) | assumption
        clear hS hK K
        have hS := hS'
        clear hS'
        (try simp only [Act.put, List.setIfInBounds_toArray, List.set_cons_zero, List.set_cons_succ])
        refine rw_free (v := ?_) (by rfl) ?_ ?_
        rotate_left 1
        focus (intro w hSw; (try dsimp only at hSw); go_simp; (try with_reducible rfl))
        (try simp only [Act.put, List.setIfInBounds_toArray, List.set_cons_zero, List.set_cons_succ])
        refine rw_free (v := ?_) (by rfl) ?_ ?_
        rotate_left 1
        focus (intro w hSw; (try dsimp only at hSw); go_simp; (try with_reducible rfl))
        (try simp only [Act.put, List.setIfInBounds_toArray, List.set_cons_zero, List.set_cons_succ])
        refine rw_free (v := ?_) (by rfl) ?_ ?_
        rotate_left 1
        focus (intro w hSw; (try dsimp only at hSw); go_simp; (try with_reducible rfl))
        (try simp only [Act.put, List.setIfInBounds_toArray, List.set_cons_zero, List.set_cons_succ])
        refine rw_free (v := ?_) (by rfl) ?_ ?_
        rotate_left 1
        focus (intro w hSw; (try dsimp only at hSw); go_simp; (try with_reducible rfl))
        (try simp only [Act.put, List.setIfInBounds_toArray, List.set_cons_zero, List.set_cons_succ])
        first | (with_reducible have hs := (by first | exact RegBox.nx (zrA _ rfl) hb5 | exact RegBox.nx (zrB _ rfl) hb5 | exact RegBox.nx (zrC _ _ rfl) hb5 | exact RegBox.nx (zrD _ _ rfl) hb5 : RegBox w5 _ r0); (try simp only [World.size_alloc] at hs); have Hs := Lib.hid hs; obtain ⟨n0, n1, m0, m1⟩ := hs) | skip
        refine rw_call (by rfl) (fun K hK => ?_)
        go_simp
        (skip)
        (try go_wp2_with fail)
        refine hK.out _ _ ?_ (fun hS' => ?_)
        · (try dsimp only); first | (have _h := Hs.out; exact keepOf (RegBox.bel hS.2.2 ⟨f + 1, .slice A5 X.length n5⟩ (by first | exact Nat.le_refl _ | simp) rfl)) | exact keepOf (below_swap hS.2.2 (by have := hb5.size; simp at this; omega))
        clear hS hK K
        have hS := hS'
        clear hS'
        (try simp only [Act.put, List.setIfInBounds_toArray, List.set_cons_zero, List.set_cons_succ])
        refine rw_free (v := ?_) (by rfl) ?_ ?_
        rotate_left 1
        focus (intro w hSw; (try dsimp only at hSw); go_simp; (try with_reducible rfl))
        (try simp only [Act.put, List.setIfInBounds_toArray, List.set_cons_zero, List.set_cons_succ])
        refine rw_free (v := ?_) (by rfl) ?_ ?_
        rotate_left 1
        focus (intro w hSw; (try dsimp only at hSw); go_simp; (try with_reducible rfl))
        (try simp only [Act.put, List.setIfInBounds_toArray, List.set_cons_zero, List.set_cons_succ])
        refine rw_done ?_
        (try clear n0 n1 m0 m1)
        go_wp2_with fail
        go_meet
        exact ⟨_, A5, n5, A6, n6, rfl, rfl, rfl, (by first | (have _h := Hs.out; exact _h.put ⟨f + 1, .slice A5 X.length n5⟩) | exact RegBox.n1 _ ⟨f + 1, .slice A5 X.length n5⟩ _ rfl), (by first | (have _h := Hs.out; exact owned_sl (own_old2 ho5 (by simp <;> omega) _ _)) | exact (owned_sl ho5).below ((Below.refl _ _).alloc (Nat.le_refl _) _)), hS.2.2⟩
    · skip
      refine rw_call (by rfl) (fun K hK => ?_)
      go_simp
      (skip)
      (try go_wp2_with fail)
      refine hK.out _ _ ?_ (fun hS' => ?_)
      · (try dsimp only); first | exact keepW (by assumption) (by assumption) | exact keepB (by assumption) (by assumption) | exact keepA (by assumption) | assumption
      clear hS hK K
      have hS := hS'
      clear hS'
      (try simp only [Act.put, List.setIfInBounds_toArray, List.set_cons_zero, List.set_cons_succ])
      refine rw_call (by rfl) (fun K hK => ?_)
      go_simp
      (simp only [Hmk.out])
      (try go_wp2_with fail)
      refine hK.out _ _ ?_ (fun hS' => ?_)
      · (try dsimp only); first | exact keepW (by assumption) (by assumption) | exact keepB (by assumption) (by assumption) | exact keepA (by assumption) | assumption
      clear hS hK K
      have hS := hS'
      clear hS'
      (try simp only [Act.put, List.setIfInBounds_toArray, List.set_cons_zero, List.set_cons_succ])
      refine rw_call (by rfl) (fun K hK => ?_)
      go_simp
      (refine (HS.out _ _ (by first | with_reducible exact zrowN _ P (by omega) (by simp) | with_reducible exact zrowND _ P (by omega) (by simp) | with_reducible exact zrowNA _ _ P (by omega) (by simp) | with_reducible exact zrowNE _ _ P (by omega) (by simp))).mono ?_; rintro e w5 ⟨⟨vl, vo, rfl, ho5, ho6⟩, hb5⟩; obtain ⟨A5, n5, rfl, -⟩ := owned_sl ho5; obtain ⟨A6, n6, rfl, -⟩ := owned_sl ho6)
      (try go_wp2_with fail)
      refine hK.out _ _ ?_ (fun hS' => ?_)
      · (try dsimp only); first | exact keepW (by assumption) (by assumption) | exact keepB (by assumption) (by assumption) | exact keepA (by assumption) | assumption
      clear hS hK K
      have hS := hS'
      clear hS'
      (try simp only [Act.put, List.setIfInBounds_toArray, List.set_cons_zero, List.set_cons_succ])
      refine rw_free (v := ?_) (by rfl) ?_ ?_
      rotate_left 1
      focus (intro w hSw; (try dsimp only at hSw); go_simp; (try with_reducible rfl))
      (try simp only [Act.put, List.setIfInBounds_toArray, List.set_cons_zero, List.set_cons_succ])
      refine rw_free (v := ?_) (by rfl) ?_ ?_
      rotate_left 1
      focus (intro w hSw; (try dsimp only at hSw); go_simp; (try with_reducible rfl))
      (try simp only [Act.put, List.setIfInBounds_toArray, List.set_cons_zero, List.set_cons_succ])
      refine rw_free (v := ?_) (by rfl) ?_ ?_
      rotate_left 1
      focus (intro w hSw; (try dsimp only at hSw); go_simp; (try with_reducible rfl))
      (try simp only [Act.put, List.setIfInBounds_toArray, List.set_cons_zero, List.set_cons_succ])
      refine rw_free (v := ?_) (by rfl) ?_ ?_
      rotate_left 1
      focus (intro w hSw; (try dsimp only at hSw); go_simp; (try with_reducible rfl))
      (try simp only [Act.put, List.setIfInBounds_toArray, List.set_cons_zero, List.set_cons_succ])
      first | (with_reducible have hs := (by first | exact RegBox.nx (zrA _ rfl) hb5 | exact RegBox.nx (zrB _ rfl) hb5 | exact RegBox.nx (zrC _ _ rfl) hb5 | exact RegBox.nx (zrD _ _ rfl) hb5 : RegBox w5 _ r0); (try simp only [World.size_alloc] at hs); have Hs := Lib.hid hs; obtain ⟨n0, n1, m0, m1⟩ := hs) | skip
      refine rw_call (by rfl) (fun K hK => ?_)
      go_simp
      (skip)
      (try go_wp2_with fail)
      refine hK.out _ _ ?_ (fun hS' => ?_)
      · (try dsimp only); first | (have _h := Hs.out; exact keepOf (RegBox.bel hS.2.2 ⟨f + 1, .slice A5 X.length n5⟩ (by first | exact Nat.le_refl _ | simp) rfl)) | exact keepOf (below_swap hS.2.2 (by have := hb5.size; simp at this; omega))
      clear hS hK K
      have hS := hS'
      clear hS'
      (try simp only [Act.put, List.setIfInBounds_toArray, List.set_cons_zero, List.set_cons_succ])
      refine rw_free (v := ?_) (by rfl) ?_ ?_
      rotate_left 1
      focus (intro w hSw; (try dsimp only at hSw); go_simp; (try with_reducible rfl))
      (try simp only [Act.put, List.setIfInBounds_toArray, List.set_cons_zero, List.set_cons_succ])
      refine rw_free (v := ?_) (by rfl) ?_ ?_
      rotate_left 1
      focus (intro w hSw; (try dsimp only at hSw); go_simp; (try with_reducible rfl))
      (try simp only [Act.put, List.setIfInBounds_toArray, List.set_cons_zero, List.set_cons_succ])
      refine rw_done ?_
      (try clear n0 n1 m0 m1)
      go_wp2_with fail
      go_meet
      exact ⟨_, A5, n5, A6, n6, rfl, rfl, rfl, (by first | (have _h := Hs.out; exact _h.put ⟨f + 1, .slice A5 X.length n5⟩) | exact RegBox.n1 _ ⟨f + 1, .slice A5 X.length n5⟩ _ rfl), (by first | (have _h := Hs.out; exact owned_sl (own_old2 ho5 (by simp <;> omega) _ _)) | exact (owned_sl ho5).below ((Below.refl _ _).alloc (Nat.le_refl _) _)), hS.2.2⟩
  case rest =>
    obtain ⟨be, A5, n5, A6, n6, rfl, rfl, rfl, hbe, hsl, hb⟩ := hcut
    have Be := Lib.hid hbe
    have HX := Lib.hid hsl
    replace HB := Lib.hid (nextW HB.out hb)
    replace BG := Lib.hid (BG.out.nx hb)
    clear hbe hsl hb g0 g1 g2 g3 g4 c0 c1 c2 c3 c4 hgl hcl HS Hmk BC HA
    have hw1 : wrap64 (f + 1) = f + 1 := IntWalk.wrap64_in _ (by omega)
    obtain ⟨z0, z1, -⟩ := Be.out
    rcases He2.out with hX | ⟨gx, gy, hX, hof⟩
    · subst hX
      simp only [List.length_nil] at z1 HX
      go_wp2
      go_ret
      exact ⟨rfl, HB.out⟩
    · subst hX
      have hi := HI.out
      subst hi
      have HO1 := Lib.hid (fun w => hof ▸ HO.out gx gy w)
      simp only [List.length_cons, List.length_nil] at z1 HX
      obtain ⟨bb, off, rfl, hc⟩ := elem_Ent HX.out.at (k := 0) rfl
      have HB1 := Lib.hid HB.out
      obtain ⟨d0, d1, d2, d3, d4, d5, d6, d7, d8⟩ := hc
      simp only [Nat.zero_mul, Nat.add_zero] at d0 d1 d2 d3 d4 d5 d6 d7 d8
      go_upto_region 12 with fail
      generalize hW : World.alloc _ _ = W2 at *
      have BX := Lib.hid (show EntBox W2 wc.heap.size ⟨1000 + (f * R + r) * 8, 3, gx, gy, 0, 0, 1, 0, 0⟩ from by rw [← hW]; exact EntBox.n1 _ ⟨1000 + (f * R + r) * 8, 3, gx, gy, 0, 0, 1, 0, 0⟩ _ rfl)
      replace HB := Lib.hid (show Below w.heap.size w W2 from by rw [← hW]; exact HB.out.alloc HB.out.size _)
      replace BG := Lib.hid (show CfgBox W2 gb ⟨a, b, P, n, a0_4⟩ from by rw [← hW]; exact BG.out.alloc BG.out.has _)
      generalize wc.heap.size = gx0 at *
      clear hW d0 d1 d2 d3 d4 d5 d6 d7 d8 z0 z1 HX Be HB1 HI He2 HO
      have hgl := BG.out.has
      have hxl := BX.out.has
      obtain ⟨g0, g1, g2, g3, g4, -⟩ := BG.out
      obtain ⟨x0, x1, x2, x3, x4, x5, x6, x7, x8, -⟩ := BX.out
      have hrr : (r == r) = true := by simp
      have hii : (1000 + (f * R + r) * 8 == 1000 + (f * R + r) * 8) = true := by simp
      have h33 : ((3 : Int) == 3) = true := rfl
      have hv1 : IntKind.i64.wrap (f * R) = f * R := by rw [IntKind.wrap_i64]; omega
      have hv2 : IntKind.i64.wrap (f * R + r) = f * R + r := by rw [IntKind.wrap_i64]; omega
      have hv3 : IntKind.i64.wrap ((f * R + r) * 8) = (f * R + r) * 8 := by rw [IntKind.wrap_i64]; omega
      have hv4 : IntKind.i64.wrap (1000 + (f * R + r) * 8) = 1000 + (f * R + r) * 8 := by rw [IntKind.wrap_i64]; omega
      refine plan_region' (S := (fun w' => (∀ b o, b < (W2).heap.size → w'.cell? ⟨b, o, none⟩ = (W2).cell? ⟨b, o, none⟩) ∧ (∀ b o, b < (W2).heap.size → w'.frozen? ⟨b, o, none⟩ = (W2).frozen? ⟨b, o, none⟩) ∧ Below (W2).heap.size (W2) w')) [(0, true), (1, true), (2, true), (3, true), (4, true), (5, true), (6, true), (7, true), (8, true), (10, true), (9, false), (11, true), (12, true), (13, true), (14, true), (15, true), (16, true), (17, true), (20, true), (18, false), (19, true), (21, true), (22, true), (23, true), (24, true), (25, true), (26, true)] (by kernel_rfl) (by kernel_rfl) (fun _ _ d _ _ h => by cases d <;> exact h) (keepW0 _) (fun hS => ?_)
      simp only [picked, List.getElem?_cons_succ, List.getElem?_cons_zero]
      refine row_free (v := ?_) (by rfl) ?_ ?_
      rotate_left 1
      focus (intro w hSw; (try dsimp only at hSw); go_simp; (try with_reducible rfl))
      (try simp only [Act.put, List.setIfInBounds_toArray, List.set_cons_zero, List.set_cons_succ])
      refine row_free (v := ?_) (by rfl) ?_ ?_
      rotate_left 1
      focus (intro w hSw; (try dsimp only at hSw); go_simp; (try with_reducible rfl))
      (try simp only [Act.put, List.setIfInBounds_toArray, List.set_cons_zero, List.set_cons_succ])
      refine row_free (v := ?_) (by rfl) ?_ ?_
      rotate_left 1
      focus (intro w hSw; (try dsimp only at hSw); go_simp; (try with_reducible rfl))
      (try simp only [Act.put, List.setIfInBounds_toArray, List.set_cons_zero, List.set_cons_succ])
      refine row_free (v := ?_) (by rfl) ?_ ?_
      rotate_left 1
      focus (intro w hSw; (try dsimp only at hSw); go_simp; (try with_reducible rfl))
      (try simp only [Act.put, List.setIfInBounds_toArray, List.set_cons_zero, List.set_cons_succ])
      refine row_free (v := ?_) (by rfl) ?_ ?_
      rotate_left 1
      focus (intro w hSw; (try dsimp only at hSw); go_simp; (try with_reducible rfl))
      (try simp only [Act.put, List.setIfInBounds_toArray, List.set_cons_zero, List.set_cons_succ])
      refine row_free (v := ?_) (by rfl) ?_ ?_
      rotate_left 1
      focus (intro w hSw; (try dsimp only at hSw); go_simp; (try with_reducible rfl))
      (try simp only [Act.put, List.setIfInBounds_toArray, List.set_cons_zero, List.set_cons_succ])
      refine row_free (v := ?_) (by rfl) ?_ ?_
      rotate_left 1
      focus (intro w hSw; (try dsimp only at hSw); go_simp; (try with_reducible rfl))
      (try simp only [Act.put, List.setIfInBounds_toArray, List.set_cons_zero, List.set_cons_succ])
      refine row_free (v := ?_) (by rfl) ?_ ?_
      rotate_left 1
      focus (intro w hSw; (try dsimp only at hSw); go_simp; (try with_reducible rfl))
      (try simp only [Act.put, List.setIfInBounds_toArray, List.set_cons_zero, List.set_cons_succ])
      refine row_free (v := ?_) (by rfl) ?_ ?_
      rotate_left 1
      focus (intro w hSw; (try dsimp only at hSw); go_simp; (try with_reducible rfl))
      (try simp only [Act.put, List.setIfInBounds_toArray, List.set_cons_zero, List.set_cons_succ])
      refine row_free (v := ?_) (by rfl) ?_ ?_
      rotate_left 1
      focus (intro w hSw; (try dsimp only at hSw); go_simp; (try with_reducible rfl))
      (try simp only [Act.put, List.setIfInBounds_toArray, List.set_cons_zero, List.set_cons_succ])
      refine row_call (by rfl) (fun K hK => ?_)
      go_simp
      (refine (HO1.out _).mono ?_; rintro e w6 ⟨rfl, hb6⟩)
      (try go_wp2_with fail)
      refine hK.out _ _ ?_ (fun hS' => ?_)
      · (try dsimp only); first | exact keepW (by assumption) (by assumption) | exact keepB (by assumption) (by assumption) | exact keepA (by assumption) | assumption
      clear hS hK K
      have hS := hS'
      clear hS'
      (try simp only [Act.put, List.setIfInBounds_toArray, List.set_cons_zero, List.set_cons_succ])
      refine row_free (v := ?_) (by rfl) ?_ ?_
      rotate_left 1
      focus (intro w hSw; (try dsimp only at hSw); go_simp; (try with_reducible rfl))
      (try simp only [Act.put, List.setIfInBounds_toArray, List.set_cons_zero, List.set_cons_succ])
      refine row_free (v := ?_) (by rfl) ?_ ?_
      rotate_left 1
      focus (intro w hSw; (try dsimp only at hSw); go_simp; (try with_reducible rfl))
      (try simp only [Act.put, List.setIfInBounds_toArray, List.set_cons_zero, List.set_cons_succ])
      refine row_free (v := ?_) (by rfl) ?_ ?_
      rotate_left 1
      focus (intro w hSw; (try dsimp only at hSw); go_simp; (try with_reducible rfl))
      (try simp only [Act.put, List.setIfInBounds_toArray, List.set_cons_zero, List.set_cons_succ])
      refine row_free (v := ?_) (by rfl) ?_ ?_
      rotate_left 1
      focus (intro w hSw; (try dsimp only at hSw); go_simp; (try with_reducible rfl))
      (try simp only [Act.put, List.setIfInBounds_toArray, List.set_cons_zero, List.set_cons_succ])
      refine row_free (v := ?_) (by rfl) ?_ ?_
      rotate_left 1
      focus (intro w hSw; (try dsimp only at hSw); go_simp; (try with_reducible rfl))
      (try simp only [Act.put, List.setIfInBounds_toArray, List.set_cons_zero, List.set_cons_succ])
      refine row_free (v := ?_) (by rfl) ?_ ?_
      rotate_left 1
      focus (intro w hSw; (try dsimp only at hSw); go_simp; (try with_reducible rfl))
      (try simp only [Act.put, List.setIfInBounds_toArray, List.set_cons_zero, List.set_cons_succ])
      refine row_free (v := ?_) (by rfl) ?_ ?_
      rotate_left 1
      focus (intro w hSw; (try dsimp only at hSw); go_simp; (try with_reducible rfl))
      (try simp only [Act.put, List.setIfInBounds_toArray, List.set_cons_zero, List.set_cons_succ])
      refine row_free (v := ?_) (by rfl) ?_ ?_
      rotate_left 1
      focus (intro w hSw; (try dsimp only at hSw); go_simp; (try with_reducible rfl))
      (try simp only [Act.put, List.setIfInBounds_toArray, List.set_cons_zero, List.set_cons_succ])
      refine row_call (by rfl) (fun K hK => ?_)
      go_simp
      (refine (HR.out _).mono ?_; rintro e w7 ⟨rfl, hb7⟩)
      (try go_wp2_with fail)
      refine hK.out _ _ ?_ (fun hS' => ?_)
      · (try dsimp only); first | exact keepW (by assumption) (by assumption) | exact keepB (by assumption) (by assumption) | exact keepA (by assumption) | assumption
      clear hS hK K
      have hS := hS'
      clear hS'
      (try simp only [Act.put, List.setIfInBounds_toArray, List.set_cons_zero, List.set_cons_succ])
      refine row_free (v := ?_) (by rfl) ?_ ?_
      rotate_left 1
      focus (intro w hSw; (try dsimp only at hSw); go_simp; (try with_reducible rfl))
      (try simp only [Act.put, List.setIfInBounds_toArray, List.set_cons_zero, List.set_cons_succ])
      refine row_free (v := ?_) (by rfl) ?_ ?_
      rotate_left 1
      focus (intro w hSw; (try dsimp only at hSw); go_simp; (try with_reducible rfl))
      (try simp only [Act.put, List.setIfInBounds_toArray, List.set_cons_zero, List.set_cons_succ])
      refine row_free (v := ?_) (by rfl) ?_ ?_
      rotate_left 1
      focus (intro w hSw; (try dsimp only at hSw); go_simp; (try with_reducible rfl))
      (try simp only [Act.put, List.setIfInBounds_toArray, List.set_cons_zero, List.set_cons_succ])
      refine row_free (v := ?_) (by rfl) ?_ ?_
      rotate_left 1
      focus (intro w hSw; (try dsimp only at hSw); go_simp; (try with_reducible rfl))
      (try simp only [Act.put, List.setIfInBounds_toArray, List.set_cons_zero, List.set_cons_succ])
      refine row_free (v := ?_) (by rfl) ?_ ?_
      rotate_left 1
      focus (intro w hSw; (try dsimp only at hSw); go_simp; (try with_reducible rfl))
      (try simp only [Act.put, List.setIfInBounds_toArray, List.set_cons_zero, List.set_cons_succ])
      refine row_free (v := ?_) (by rfl) ?_ ?_
      rotate_left 1
      focus (intro w hSw; (try dsimp only at hSw); go_simp; (try with_reducible rfl))
      (try simp only [Act.put, List.setIfInBounds_toArray, List.set_cons_zero, List.set_cons_succ])
      refine row_free (v := ?_) (by rfl) ?_ ?_
      rotate_left 1
      focus (intro w hSw; (try dsimp only at hSw); go_simp; (try with_reducible rfl))
      (try simp only [Act.put, List.setIfInBounds_toArray, List.set_cons_zero, List.set_cons_succ])
      refine row_done ?_
      have HBf := Lib.hid (nextW HB.out hS.2.2)
      clear hS hb6 hb7
      go_wp2
      go_ret
      exact ⟨rfl, HBf.out⟩

set_option maxRecDepth 100000 in
theorem lifted (os : Os) (started : os.Started) (H : Type) (enc : TypeId × Value → H) :
    ReturnsInHanded {} Tryz.checked os 7 .any (Rows.regionEmptySpec.pre6 enc Tryz.prog Tryz.f7 Rows.regionEmptyRow.domain false) (Rows.regionEmptySpec.post enc Tryz.prog Tryz.f7 false true false false) := by
  refine returnsInHanded_of_change (C := Tryz.checked) own started (by kernel_rfl) Tryz.func7
    (ChangeSpec.witness6 (enc := enc) (C := Tryz.checked) false ⟨#[], #[.agg #[.int .i64 0, .int .i64 0, .int .i64 0, .int .i64 0, .int .u64 0], .int .i64 0, .int .i64 0], []⟩ 8 (by kernel_rfl) (by kernel_rfl) (by kernel_rfl) (by kernel_rfl)) ?_
  intro W base args ds gs before hval0 hW hcnd _
  have hval : ∀ (j : Nat) t v, Tryz.f7.params[j]? = some t → args[j]? = some v → Value.okWide Tryz.prog W .any base t v := hval0
  have hW' := hW
  obtain ⟨p, q, hA0, hV, rfl, hfz, hnd⟩ := hW
  have hA : DataW.TrodAll enc Tryz.prog W 0 (fun _ => true) true Tryz.f7.params.toList args.toList ds p := hA0
  rw [Tryz.params7] at hA hval
  obtain ⟨v0, vs0, d0, ds0, p0, q0, hargs, rfl, rfl, h0, r0⟩ := trodAll_cons hA
  obtain ⟨v1, vs1, d1, ds1, p1, q1, rfl, rfl, rfl, h1, r1⟩ := trodAll_cons r0
  obtain ⟨v2, vs2, d2, ds2, p2, q2, rfl, rfl, rfl, h2, r2⟩ := trodAll_cons r1
  obtain ⟨rfl, rfl, rfl⟩ := trodAll_nil r2
  obtain rfl : args = #[v0, v1, v2] := by cases args; simp_all
  obtain ⟨rfl, rfl⟩ := trodVars_none hV
  obtain ⟨cs0, rfl, -⟩ := okWide_struct Tryz.underlying24 (hval 0 24 v0 rfl rfl)
  have k0 := h0
  have lt0 : ∀ x ∈ p0, x.block < W.heap.size := by obtain ⟨m, hm⟩ := k0; exact DataW.trod_lt m _ _ _ hm
  obtain ⟨fuel0, hf0⟩ := h0
  obtain ⟨l0⟩ := cs0
  obtain ⟨a0_0, a0_1, a0_2, a0_3, a0_4, rfl, w0_0, w0_1, w0_2, w0_3, w0_4⟩ := open_T24 (cs := l0) hf0
  obtain ⟨a1, rfl, rfl, rfl, w1⟩ := open_int Tryz.underlying3 (hval 1 3 v1 rfl rfl) h1
  obtain ⟨a2, rfl, rfl, rfl, w2⟩ := open_int Tryz.underlying3 (hval 2 3 v2 rfl rfl) h2
  clear hA0 hval0
  refine (walk a0_0 a0_1 a0_2 a0_3 a0_4 a1 a2 W w0_0 w0_1 w0_2 w0_3 w0_4 w1 w2).mono fun e W' ⟨he, bel⟩ => ?_
  subst he
  exact ⟨_, rfl, _, _, _, [], _, [], hW', trodAll_mk1 (shut_bool Tryz.underlying4 _), (trodAll_cons_mk (Below.trod laidOut (by kernel_rfl) (of_decide_eq_true (by kernel_rfl)) k0 bel lt0) (trodAll_cons_mk (shut_int Tryz.underlying3 w1) (trodAll_cons_mk (shut_int Tryz.underlying3 w2) trodAll_mk0))), rfl, bel.frame _, fun h => by cases h⟩

theorem over : Rows.regionEmptyRow.holds Tryz.pinned (OpenSpec.ofChange Rows.regionEmptySpec) :=
  OpenClaim.holds_of_wide 7 Tryz.f7 rfl rfl rfl rfl rfl rfl rfl ⟨rfl, rfl, rfl, rfl, rfl⟩ rfl rfl rfl rfl rfl (by kernel_rfl) Tryz.func7 (by kernel_rfl)
    (of_decide_eq_true (by kernel_rfl)) (by unfold Func.isWrapper; first | (rw [if_pos (by decide +kernel)]; kernel_rfl) | (rw [if_neg (by decide +kernel)]; exact ⟨rfl, rfl⟩))
    (fun os started H enc _ => lifted os started H enc)

end Go.Proofs.YtocoddeaoljoeaaGreat.regionEmpty
namespace Go.Proofs.YtocoddeaoljoeaaGreat
theorem regionEmpty_proved : Rows.RegionEmptySaid := regionEmpty.over
end Go.Proofs.YtocoddeaoljoeaaGreat
