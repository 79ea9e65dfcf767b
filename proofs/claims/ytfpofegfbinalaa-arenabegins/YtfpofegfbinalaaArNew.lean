/- Package arena: empty worlds and who stands in them. -/
import Derived.Test.YtfpofegfbinalaaArAll
import Derived.Test.YtfpofegfbinalaaGrNear
import Derived.Test.YtfpofegfbinalaaGBoxNConfig
import Derived.Test.YtfpofegfbinalaaGBoxNEntity
import Derived.Test.YtfpofegfbinalaaGSeqT
import Derived.Test.YtfpofegfbinalaaRgZero
import Derived.Test.YtfpofegfbinalaaGKeep
import Derived.Deep.OwnRows
namespace Go.Proofs.Ytfpofegfbinalaa.Fx
open Go.ChangeShapes Go.WideShapes Go.ChangeAt Go.RowKit
set_option linter.unusedVariables false
set_option maxRecDepth 100000

theorem grown_setA (w : World) (b o : Nat) (v : Value) : w.grownBy (w.setCell ⟨b, o, none⟩ v) (some b) :=
  ⟨rfl, rfl, rfl, by simp, fun k _ hk => Below.heap_setCell _ _ _ k (fun e => hk (by rw [e]))⟩

theorem Blk.keptA {w w' : World} {g : Nat} {t : TypeId} {cur : Array Value} {row : Option Nat} (h : Blk w g t cur) (hg : w.grownBy w' row) (hne : some g ≠ row) : Blk w' g t cur := by
  unfold Blk at *
  rw [hg.block g (Array.getElem?_eq_some_iff.1 h).1 hne]
  exact h

/-- A row is no block of another type. -/
theorem own_neA {w : World} {base size n b : Nat} {e t : TypeId} {v : Value} {xs : List Value} {cur : Array Value} (h : w.ownsRow base e size v n xs) (hb : Blk w b t cur) (hne : e ≠ t) : some b ≠ v.ownBlock := by
  rcases h.2 with ⟨rfl, -⟩ | ⟨g, cap, c, rfl, -, hg, -⟩
  · simp [Value.ownBlock]
  · intro hh
    simp only [Value.ownBlock, Option.some.injEq] at hh
    subst hh
    unfold Blk at hb
    rw [hb] at hg
    simp only [Option.some.injEq, Obj.cells.injEq] at hg
    exact hne hg.2.1.symm

theorem own_apartA {w : World} {base base' size size' n n' : Nat} {e t : TypeId} {v v' : Value} {xs xs' : List Value} (h : w.ownsRow base e size v n xs) (h' : w.ownsRow base' t size' v' n' xs') (hne : e ≠ t) : v'.ownBlock = none ∨ v'.ownBlock ≠ v.ownBlock := by
  rcases h'.2 with ⟨rfl, -⟩ | ⟨g, cap, c, rfl, -, hg, -⟩
  · exact .inl rfl
  · exact .inr (own_neA (cur := c) h hg hne)

/-- A player who stands in the middle of its region. -/
def std (a b p n r id : Int) : Ent := ⟨id, 1, crx a b p n r + 512, cry a b p n r + 512, 0, 0, 100, 0, 0⟩

theorem corner_bd4 {a b p n r : Int} (h : hasB a b p n r = true) : 0 ≤ crx a b p n r ∧ crx a b p n r ≤ 3072 ∧ 0 ≤ cry a b p n r ∧ cry a b p n r ≤ 3072 := by
  obtain ⟨-, h0, h1, ha, ha4, hb, hb4, -⟩ := hasB_rt h
  unfold crx cry
  rw [if_pos h, if_pos h]
  have e1 := Int.emod_nonneg r (show a ≠ 0 by omega)
  have e2 := Int.emod_lt_of_pos r (show 0 < a by omega)
  have e3 : 0 ≤ r / a := Int.ediv_nonneg h0 (by omega)
  have e4 : r / a < b := Int.ediv_lt_of_lt_mul (by omega) (by rw [Int.mul_comm]; exact h1)
  omega

theorem standing_any (a b p n s r id : Int) (h : hasB a b p n r = true) (w : World) :
    Calls Try.prog 12 #[.agg #[.int .i64 a, .int .i64 b, .int .i64 p, .int .i64 n, .int .u64 s], .int .i64 r, .int .i64 id] w fun z w' => z = .returned (.agg #[.int .i64 (std a b p n r id).id, .int .i64 (std a b p n r id).kind, .int .i64 (std a b p n r id).x, .int .i64 (std a b p n r id).y, .int .i64 (std a b p n r id).vx, .int .i64 (std a b p n r id).vy, .int .i64 (std a b p n r id).health, .int .i64 (std a b p n r id).age, .int .i64 (std a b p n r id).owner]) ∧ Below w.heap.size w w' := by
  have HC := Lib.hid (fun w => corner_any a b p n s r w)
  obtain ⟨h1, h2, h3, h4⟩ := corner_bd4 h
  unfold std
  generalize crx a b p n r = x at *
  generalize cry a b p n r = y at *
  have e1 : wrap64 (x + 512) = x + 512 := IntWalk.wrap64_in _ (by omega)
  have e2 : wrap64 (y + 512) = y + 512 := IntWalk.wrap64_in _ (by omega)
  clear h
  go_enter Try.func12, Try.ntmps12
  go_upto_region 1 with fail
  generalize hW : World.alloc _ _ = W
  have BG := Lib.hid (show CfgBox W w.heap.size ⟨a, b, p, n, s⟩ from by rw [← hW]; exact CfgBox.n2a _ ⟨a, b, p, n, s⟩ _ _ rfl)
  have BX := Lib.hid (show EntBox W (w.heap.size + 1) ⟨0, 0, 0, 0, 0, 0, 0, 0, 0⟩ from by rw [← hW]; exact EntBox.n2b _ ⟨0, 0, 0, 0, 0, 0, 0, 0, 0⟩ _ _ rfl)
  have HB := Lib.hid (show Below w.heap.size w W from by rw [← hW]; exact ((Below.refl _ _).alloc (Nat.le_refl _) _).alloc (by simp) _)
  clear hW
  have hgl := BG.out.has
  obtain ⟨g0, g1, g2, g3, g4, -⟩ := BG.out
  go_wp2_with fail
  refine (HC.out _).mono ?_
  rintro e w1 ⟨rfl, hb⟩
  replace HB := Lib.hid (nextW HB.out hb)
  replace BX := Lib.hid (BX.out.nx hb)
  clear hb g0 g1 g2 g3 g4 hgl BG
  have fX0 := BX.out.f0
  have fX1 := BX.out.f1
  have fX2 := BX.out.f2
  have fX3 := BX.out.f3
  have fX4 := BX.out.f4
  have fX5 := BX.out.f5
  have fX6 := BX.out.f6
  have fX7 := BX.out.f7
  have fX8 := BX.out.f8
  have X0 := BX.out.c0
  have X1 := BX.out.c1
  have X2 := BX.out.c2
  have X3 := BX.out.c3
  have X4 := BX.out.c4
  have X5 := BX.out.c5
  have X6 := BX.out.c6
  have X7 := BX.out.c7
  have X8 := BX.out.c8
  have hxl := BX.out.has
  go_wp2
  have HB2 := Lib.hid (EntBox.bel HB.out ⟨id, 1, x + 512, y + 512, 0, 0, 100, 0, 0⟩ (Nat.le_succ _) rfl)
  have BX2 := Lib.hid (BX.out.put ⟨id, 1, x + 512, y + 512, 0, 0, 100, 0, 0⟩)
  obtain ⟨z0, z1, z2, z3, z4, z5, z6, z7, z8, -⟩ := BX2.out
  refine bodyPost_ret (v := .agg #[.int .i64 id, .int .i64 1, .int .i64 (x + 512), .int .i64 (y + 512), .int .i64 0, .int .i64 0, .int .i64 100, .int .i64 0, .int .i64 0]) (by simp [results, Try.results12, go_sem, z0, z1, z2, z3, z4, z5, z6, z7, z8]) rfl ⟨rfl, HB2.out⟩

theorem made_reg (n : Nat) : (madeCells (Value.cells (.agg #[.int .i64 0, .slice none 0 0])) (n * 2)) = ((List.replicate n r0).flatMap regC).toArray := by
  apply Array.ext'
  apply List.ext_getElem?
  intro i
  rw [show i = i / 2 * 2 + i % 2 by omega, flat_get regC 2 (fun _ => rfl) _ _ _ (Nat.mod_lt _ (by omega))]
  by_cases hi : i / 2 < n
  · rw [List.getElem?_replicate, if_pos hi]
    have h : i / 2 * 2 + i % 2 < n * 2 := by omega
    simp only [madeCells, Array.toList_map, Array.toList_range, List.getElem?_map, List.getElem?_range h]
    have hm : (i / 2 * 2 + i % 2) % 2 = i % 2 := by omega
    have h3 : i % 2 = 0 ∨ i % 2 = 1 := by omega
    rcases h3 with h3 | h3 <;> simp [Value.cells, h3, regC, r0]
  · rw [List.getElem?_replicate, if_neg hi]
    have h : n * 2 ≤ i / 2 * 2 + i % 2 := by omega
    rw [List.getElem?_eq_none (by simp [madeCells]; exact h)]
    rfl

theorem info_Reg : (Try.prog.info? 47).map (fun i => (i.zero, i.size, i.bytes)) = some (some (.agg #[.int .i64 0, .slice none 0 0]), 2, 32) := by kernel_rfl

theorem make_reg (n : Nat) (hn : n ≤ 1000) (w : World) : (Instr.makeSlice 26 (.int .i64 (n : Int)) (.int .i64 (n : Int))).run Try.prog w = .ok (.slice (some ⟨w.heap.size, 0, none⟩) n n) (w.alloc (.cells ((List.replicate n r0).flatMap regC).toArray 47)) := by
  obtain ⟨i0, hi, hz0, hz1, hz2⟩ := info_parts info_Reg
  have hr := run_make (P := Try.prog) w 26 47 i0 _ Try.underlying26 hi hz0 .i64 .i64 n n (by omega) (Int.le_refl _) (by rw [hz2]; omega) (by omega)
  rw [hz1, Int.toNat_natCast, made_reg] at hr
  exact hr

theorem row_reg {X W : World} {n : Nat} (hn : n ≤ 1000) (h : X.alloc (.cells ((List.replicate n r0).flatMap regC).toArray 47) = W) : W.ownsRow X.heap.size 47 2 (.slice (some ⟨X.heap.size, 0, none⟩) n n) n ((List.replicate n r0).flatMap regC) ∧ Below X.heap.size X W := by
  subst h
  refine ⟨?_, (Below.refl _ _).alloc (Nat.le_refl _) _⟩
  exact World.ownsRow_lit (size := 2) (e := 47) X (((List.replicate n r0).flatMap regC).toArray) n (Nat.le_refl _) (by unfold maxLen; omega) (by rw [List.size_toArray, flat_len regC 2 (fun _ => rfl), List.length_replicate])

/-- A list that nothing was put into. -/
def nil0 : Value := .slice none 0 0

theorem make_out (n : Nat) (hn : n ≤ 1000) (w : World) : (Instr.makeSlice 27 (.int .i64 (n : Int)) (.int .i64 (n : Int))).run Try.prog w = .ok (.slice (some ⟨w.heap.size, 0, none⟩) n n) (w.alloc (.cells (madeCells #[nil0] n) 49)) :=
  Go.run_make_row' 27 49 nil0 24 Try.underlying27 (by kernel_rfl) rfl .i64 .i64 n (by omega) (by omega) w

theorem row_out {X W : World} {n : Nat} (hn : n ≤ 1000) (h : X.alloc (.cells (madeCells #[nil0] n) 49) = W) : W.ownsRow X.heap.size 49 1 (.slice (some ⟨X.heap.size, 0, none⟩) n n) n (List.replicate n nil0) ∧ Below X.heap.size X W := by
  subst h
  refine ⟨?_, (Below.refl _ _).alloc (Nat.le_refl _) _⟩
  have h := World.ownsRow_lit (size := 1) (e := 49) X (madeCells #[nil0] n) n (Nat.le_refl _) (by unfold maxLen; omega) (by simp [madeCells])
  rw [toList_madeCells_one] at h
  exact h

/-- The box of a world. -/
theorem own_wbox {w : World} {base size n b : Nat} {e : TypeId} {v : Value} {xs : List Value} {cur : Array Value} (h : w.ownsRow base e size v n xs) (hb : Blk w b 29 cur) (he : e ≠ 29) (x y : Value) : ((w.setCell ⟨b, 0, none⟩ x).setCell ⟨b, 1, none⟩ y).ownsRow base e size v n xs :=
  h.kept (grown_trans (grown_setA w b 0 x) (grown_setA _ b 1 y)) (.inr (Ne.symm (own_neA h hb he)))

set_option maxHeartbeats 4000000 in
theorem empty_any (a b p n s : Int) (R : Nat) (hR : regs a b p n = R) (hR16 : R ≤ 16) (w : World) :
    Calls Try.prog 10 #[.agg #[.int .i64 a, .int .i64 b, .int .i64 p, .int .i64 n, .int .u64 s]] w fun z w' =>
      (∃ g1 g2, z = .returned (.agg #[.slice (some ⟨g1, 0, none⟩) R R, .slice (some ⟨g2, 0, none⟩) R R]) ∧ w'.ownsRow w.heap.size 47 2 (.slice (some ⟨g1, 0, none⟩) R R) R ((List.replicate R r0).flatMap regC) ∧
        w'.ownsRow w.heap.size 49 1 (.slice (some ⟨g2, 0, none⟩) R R) R (List.replicate R nil0)) ∧ Below w.heap.size w w' := by
  have HR := Lib.hid (fun w => hR ▸ regions_any a b p n s w)
  have Hm1 := Lib.hid (fun w => make_reg R (by omega) w)
  have Hm2 := Lib.hid (fun w => make_out R (by omega) w)
  have HR16 := Lib.hid (show R ≤ 1000 by omega)
  clear hR
  go_enter Try.func10, Try.ntmps10
  go_upto_region 1 with fail
  generalize hW : World.alloc _ _ = W
  have BG := Lib.hid (show CfgBox W w.heap.size ⟨a, b, p, n, s⟩ from by rw [← hW]; exact CfgBox.n2a _ ⟨a, b, p, n, s⟩ _ _ rfl)
  have BW := Lib.hid (show Blk W (w.heap.size + 1) 29 #[nil0, nil0] from by rw [← hW]; exact Blk.new' _ _ _ (by simp))
  have HB := Lib.hid (show Below w.heap.size w W from by rw [← hW]; exact ((Below.refl _ _).alloc (Nat.le_refl _) _).alloc (by simp) _)
  clear hW
  have hgl := BG.out.has
  have hwl := BW.out.lt
  obtain ⟨g0, g1, g2, g3, g4, -⟩ := BG.out
  have w0 : W.cell? ⟨w.heap.size + 1, 0, none⟩ = some (.slice none 0 0) := BW.out.cell 0
  have w1 : W.cell? ⟨w.heap.size + 1, 1, none⟩ = some (.slice none 0 0) := BW.out.cell 1
  have wf0 := BW.out.frozen 0
  have wf1 := BW.out.frozen 1
  refine tail_region (S := (fun w' => (∀ b o, b < (W).heap.size → w'.cell? ⟨b, o, none⟩ = (W).cell? ⟨b, o, none⟩) ∧ (∀ b o, b < (W).heap.size → w'.frozen? ⟨b, o, none⟩ = (W).frozen? ⟨b, o, none⟩) ∧ Below (W).heap.size (W) w')) 7 (.free 0 (.free 3 (.one 1 (.two 2 (.one 4 (.one 5 (.free 6 .tail))) 4 (.two 2 (.one 5 (.free 6 .tail)) 5 (.one 2 (.free 6 .tail))))))) (by kernel_rfl) (by kernel_rfl) (fun _ _ d _ _ h => by cases d <;> exact h) (keepW0 _) (fun hS => ?_)
  simp only [writtenT, List.drop_succ_cons, List.drop_zero, List.getElem?_cons_succ, List.getElem?_cons_zero]
  refine rz_free (v := ?_) (by rfl) ?_ ?_
  rotate_left 1
  focus (intro w hSw; (try dsimp only at hSw); go_simp; (try with_reducible rfl))
  (try simp only [Act.put, List.setIfInBounds_toArray, List.set_cons_zero, List.set_cons_succ])
  refine rz_free (v := ?_) (by rfl) ?_ ?_
  rotate_left 1
  focus (intro w hSw; (try dsimp only at hSw); go_simp; (try with_reducible rfl))
  (try simp only [Act.put, List.setIfInBounds_toArray, List.set_cons_zero, List.set_cons_succ])
  refine rz_call (by rfl) (fun K hK => ?_)
  go_simp
  (refine (HR.out _).mono ?_; rintro e w4 ⟨rfl, hb4⟩)
  (try go_wp2_with fail)
  refine hK.out _ _ ?_ (fun hS' => ?_)
  · (try dsimp only); first | exact keepW (by assumption) (by assumption) | exact keepB (by assumption) (by assumption) | exact keepA (by assumption) | assumption
  clear hS hK K
  have hS := hS'
  clear hS'
  (try simp only [Act.put, List.setIfInBounds_toArray, List.set_cons_zero, List.set_cons_succ])
  refine rz_two ?_ ?_
  · skip
    refine rz_call (by rfl) (fun K hK => ?_)
    go_simp
    (simp only [Hm1.out]; generalize hG1 : World.alloc _ _ = wm1; obtain ⟨hrow1, hbm1⟩ := row_reg HR16.out hG1; clear hG1)
    (try go_wp2_with fail)
    refine hK.out _ _ ?_ (fun hS' => ?_)
    · (try dsimp only); first | exact keepOf (nextW hS.2.2 hbm1) | exact keepOf (nextW hS.2.2 hbm2)
    clear hS hK K
    have hS := hS'
    clear hS'
    (try simp only [Act.put, List.setIfInBounds_toArray, List.set_cons_zero, List.set_cons_succ])
    refine rz_call (by rfl) (fun K hK => ?_)
    go_simp
    (refine (HR.out _).mono ?_; rintro e w7 ⟨rfl, hb7⟩)
    (try go_wp2_with fail)
    refine hK.out _ _ ?_ (fun hS' => ?_)
    · (try dsimp only); first | exact keepW (by assumption) (by assumption) | exact keepB (by assumption) (by assumption) | exact keepA (by assumption) | assumption
    clear hS hK K
    have hS := hS'
    clear hS'
    (try simp only [Act.put, List.setIfInBounds_toArray, List.set_cons_zero, List.set_cons_succ])
    refine rz_call (by rfl) (fun K hK => ?_)
    go_simp
    (simp only [Hm2.out]; generalize hG2 : World.alloc _ _ = wm2; obtain ⟨hrow2, hbm2⟩ := row_out HR16.out hG2; clear hG2)
    (try go_wp2_with fail)
    refine hK.out _ _ ?_ (fun hS' => ?_)
    · (try dsimp only); first | exact keepOf (nextW hS.2.2 hbm1) | exact keepOf (nextW hS.2.2 hbm2)
    clear hS hK K
    have hS := hS'
    clear hS'
    (try simp only [Act.put, List.setIfInBounds_toArray, List.set_cons_zero, List.set_cons_succ])
    refine rz_free (v := ?_) (by rfl) ?_ ?_
    rotate_left 1
    focus (intro w hSw; (try dsimp only at hSw); go_simp; (try with_reducible rfl))
    (try simp only [Act.put, List.setIfInBounds_toArray, List.set_cons_zero, List.set_cons_succ])
    refine rz_done ?_
    have HS := Lib.hid hS.2.2
    obtain ⟨hSc, hSf, -⟩ := hS
    go_wp2
    have BWq := BW.out.below HS.out BW.out.lt
    have q0 : _ = some nil0 := BWq.cell 0
    have q1 : _ = some nil0 := BWq.cell 1
    refine bodyPost_ret (v := _) (by simp [results, Try.results10, go_sem, q0, q1]; exact ⟨rfl, rfl⟩) rfl ⟨⟨_, _, rfl, ?_, ?_⟩, ?_⟩
    · first | exact own_wbox ((own_below (own_below hrow1 hb7) hbm2).mono (by have h1 := HB.out.size; have h2 := hb4.size; have h3 := hb7.size; have h4 := hbm1.size; have h5 := hbm2.size; simp at h2 h3 h4 h5; omega)) BWq (by decide) _ _ | exact own_wbox ((own_below hrow1 hbm2).mono (by have h1 := HB.out.size; have h2 := hb4.size; have h3 := hb7.size; have h4 := hbm1.size; have h5 := hbm2.size; simp at h2 h3 h4 h5; omega)) BWq (by decide) _ _ | exact own_wbox (hrow1.mono (by have h1 := HB.out.size; have h2 := hb4.size; have h3 := hb7.size; have h4 := hbm1.size; have h5 := hbm2.size; simp at h2 h3 h4 h5; omega)) BWq (by decide) _ _
    · first | exact own_wbox (hrow2.mono (by have h1 := HB.out.size; have h2 := hb4.size; have h3 := hb7.size; have h4 := hbm1.size; have h5 := hbm2.size; simp at h2 h3 h4 h5; omega)) BWq (by decide) _ _ | exact own_wbox ((own_below hrow2 hbm1).mono (by have h1 := HB.out.size; have h2 := hb4.size; have h3 := hb7.size; have h4 := hbm1.size; have h5 := hbm2.size; simp at h2 h3 h4 h5; omega)) BWq (by decide) _ _
    · exact ((nextW HB.out HS.out).setCell (Nat.le_succ _) _).setCell (Nat.le_succ _) _
  · skip
    refine rz_call (by rfl) (fun K hK => ?_)
    go_simp
    (refine (HR.out _).mono ?_; rintro e w7 ⟨rfl, hb7⟩)
    (try go_wp2_with fail)
    refine hK.out _ _ ?_ (fun hS' => ?_)
    · (try dsimp only); first | exact keepW (by assumption) (by assumption) | exact keepB (by assumption) (by assumption) | exact keepA (by assumption) | assumption
    clear hS hK K
    have hS := hS'
    clear hS'
    (try simp only [Act.put, List.setIfInBounds_toArray, List.set_cons_zero, List.set_cons_succ])
    refine rz_two ?_ ?_
    · skip
      refine rz_call (by rfl) (fun K hK => ?_)
      go_simp
      (simp only [Hm1.out]; generalize hG1 : World.alloc _ _ = wm1; obtain ⟨hrow1, hbm1⟩ := row_reg HR16.out hG1; clear hG1)
      (try go_wp2_with fail)
      refine hK.out _ _ ?_ (fun hS' => ?_)
      · (try dsimp only); first | exact keepOf (nextW hS.2.2 hbm1) | exact keepOf (nextW hS.2.2 hbm2)
      clear hS hK K
      have hS := hS'
      clear hS'
      (try simp only [Act.put, List.setIfInBounds_toArray, List.set_cons_zero, List.set_cons_succ])
      refine rz_call (by rfl) (fun K hK => ?_)
      go_simp
      (simp only [Hm2.out]; generalize hG2 : World.alloc _ _ = wm2; obtain ⟨hrow2, hbm2⟩ := row_out HR16.out hG2; clear hG2)
      (try go_wp2_with fail)
      refine hK.out _ _ ?_ (fun hS' => ?_)
      · (try dsimp only); first | exact keepOf (nextW hS.2.2 hbm1) | exact keepOf (nextW hS.2.2 hbm2)
      clear hS hK K
      have hS := hS'
      clear hS'
      (try simp only [Act.put, List.setIfInBounds_toArray, List.set_cons_zero, List.set_cons_succ])
      refine rz_free (v := ?_) (by rfl) ?_ ?_
      rotate_left 1
      focus (intro w hSw; (try dsimp only at hSw); go_simp; (try with_reducible rfl))
      (try simp only [Act.put, List.setIfInBounds_toArray, List.set_cons_zero, List.set_cons_succ])
      refine rz_done ?_
      have HS := Lib.hid hS.2.2
      obtain ⟨hSc, hSf, -⟩ := hS
      go_wp2
      have BWq := BW.out.below HS.out BW.out.lt
      have q0 : _ = some nil0 := BWq.cell 0
      have q1 : _ = some nil0 := BWq.cell 1
      refine bodyPost_ret (v := _) (by simp [results, Try.results10, go_sem, q0, q1]; exact ⟨rfl, rfl⟩) rfl ⟨⟨_, _, rfl, ?_, ?_⟩, ?_⟩
      · first | exact own_wbox ((own_below (own_below hrow1 hb7) hbm2).mono (by have h1 := HB.out.size; have h2 := hb4.size; have h3 := hb7.size; have h4 := hbm1.size; have h5 := hbm2.size; simp at h2 h3 h4 h5; omega)) BWq (by decide) _ _ | exact own_wbox ((own_below hrow1 hbm2).mono (by have h1 := HB.out.size; have h2 := hb4.size; have h3 := hb7.size; have h4 := hbm1.size; have h5 := hbm2.size; simp at h2 h3 h4 h5; omega)) BWq (by decide) _ _ | exact own_wbox (hrow1.mono (by have h1 := HB.out.size; have h2 := hb4.size; have h3 := hb7.size; have h4 := hbm1.size; have h5 := hbm2.size; simp at h2 h3 h4 h5; omega)) BWq (by decide) _ _
      · first | exact own_wbox (hrow2.mono (by have h1 := HB.out.size; have h2 := hb4.size; have h3 := hb7.size; have h4 := hbm1.size; have h5 := hbm2.size; simp at h2 h3 h4 h5; omega)) BWq (by decide) _ _ | exact own_wbox ((own_below hrow2 hbm1).mono (by have h1 := HB.out.size; have h2 := hb4.size; have h3 := hb7.size; have h4 := hbm1.size; have h5 := hbm2.size; simp at h2 h3 h4 h5; omega)) BWq (by decide) _ _
      · exact ((nextW HB.out HS.out).setCell (Nat.le_succ _) _).setCell (Nat.le_succ _) _
    · skip
      refine rz_call (by rfl) (fun K hK => ?_)
      go_simp
      (simp only [Hm2.out]; generalize hG2 : World.alloc _ _ = wm2; obtain ⟨hrow2, hbm2⟩ := row_out HR16.out hG2; clear hG2)
      (try go_wp2_with fail)
      refine hK.out _ _ ?_ (fun hS' => ?_)
      · (try dsimp only); first | exact keepOf (nextW hS.2.2 hbm1) | exact keepOf (nextW hS.2.2 hbm2)
      clear hS hK K
      have hS := hS'
      clear hS'
      (try simp only [Act.put, List.setIfInBounds_toArray, List.set_cons_zero, List.set_cons_succ])
      refine rz_call (by rfl) (fun K hK => ?_)
      go_simp
      (simp only [Hm1.out]; generalize hG1 : World.alloc _ _ = wm1; obtain ⟨hrow1, hbm1⟩ := row_reg HR16.out hG1; clear hG1)
      (try go_wp2_with fail)
      refine hK.out _ _ ?_ (fun hS' => ?_)
      · (try dsimp only); first | exact keepOf (nextW hS.2.2 hbm1) | exact keepOf (nextW hS.2.2 hbm2)
      clear hS hK K
      have hS := hS'
      clear hS'
      (try simp only [Act.put, List.setIfInBounds_toArray, List.set_cons_zero, List.set_cons_succ])
      refine rz_free (v := ?_) (by rfl) ?_ ?_
      rotate_left 1
      focus (intro w hSw; (try dsimp only at hSw); go_simp; (try with_reducible rfl))
      (try simp only [Act.put, List.setIfInBounds_toArray, List.set_cons_zero, List.set_cons_succ])
      refine rz_done ?_
      have HS := Lib.hid hS.2.2
      obtain ⟨hSc, hSf, -⟩ := hS
      go_wp2
      have BWq := BW.out.below HS.out BW.out.lt
      have q0 : _ = some nil0 := BWq.cell 0
      have q1 : _ = some nil0 := BWq.cell 1
      refine bodyPost_ret (v := _) (by simp [results, Try.results10, go_sem, q0, q1]; exact ⟨rfl, rfl⟩) rfl ⟨⟨_, _, rfl, ?_, ?_⟩, ?_⟩
      · first | exact own_wbox ((own_below (own_below hrow1 hb7) hbm2).mono (by have h1 := HB.out.size; have h2 := hb4.size; have h3 := hb7.size; have h4 := hbm1.size; have h5 := hbm2.size; simp at h2 h3 h4 h5; omega)) BWq (by decide) _ _ | exact own_wbox ((own_below hrow1 hbm2).mono (by have h1 := HB.out.size; have h2 := hb4.size; have h3 := hb7.size; have h4 := hbm1.size; have h5 := hbm2.size; simp at h2 h3 h4 h5; omega)) BWq (by decide) _ _ | exact own_wbox (hrow1.mono (by have h1 := HB.out.size; have h2 := hb4.size; have h3 := hb7.size; have h4 := hbm1.size; have h5 := hbm2.size; simp at h2 h3 h4 h5; omega)) BWq (by decide) _ _
      · first | exact own_wbox (hrow2.mono (by have h1 := HB.out.size; have h2 := hb4.size; have h3 := hb7.size; have h4 := hbm1.size; have h5 := hbm2.size; simp at h2 h3 h4 h5; omega)) BWq (by decide) _ _ | exact own_wbox ((own_below hrow2 hbm1).mono (by have h1 := HB.out.size; have h2 := hb4.size; have h3 := hb7.size; have h4 := hbm1.size; have h5 := hbm2.size; simp at h2 h3 h4 h5; omega)) BWq (by decide) _ _
      · exact ((nextW HB.out HS.out).setCell (Nat.le_succ _) _).setCell (Nat.le_succ _) _

end Go.Proofs.Ytfpofegfbinalaa.Fx
