/- A row of inputs that do nothing; layer 9's awake. Rows known whole, as lists. -/
import Derived.Test.YtbblpnmcbifocaaGreatM38
import Derived.Test.YtbblpnmcbifocaaGreatM08
import Derived.Test.YtbblpnmcbifocaaGreatM15
namespace Go.Proofs.YtbblpnmcbifocaaGreat.Fx
open Go.ChangeShapes Go.WideShapes Go.ChangeAt Go.RowKit
set_option linter.unusedVariables false
set_option maxRecDepth 100000

/-- An input that does nothing. -/
def inp0 : Inp := ⟨0, 0, false⟩

theorem made_inp (n : Nat) : (madeCells (Value.cells (.agg #[.int .i64 0, .int .i64 0, .bool false])) (n * 3)) = ((List.replicate n inp0).flatMap inpC).toArray := by
  apply Array.ext'
  apply List.ext_getElem?
  intro i
  rw [show i = i / 3 * 3 + i % 3 by omega, flat_get inpC 3 (fun _ => rfl) _ _ _ (Nat.mod_lt _ (by omega))]
  by_cases hi : i / 3 < n
  · rw [List.getElem?_replicate, if_pos hi]
    have h : i / 3 * 3 + i % 3 < n * 3 := by omega
    simp only [madeCells, Array.toList_map, Array.toList_range, List.getElem?_map, List.getElem?_range h]
    have hm : (i / 3 * 3 + i % 3) % 3 = i % 3 := by omega
    have h3 : i % 3 = 0 ∨ i % 3 = 1 ∨ i % 3 = 2 := by omega
    rcases h3 with h3 | h3 | h3 <;> simp [Value.cells, h3, inpC, inp0]
  · rw [List.getElem?_replicate, if_neg hi]
    have h : n * 3 ≤ i / 3 * 3 + i % 3 := by omega
    rw [List.getElem?_eq_none (by simp [madeCells]; exact h)]
    rfl

theorem make_inp (n : Nat) (hn : n ≤ 1000) (w : World) : (Instr.makeSlice 26 (.int .i64 (n : Int)) (.int .i64 (n : Int))).run Tryz.prog w = .ok (.slice (some ⟨w.heap.size, 0, none⟩) n n) (w.alloc (.cells ((List.replicate n inp0).flatMap inpC).toArray 61)) := by
  obtain ⟨i0, hi, hz0, hz1, hz2⟩ := info_parts info_Inp
  have hr := run_make (P := Tryz.prog) w 26 61 i0 _ Tryz.underlying26 hi hz0 .i64 .i64 n n (by omega) (Int.le_refl _) (by rw [hz2]; omega) (by omega)
  rw [hz1, Int.toNat_natCast, made_inp] at hr
  exact hr

theorem make_row (n : Nat) (hn : n ≤ 1000) (w : World) (base : Nat) (hb : base ≤ w.heap.size) : (w.alloc (.cells ((List.replicate n inp0).flatMap inpC).toArray 61)).ownsRow base 61 3 (.slice (some ⟨w.heap.size, 0, none⟩) n n) (List.replicate n inp0).length ((List.replicate n inp0).flatMap inpC) := by
  have h := World.ownsRow_lit (size := 3) (e := 61) w (((List.replicate n inp0).flatMap inpC).toArray) n hb (by unfold maxLen; omega) (by rw [List.size_toArray, flat_len inpC 3 (fun _ => rfl), List.length_replicate])
  rw [List.length_replicate]
  exact h

theorem all_rep (n : Nat) : (List.replicate n inp0).all irtI = true := by
  rw [List.all_eq_true]
  intro x hx
  rw [List.eq_of_mem_replicate hx]
  rfl

/-- A region that nothing was put into. -/
def r0 : Reg := ⟨0, .slice none 0 0⟩

theorem zrA (X : World) {g : Nat} (hg : g = X.heap.size) : RegBox (X.alloc (.cells #[.int .i64 0, .slice none 0 0] 38)) g r0 := hg ▸ RegBox.n1 X r0 _ rfl

theorem zrB (X : World) {g : Nat} (hg : g = X.heap.size) : RegBox (X.alloc (.cells #[.int .i64 0, .slice none 0 0] 38)).drew g r0 := (zrA X hg).drew

theorem zrC (X : World) (o : Obj) {g : Nat} (hg : g = X.heap.size) : RegBox ((X.alloc (.cells #[.int .i64 0, .slice none 0 0] 38)).alloc o) g r0 := (zrA X hg).alloc (zrA X hg).has o

theorem zrD (X : World) (o : Obj) {g : Nat} (hg : g = X.heap.size) : RegBox ((X.alloc (.cells #[.int .i64 0, .slice none 0 0] 38)).alloc o).drew g r0 := (zrC X o hg).drew

theorem below_swap {B : Nat} {W w : World} {o o' : Obj} (h : Below B W (w.alloc o)) (hle : B ≤ w.heap.size) : Below B W (w.alloc o') := by
  refine ⟨h.os, h.tape, h.output, by have := h.size; simp at this ⊢; exact this, fun k hk => ?_⟩
  have := h.block k hk
  rw [heap_alloc_old w o (show k < w.heap.size by omega)] at this
  rw [heap_alloc_old w o' (show k < w.heap.size by omega)]
  exact this

theorem zrow1 (X : World) {g : Nat} (hg : g = X.heap.size) : IsSl inpC (X.alloc (.cells #[.int .i64 0, .int .i64 0, .bool false] 61)) (.slice (some ⟨g, 0, none⟩) 1 1) [inp0] := hg ▸ owned_sl (make_row 1 (by omega) X 0 (Nat.zero_le _))

theorem zrow1D (X : World) {g : Nat} (hg : g = X.heap.size) : IsSl inpC (X.alloc (.cells #[.int .i64 0, .int .i64 0, .bool false] 61)).drew (.slice (some ⟨g, 0, none⟩) 1 1) [inp0] := (zrow1 X hg).below (Below.refl _ _).drew

theorem zrow1A (X : World) (o : Obj) {g : Nat} (hg : g = X.heap.size) : IsSl inpC ((X.alloc (.cells #[.int .i64 0, .int .i64 0, .bool false] 61)).alloc o) (.slice (some ⟨g, 0, none⟩) 1 1) [inp0] := (zrow1 X hg).below ((Below.refl _ _).alloc (Nat.le_refl _) _)

theorem zrow1E (X : World) (o : Obj) {g : Nat} (hg : g = X.heap.size) : IsSl inpC ((X.alloc (.cells #[.int .i64 0, .int .i64 0, .bool false] 61)).alloc o).drew (.slice (some ⟨g, 0, none⟩) 1 1) [inp0] := (zrow1A X o hg).below (Below.refl _ _).drew

set_option maxHeartbeats 4000000 in
theorem awake_rg (w : World) : Calls Tryz.prog 15 #[] w fun e w' => e = .returned (.bool true) ∧ Below w.heap.size w w' := by
  have HN := Lib.hid (fun w => new_yes 1 1 1 1 0 w (by decide))
  have hmk : ∀ w, (Instr.makeSlice 26 (.int .i64 1) (.int .i64 1)).run Tryz.prog w = .ok (.slice (some ⟨w.heap.size, 0, none⟩) 1 1) (w.alloc (.cells #[.int .i64 0, .int .i64 0, .bool false] 61)) := fun w => make_inp 1 (by omega) w
  have Hmk := Lib.hid hmk
  have hq : whyNot 1 1 1 1 0 3 [] [inp0] [] = 0 := by decide
  have HS := Lib.hid (fun w v hv => rgstep_yes 1 1 1 1 0 0 3 (by omega) (.slice none 0 0) [] v [inp0] (.slice none 0 0) [] w (IsSl.nil _ _) (by simp) hv (by simp) (IsSl.nil _ _) (by simp) 4 _ _ hq rfl rfl rfl)
  have HR := Lib.hid (fun w => rgright_any 1 1 1 1 0 0 0 (.slice none 0 0) [] w (IsSl.nil _ _) (by simp))
  rw [show rgB 1 1 1 1 0 0 [] = true from by decide] at HR
  generalize stayL 1 1 1 1 0 0 3 (inpOf [inp0]) [] [] = X at *
  generalize st lessB (outsL 1 1 1 1 0 0 3 (inpOf [inp0]) [] []) = Y at *
  clear hmk hq
  go_enter Tryz.func15, Tryz.ntmps15
  go_wp2_with fail
  refine (HN.out _).mono ?_
  rintro e w1 ⟨rfl, hb1⟩
  have HB := Lib.hid hb1
  clear hb1
  go_upto_region 2 with fail
  generalize hW : World.alloc _ _ = W
  have BG := Lib.hid (show CfgBox W w1.heap.size ⟨1, 1, 1, 1, 0⟩ from by rw [← hW]; exact CfgBox.n1 _ ⟨1, 1, 1, 1, 0⟩ _ rfl)
  replace HB := Lib.hid (show Below w.heap.size w W from by rw [← hW]; exact HB.out.alloc HB.out.size _)
  clear hW
  have hgg := BG.out.has
  obtain ⟨g0, g1, g2, g3, g4, -⟩ := BG.out
  go_cut [3, 4, 5] (fun s3 s4 s5 wx => ∃ blk vl, s3 = .pointer (some ⟨blk, 0, none⟩) ∧ s5 = .int .i64 0 ∧ RegBox wx blk ⟨4, vl⟩ ∧ Below W.heap.size W wx)
  case first =>
    refine tree_region (S := (fun w' => (∀ b o, b < (W).heap.size → w'.cell? ⟨b, o, none⟩ = (W).cell? ⟨b, o, none⟩) ∧ (∀ b o, b < (W).heap.size → w'.frozen? ⟨b, o, none⟩ = (W).frozen? ⟨b, o, none⟩) ∧ Below (W).heap.size (W) w')) (.free 0 (.free 1 (.two 2 (.two 3 (.free 4 (.free 5 (.free 6 (.free 7 (.one 8 (.one 9 (.free 10 (.free 11 .done)))))))) 8 (.one 3 (.free 4 (.free 5 (.free 6 (.free 7 (.one 9 (.free 10 (.free 11 .done))))))))) 8 (.one 2 (.one 3 (.free 4 (.free 5 (.free 6 (.free 7 (.one 9 (.free 10 (.free 11 .done)))))))))))) (by kernel_rfl) (by kernel_rfl) (fun _ _ d _ _ h => by cases d <;> exact h) (keepW0 _) (fun hS => ?_)
    simp only [written, List.getElem?_cons_succ, List.getElem?_cons_zero]
    refine rw_free (v := ?_) (by rfl) ?_ ?_; rotate_left 1; focus (intro w hSw; (try dsimp only at hSw); go_simp; (try with_reducible rfl))
    (try simp only [Act.put, tA, tB, tC])
    refine rw_free (v := ?_) (by rfl) ?_ ?_; rotate_left 1; focus (intro w hSw; (try dsimp only at hSw); go_simp; (try with_reducible rfl))
    (try simp only [Act.put, tA, tB, tC])
    refine rw_two ?_ ?_
    · skip
      refine rw_call (by rfl) (fun K hK => ?_)
      go_simp
      (simp only [Hmk.out])
      (try go_wp2_with fail)
      refine hK.out _ _ ?_ (fun hS' => ?_)
      · (try dsimp only); first | exact keepW (by assumption) (by assumption) | exact keepB (by assumption) (by assumption) | exact keepA (by assumption) | assumption
      clear hS hK K
      have hS := hS'
      clear hS'
      (try simp only [Act.put, tA, tB, tC])
      refine rw_two ?_ ?_
      · skip
        refine rw_call (by rfl) (fun K hK => ?_)
        go_simp
        (refine (HS.out _ _ (by first | with_reducible exact zrow1 _ (by simp) | with_reducible exact zrow1D _ (by simp) | with_reducible exact zrow1A _ _ (by simp) | with_reducible exact zrow1E _ _ (by simp))).mono ?_; rintro e w5 ⟨⟨vl, vo, rfl, ho5, ho6⟩, hb5⟩; obtain ⟨A5, n5, rfl, -⟩ := owned_sl ho5)
        (try go_wp2_with fail)
        refine hK.out _ _ ?_ (fun hS' => ?_)
        · (try dsimp only); first | exact keepW (by assumption) (by assumption) | exact keepB (by assumption) (by assumption) | exact keepA (by assumption) | assumption
        clear hS hK K
        have hS := hS'
        clear hS'
        (try simp only [Act.put, tA, tB, tC])
        refine rw_free (v := ?_) (by rfl) ?_ ?_; rotate_left 1; focus (intro w hSw; (try dsimp only at hSw); go_simp; (try with_reducible rfl))
        (try simp only [Act.put, tA, tB, tC])
        refine rw_free (v := ?_) (by rfl) ?_ ?_; rotate_left 1; focus (intro w hSw; (try dsimp only at hSw); go_simp; (try with_reducible rfl))
        (try simp only [Act.put, tA, tB, tC])
        refine rw_free (v := ?_) (by rfl) ?_ ?_; rotate_left 1; focus (intro w hSw; (try dsimp only at hSw); go_simp; (try with_reducible rfl))
        (try simp only [Act.put, tA, tB, tC])
        refine rw_free (v := ?_) (by rfl) ?_ ?_; rotate_left 1; focus (intro w hSw; (try dsimp only at hSw); go_simp; (try with_reducible rfl))
        (try simp only [Act.put, tA, tB, tC])
        refine rw_call (by rfl) (fun K hK => ?_)
        go_simp
        (skip)
        (try go_wp2_with fail)
        refine hK.out _ _ ?_ (fun hS' => ?_)
        · (try dsimp only); first | exact keepW (by assumption) (by assumption) | exact keepB (by assumption) (by assumption) | exact keepA (by assumption) | assumption
        clear hS hK K
        have hS := hS'
        clear hS'
        (try simp only [Act.put, tA, tB, tC])
        first | (with_reducible have hs := (by first | exact RegBox.nx (zrA _ rfl) hb5 | exact RegBox.nx (zrB _ rfl) hb5 | exact RegBox.nx (zrC _ _ rfl) hb5 | exact RegBox.nx (zrD _ _ rfl) hb5 : RegBox w5 _ r0); (try simp only [World.size_alloc] at hs); have Hs := Lib.hid hs; obtain ⟨n0, n1, m0, m1⟩ := hs) | skip
        refine rw_call (by rfl) (fun K hK => ?_)
        go_simp
        (skip)
        (try go_wp2_with fail)
        refine hK.out _ _ ?_ (fun hS' => ?_)
        · (try dsimp only); first | (have _h := Hs.out; exact keepOf (RegBox.bel hS.2.2 ⟨4, _⟩ (by first | exact Nat.le_refl _ | simp) rfl)) | exact keepOf (below_swap hS.2.2 (by have := hb5.size; simp at this; omega))
        clear hS hK K
        have hS := hS'
        clear hS'
        (try simp only [Act.put, tA, tB, tC])
        refine rw_free (v := ?_) (by rfl) ?_ ?_; rotate_left 1; focus (intro w hSw; (try dsimp only at hSw); go_simp; (try with_reducible rfl))
        (try simp only [Act.put, tA, tB, tC])
        refine rw_free (v := ?_) (by rfl) ?_ ?_; rotate_left 1; focus (intro w hSw; (try dsimp only at hSw); go_simp; (try with_reducible rfl))
        (try simp only [Act.put, tA, tB, tC])
        refine rw_done ?_
        (try clear n0 n1 m0 m1)
        go_wp2_with fail
        go_meet
        exact ⟨_, _, rfl, rfl, (by first | (have _h := Hs.out; exact _h.put ⟨4, _⟩) | exact RegBox.n1 _ ⟨4, _⟩ _ rfl), hS.2.2⟩
      · skip
        refine rw_call (by rfl) (fun K hK => ?_)
        go_simp
        (skip)
        (try go_wp2_with fail)
        refine hK.out _ _ ?_ (fun hS' => ?_)
        · (try dsimp only); first | exact keepW (by assumption) (by assumption) | exact keepB (by assumption) (by assumption) | exact keepA (by assumption) | assumption
        clear hS hK K
        have hS := hS'
        clear hS'
        (try simp only [Act.put, tA, tB, tC])
        refine rw_call (by rfl) (fun K hK => ?_)
        go_simp
        (refine (HS.out _ _ (by first | with_reducible exact zrow1 _ (by simp) | with_reducible exact zrow1D _ (by simp) | with_reducible exact zrow1A _ _ (by simp) | with_reducible exact zrow1E _ _ (by simp))).mono ?_; rintro e w5 ⟨⟨vl, vo, rfl, ho5, ho6⟩, hb5⟩; obtain ⟨A5, n5, rfl, -⟩ := owned_sl ho5)
        (try go_wp2_with fail)
        refine hK.out _ _ ?_ (fun hS' => ?_)
        · (try dsimp only); first | exact keepW (by assumption) (by assumption) | exact keepB (by assumption) (by assumption) | exact keepA (by assumption) | assumption
        clear hS hK K
        have hS := hS'
        clear hS'
        (try simp only [Act.put, tA, tB, tC])
        refine rw_free (v := ?_) (by rfl) ?_ ?_; rotate_left 1; focus (intro w hSw; (try dsimp only at hSw); go_simp; (try with_reducible rfl))
        (try simp only [Act.put, tA, tB, tC])
        refine rw_free (v := ?_) (by rfl) ?_ ?_; rotate_left 1; focus (intro w hSw; (try dsimp only at hSw); go_simp; (try with_reducible rfl))
        (try simp only [Act.put, tA, tB, tC])
        refine rw_free (v := ?_) (by rfl) ?_ ?_; rotate_left 1; focus (intro w hSw; (try dsimp only at hSw); go_simp; (try with_reducible rfl))
        (try simp only [Act.put, tA, tB, tC])
        refine rw_free (v := ?_) (by rfl) ?_ ?_; rotate_left 1; focus (intro w hSw; (try dsimp only at hSw); go_simp; (try with_reducible rfl))
        (try simp only [Act.put, tA, tB, tC])
        first | (with_reducible have hs := (by first | exact RegBox.nx (zrA _ rfl) hb5 | exact RegBox.nx (zrB _ rfl) hb5 | exact RegBox.nx (zrC _ _ rfl) hb5 | exact RegBox.nx (zrD _ _ rfl) hb5 : RegBox w5 _ r0); (try simp only [World.size_alloc] at hs); have Hs := Lib.hid hs; obtain ⟨n0, n1, m0, m1⟩ := hs) | skip
        refine rw_call (by rfl) (fun K hK => ?_)
        go_simp
        (skip)
        (try go_wp2_with fail)
        refine hK.out _ _ ?_ (fun hS' => ?_)
        · (try dsimp only); first | (have _h := Hs.out; exact keepOf (RegBox.bel hS.2.2 ⟨4, _⟩ (by first | exact Nat.le_refl _ | simp) rfl)) | exact keepOf (below_swap hS.2.2 (by have := hb5.size; simp at this; omega))
        clear hS hK K
        have hS := hS'
        clear hS'
        (try simp only [Act.put, tA, tB, tC])
        refine rw_free (v := ?_) (by rfl) ?_ ?_; rotate_left 1; focus (intro w hSw; (try dsimp only at hSw); go_simp; (try with_reducible rfl))
        (try simp only [Act.put, tA, tB, tC])
        refine rw_free (v := ?_) (by rfl) ?_ ?_; rotate_left 1; focus (intro w hSw; (try dsimp only at hSw); go_simp; (try with_reducible rfl))
        (try simp only [Act.put, tA, tB, tC])
        refine rw_done ?_
        (try clear n0 n1 m0 m1)
        go_wp2_with fail
        go_meet
        exact ⟨_, _, rfl, rfl, (by first | (have _h := Hs.out; exact _h.put ⟨4, _⟩) | exact RegBox.n1 _ ⟨4, _⟩ _ rfl), hS.2.2⟩
    · skip
      refine rw_call (by rfl) (fun K hK => ?_)
      go_simp
      (skip)
      (try go_wp2_with fail)
      refine hK.out _ _ ?_ (fun hS' => ?_)
      · (try dsimp only); first | exact keepW (by assumption) (by assumption) | exact keepB (by assumption) (by assumption) | exact keepA (by assumption) | assumption
      clear hS hK K
      have hS := hS'
      clear hS'
      (try simp only [Act.put, tA, tB, tC])
      refine rw_call (by rfl) (fun K hK => ?_)
      go_simp
      (simp only [Hmk.out])
      (try go_wp2_with fail)
      refine hK.out _ _ ?_ (fun hS' => ?_)
      · (try dsimp only); first | exact keepW (by assumption) (by assumption) | exact keepB (by assumption) (by assumption) | exact keepA (by assumption) | assumption
      clear hS hK K
      have hS := hS'
      clear hS'
      (try simp only [Act.put, tA, tB, tC])
      refine rw_call (by rfl) (fun K hK => ?_)
      go_simp
      (refine (HS.out _ _ (by first | with_reducible exact zrow1 _ (by simp) | with_reducible exact zrow1D _ (by simp) | with_reducible exact zrow1A _ _ (by simp) | with_reducible exact zrow1E _ _ (by simp))).mono ?_; rintro e w5 ⟨⟨vl, vo, rfl, ho5, ho6⟩, hb5⟩; obtain ⟨A5, n5, rfl, -⟩ := owned_sl ho5)
      (try go_wp2_with fail)
      refine hK.out _ _ ?_ (fun hS' => ?_)
      · (try dsimp only); first | exact keepW (by assumption) (by assumption) | exact keepB (by assumption) (by assumption) | exact keepA (by assumption) | assumption
      clear hS hK K
      have hS := hS'
      clear hS'
      (try simp only [Act.put, tA, tB, tC])
      refine rw_free (v := ?_) (by rfl) ?_ ?_; rotate_left 1; focus (intro w hSw; (try dsimp only at hSw); go_simp; (try with_reducible rfl))
      (try simp only [Act.put, tA, tB, tC])
      refine rw_free (v := ?_) (by rfl) ?_ ?_; rotate_left 1; focus (intro w hSw; (try dsimp only at hSw); go_simp; (try with_reducible rfl))
      (try simp only [Act.put, tA, tB, tC])
      refine rw_free (v := ?_) (by rfl) ?_ ?_; rotate_left 1; focus (intro w hSw; (try dsimp only at hSw); go_simp; (try with_reducible rfl))
      (try simp only [Act.put, tA, tB, tC])
      refine rw_free (v := ?_) (by rfl) ?_ ?_; rotate_left 1; focus (intro w hSw; (try dsimp only at hSw); go_simp; (try with_reducible rfl))
      (try simp only [Act.put, tA, tB, tC])
      first | (with_reducible have hs := (by first | exact RegBox.nx (zrA _ rfl) hb5 | exact RegBox.nx (zrB _ rfl) hb5 | exact RegBox.nx (zrC _ _ rfl) hb5 | exact RegBox.nx (zrD _ _ rfl) hb5 : RegBox w5 _ r0); (try simp only [World.size_alloc] at hs); have Hs := Lib.hid hs; obtain ⟨n0, n1, m0, m1⟩ := hs) | skip
      refine rw_call (by rfl) (fun K hK => ?_)
      go_simp
      (skip)
      (try go_wp2_with fail)
      refine hK.out _ _ ?_ (fun hS' => ?_)
      · (try dsimp only); first | (have _h := Hs.out; exact keepOf (RegBox.bel hS.2.2 ⟨4, _⟩ (by first | exact Nat.le_refl _ | simp) rfl)) | exact keepOf (below_swap hS.2.2 (by have := hb5.size; simp at this; omega))
      clear hS hK K
      have hS := hS'
      clear hS'
      (try simp only [Act.put, tA, tB, tC])
      refine rw_free (v := ?_) (by rfl) ?_ ?_; rotate_left 1; focus (intro w hSw; (try dsimp only at hSw); go_simp; (try with_reducible rfl))
      (try simp only [Act.put, tA, tB, tC])
      refine rw_free (v := ?_) (by rfl) ?_ ?_; rotate_left 1; focus (intro w hSw; (try dsimp only at hSw); go_simp; (try with_reducible rfl))
      (try simp only [Act.put, tA, tB, tC])
      refine rw_done ?_
      (try clear n0 n1 m0 m1)
      go_wp2_with fail
      go_meet
      exact ⟨_, _, rfl, rfl, (by first | (have _h := Hs.out; exact _h.put ⟨4, _⟩) | exact RegBox.n1 _ ⟨4, _⟩ _ rfl), hS.2.2⟩
  case rest =>
    obtain ⟨be, vl, rfl, rfl, hbe, hb⟩ := hcut
    have Be := Lib.hid hbe
    replace HB := Lib.hid (nextW HB.out hb)
    replace BG := Lib.hid (BG.out.nx hb)
    clear hb hbe g0 g1 g2 g3 g4 hgg HS Hmk
    obtain ⟨g0, g1, g2, g3, g4, -⟩ := BG.out
    obtain ⟨e0, e1, -⟩ := Be.out
    go_wp2_with fail
    refine (HR.out _).mono ?_
    rintro e w6 ⟨rfl, hb6⟩
    replace HB := Lib.hid (nextW HB.out hb6)
    clear hb6
    go_wp2
    go_ret
    exact ⟨rfl, HB.out⟩

end Go.Proofs.YtbblpnmcbifocaaGreat.Fx
namespace Go.Proofs.YtbblpnmcbifocaaGreat.Fx
open Go.ChangeShapes Go.WideShapes Go.ChangeAt Go.RowKit
set_option linter.unusedVariables false
set_option maxRecDepth 100000

theorem sl_blk {α : Type} {enc : α → List Value} {w : World} {g c : Nat} {t : TypeId} {cur : Array Value} {es : List α} (h : Blk w g t cur) (hc : es.length ≤ c) (he : es.flatMap enc <+: cur.toList) : IsSl enc w (.slice (some ⟨g, 0, none⟩) es.length c) es := by
  refine ⟨_, _, rfl, fun h => (by cases h), hc, fun _ => ⟨_, _, rfl, fun i v hv => ?_⟩⟩
  rw [Nat.zero_add, h.cell]
  obtain ⟨t, ht⟩ := he
  have : cur.toList[i]? = some v := by rw [← ht, List.getElem?_append_left (List.getElem?_eq_some_iff.1 hv).1]; exact hv
  simpa using this

end Go.Proofs.YtbblpnmcbifocaaGreat.Fx
