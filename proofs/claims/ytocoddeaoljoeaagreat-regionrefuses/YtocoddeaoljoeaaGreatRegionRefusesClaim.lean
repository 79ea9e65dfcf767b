/- joustlaw09.RegionRefuses returns true for every input; no conditions. -/
import Derived.Test.YtocoddeaoljoeaaGreatM39
import Derived.Test.YtocoddeaoljoeaaGreatM01
import Derived.Test.YtocoddeaoljoeaaGreatRows
import Derived.WalkKit
import Derived.ProofKit
import Derived.OpenShut
import Derived.ShutString
import Derived.ChangeOld
import Derived.Below
namespace Go.Proofs.YtocoddeaoljoeaaGreat.regionRefuses
open Go.ChangeShapes Go.WideShapes Go.ChangeAt Go.RowKit
open Go.ChangeMaps (open_string shut_string)
set_option linter.unusedVariables false
set_option maxRecDepth 100000

theorem own : ownKnob Tryz.prog.godebug = none := by kernel_rfl
theorem laidOut : laidOutB Tryz.prog = true := by kernel_rfl


open Fx

def c0 : Crs := ⟨2, 1, 0, 4, ⟨0, 0, 0, 0, 0, 0, 0, 0, 0⟩, 5, 0⟩

theorem four {w1 : World} {A B C D : Array Value} {t1 t2 t3 t4 : TypeId} : Blk ((((w1.alloc (.cells A t1)).alloc (.cells B t2)).alloc (.cells C t3)).alloc (.cells D t4)) (w1.heap.size + 1) t2 B ∧ Blk ((((w1.alloc (.cells A t1)).alloc (.cells B t2)).alloc (.cells C t3)).alloc (.cells D t4)) (w1.heap.size + 1 + 1) t3 C ∧ Blk ((((w1.alloc (.cells A t1)).alloc (.cells B t2)).alloc (.cells C t3)).alloc (.cells D t4)) (w1.heap.size + 1 + 1 + 1) t4 D := by
  refine ⟨?_, ?_, Blk.new' _ _ _ (by simp)⟩
  · exact ((Blk.new' _ _ _ (by simp)).below ((Below.refl _ _).alloc (Nat.le_refl _) _) (by simp)).below ((Below.refl _ _).alloc (Nat.le_refl _) _) (by simp)
  · exact (Blk.new' _ _ _ (by simp)).below ((Below.refl _ _).alloc (Nat.le_refl _) _) (by simp)

theorem reg_far {w : World} {b p o : Nat} {t : TypeId} {cur : Array Value} (h : Blk w b t cur) (hp : p ≠ b) (v : Value) : Blk (w.setCell ⟨p, o, none⟩ v) b t cur := h.kept (grown_set w p o v) (fun e => hp (Option.some.inj e).symm)

set_option maxRecDepth 100000 in
set_option maxHeartbeats 16000000 in
theorem walk (a0 : Int) (w : World) (w0 : (Lit.int .i64 a0).wf = true) :
    Calls Tryz.prog 5 #[.int .i64 a0] w fun e w' => e = .returned (.bool true) ∧ Below w.heap.size w w' := by
  have HN := Lib.hid (fun w => new_yes 2 1 2 1 0 w (by decide))
  have hmk : ∀ w, (Instr.makeSlice 26 (.int .i64 2) (.int .i64 2)).run Tryz.prog w = .ok (.slice (some ⟨w.heap.size, 0, none⟩) 2 2) (w.alloc (.cells #[.int .i64 0, .int .i64 0, .bool false, .int .i64 0, .int .i64 0, .bool false] 58)) := fun w => make_inp 2 (by omega) w
  have Hmk := Lib.hid hmk
  have HS := Lib.hid (fun r f v l t ins u ib w hv hn ht hk hu hm q F X Y hq hF hX hY => rgstep_any 2 1 2 1 0 r f (by omega) v l t ins u ib w hv hn ht hk hu hm q F X Y hq hF hX hY)
  have HA := Lib.hid awake_rg
  have hq8 : ∃ q, (IntKind.u64.wrap a0).tmod 8 = q ∧ 0 ≤ q ∧ q < 8 := by
    have h1 : 0 ≤ IntKind.u64.wrap a0 := by rw [IntKind.wrap_u64]; omega
    rw [Int.tmod_eq_emod_of_nonneg h1]
    exact ⟨_, rfl, by omega, by omega⟩
  obtain ⟨q, hq, hq0, hq1⟩ := hq8
  clear hmk
  go_enter Tryz.func5, Tryz.ntmps5
  go_wp2_with fail
  refine (HN.out _).mono ?_
  rintro e w1 ⟨rfl, hb1⟩
  have HB := Lib.hid (unbox hb1)
  clear hb1
  go_upto_region 4 with fail
  go_upto_region 5 with (simp only [Hmk.out])
  go_upto_region 8 with fail
  clear hq Hmk HN w0
  generalize hW : World.alloc _ _ = W
  have BG := Lib.hid (show CfgBox W w1.heap.size ⟨2, 1, 2, 1, 0⟩ from by rw [← hW]; exact (CfgBox.n3a _ ⟨2, 1, 2, 1, 0⟩ _ _ _ rfl).alloc (by simp; omega) _)
  have hfour := hW ▸ four (w1 := w1)
  have BS := Lib.hid hfour.1
  have BI := Lib.hid hfour.2.1
  have BC := Lib.hid hfour.2.2
  have hm0 := HB.out.size
  replace HB := Lib.hid (show Below w.heap.size w W from by rw [← hW]; exact (((HB.out.alloc HB.out.size _).alloc (by simp; omega) _).alloc (by simp; omega) _).alloc (by simp; omega) _)
  clear hfour hW
  generalize hm : w1.heap.size = m at *
  clear hm
  have hgg := BG.out.has
  have hss := BS.out.lt
  have hii := BI.out.lt
  have hcc := BC.out.lt
  obtain ⟨g0, g1, g2, g3, g4, -⟩ := BG.out
  have s0 : W.cell? ⟨m + 1, 0, none⟩ = some (.int .i64 5) := BS.out.cell 0
  have s1 : W.cell? ⟨m + 1, 1, none⟩ = some (.slice none 0 0) := BS.out.cell 1
  have i3 : W.cell? ⟨m + 1 + 1, 3, none⟩ = some (.int .i64 0) := BI.out.cell 3
  have c3 : W.cell? ⟨m + 1 + 1 + 1, 3, none⟩ = some (.int .i64 4) := BC.out.cell 3
  have sf := BS.out.frozen
  have if_ := BI.out.frozen
  have cf := BC.out.frozen
  have hcases : q = 0 ∨ q = 1 ∨ q = 2 ∨ q = 3 ∨ q = 4 ∨ q = 5 ∨ q = 6 ∨ q = 7 := by omega
  rcases hcases with rfl | rfl | rfl | rfl | rfl | rfl | rfl | rfl
  all_goals clear hq0 hq1
  · go_upto_region 22 with fail
    obtain ⟨V, rfl⟩ : ∃ V, V = W := ⟨_, rfl⟩
    have HSk := Lib.hid (HS.out 2 (5) (.slice none 0 0) [] (.slice (some ⟨m + 1 + 1, 0, none⟩) 2 2) [inp0, inp0] (.slice (some ⟨m + 1 + 1 + 1, 0, none⟩) 1 1) [c0] V (IsSl.nil _ _) (by decide) (sl_blk (es := [inp0, inp0]) (c := 2) BI.out (by decide) ⟨[], by rfl⟩) (by decide) (sl_blk (es := [c0]) (c := 1) BC.out (by decide) ⟨[], by rfl⟩) (by decide) 13 0 [] [] (by decide) (if_neg (by decide)).symm (if_neg (by decide)).symm (if_neg (by decide)).symm)
    clear HS s0 s1 i3 c3 sf if_ cf g0 g1 g2 g3 g4 hgg hss hii hcc
    have hgg := BG.out.has
    have hss := BS.out.lt
    obtain ⟨g0, g1, g2, g3, g4, -⟩ := BG.out
    have s0 : V.cell? ⟨m + 1, 0, none⟩ = some (.int .i64 (5)) := BS.out.cell 0
    have s1 : V.cell? ⟨m + 1, 1, none⟩ = some (.slice none 0 0) := BS.out.cell 1
    go_wp2_with fail
    refine HSk.out.mono ?_
    rintro e w5 ⟨⟨v5, v6, rfl, ho5, ho6⟩, hb5⟩
    obtain ⟨A5, n5, rfl, -⟩ := owned_sl ho5
    obtain ⟨A6, n6, rfl, -⟩ := owned_sl ho6
    have HB5 := Lib.hid (nextW HB.out hb5)
    clear hb5 ho5 ho6 HSk BG BS BI BC g0 g1 g2 g3 g4 s0 s1 hgg hss
    have BX := Lib.hid (RegBox.n1 w5 ⟨0, .slice A5 0 n5⟩ 38 rfl)
    replace HB5 := Lib.hid (HB5.out.alloc HB5.out.size (.cells #[.int .i64 0, .slice A5 0 n5] 38))
    go_wp2_with fail
    refine (HA.out _).mono ?_
    rintro e w7 ⟨rfl, hb7⟩
    replace HB5 := Lib.hid (nextW HB5.out hb7)
    obtain ⟨x0, x1, -⟩ := BX.out.nx hb7
    clear hb7
    go_wp2
    go_ret
    exact ⟨rfl, HB5.out⟩
  · go_upto_region 22 with fail
    generalize hV : World.setCell _ _ _ = V
    replace BG := Lib.hid (show CfgBox V m ⟨2, 1, 2, 1, 0⟩ from by rw [← hV]; exact BG.out.far (show m + 1 ≠ m by omega) _ _)
    replace BS := Lib.hid (show Blk V (m + 1) 38 #[.int .i64 (-1), .slice none 0 0] from by rw [← hV]; exact BS.out.put 0 _)
    replace BI := Lib.hid (show Blk V (m + 1 + 1) _ _ from by rw [← hV]; exact reg_far BI.out (show m + 1 ≠ m + 1 + 1 by omega) _)
    replace BC := Lib.hid (show Blk V (m + 1 + 1 + 1) _ _ from by rw [← hV]; exact reg_far BC.out (show m + 1 ≠ m + 1 + 1 + 1 by omega) _)
    replace HB := Lib.hid (show Below w.heap.size w V from by rw [← hV]; exact HB.out.setCell (show w.heap.size ≤ m + 1 by omega) _)
    have HSk := Lib.hid (HS.out 0 (-1) (.slice none 0 0) [] (.slice (some ⟨m + 1 + 1, 0, none⟩) 2 2) [inp0, inp0] (.slice (some ⟨m + 1 + 1 + 1, 0, none⟩) 1 1) [c0] V (IsSl.nil _ _) (by decide) (sl_blk (es := [inp0, inp0]) (c := 2) BI.out (by decide) ⟨[], by rfl⟩) (by decide) (sl_blk (es := [c0]) (c := 1) BC.out (by decide) ⟨[], by rfl⟩) (by decide) 4 0 [] [] (by decide) (if_neg (by decide)).symm (if_neg (by decide)).symm (if_neg (by decide)).symm)
    clear HS s0 s1 i3 c3 sf if_ cf g0 g1 g2 g3 g4 hgg hss hii hcc
    have hgg := BG.out.has
    have hss := BS.out.lt
    obtain ⟨g0, g1, g2, g3, g4, -⟩ := BG.out
    have s0 : V.cell? ⟨m + 1, 0, none⟩ = some (.int .i64 (-1)) := BS.out.cell 0
    have s1 : V.cell? ⟨m + 1, 1, none⟩ = some (.slice none 0 0) := BS.out.cell 1
    go_wp2_with fail
    refine HSk.out.mono ?_
    rintro e w5 ⟨⟨v5, v6, rfl, ho5, ho6⟩, hb5⟩
    obtain ⟨A5, n5, rfl, -⟩ := owned_sl ho5
    obtain ⟨A6, n6, rfl, -⟩ := owned_sl ho6
    have HB5 := Lib.hid (nextW HB.out hb5)
    clear hb5 ho5 ho6 HSk BG BS BI BC g0 g1 g2 g3 g4 s0 s1 hgg hss
    have BX := Lib.hid (RegBox.n1 w5 ⟨0, .slice A5 0 n5⟩ 38 rfl)
    replace HB5 := Lib.hid (HB5.out.alloc HB5.out.size (.cells #[.int .i64 0, .slice A5 0 n5] 38))
    go_wp2_with fail
    refine (HA.out _).mono ?_
    rintro e w7 ⟨rfl, hb7⟩
    replace HB5 := Lib.hid (nextW HB5.out hb7)
    obtain ⟨x0, x1, -⟩ := BX.out.nx hb7
    clear hb7
    go_wp2
    go_ret
    exact ⟨rfl, HB5.out⟩
  · go_upto_region 22 with fail
    generalize hV : World.alloc _ _ = V
    replace BG := Lib.hid (show CfgBox V m ⟨2, 1, 2, 1, 0⟩ from by rw [← hV]; exact (BG.out.far (show m + 1 ≠ m by omega) _ _).nx ((Below.refl _ _).alloc (Nat.le_refl _) _))
    replace BS := Lib.hid (show Blk V (m + 1) 38 #[.int .i64 5, .slice (some ⟨W.heap.size, 0, none⟩) 1 1] from by rw [← hV]; exact Blk.nx (BS.out.put 1 _) ((Below.refl _ _).alloc (Nat.le_refl _) _))
    replace BI := Lib.hid (show Blk V (m + 1 + 1) _ _ from by rw [← hV]; exact Blk.nx (reg_far BI.out (show m + 1 ≠ m + 1 + 1 by omega) _) ((Below.refl _ _).alloc (Nat.le_refl _) _))
    replace BC := Lib.hid (show Blk V (m + 1 + 1 + 1) _ _ from by rw [← hV]; exact Blk.nx (reg_far BC.out (show m + 1 ≠ m + 1 + 1 + 1 by omega) _) ((Below.refl _ _).alloc (Nat.le_refl _) _))
    have HE := Lib.hid (show Blk V W.heap.size 48 #[.int .i64 1, .int .i64 0, .int .i64 0, .int .i64 0, .int .i64 0, .int .i64 0, .int .i64 0, .int .i64 0, .int .i64 0] from by rw [← hV]; exact Blk.new' _ _ _ (by simp))
    replace HB := Lib.hid (show Below w.heap.size w V from by rw [← hV]; exact nextW (HB.out.setCell (show w.heap.size ≤ m + 1 by omega) _) ((Below.refl _ _).alloc (Nat.le_refl _) _))
    have HSk := Lib.hid (HS.out 0 (5) (.slice (some ⟨W.heap.size, 0, none⟩) 1 1) ([⟨1, 0, 0, 0, 0, 0, 0, 0, 0⟩] : List Ent) (.slice (some ⟨m + 1 + 1, 0, none⟩) 2 2) [inp0, inp0] (.slice (some ⟨m + 1 + 1 + 1, 0, none⟩) 1 1) [c0] V (sl_blk (es := ([⟨1, 0, 0, 0, 0, 0, 0, 0, 0⟩] : List Ent)) HE.out (by decide) ⟨[], by rfl⟩) (by decide) (sl_blk (es := [inp0, inp0]) (c := 2) BI.out (by decide) ⟨[], by rfl⟩) (by decide) (sl_blk (es := [c0]) (c := 1) BC.out (by decide) ⟨[], by rfl⟩) (by decide) 4 0 [] [] (by decide) (if_neg (by decide)).symm (if_neg (by decide)).symm (if_neg (by decide)).symm)
    clear HS s0 s1 i3 c3 sf if_ cf g0 g1 g2 g3 g4 hgg hss hii hcc
    have hgg := BG.out.has
    have hss := BS.out.lt
    obtain ⟨g0, g1, g2, g3, g4, -⟩ := BG.out
    have s0 : V.cell? ⟨m + 1, 0, none⟩ = some (.int .i64 (5)) := BS.out.cell 0
    have s1 : V.cell? ⟨m + 1, 1, none⟩ = some (.slice (some ⟨W.heap.size, 0, none⟩) 1 1) := BS.out.cell 1
    go_wp2_with fail
    refine HSk.out.mono ?_
    rintro e w5 ⟨⟨v5, v6, rfl, ho5, ho6⟩, hb5⟩
    obtain ⟨A5, n5, rfl, -⟩ := owned_sl ho5
    obtain ⟨A6, n6, rfl, -⟩ := owned_sl ho6
    have HB5 := Lib.hid (nextW HB.out hb5)
    clear hb5 ho5 ho6 HSk BG BS BI BC g0 g1 g2 g3 g4 s0 s1 hgg hss
    have BX := Lib.hid (RegBox.n1 w5 ⟨0, .slice A5 0 n5⟩ 38 rfl)
    replace HB5 := Lib.hid (HB5.out.alloc HB5.out.size (.cells #[.int .i64 0, .slice A5 0 n5] 38))
    go_wp2_with fail
    refine (HA.out _).mono ?_
    rintro e w7 ⟨rfl, hb7⟩
    replace HB5 := Lib.hid (nextW HB5.out hb7)
    obtain ⟨x0, x1, -⟩ := BX.out.nx hb7
    clear hb7
    go_wp2
    go_ret
    exact ⟨rfl, HB5.out⟩
  · go_upto_region 22 with fail
    obtain ⟨V, rfl⟩ : ∃ V, V = W := ⟨_, rfl⟩
    have HSk := Lib.hid (HS.out 0 (5) (.slice none 0 0) [] (.slice (some ⟨m + 1 + 1, 0, none⟩) 1 2) [inp0] (.slice (some ⟨m + 1 + 1 + 1, 0, none⟩) 1 1) [c0] V (IsSl.nil _ _) (by decide) (sl_blk (es := [inp0]) (c := 2) BI.out (by decide) ⟨[.int .i64 0, .int .i64 0, .bool false], by rfl⟩) (by decide) (sl_blk (es := [c0]) (c := 1) BC.out (by decide) ⟨[], by rfl⟩) (by decide) 11 0 [] [] (by decide) (if_neg (by decide)).symm (if_neg (by decide)).symm (if_neg (by decide)).symm)
    clear HS s0 s1 i3 c3 sf if_ cf g0 g1 g2 g3 g4 hgg hss hii hcc
    have hgg := BG.out.has
    have hss := BS.out.lt
    obtain ⟨g0, g1, g2, g3, g4, -⟩ := BG.out
    have s0 : V.cell? ⟨m + 1, 0, none⟩ = some (.int .i64 (5)) := BS.out.cell 0
    have s1 : V.cell? ⟨m + 1, 1, none⟩ = some (.slice none 0 0) := BS.out.cell 1
    go_wp2_with fail
    refine HSk.out.mono ?_
    rintro e w5 ⟨⟨v5, v6, rfl, ho5, ho6⟩, hb5⟩
    obtain ⟨A5, n5, rfl, -⟩ := owned_sl ho5
    obtain ⟨A6, n6, rfl, -⟩ := owned_sl ho6
    have HB5 := Lib.hid (nextW HB.out hb5)
    clear hb5 ho5 ho6 HSk BG BS BI BC g0 g1 g2 g3 g4 s0 s1 hgg hss
    have BX := Lib.hid (RegBox.n1 w5 ⟨0, .slice A5 0 n5⟩ 38 rfl)
    replace HB5 := Lib.hid (HB5.out.alloc HB5.out.size (.cells #[.int .i64 0, .slice A5 0 n5] 38))
    go_wp2_with fail
    refine (HA.out _).mono ?_
    rintro e w7 ⟨rfl, hb7⟩
    replace HB5 := Lib.hid (nextW HB5.out hb7)
    obtain ⟨x0, x1, -⟩ := BX.out.nx hb7
    clear hb7
    go_wp2
    go_ret
    exact ⟨rfl, HB5.out⟩
  · go_upto_region 22 with fail
    generalize hV : World.setCell _ _ _ = V
    replace BG := Lib.hid (show CfgBox V m ⟨2, 1, 2, 1, 0⟩ from by rw [← hV]; exact BG.out.far (show m + 1 + 1 ≠ m by omega) _ _)
    replace BS := Lib.hid (show Blk V (m + 1) _ _ from by rw [← hV]; exact reg_far BS.out (show m + 1 + 1 ≠ m + 1 by omega) _)
    replace BI := Lib.hid (show Blk V (m + 1 + 1) 58 #[.int .i64 0, .int .i64 0, .bool false, .int .i64 3, .int .i64 0, .bool false] from by rw [← hV]; exact BI.out.put 3 _)
    replace BC := Lib.hid (show Blk V (m + 1 + 1 + 1) _ _ from by rw [← hV]; exact reg_far BC.out (show m + 1 + 1 ≠ m + 1 + 1 + 1 by omega) _)
    replace HB := Lib.hid (show Below w.heap.size w V from by rw [← hV]; exact HB.out.setCell (show w.heap.size ≤ m + 1 + 1 by omega) _)
    have HSk := Lib.hid (HS.out 0 (5) (.slice none 0 0) [] (.slice (some ⟨m + 1 + 1, 0, none⟩) 2 2) ([inp0, ⟨3, 0, false⟩] : List Inp) (.slice (some ⟨m + 1 + 1 + 1, 0, none⟩) 1 1) [c0] V (IsSl.nil _ _) (by decide) (sl_blk (es := ([inp0, ⟨3, 0, false⟩] : List Inp)) (c := 2) BI.out (by decide) ⟨[], by rfl⟩) (by decide) (sl_blk (es := [c0]) (c := 1) BC.out (by decide) ⟨[], by rfl⟩) (by decide) 11 0 [] [] (by decide) (if_neg (by decide)).symm (if_neg (by decide)).symm (if_neg (by decide)).symm)
    clear HS s0 s1 i3 c3 sf if_ cf g0 g1 g2 g3 g4 hgg hss hii hcc
    have hgg := BG.out.has
    have hss := BS.out.lt
    obtain ⟨g0, g1, g2, g3, g4, -⟩ := BG.out
    have s0 : V.cell? ⟨m + 1, 0, none⟩ = some (.int .i64 (5)) := BS.out.cell 0
    have s1 : V.cell? ⟨m + 1, 1, none⟩ = some (.slice none 0 0) := BS.out.cell 1
    go_wp2_with fail
    refine HSk.out.mono ?_
    rintro e w5 ⟨⟨v5, v6, rfl, ho5, ho6⟩, hb5⟩
    obtain ⟨A5, n5, rfl, -⟩ := owned_sl ho5
    obtain ⟨A6, n6, rfl, -⟩ := owned_sl ho6
    have HB5 := Lib.hid (nextW HB.out hb5)
    clear hb5 ho5 ho6 HSk BG BS BI BC g0 g1 g2 g3 g4 s0 s1 hgg hss
    have BX := Lib.hid (RegBox.n1 w5 ⟨0, .slice A5 0 n5⟩ 38 rfl)
    replace HB5 := Lib.hid (HB5.out.alloc HB5.out.size (.cells #[.int .i64 0, .slice A5 0 n5] 38))
    go_wp2_with fail
    refine (HA.out _).mono ?_
    rintro e w7 ⟨rfl, hb7⟩
    replace HB5 := Lib.hid (nextW HB5.out hb7)
    obtain ⟨x0, x1, -⟩ := BX.out.nx hb7
    clear hb7
    go_wp2
    go_ret
    exact ⟨rfl, HB5.out⟩
  · go_upto_region 22 with fail
    generalize hV : World.setCell _ _ _ = V
    replace BG := Lib.hid (show CfgBox V m ⟨2, 1, 2, 1, 0⟩ from by rw [← hV]; exact BG.out.far (show m + 1 + 1 + 1 ≠ m by omega) _ _)
    replace BS := Lib.hid (show Blk V (m + 1) _ _ from by rw [← hV]; exact reg_far BS.out (show m + 1 + 1 + 1 ≠ m + 1 by omega) _)
    replace BI := Lib.hid (show Blk V (m + 1 + 1) _ _ from by rw [← hV]; exact reg_far BI.out (show m + 1 + 1 + 1 ≠ m + 1 + 1 by omega) _)
    replace BC := Lib.hid (show Blk V (m + 1 + 1 + 1) 50 #[.int .i64 2, .int .i64 1, .int .i64 0, .int .i64 5, .int .i64 0, .int .i64 0, .int .i64 0, .int .i64 0, .int .i64 0, .int .i64 0, .int .i64 0, .int .i64 0, .int .i64 0, .int .i64 5, .int .i64 0] from by rw [← hV]; exact BC.out.put 3 _)
    replace HB := Lib.hid (show Below w.heap.size w V from by rw [← hV]; exact HB.out.setCell (show w.heap.size ≤ m + 1 + 1 + 1 by omega) _)
    have HSk := Lib.hid (HS.out 0 (5) (.slice none 0 0) [] (.slice (some ⟨m + 1 + 1, 0, none⟩) 2 2) [inp0, inp0] (.slice (some ⟨m + 1 + 1 + 1, 0, none⟩) 1 1) ([⟨2, 1, 0, 5, ⟨0, 0, 0, 0, 0, 0, 0, 0, 0⟩, 5, 0⟩] : List Crs) V (IsSl.nil _ _) (by decide) (sl_blk (es := [inp0, inp0]) (c := 2) BI.out (by decide) ⟨[], by rfl⟩) (by decide) (sl_blk (es := ([⟨2, 1, 0, 5, ⟨0, 0, 0, 0, 0, 0, 0, 0, 0⟩, 5, 0⟩] : List Crs)) (c := 1) BC.out (by decide) ⟨[], by rfl⟩) (by decide) 1 0 [] [] (by decide) (if_neg (by decide)).symm (if_neg (by decide)).symm (if_neg (by decide)).symm)
    clear HS s0 s1 i3 c3 sf if_ cf g0 g1 g2 g3 g4 hgg hss hii hcc
    have hgg := BG.out.has
    have hss := BS.out.lt
    obtain ⟨g0, g1, g2, g3, g4, -⟩ := BG.out
    have s0 : V.cell? ⟨m + 1, 0, none⟩ = some (.int .i64 (5)) := BS.out.cell 0
    have s1 : V.cell? ⟨m + 1, 1, none⟩ = some (.slice none 0 0) := BS.out.cell 1
    go_wp2_with fail
    refine HSk.out.mono ?_
    rintro e w5 ⟨⟨v5, v6, rfl, ho5, ho6⟩, hb5⟩
    obtain ⟨A5, n5, rfl, -⟩ := owned_sl ho5
    obtain ⟨A6, n6, rfl, -⟩ := owned_sl ho6
    have HB5 := Lib.hid (nextW HB.out hb5)
    clear hb5 ho5 ho6 HSk BG BS BI BC g0 g1 g2 g3 g4 s0 s1 hgg hss
    have BX := Lib.hid (RegBox.n1 w5 ⟨0, .slice A5 0 n5⟩ 38 rfl)
    replace HB5 := Lib.hid (HB5.out.alloc HB5.out.size (.cells #[.int .i64 0, .slice A5 0 n5] 38))
    go_wp2_with fail
    refine (HA.out _).mono ?_
    rintro e w7 ⟨rfl, hb7⟩
    replace HB5 := Lib.hid (nextW HB5.out hb7)
    obtain ⟨x0, x1, -⟩ := BX.out.nx hb7
    clear hb7
    go_wp2
    go_ret
    exact ⟨rfl, HB5.out⟩
  · go_upto_region 22 with fail
    generalize hV : World.setCell _ _ _ = V
    replace BG := Lib.hid (show CfgBox V m ⟨2, 1, 2, 1, 0⟩ from by rw [← hV]; exact BG.out.far (show m + 1 ≠ m by omega) _ _)
    replace BS := Lib.hid (show Blk V (m + 1) 38 #[.int .i64 (10000), .slice none 0 0] from by rw [← hV]; exact BS.out.put 0 _)
    replace BI := Lib.hid (show Blk V (m + 1 + 1) _ _ from by rw [← hV]; exact reg_far BI.out (show m + 1 ≠ m + 1 + 1 by omega) _)
    replace BC := Lib.hid (show Blk V (m + 1 + 1 + 1) _ _ from by rw [← hV]; exact reg_far BC.out (show m + 1 ≠ m + 1 + 1 + 1 by omega) _)
    replace HB := Lib.hid (show Below w.heap.size w V from by rw [← hV]; exact HB.out.setCell (show w.heap.size ≤ m + 1 by omega) _)
    have HSk := Lib.hid (HS.out 0 (10000) (.slice none 0 0) [] (.slice (some ⟨m + 1 + 1, 0, none⟩) 2 2) [inp0, inp0] (.slice none 0 0) [] V (IsSl.nil _ _) (by decide) (sl_blk (es := [inp0, inp0]) (c := 2) BI.out (by decide) ⟨[], by rfl⟩) (by decide) (IsSl.nil _ _) (by decide) 16 0 [] [] (by decide) (if_neg (by decide)).symm (if_neg (by decide)).symm (if_neg (by decide)).symm)
    clear HS s0 s1 i3 c3 sf if_ cf g0 g1 g2 g3 g4 hgg hss hii hcc
    have hgg := BG.out.has
    have hss := BS.out.lt
    obtain ⟨g0, g1, g2, g3, g4, -⟩ := BG.out
    have s0 : V.cell? ⟨m + 1, 0, none⟩ = some (.int .i64 (10000)) := BS.out.cell 0
    have s1 : V.cell? ⟨m + 1, 1, none⟩ = some (.slice none 0 0) := BS.out.cell 1
    go_wp2_with fail
    refine HSk.out.mono ?_
    rintro e w5 ⟨⟨v5, v6, rfl, ho5, ho6⟩, hb5⟩
    obtain ⟨A5, n5, rfl, -⟩ := owned_sl ho5
    obtain ⟨A6, n6, rfl, -⟩ := owned_sl ho6
    have HB5 := Lib.hid (nextW HB.out hb5)
    clear hb5 ho5 ho6 HSk BG BS BI BC g0 g1 g2 g3 g4 s0 s1 hgg hss
    have BX := Lib.hid (RegBox.n1 w5 ⟨0, .slice A5 0 n5⟩ 38 rfl)
    replace HB5 := Lib.hid (HB5.out.alloc HB5.out.size (.cells #[.int .i64 0, .slice A5 0 n5] 38))
    go_wp2_with fail
    refine (HA.out _).mono ?_
    rintro e w7 ⟨rfl, hb7⟩
    replace HB5 := Lib.hid (nextW HB5.out hb7)
    obtain ⟨x0, x1, -⟩ := BX.out.nx hb7
    clear hb7
    go_wp2
    go_ret
    exact ⟨rfl, HB5.out⟩
  · go_upto_region 22 with fail
    obtain ⟨V, rfl⟩ : ∃ V, V = W := ⟨_, rfl⟩
    obtain ⟨X, hX⟩ : ∃ X, X = stayL 2 1 2 1 0 0 5 (inpOf [inp0, inp0]) [] [c0] := ⟨_, rfl⟩
    obtain ⟨Y, hY⟩ : ∃ Y, Y = st lessB (outsL 2 1 2 1 0 0 5 (inpOf [inp0, inp0]) [] [c0]) := ⟨_, rfl⟩
    have HSk := Lib.hid (HS.out 0 (5) (.slice none 0 0) [] (.slice (some ⟨m + 1 + 1, 0, none⟩) 2 2) [inp0, inp0] (.slice (some ⟨m + 1 + 1 + 1, 0, none⟩) 1 1) [c0] V (IsSl.nil _ _) (by decide) (sl_blk (es := [inp0, inp0]) (c := 2) BI.out (by decide) ⟨[], by rfl⟩) (by decide) (sl_blk (es := [c0]) (c := 1) BC.out (by decide) ⟨[], by rfl⟩) (by decide) 0 6 X Y (by decide) rfl (by rw [hX]; rfl) (by rw [hY]; rfl))
    clear hX hY
    clear HS s0 s1 i3 c3 sf if_ cf g0 g1 g2 g3 g4 hgg hss hii hcc
    have hgg := BG.out.has
    have hss := BS.out.lt
    obtain ⟨g0, g1, g2, g3, g4, -⟩ := BG.out
    have s0 : V.cell? ⟨m + 1, 0, none⟩ = some (.int .i64 (5)) := BS.out.cell 0
    have s1 : V.cell? ⟨m + 1, 1, none⟩ = some (.slice none 0 0) := BS.out.cell 1
    go_wp2_with fail
    refine HSk.out.mono ?_
    rintro e w5 ⟨⟨v5, v6, rfl, ho5, ho6⟩, hb5⟩
    obtain ⟨A5, n5, rfl, -⟩ := owned_sl ho5
    obtain ⟨A6, n6, rfl, -⟩ := owned_sl ho6
    have HB5 := Lib.hid (nextW HB.out hb5)
    clear hb5 ho5 ho6 HSk BG BS BI BC g0 g1 g2 g3 g4 s0 s1 hgg hss
    have BX := Lib.hid (RegBox.n1 w5 ⟨6, .slice A5 X.length n5⟩ 38 rfl)
    replace HB5 := Lib.hid (HB5.out.alloc HB5.out.size (.cells #[.int .i64 6, .slice A5 X.length n5] 38))
    go_wp2_with fail
    refine (HA.out _).mono ?_
    rintro e w7 ⟨rfl, hb7⟩
    replace HB5 := Lib.hid (nextW HB5.out hb7)
    obtain ⟨x0, x1, -⟩ := BX.out.nx hb7
    clear hb7
    go_wp2
    go_ret
    exact ⟨rfl, HB5.out⟩

set_option maxRecDepth 100000 in
theorem lifted (os : Os) (started : os.Started) (H : Type) (enc : TypeId × Value → H) :
    ReturnsInHanded {} Tryz.checked os 5 .any (Rows.regionRefusesSpec.pre6 enc Tryz.prog Tryz.f5 Rows.regionRefusesRow.domain false) (Rows.regionRefusesSpec.post enc Tryz.prog Tryz.f5 false true false false) := by
  refine returnsInHanded_of_change (C := Tryz.checked) own started (by kernel_rfl) Tryz.func5
    (ChangeSpec.witness6 (enc := enc) (C := Tryz.checked) false ⟨#[], #[.int .i64 0], []⟩ 8 (by kernel_rfl) (by kernel_rfl) (by kernel_rfl) (by kernel_rfl)) ?_
  intro W base args ds gs before hval0 hW hcnd _
  have hval : ∀ (j : Nat) t v, Tryz.f5.params[j]? = some t → args[j]? = some v → Value.okWide Tryz.prog W .any base t v := hval0
  have hW' := hW
  obtain ⟨p, q, hA0, hV, rfl, hfz, hnd⟩ := hW
  have hA : DataW.TrodAll enc Tryz.prog W 0 (fun _ => true) true Tryz.f5.params.toList args.toList ds p := hA0
  rw [Tryz.params5] at hA hval
  obtain ⟨v0, vs0, d0, ds0, p0, q0, hargs, rfl, rfl, h0, r0⟩ := trodAll_cons hA
  obtain ⟨rfl, rfl, rfl⟩ := trodAll_nil r0
  obtain rfl : args = #[v0] := by cases args; simp_all
  obtain ⟨rfl, rfl⟩ := trodVars_none hV
  obtain ⟨a0, rfl, rfl, rfl, w0⟩ := open_int Tryz.underlying3 (hval 0 3 v0 rfl rfl) h0
  clear hA0 hval0
  refine (walk a0 W w0).mono fun e W' ⟨he, bel⟩ => ?_
  subst he
  exact ⟨_, rfl, _, _, _, [], _, [], hW', trodAll_mk1 (shut_bool Tryz.underlying4 _), (trodAll_cons_mk (shut_int Tryz.underlying3 w0) trodAll_mk0), rfl, bel.frame _, fun h => by cases h⟩

theorem over : Rows.regionRefusesRow.holds Tryz.pinned (OpenSpec.ofChange Rows.regionRefusesSpec) :=
  OpenClaim.holds_of_wide 5 Tryz.f5 rfl rfl rfl rfl rfl rfl rfl ⟨rfl, rfl, rfl, rfl, rfl⟩ rfl rfl rfl rfl rfl (by kernel_rfl) Tryz.func5 (by kernel_rfl)
    (of_decide_eq_true (by kernel_rfl)) (by unfold Func.isWrapper; first | (rw [if_pos (by decide +kernel)]; kernel_rfl) | (rw [if_neg (by decide +kernel)]; exact ⟨rfl, rfl⟩))
    (fun os started H enc _ => lifted os started H enc)

end Go.Proofs.YtocoddeaoljoeaaGreat.regionRefuses
namespace Go.Proofs.YtocoddeaoljoeaaGreat
theorem regionRefuses_proved : Rows.RegionRefusesSaid := regionRefuses.over
end Go.Proofs.YtocoddeaoljoeaaGreat
