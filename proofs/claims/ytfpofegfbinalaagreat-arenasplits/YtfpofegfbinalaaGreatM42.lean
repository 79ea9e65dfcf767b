/- One frame of inputs that a plain list makes (joustplay.Frames, of one row). -/
import Derived.Test.YtfpofegfbinalaaGreatM41
import Derived.Test.YtfpofegfbinalaaGreatM40
namespace Go.Proofs.YtfpofegfbinalaaGreat.Fx
open Go.ChangeShapes Go.WideShapes Go.ChangeAt Go.RowKit
set_option linter.unusedVariables false
set_option maxRecDepth 100000

theorem own_three {w : World} {base n g cap : Nat} {es : List Inp} (h : w.ownsRow base 71 3 (.slice (some ⟨g, 0, none⟩) n cap) n (es.flatMap inpC)) {k : Nat} {y : Inp} (hk : es[k]? = some y) (z : Inp) {W : World}
    (hW : ((w.setCell ⟨g, k * 3, none⟩ (.int .i64 z.dx)).setCell ⟨g, k * 3 + 1, none⟩ (.int .i64 z.dy)).setCell ⟨g, k * 3 + 2, none⟩ (.bool z.fire) = W) :
    W.ownsRow base 71 3 (.slice (some ⟨g, 0, none⟩) n cap) n ((es.set k z).flatMap inpC) ∧ w.grownBy W (some g) := by
  subst hW
  have hl := (List.getElem?_eq_some_iff.1 hk).1
  obtain ⟨h1, g1⟩ := own_put_Inp h (z := ⟨z.dx, y.dy, y.fire⟩) hk (show 0 < 3 by omega) rfl
  obtain ⟨h2, g2⟩ := own_put_Inp h1 (z := ⟨z.dx, z.dy, y.fire⟩) (List.getElem?_set_self hl) (show 1 < 3 by omega) rfl
  rw [List.set_set] at h2
  obtain ⟨h3, g3⟩ := own_put_Inp h2 (z := z) (List.getElem?_set_self hl) (show 2 < 3 by omega) rfl
  rw [List.set_set] at h3
  exact ⟨h3, grown_trans (grown_trans g1 g2) g3⟩

theorem all_set {l : List Inp} (h : l.all irtI = true) (k : Nat) {z : Inp} (hz : irtI z = true) : (l.set k z).all irtI = true := by
  rw [List.all_eq_true] at *
  intro x hx
  rcases List.mem_or_eq_of_mem_set hx with h1 | h1
  · exact h x h1
  · rw [h1]; exact hz

theorem info_slI : (Tryz.prog.info? 55).map (fun i => (i.zero, i.size, i.bytes)) = some (some (.slice none 0 0), 1, 24) := by kernel_rfl

set_option maxHeartbeats 8000000 in
theorem pframes_any (a b n s : Int) (P : Nat) (hP : P ≤ 6) (u : Value) (ins : List Inp) (g : Nat) (w : World) (hg : w.cell? ⟨g, 0, none⟩ = some u) (hu : IsSl inpC w u ins) :
    Calls Tryz.prog 9 #[.agg #[.int .i64 a, .int .i64 b, .int .i64 (P : Int), .int .i64 n, .int .u64 s], .slice (some ⟨g, 0, none⟩) 1 1, .int .i64 1] w fun z w' =>
      (∃ (gA c gr : Nat) (row : List Inp), z = .returned (.slice (some ⟨gA, 0, none⟩) 1 c) ∧ w'.cell? ⟨gA, 0, none⟩ = some (.slice (some ⟨gr, 0, none⟩) P P) ∧ w'.ownsRow w.heap.size 71 3 (.slice (some ⟨gr, 0, none⟩) P P) row.length (row.flatMap inpC) ∧ row.length = P ∧ row.all irtI = true) ∧ Below w.heap.size w w' := by
  have HI := Lib.hid pinput_any
  obtain ⟨i0, hi, hz0, hz1, hz2⟩ := info_parts info_slI
  have Hi := Lib.hid hi
  have Hz0 := Lib.hid hz0
  have Hz1 := Lib.hid hz1
  have Hz2 := Lib.hid hz2
  clear hi hz0 hz1 hz2
  have hmk : ∀ w, (Instr.makeSlice 55 (.int .i64 (P : Int)) (.int .i64 (P : Int))).run Tryz.prog w = .ok (.slice (some ⟨w.heap.size, 0, none⟩) P P) (w.alloc (.cells ((List.replicate P inp0).flatMap inpC).toArray 71)) := fun w => make_inp P (by omega) w
  have Hmk := Lib.hid hmk
  have HU := Lib.hid hu
  have Hg := Lib.hid hg
  obtain ⟨A, c, rfl, -⟩ := hu
  obtain ⟨N, hN⟩ : ∃ N, ins.length = N := ⟨_, rfl⟩
  rw [hN] at HU Hg
  have Hn := Lib.hid hN
  clear hg hmk hN
  go_enter Tryz.func9, Tryz.ntmps9
  go_wp2
  go_loopw [7, 8] (fun v i wr => ∃ k : Nat, k ≤ 1 ∧ i = .int .i64 k ∧ CfgBox wr w.heap.size ⟨a, b, P, n, s⟩ ∧ Below w.heap.size w wr ∧ (k = 0 → v = .slice none 0 0) ∧ (k = 1 → ∃ (gA c gr : Nat) (row : List Inp), v = .slice (some ⟨gA, 0, none⟩) 1 c ∧ wr.cell? ⟨gA, 0, none⟩ = some (.slice (some ⟨gr, 0, none⟩) P P) ∧ wr.ownsRow (w.heap.size + 1) 71 3 (.slice (some ⟨gr, 0, none⟩) P P) row.length (row.flatMap inpC) ∧ row.length = P ∧ row.all irtI = true)) (fun _ i _ => 1 - (intOf i).toNat)
  case atStart => exact ⟨0, Nat.zero_le _, rfl, CfgBox.n1 _ ⟨a, b, P, n, s⟩ _ rfl, (Below.refl _ _).alloc (Nat.le_refl _) _, fun _ => rfl, fun h => by cases h⟩
  case round =>
    obtain ⟨k, hk, rfl, hbg, hbel, hv0, hv1⟩ := hrel
    have Hbel := Lib.hid hbel
    have BG := Lib.hid hbg
    clear hbel hbg
    by_cases hk0 : k = 0
    · subst hk0
      obtain rfl := hv0 rfl
      clear hv0 hv1 hk
      have hgg := BG.out.has
      have hgr : w.heap.size < wr.heap.size := hgg
      obtain ⟨g0, g1, g2, g3, g4, -⟩ := BG.out
      have hgl := World.block_lt_of_cell? _ _ Hg.out
      go_upto_region 6 with (simp only [Hmk.out])
      have Hr0 := Lib.hid (make_row P (by omega) wr (w.heap.size + 1) hgg)
      rw [List.length_replicate] at Hr0
      generalize hW : World.alloc _ _ = W2 at *
      replace Hbel := Lib.hid (show Below w.heap.size w W2 from by rw [← hW]; exact Hbel.out.alloc Hbel.out.size _)
      replace BG := Lib.hid (show CfgBox W2 w.heap.size ⟨a, b, P, n, s⟩ from by rw [← hW]; exact BG.out.alloc BG.out.has _)
      generalize wr.heap.size = gr at *
      clear hW g0 g1 g2 g3 g4 hgg Hmk
      obtain ⟨wo, rfl⟩ : ∃ wo : World, wo = wr := ⟨_, rfl⟩
      go_wp2_with fail
      go_loopw [10] (fun i wi => ∃ (j : Nat) (row : List Inp), j ≤ P ∧ i = .int .i64 j ∧ row.length = P ∧ row.all irtI = true ∧ wi.ownsRow (w.heap.size + 1) 71 3 (.slice (some ⟨gr, 0, none⟩) P P) P (row.flatMap inpC) ∧ CfgBox wi w.heap.size ⟨a, b, P, n, s⟩ ∧ Below w.heap.size w wi) (fun i _ => P - (intOf i).toNat)
      case atStart => exact ⟨0, List.replicate P inp0, Nat.zero_le _, rfl, List.length_replicate, all_rep P, Hr0.out, BG.out, Hbel.out⟩
      case round =>
        obtain ⟨j, row, hj, rfl, hrl, hra, hown, hbg, hbel⟩ := hrel
        clear Hbel BG Hr0
        have Hbel := Lib.hid hbel
        have BG := Lib.hid hbg
        have Hown := Lib.hid hown
        have Hra := Lib.hid hra
        have Hrl := Lib.hid hrl
        clear hbel hbg hown hra hrl
        have hgg := BG.out.has
        obtain ⟨g0, g1, g2, g3, g4, -⟩ := BG.out
        have hgc := (Hbel.out.cell (p := ⟨g, 0, none⟩) hgl).trans Hg.out
        have hgl2 := World.block_lt_of_cell? _ _ hgc
        by_cases hjP : j < P
        · have hd1 : decide ((j : Int) < (P : Int)) = true := decide_eq_true (by omega)
          by_cases hjN : j < N
          · have hd2 : decide ((j : Int) < (N : Int)) = true := decide_eq_true (by omega)
            obtain ⟨x, hx⟩ := getE ins j N Hn.out hjN
            obtain ⟨bb, off, rfl, hc⟩ := elem_Inp (HU.out.below Hbel.out).at hx
            obtain ⟨c0, c1, c2⟩ := hc
            clear hx
            go_wp2_with fail
            refine (HI.out x.dx x.dy x.fire _).mono ?_
            rintro e w5 ⟨X, Y, rfl, hir, hb5⟩
            replace Hbel := Lib.hid (nextW Hbel.out hb5)
            replace BG := Lib.hid (BG.out.nx hb5)
            replace Hown := Lib.hid (own_below Hown.out hb5)
            have Hir := Lib.hid (show irtI ⟨X, Y, x.fire⟩ = true from hir)
            clear hb5 hir g0 g1 g2 g3 g4 hgg hgc hgl2 c0 c1 c2
            obtain ⟨y, hy⟩ := getE row j P Hrl.out hjP
            have Hy := Lib.hid hy
            obtain ⟨g', cap', hTl, -, hgw, -, hcs, hfz⟩ := own_at_Inp Hown.out hy
            cases hTl
            simp only [Nat.zero_add] at hcs
            obtain ⟨y0, y1, y2⟩ := hcs
            clear hy
            go_upto_region 8 with fail
            generalize hV : World.setCell _ _ _ = V at *
            obtain ⟨hl9, hg9⟩ := own_three Hown.out Hy.out ⟨X, Y, x.fire⟩ hV
            replace Hbel := Lib.hid (show Below w.heap.size w V from by rw [← hV]; exact ((Hbel.out.setCell (show w.heap.size ≤ gr by omega) _).setCell (show w.heap.size ≤ gr by omega) _).setCell (show w.heap.size ≤ gr by omega) _)
            replace BG := Lib.hid (show CfgBox V w.heap.size ⟨a, b, P, n, s⟩ from by rw [← hV]; exact ((BG.out.far (show gr ≠ w.heap.size by omega) _ _).far (show gr ≠ w.heap.size by omega) _ _).far (show gr ≠ w.heap.size by omega) _ _)
            replace Hown := Lib.hid hl9
            clear hl9 hg9 hV y0 y1 y2 hfz hgw
            go_wp2
            go_roundw
            case rel => exact ⟨j + 1, row.set j ⟨X, Y, x.fire⟩, by omega, by go_num, by rw [List.length_set]; exact Hrl.out, all_set Hra.out j Hir.out, Hown.out, BG.out, Hbel.out⟩
            case measure => simp [intOf]; omega
          · have hd2 : decide ((j : Int) < (N : Int)) = false := decide_eq_false (by omega)
            go_wp2_with (at_builtin; go_must (refine append_elem (by rfl) (.tmp 51) (.tmp 53) 25 (by rfl) wr.heap.size 55 i0 (.slice none 0 0) 1 24 Tryz.underlying25 Hi.out Hz0.out Hz1.out Hz2.out rfl (by omega) _ 0 [] (World.ownsRow_nil _ _ _ _) [.slice (some ⟨gr, 0, none⟩) P P] rfl (by simp [Value.oneCell']) (by rfl) _ 1 (by rfl) (by simp) (by unfold maxLen; omega) (by omega) (Nat.le_refl _) ?_))
            intro v9 w9 ho9 hb9
            have HB9 := Lib.hid (nextW Hbel.out hb9)
            have HG9 := Lib.hid (BG.out.nx hb9)
            have HR9 := Lib.hid (own_below Hown.out hb9)
            obtain ⟨A9, c9, rfl, hat9⟩ := owned_cells ho9
            obtain ⟨gA, oA, rfl, hc9⟩ := hat9 (by simp)
            have hoA : oA = 0 := by
              rcases ho9.2 with ⟨h1, -⟩ | ⟨g1, cap1, cur1, h1, -⟩
              · cases h1
              · cases h1; rfl
            subst hoA
            have HC9 := Lib.hid (show w9.cell? ⟨gA, 0, none⟩ = some (.slice (some ⟨gr, 0, none⟩) P P) from hc9 0 _ rfl)
            clear ho9 hb9 hat9 hc9
            go_wp2
            go_roundw
            case rel => exact ⟨1, Nat.le_refl _, by go_num, HG9.out, HB9.out, fun h => (by cases h), fun _ => ⟨gA, c9, gr, row, rfl, HC9.out, by rw [Hrl.out]; exact HR9.out, Hrl.out, Hra.out⟩⟩
            case measure => simp [intOf]
        · have hd1 : decide ((j : Int) < (P : Int)) = false := decide_eq_false (by omega)
          go_wp2_with (at_builtin; go_must (refine append_elem (by rfl) (.tmp 51) (.tmp 53) 25 (by rfl) wr.heap.size 55 i0 (.slice none 0 0) 1 24 Tryz.underlying25 Hi.out Hz0.out Hz1.out Hz2.out rfl (by omega) _ 0 [] (World.ownsRow_nil _ _ _ _) [.slice (some ⟨gr, 0, none⟩) P P] rfl (by simp [Value.oneCell']) (by rfl) _ 1 (by rfl) (by simp) (by unfold maxLen; omega) (by omega) (Nat.le_refl _) ?_))
          intro v9 w9 ho9 hb9
          have HB9 := Lib.hid (nextW Hbel.out hb9)
          have HG9 := Lib.hid (BG.out.nx hb9)
          have HR9 := Lib.hid (own_below Hown.out hb9)
          obtain ⟨A9, c9, rfl, hat9⟩ := owned_cells ho9
          obtain ⟨gA, oA, rfl, hc9⟩ := hat9 (by simp)
          have hoA : oA = 0 := by
            rcases ho9.2 with ⟨h1, -⟩ | ⟨g1, cap1, cur1, h1, -⟩
            · cases h1
            · cases h1; rfl
          subst hoA
          have HC9 := Lib.hid (show w9.cell? ⟨gA, 0, none⟩ = some (.slice (some ⟨gr, 0, none⟩) P P) from hc9 0 _ rfl)
          clear ho9 hb9 hat9 hc9
          go_wp2
          go_roundw
          case rel => exact ⟨1, Nat.le_refl _, by go_num, HG9.out, HB9.out, fun h => (by cases h), fun _ => ⟨gA, c9, gr, row, rfl, HC9.out, by rw [Hrl.out]; exact HR9.out, Hrl.out, Hra.out⟩⟩
          case measure => simp [intOf]
    · obtain rfl : k = 1 := by omega
      obtain ⟨gA, cA, gr, row, rfl, hcell, hown, hrow, hall⟩ := hv1 rfl
      have H1 := Lib.hid hcell
      have H2 := Lib.hid (hown.mono (Nat.le_succ _))
      have H3 := Lib.hid hrow
      have H4 := Lib.hid hall
      clear hcell hown hrow hall hv0 hv1
      go_wp2
      go_ret
      exact ⟨⟨gA, cA, gr, row, rfl, H1.out, H2.out, H3.out, H4.out⟩, Hbel.out⟩

end Go.Proofs.YtfpofegfbinalaaGreat.Fx
