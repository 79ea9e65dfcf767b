/- joustlaw10.ArenaBegins returns true for every input; no conditions. -/
import Derived.Test.YtfpofegfbinalaaArAwk
import Derived.Test.YtfpofegfbinalaaGrNew
import Derived.Deep.DeepCutAuto
import Derived.Test.YtfpofegfbinalaaRows
import Derived.WalkKit
import Derived.ProofKit
import Derived.OpenShut
import Derived.ShutString
import Derived.ChangeOld
import Derived.Below
namespace Go.Proofs.Ytfpofegfbinalaa.arenaBegins
open Go.ChangeShapes Go.WideShapes Go.ChangeAt Go.RowKit
open Go.ChangeMaps (open_string shut_string)
set_option linter.unusedVariables false
set_option maxRecDepth 100000

theorem own : ownKnob Try.prog.godebug = none := by kernel_rfl
theorem laidOut : laidOutB Try.prog = true := by kernel_rfl

theorem open_T24 {H : Type} {enc : TypeId × Value → H} {W : World} {fuel : Nat} {cs : List Value} {x : DataW H × List MemPlace} (h : DataW.trod enc Try.prog W 0 (fun _ => true) true fuel 24 cs = some x) :
    ∃ (a0 : Int) (a1 : Int) (a2 : Int) (a3 : Int) (a4 : Int), cs = [.int .i64 a0, .int .i64 a1, .int .i64 a2, .int .i64 a3, .int .u64 a4] ∧ (Lit.int .i64 a0).wf = true ∧ (Lit.int .i64 a1).wf = true ∧ (Lit.int .i64 a2).wf = true ∧ (Lit.int .i64 a3).wf = true ∧ (Lit.int .u64 a4).wf = true := by
  obtain ⟨xs, n, -, -, hl, hxl, hg⟩ := DataW.trod_struct Try.underlying24 h
  have hl' : cs.length = 5 := hl.trans (by kernel_rfl)
  have c3 : Try.prog.cellsOf 3 = 1 := by kernel_rfl
  have c22 : Try.prog.cellsOf 22 = 1 := by kernel_rfl
  clear hl h
  match cs, hl' with
  | [z0, z1, z2, z3, z4], _ =>
    have g0 : DataW.trod enc Try.prog W 0 (fun _ => true) true n 3 (([z0, z1, z2, z3, z4].drop 0).take (Try.prog.cellsOf 3)) = xs[0]? := hg 0 _ rfl
    rw [c3, List.getElem?_eq_getElem (show 0 < xs.length by rw [hxl]; decide)] at g0
    have g1 : DataW.trod enc Try.prog W 0 (fun _ => true) true n 3 (([z0, z1, z2, z3, z4].drop 1).take (Try.prog.cellsOf 3)) = xs[1]? := hg 1 _ rfl
    rw [c3, List.getElem?_eq_getElem (show 1 < xs.length by rw [hxl]; decide)] at g1
    have g2 : DataW.trod enc Try.prog W 0 (fun _ => true) true n 3 (([z0, z1, z2, z3, z4].drop 2).take (Try.prog.cellsOf 3)) = xs[2]? := hg 2 _ rfl
    rw [c3, List.getElem?_eq_getElem (show 2 < xs.length by rw [hxl]; decide)] at g2
    have g3 : DataW.trod enc Try.prog W 0 (fun _ => true) true n 3 (([z0, z1, z2, z3, z4].drop 3).take (Try.prog.cellsOf 3)) = xs[3]? := hg 3 _ rfl
    rw [c3, List.getElem?_eq_getElem (show 3 < xs.length by rw [hxl]; decide)] at g3
    have g4 : DataW.trod enc Try.prog W 0 (fun _ => true) true n 22 (([z0, z1, z2, z3, z4].drop 4).take (Try.prog.cellsOf 22)) = xs[4]? := hg 4 _ rfl
    rw [c22, List.getElem?_eq_getElem (show 4 < xs.length by rw [hxl]; decide)] at g4
    obtain ⟨a0, e0, -, w0⟩ := DataW.trod_int (cs := [z0]) Try.underlying3 g0
    simp only [List.cons.injEq, and_true] at e0
    subst e0
    clear g0
    obtain ⟨a1, e1, -, w1⟩ := DataW.trod_int (cs := [z1]) Try.underlying3 g1
    simp only [List.cons.injEq, and_true] at e1
    subst e1
    clear g1
    obtain ⟨a2, e2, -, w2⟩ := DataW.trod_int (cs := [z2]) Try.underlying3 g2
    simp only [List.cons.injEq, and_true] at e2
    subst e2
    clear g2
    obtain ⟨a3, e3, -, w3⟩ := DataW.trod_int (cs := [z3]) Try.underlying3 g3
    simp only [List.cons.injEq, and_true] at e3
    subst e3
    clear g3
    obtain ⟨a4, e4, -, w4⟩ := DataW.trod_int (cs := [z4]) Try.underlying22 g4
    simp only [List.cons.injEq, and_true] at e4
    subst e4
    clear g4
    exact ⟨a0, a1, a2, a3, a4, rfl, w0, w1, w2, w3, w4⟩

open Fx

theorem flat_more {α : Type} (g : Nat → List α) (x : α) (j : Nat) : ∀ (rs : List Nat), rs.Nodup → j ∈ rs → (rs.flatMap fun r => g r ++ if j = r then [x] else []).Perm (rs.flatMap g ++ [x]) := by
  intro rs
  induction rs with
  | nil => intro _ h; simp at h
  | cons r rs ih =>
    intro hn hj
    rw [List.flatMap_cons, List.flatMap_cons]
    by_cases e : j = r
    · subst e
      rw [if_pos rfl]
      have hni : j ∉ rs := (List.nodup_cons.1 hn).1
      have h0 : (rs.flatMap fun r => g r ++ if j = r then [x] else []) = rs.flatMap g := by
        clear ih hj hn
        induction rs with
        | nil => rfl
        | cons q rs ih =>
          rw [List.flatMap_cons, List.flatMap_cons, if_neg (by intro h; exact hni (by rw [h]; exact List.mem_cons_self ..)), List.append_nil, ih (fun h => hni (List.mem_cons_of_mem _ h))]
      rw [h0, List.append_assoc, List.append_assoc]
      exact List.Perm.append_left _ List.perm_append_comm
    · rw [if_neg e, List.append_nil, List.append_assoc]
      exact List.Perm.append_left _ (ih (List.nodup_cons.1 hn).2 ((List.mem_cons.1 hj).resolve_left e))

theorem beg_perm (R : Nat) (hR : 0 < R) (F : Nat → Ent) (k : Nat) : ((List.range R).flatMap fun r => begL R F k r).Perm ((List.range k).map F) := by
  induction k with
  | zero =>
    have : ∀ rs : List Nat, (rs.flatMap fun r => begL R F 0 r) = [] := fun rs => by
      induction rs with
      | nil => rfl
      | cons r rs ih => rw [List.flatMap_cons, ih]; rfl
    rw [this]
    exact List.Perm.refl _
  | succ k ih =>
    have e : (fun r => begL R F (k + 1) r) = fun r => begL R F k r ++ if k % R = r then [F k] else [] := by funext r; exact begL_succ R F k r
    rw [e, List.range_succ, List.map_append]
    exact (flat_more (fun r => begL R F k r) (F k) (k % R) _ List.nodup_range (List.mem_range.2 (Nat.mod_lt _ hR))).trans (ih.append_right _)

theorem beg_all (a b n : Int) (P R : Nat) (hR : 0 < R) : allL (begF a b n P R) (List.replicate R []) = (List.range P).map (plr a b P n R) := by
  have hh : ∀ k : Nat, handsL (List.replicate k []) = [] := fun k => by
    induction k with
    | zero => rfl
    | succ k ih => rw [List.replicate_succ]; unfold handsL at ih ⊢; rw [List.flatMap_cons, ih]; rfl
  have hl : listsL (begF a b n P R) = (List.range R).flatMap fun r => begL R (plr a b P n R) P r := by unfold listsL begF; rw [List.flatMap_map]
  have hp : (allL (begF a b n P R) (List.replicate R [])).Perm ((List.range P).map (plr a b P n R)) := by
    unfold allL
    refine (st_perm _ _).trans ?_
    rw [hh, List.append_nil, hl]
    exact beg_perm R hR _ P
  refine List.Perm.eq_of_pairwise (le := fun x y => Se.idB y x = false) ?_ (st_srtd Se.idB_swo _) ?_ hp
  · intro x y hx hy h1 h2
    obtain ⟨i, -, rfl⟩ := List.mem_map.1 (hp.mem_iff.1 hx)
    obtain ⟨j, -, rfl⟩ := List.mem_map.1 hy
    simp only [Se.idB, decide_eq_false_iff_not] at h1 h2
    rw [plr_one (show (plr a b P n R i).id = (plr a b P n R j).id by omega)]
  · rw [List.pairwise_map]
    refine List.Pairwise.imp ?_ List.pairwise_lt_range
    intro i j hij
    show decide ((plr a b P n R j).id < (plr a b P n R i).id) = false
    refine decide_eq_false ?_
    show ¬ ((j : Int) + 1 < (i : Int) + 1)
    omega

set_option maxRecDepth 100000 in
set_option maxHeartbeats 4000000 in
theorem walk (a0_0 : Int) (a0_1 : Int) (a0_2 : Int) (a0_3 : Int) (a0_4 : Int) (w : World) (w0_0 : (Lit.int .i64 a0_0).wf = true) (w0_1 : (Lit.int .i64 a0_1).wf = true) (w0_2 : (Lit.int .i64 a0_2).wf = true) (w0_3 : (Lit.int .i64 a0_3).wf = true) (w0_4 : (Lit.int .u64 a0_4).wf = true) :
    Calls Try.prog 3 #[.agg #[.int .i64 a0_0, .int .i64 a0_1, .int .i64 a0_2, .int .i64 a0_3, .int .u64 a0_4]] w fun e w' => e = .returned (.bool true) ∧ Below w.heap.size w w' := by
  clear w0_0 w0_1 w0_2 w0_3
  have hs4 : 0 ≤ a0_4 ∧ a0_4 < 18446744073709551616 := by have := bounds_u64 w0_4; omega
  have HA := Lib.hid awake_ar
  go_enter Try.func3, Try.ntmps3
  go_wp2_with fail
  refine (config_any _ _ _ _ _ _).mono ?_
  rintro e v1 ⟨a, b, p, n, rfl, hsm, hb1⟩
  obtain ⟨hrt, ha3, hb3, hp4⟩ := hsm
  have hrd := rt_bd hrt
  obtain ⟨P, rfl⟩ : ∃ P : Nat, p = (P : Int) := ⟨p.toNat, by omega⟩
  have hP : P ≤ 4 := by omega
  have Hb1 := Lib.hid (unbox hb1)
  have BC1 := Lib.hid ((CfgBox.n1 w ⟨a0_0, a0_1, a0_2, a0_3, a0_4⟩ 24 rfl).nx hb1)
  obtain ⟨R, hRe⟩ : ∃ R : Nat, a * b = (R : Int) := ⟨(a * b).toNat, by have := Int.mul_nonneg (show 0 ≤ a by omega) (show 0 ≤ b by omega); omega⟩
  have hR : 1 ≤ R ∧ R ≤ 9 := by
    have h1 : (1 : Int) ≤ (R : Int) ∧ (R : Int) ≤ 9 := by
      rw [← hRe]
      have : a = 1 ∨ a = 2 ∨ a = 3 := by omega
      rcases this with rfl | rfl | rfl <;> omega
    omega
  have hre : regs a b P n = R := by unfold regs; rw [if_pos hrt, hRe]
  have HBg := Lib.hid (begin_yes a b n a0_4 P R hrt hre)
  have HAll := Lib.hid (beg_all a b n P R (by omega))
  have HLn := Lib.hid (show (listsL (begF a b n P R)).length ≤ 100000 ∧ (handsL (List.replicate R [])).length ≤ 100000 from by
    have h1 := congrArg List.length HAll.out
    unfold allL at h1
    rw [st_length, List.length_append, List.length_map, List.length_range] at h1
    omega)
  have HAa := Lib.hid (fun v u w hr ho => aall_any v u (begF a b n P R) (List.replicate R []) w hr ho HLn.out.1 HLn.out.2 (by intro o ho; rw [List.eq_of_mem_replicate ho]; simp) (by simp [begF]; omega) (by simp; omega))
  have Hrt := Lib.hid hrt
  have Hre := Lib.hid hre
  have Hmul := Lib.hid hRe
  clear hb1 hrt hre hRe
  have g0 := BC1.out.c0
  have g1 := BC1.out.c1
  have g2 := BC1.out.c2
  have g3 := BC1.out.c3
  have g4 := BC1.out.c4
  have f0 := BC1.out.f0
  have f1 := BC1.out.f1
  have f2 := BC1.out.f2
  have f3 := BC1.out.f3
  have f4 := BC1.out.f4
  have hgl := BC1.out.has
  have HB := Lib.hid (CfgBox.bel Hb1.out ⟨a, b, P, n, a0_4⟩ (Nat.le_refl _) rfl)
  have BC := Lib.hid (BC1.out.put ⟨a, b, P, n, a0_4⟩)
  go_wp2_with fail
  refine (HBg.out _).mono ?_
  rintro e v2 ⟨⟨g, u, rfl, hrs, hos⟩, hb2⟩
  replace HB := Lib.hid (nextW HB.out hb2)
  replace BC := Lib.hid (BC.out.nx hb2)
  have HRs := Lib.hid hrs
  have HOs := Lib.hid hos
  clear hb2 hrs hos g0 g1 g2 g3 g4 f0 f1 f2 f3 f4 hgl BC1 Hb1 HBg
  go_upto_region 3 with fail
  generalize hW : World.alloc _ _ = W
  have hb3' : Below v2.heap.size v2 W := by rw [← hW]; exact (Below.refl _ _).alloc (Nat.le_refl _) _
  have w0 : W.cell? ⟨v2.heap.size, 0, none⟩ = some (.slice (some ⟨g, 0, none⟩) R R) := by rw [← hW, World.cell?_alloc_new]; rfl
  have w1 : W.cell? ⟨v2.heap.size, 1, none⟩ = some (.slice (some ⟨u, 0, none⟩) R R) := by rw [← hW, World.cell?_alloc_new]; rfl
  replace HB := Lib.hid (nextW HB.out hb3')
  replace BC := Lib.hid (BC.out.nx hb3')
  replace HRs := Lib.hid (HRs.out.below hb3')
  replace HOs := Lib.hid (HOs.out.below hb3')
  generalize v2.heap.size = gw at *
  clear hW hb3'
  go_wp2_with fail
  refine (HAa.out _ _ _ HRs.out HOs.out).mono ?_
  rintro e w2 ⟨⟨v3, rfl, ho⟩, hb⟩
  rw [HAll.out] at ho
  have HL := Lib.hid (owned_sl ho)
  have q0 : w2.cell? ⟨gw, 0, none⟩ = some (.slice (some ⟨g, 0, none⟩) R R) := (hb.cell (p := ⟨gw, 0, none⟩) (World.block_lt_of_cell? _ _ w0)).trans w0
  have q1 : w2.cell? ⟨gw, 1, none⟩ = some (.slice (some ⟨u, 0, none⟩) R R) := (hb.cell (p := ⟨gw, 1, none⟩) (World.block_lt_of_cell? _ _ w1)).trans w1
  replace HB := Lib.hid (nextW HB.out hb)
  replace BC := Lib.hid (BC.out.nx hb)
  clear ho hb w0 w1 HRs HOs
  go_wp2_with fail
  refine (HA.out _).mono ?_
  rintro e w3 ⟨rfl, hb⟩
  have p0 : w3.cell? ⟨gw, 0, none⟩ = some (.slice (some ⟨g, 0, none⟩) R R) := (hb.cell (p := ⟨gw, 0, none⟩) (World.block_lt_of_cell? _ _ q0)).trans q0
  have p1 : w3.cell? ⟨gw, 1, none⟩ = some (.slice (some ⟨u, 0, none⟩) R R) := (hb.cell (p := ⟨gw, 1, none⟩) (World.block_lt_of_cell? _ _ q1)).trans q1
  replace HB := Lib.hid (nextW HB.out hb)
  replace BC := Lib.hid (BC.out.nx hb)
  replace HL := Lib.hid (HL.out.below hb)
  clear hb q0 q1
  obtain ⟨A3, c3, hv3, -⟩ := HL.out
  have hlen : ((List.range P).map (plr a b P n R)).length = P := by simp
  rw [hlen] at hv3
  subst hv3
  have HLs := Lib.hid (show IsSl entC w3 (.slice A3 P c3) ((List.range P).map (plr a b P n R)) from HL.out)
  clear hlen HL
  have hmul : a * b = (R : Int) := Hmul.out
  obtain ⟨c0, c1, c2, c3', c4, -⟩ := BC.out
  go_wp2
  clear c0 c1 c2 c3' c4
  go_loopw [6] (fun i wr => ∃ k : Nat, k ≤ P ∧ i = .int .i64 k ∧ CfgBox wr w.heap.size ⟨a, b, P, n, a0_4⟩ ∧ IsSl entC wr (.slice A3 P c3) ((List.range P).map (plr a b P n R)) ∧ Below w.heap.size w wr) (fun i _ => P - (intOf i).toNat)
  case atStart => exact ⟨0, Nat.zero_le _, rfl, BC.out, HLs.out, HB.out⟩
  case round =>
    clear BC HLs HB p0 p1
    obtain ⟨k, hk, rfl, hbc, hls, hb⟩ := hrel
    have BC := Lib.hid hbc
    have HLs := Lib.hid hls
    have HB := Lib.hid hb
    have hcl := hbc.has
    obtain ⟨c0, c1, c2, c3', c4, -⟩ := hbc
    clear hls hb
    by_cases hlt : k < P
    · have hx : ((List.range P).map (plr a b P n R))[k]? = some (plr a b P n R k) := by rw [List.getElem?_map, List.getElem?_range hlt]; rfl
      obtain ⟨bb, off, rfl, d0, d1, d2, d3, d4, d5, d6, d7, d8⟩ := elem_Ent HLs.out.at hx
      clear hx
      have hbb : bb < wr.heap.size := World.block_lt_of_cell? _ _ d0
      have hh : hasB a b P n ((k % R : Nat) : Int) = true := by
        unfold hasB
        rw [Hre.out]
        exact decide_eq_true (by have := Nat.mod_lt k (show 0 < R by omega); omega)
      have hmod : ((k % R : Nat) : Int) = (k : Int) % (R : Int) := by simp
      have e0 : (plr a b P n R k).id = (k : Int) + 1 := rfl
      have e2 : (plr a b P n R k).x = (k : Int) % (R : Int) % a * 1024 + 512 := by show crx a b P n ((k % R : Nat) : Int) + 512 = _; unfold crx; rw [if_pos hh, hmod]
      have e3 : (plr a b P n R k).y = (k : Int) % (R : Int) / a * 1024 + 512 := by show cry a b P n ((k % R : Nat) : Int) + 512 = _; unfold cry; rw [if_pos hh, hmod]
      have e6 : (plr a b P n R k).health = 100 := rfl
      rw [e0] at d0
      rw [e2] at d2
      rw [e3] at d3
      rw [e6] at d6
      clear e0 e2 e3 e6 hh hmod d1 d4 d5 d7 d8
      have hm1 : 0 ≤ (k : Int) % (R : Int) ∧ (k : Int) % (R : Int) < R := ⟨Int.emod_nonneg _ (by omega), Int.emod_lt_of_pos _ (by omega)⟩
      have hRn : ¬ (R : Int) = 0 := by omega
      have han : ¬ a = 0 := by omega
      have hx1 : 0 ≤ (k : Int) % (R : Int) % a ∧ (k : Int) % (R : Int) % a < a := ⟨Int.emod_nonneg _ han, Int.emod_lt_of_pos _ (by omega)⟩
      have hy1 : 0 ≤ (k : Int) % (R : Int) / a ∧ (k : Int) % (R : Int) / a ≤ (k : Int) % (R : Int) := ⟨Int.ediv_nonneg hm1.1 (by omega), Int.ediv_le_self _ hm1.1⟩
      have t1 : IntKind.i64.wrap ((k : Int) + 1) = (k : Int) + 1 := IntWalk.i64_in _ (by omega)
      have t2 : ((k : Int) % (R : Int)).tmod a = (k : Int) % (R : Int) % a := Int.tmod_eq_emod_of_nonneg hm1.1
      have t3 : ((k : Int) % (R : Int)).tdiv a = (k : Int) % (R : Int) / a := Int.tdiv_eq_ediv_of_nonneg hm1.1
      have t4 : IntKind.i64.wrap ((k : Int) % (R : Int) % a * 1024) = (k : Int) % (R : Int) % a * 1024 := IntWalk.i64_in _ (by omega)
      have t5 : IntKind.i64.wrap ((k : Int) % (R : Int) % a * 1024 + 512) = (k : Int) % (R : Int) % a * 1024 + 512 := IntWalk.i64_in _ (by omega)
      have t6 : IntKind.i64.wrap ((k : Int) % (R : Int) / a) = (k : Int) % (R : Int) / a := IntWalk.i64_in _ (by omega)
      have t7 : IntKind.i64.wrap ((k : Int) % (R : Int) / a * 1024) = (k : Int) % (R : Int) / a * 1024 := IntWalk.i64_in _ (by omega)
      have t8 : IntKind.i64.wrap ((k : Int) % (R : Int) / a * 1024 + 512) = (k : Int) % (R : Int) / a * 1024 + 512 := IntWalk.i64_in _ (by omega)
      go_wp2_with fail
      refine plan_region' (S := (fun w' => (∀ b o, b < (wr).heap.size → w'.cell? ⟨b, o, none⟩ = (wr).cell? ⟨b, o, none⟩) ∧ (∀ b o, b < (wr).heap.size → w'.frozen? ⟨b, o, none⟩ = (wr).frozen? ⟨b, o, none⟩) ∧ Below (wr).heap.size (wr) w')) [(0, true), (1, true), (2, true), (3, true), (4, true), (5, true), (6, true), (7, true), (8, true), (9, true), (10, true), (11, true), (12, true), (13, true), (14, true), (15, true), (16, true), (17, true), (18, true), (19, true), (20, true), (21, true), (22, true), (23, true), (24, true), (25, true), (26, true), (27, true), (28, true), (29, true), (30, true), (31, true), (32, true), (33, true), (34, true), (35, true), (36, true), (37, true), (38, true), (39, true), (40, true), (41, true), (42, true), (43, true)] (by kernel_rfl) (by kernel_rfl) (fun _ _ d _ _ h => by cases d <;> exact h) (keepW0 _) (fun hS => ?_)
      simp only [picked, List.getElem?_cons_succ, List.getElem?_cons_zero]
      refine row_free (v := ?_) (by rfl) ?_ ?_
      rotate_left 1
      focus (intro w hSw; (try dsimp only at hSw); go_simp; (try with_reducible rfl))
      (try simp only [Act.put, List.setIfInBounds_toArray, List.set_cons_zero, List.set_cons_succ])
      refine row_free (v := ?_) (by rfl) ?_ ?_
      rotate_left 1
      focus (intro w hSw; (try dsimp only at hSw); go_simp; (try with_reducible rfl))
      (try simp only [Act.put, List.setIfInBounds_toArray, List.set_cons_zero, List.set_cons_succ])
      refine row_free (v := ?_) (by rfl) ?_ ?_
      rotate_left 1
      focus (intro w hSw; (try dsimp only at hSw); go_simp; (try with_reducible rfl))
      (try simp only [Act.put, List.setIfInBounds_toArray, List.set_cons_zero, List.set_cons_succ])
      refine row_free (v := ?_) (by rfl) ?_ ?_
      rotate_left 1
      focus (intro w hSw; (try dsimp only at hSw); go_simp; (try with_reducible rfl))
      (try simp only [Act.put, List.setIfInBounds_toArray, List.set_cons_zero, List.set_cons_succ])
      refine row_free (v := ?_) (by rfl) ?_ ?_
      rotate_left 1
      focus (intro w hSw; (try dsimp only at hSw); go_simp; (try with_reducible rfl))
      (try simp only [Act.put, List.setIfInBounds_toArray, List.set_cons_zero, List.set_cons_succ])
      refine row_free (v := ?_) (by rfl) ?_ ?_
      rotate_left 1
      focus (intro w hSw; (try dsimp only at hSw); go_simp; (try with_reducible rfl))
      (try simp only [Act.put, List.setIfInBounds_toArray, List.set_cons_zero, List.set_cons_succ])
      refine row_free (v := ?_) (by rfl) ?_ ?_
      rotate_left 1
      focus (intro w hSw; (try dsimp only at hSw); go_simp; (try with_reducible rfl))
      (try simp only [Act.put, List.setIfInBounds_toArray, List.set_cons_zero, List.set_cons_succ])
      refine row_free (v := ?_) (by rfl) ?_ ?_
      rotate_left 1
      focus (intro w hSw; (try dsimp only at hSw); go_simp; (try with_reducible rfl))
      (try simp only [Act.put, List.setIfInBounds_toArray, List.set_cons_zero, List.set_cons_succ])
      refine row_free (v := ?_) (by rfl) ?_ ?_
      rotate_left 1
      focus (intro w hSw; (try dsimp only at hSw); go_simp; (try with_reducible rfl))
      (try simp only [Act.put, List.setIfInBounds_toArray, List.set_cons_zero, List.set_cons_succ])
      refine row_free (v := ?_) (by rfl) ?_ ?_
      rotate_left 1
      focus (intro w hSw; (try dsimp only at hSw); go_simp; (try with_reducible rfl))
      (try simp only [Act.put, List.setIfInBounds_toArray, List.set_cons_zero, List.set_cons_succ])
      refine row_free (v := ?_) (by rfl) ?_ ?_
      rotate_left 1
      focus (intro w hSw; (try dsimp only at hSw); go_simp; (try with_reducible rfl))
      (try simp only [Act.put, List.setIfInBounds_toArray, List.set_cons_zero, List.set_cons_succ])
      refine row_free (v := ?_) (by rfl) ?_ ?_
      rotate_left 1
      focus (intro w hSw; (try dsimp only at hSw); go_simp; (try with_reducible rfl))
      (try simp only [Act.put, List.setIfInBounds_toArray, List.set_cons_zero, List.set_cons_succ])
      refine row_free (v := ?_) (by rfl) ?_ ?_
      rotate_left 1
      focus (intro w hSw; (try dsimp only at hSw); go_simp; (try with_reducible rfl))
      (try simp only [Act.put, List.setIfInBounds_toArray, List.set_cons_zero, List.set_cons_succ])
      refine row_free (v := ?_) (by rfl) ?_ ?_
      rotate_left 1
      focus (intro w hSw; (try dsimp only at hSw); go_simp; (try with_reducible rfl))
      (try simp only [Act.put, List.setIfInBounds_toArray, List.set_cons_zero, List.set_cons_succ])
      refine row_free (v := ?_) (by rfl) ?_ ?_
      rotate_left 1
      focus (intro w hSw; (try dsimp only at hSw); go_simp; (try with_reducible rfl))
      (try simp only [Act.put, List.setIfInBounds_toArray, List.set_cons_zero, List.set_cons_succ])
      refine row_free (v := ?_) (by rfl) ?_ ?_
      rotate_left 1
      focus (intro w hSw; (try dsimp only at hSw); go_simp; (try with_reducible rfl))
      (try simp only [Act.put, List.setIfInBounds_toArray, List.set_cons_zero, List.set_cons_succ])
      refine row_free (v := ?_) (by rfl) ?_ ?_
      rotate_left 1
      focus (intro w hSw; (try dsimp only at hSw); go_simp; (try with_reducible rfl))
      (try simp only [Act.put, List.setIfInBounds_toArray, List.set_cons_zero, List.set_cons_succ])
      refine row_free (v := ?_) (by rfl) ?_ ?_
      rotate_left 1
      focus (intro w hSw; (try dsimp only at hSw); go_simp; (try with_reducible rfl))
      (try simp only [Act.put, List.setIfInBounds_toArray, List.set_cons_zero, List.set_cons_succ])
      refine row_free (v := ?_) (by rfl) ?_ ?_
      rotate_left 1
      focus (intro w hSw; (try dsimp only at hSw); go_simp; (try with_reducible rfl))
      (try simp only [Act.put, List.setIfInBounds_toArray, List.set_cons_zero, List.set_cons_succ])
      refine row_free (v := ?_) (by rfl) ?_ ?_
      rotate_left 1
      focus (intro w hSw; (try dsimp only at hSw); go_simp; (try with_reducible rfl))
      (try simp only [Act.put, List.setIfInBounds_toArray, List.set_cons_zero, List.set_cons_succ])
      refine row_free (v := ?_) (by rfl) ?_ ?_
      rotate_left 1
      focus (intro w hSw; (try dsimp only at hSw); go_simp; (try with_reducible rfl))
      (try simp only [Act.put, List.setIfInBounds_toArray, List.set_cons_zero, List.set_cons_succ])
      refine row_free (v := ?_) (by rfl) ?_ ?_
      rotate_left 1
      focus (intro w hSw; (try dsimp only at hSw); go_simp; (try with_reducible rfl))
      (try simp only [Act.put, List.setIfInBounds_toArray, List.set_cons_zero, List.set_cons_succ])
      refine row_free (v := ?_) (by rfl) ?_ ?_
      rotate_left 1
      focus (intro w hSw; (try dsimp only at hSw); go_simp; (try with_reducible rfl))
      (try simp only [Act.put, List.setIfInBounds_toArray, List.set_cons_zero, List.set_cons_succ])
      refine row_free (v := ?_) (by rfl) ?_ ?_
      rotate_left 1
      focus (intro w hSw; (try dsimp only at hSw); go_simp; (try with_reducible rfl))
      (try simp only [Act.put, List.setIfInBounds_toArray, List.set_cons_zero, List.set_cons_succ])
      refine row_free (v := ?_) (by rfl) ?_ ?_
      rotate_left 1
      focus (intro w hSw; (try dsimp only at hSw); go_simp; (try with_reducible rfl))
      (try simp only [Act.put, List.setIfInBounds_toArray, List.set_cons_zero, List.set_cons_succ])
      refine row_free (v := ?_) (by rfl) ?_ ?_
      rotate_left 1
      focus (intro w hSw; (try dsimp only at hSw); go_simp; (try with_reducible rfl))
      (try simp only [Act.put, List.setIfInBounds_toArray, List.set_cons_zero, List.set_cons_succ])
      refine row_free (v := ?_) (by rfl) ?_ ?_
      rotate_left 1
      focus (intro w hSw; (try dsimp only at hSw); go_simp; (try with_reducible rfl))
      (try simp only [Act.put, List.setIfInBounds_toArray, List.set_cons_zero, List.set_cons_succ])
      refine row_free (v := ?_) (by rfl) ?_ ?_
      rotate_left 1
      focus (intro w hSw; (try dsimp only at hSw); go_simp; (try with_reducible rfl))
      (try simp only [Act.put, List.setIfInBounds_toArray, List.set_cons_zero, List.set_cons_succ])
      refine row_free (v := ?_) (by rfl) ?_ ?_
      rotate_left 1
      focus (intro w hSw; (try dsimp only at hSw); go_simp; (try with_reducible rfl))
      (try simp only [Act.put, List.setIfInBounds_toArray, List.set_cons_zero, List.set_cons_succ])
      refine row_free (v := ?_) (by rfl) ?_ ?_
      rotate_left 1
      focus (intro w hSw; (try dsimp only at hSw); go_simp; (try with_reducible rfl))
      (try simp only [Act.put, List.setIfInBounds_toArray, List.set_cons_zero, List.set_cons_succ])
      refine row_free (v := ?_) (by rfl) ?_ ?_
      rotate_left 1
      focus (intro w hSw; (try dsimp only at hSw); go_simp; (try with_reducible rfl))
      (try simp only [Act.put, List.setIfInBounds_toArray, List.set_cons_zero, List.set_cons_succ])
      refine row_free (v := ?_) (by rfl) ?_ ?_
      rotate_left 1
      focus (intro w hSw; (try dsimp only at hSw); go_simp; (try with_reducible rfl))
      (try simp only [Act.put, List.setIfInBounds_toArray, List.set_cons_zero, List.set_cons_succ])
      refine row_free (v := ?_) (by rfl) ?_ ?_
      rotate_left 1
      focus (intro w hSw; (try dsimp only at hSw); go_simp; (try with_reducible rfl))
      (try simp only [Act.put, List.setIfInBounds_toArray, List.set_cons_zero, List.set_cons_succ])
      refine row_free (v := ?_) (by rfl) ?_ ?_
      rotate_left 1
      focus (intro w hSw; (try dsimp only at hSw); go_simp; (try with_reducible rfl))
      (try simp only [Act.put, List.setIfInBounds_toArray, List.set_cons_zero, List.set_cons_succ])
      refine row_free (v := ?_) (by rfl) ?_ ?_
      rotate_left 1
      focus (intro w hSw; (try dsimp only at hSw); go_simp; (try with_reducible rfl))
      (try simp only [Act.put, List.setIfInBounds_toArray, List.set_cons_zero, List.set_cons_succ])
      refine row_free (v := ?_) (by rfl) ?_ ?_
      rotate_left 1
      focus (intro w hSw; (try dsimp only at hSw); go_simp; (try with_reducible rfl))
      (try simp only [Act.put, List.setIfInBounds_toArray, List.set_cons_zero, List.set_cons_succ])
      refine row_free (v := ?_) (by rfl) ?_ ?_
      rotate_left 1
      focus (intro w hSw; (try dsimp only at hSw); go_simp; (try with_reducible rfl))
      (try simp only [Act.put, List.setIfInBounds_toArray, List.set_cons_zero, List.set_cons_succ])
      refine row_free (v := ?_) (by rfl) ?_ ?_
      rotate_left 1
      focus (intro w hSw; (try dsimp only at hSw); go_simp; (try with_reducible rfl))
      (try simp only [Act.put, List.setIfInBounds_toArray, List.set_cons_zero, List.set_cons_succ])
      refine row_free (v := ?_) (by rfl) ?_ ?_
      rotate_left 1
      focus (intro w hSw; (try dsimp only at hSw); go_simp; (try with_reducible rfl))
      (try simp only [Act.put, List.setIfInBounds_toArray, List.set_cons_zero, List.set_cons_succ])
      refine row_free (v := ?_) (by rfl) ?_ ?_
      rotate_left 1
      focus (intro w hSw; (try dsimp only at hSw); go_simp; (try with_reducible rfl))
      (try simp only [Act.put, List.setIfInBounds_toArray, List.set_cons_zero, List.set_cons_succ])
      refine row_free (v := ?_) (by rfl) ?_ ?_
      rotate_left 1
      focus (intro w hSw; (try dsimp only at hSw); go_simp; (try with_reducible rfl))
      (try simp only [Act.put, List.setIfInBounds_toArray, List.set_cons_zero, List.set_cons_succ])
      refine row_free (v := ?_) (by rfl) ?_ ?_
      rotate_left 1
      focus (intro w hSw; (try dsimp only at hSw); go_simp; (try with_reducible rfl))
      (try simp only [Act.put, List.setIfInBounds_toArray, List.set_cons_zero, List.set_cons_succ])
      refine row_free (v := ?_) (by rfl) ?_ ?_
      rotate_left 1
      focus (intro w hSw; (try dsimp only at hSw); go_simp; (try with_reducible rfl))
      (try simp only [Act.put, List.setIfInBounds_toArray, List.set_cons_zero, List.set_cons_succ])
      refine row_free (v := ?_) (by rfl) ?_ ?_
      rotate_left 1
      focus (intro w hSw; (try dsimp only at hSw); go_simp; (try with_reducible rfl))
      (try simp only [Act.put, List.setIfInBounds_toArray, List.set_cons_zero, List.set_cons_succ])
      refine row_done ?_
      clear hS
      skip
      go_wp2
      go_roundw
      case rel => exact ⟨k + 1, by omega, by go_num, BC.out.drew, HLs.out.keep fun p u hp => hp, HB.out.drew⟩
      case measure => simp [intOf]; omega
    · obtain rfl : k = P := by omega
      go_wp2
      go_ret
      exact ⟨rfl, HB.out⟩

set_option maxRecDepth 100000 in
theorem lifted (os : Os) (started : os.Started) (H : Type) (enc : TypeId × Value → H) :
    ReturnsInHanded {} Try.checked os 3 .any (Rows.arenaBeginsSpec.pre6 enc Try.prog Try.f3 Rows.arenaBeginsRow.domain false) (Rows.arenaBeginsSpec.post enc Try.prog Try.f3 false true false false) := by
  refine returnsInHanded_of_change (C := Try.checked) own started (by kernel_rfl) Try.func3
    (ChangeSpec.witness6 (enc := enc) (C := Try.checked) false ⟨#[], #[.agg #[.int .i64 0, .int .i64 0, .int .i64 0, .int .i64 0, .int .u64 0]], []⟩ 8 (by kernel_rfl) (by kernel_rfl) (by kernel_rfl) (by kernel_rfl)) ?_
  intro W base args ds gs before hval0 hW hcnd _
  have hval : ∀ (j : Nat) t v, Try.f3.params[j]? = some t → args[j]? = some v → Value.okWide Try.prog W .any base t v := hval0
  have hW' := hW
  obtain ⟨p, q, hA0, hV, rfl, hfz, hnd⟩ := hW
  have hA : DataW.TrodAll enc Try.prog W 0 (fun _ => true) true Try.f3.params.toList args.toList ds p := hA0
  rw [Try.params3] at hA hval
  obtain ⟨v0, vs0, d0, ds0, p0, q0, hargs, rfl, rfl, h0, r0⟩ := trodAll_cons hA
  obtain ⟨rfl, rfl, rfl⟩ := trodAll_nil r0
  obtain rfl : args = #[v0] := by cases args; simp_all
  obtain ⟨rfl, rfl⟩ := trodVars_none hV
  obtain ⟨cs0, rfl, -⟩ := okWide_struct Try.underlying24 (hval 0 24 v0 rfl rfl)
  have k0 := h0
  have lt0 : ∀ x ∈ p0, x.block < W.heap.size := by obtain ⟨m, hm⟩ := k0; exact DataW.trod_lt m _ _ _ hm
  obtain ⟨fuel0, hf0⟩ := h0
  obtain ⟨l0⟩ := cs0
  obtain ⟨a0_0, a0_1, a0_2, a0_3, a0_4, rfl, w0_0, w0_1, w0_2, w0_3, w0_4⟩ := open_T24 (cs := l0) hf0
  clear hA0 hval0
  refine (walk a0_0 a0_1 a0_2 a0_3 a0_4 W w0_0 w0_1 w0_2 w0_3 w0_4).mono fun e W' ⟨he, bel⟩ => ?_
  subst he
  exact ⟨_, rfl, _, _, _, [], _, [], hW', trodAll_mk1 (shut_bool Try.underlying4 _), (trodAll_cons_mk (Below.trod laidOut (by kernel_rfl) (of_decide_eq_true (by kernel_rfl)) k0 bel lt0) trodAll_mk0), rfl, bel.frame _, fun h => by cases h⟩

theorem over : Rows.arenaBeginsRow.holds Try.pinned (OpenSpec.ofChange Rows.arenaBeginsSpec) :=
  OpenClaim.holds_of_wide 3 Try.f3 rfl rfl rfl rfl rfl rfl rfl ⟨rfl, rfl, rfl, rfl, rfl⟩ rfl rfl rfl rfl rfl (by kernel_rfl) Try.func3 (by kernel_rfl)
    (of_decide_eq_true (by kernel_rfl)) (by unfold Func.isWrapper; first | (rw [if_pos (by decide +kernel)]; kernel_rfl) | (rw [if_neg (by decide +kernel)]; exact ⟨rfl, rfl⟩))
    (fun os started H enc _ => lifted os started H enc)

end Go.Proofs.Ytfpofegfbinalaa.arenaBegins
namespace Go.Proofs.Ytfpofegfbinalaa
theorem arenaBegins_proved : Rows.ArenaBeginsSaid := arenaBegins.over
end Go.Proofs.Ytfpofegfbinalaa
