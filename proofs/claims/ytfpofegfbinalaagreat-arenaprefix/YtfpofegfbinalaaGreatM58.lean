/- Package arena: Step, of inputs that are not right ones of all players. Package arena: Run, over frames of which the last is none of right inputs. -/
import Derived.Test.YtfpofegfbinalaaGreatM55
import Derived.Test.YtfpofegfbinalaaGreatM56
namespace Go.Proofs.YtfpofegfbinalaaGreat.Fx
open Go.ChangeShapes Go.WideShapes Go.ChangeAt Go.RowKit
set_option linter.unusedVariables false
set_option maxRecDepth 100000

set_option maxHeartbeats 16000000 in
theorem rgno_big (a b p n s r f : Int) (hs : 0 ≤ s ∧ s < 18446744073709551616) (v : Value) (l : List Ent) (t : Value) (ins : List Inp) (u : Value) (ib : List Crs) (w : World) (hv : IsSl entC w v l) (hn : l.length ≤ 100) (ht : IsSl inpC w t ins) (hk : ins.length ≤ 1000) (hu : IsSl crsC w u ib) (hm : ib.length ≤ 10000)
    (q : Int) (hwz : ¬ q = 0) (hq : whyNot a b p n r f l ins ib = q) :
    Calls Tryz.prog 26 #[.agg #[.int .i64 a, .int .i64 b, .int .i64 p, .int .i64 n, .int .u64 s], .int .i64 r, .agg #[.int .i64 f, v], t, u] w fun z w' =>
      z = .returned (.tuple #[.agg #[.int .i64 0, .slice none 0 0], .slice none 0 0, .int .i64 q]) ∧ Below w.heap.size w w' := by
  have HW := Lib.hid (fun w1 (hb : Below w.heap.size w w1) => hq ▸ refusal_any a b p n s r f v l t ins u ib w1 (hv.below hb) (by omega) (ht.below hb) hk (hu.below hb) (by omega))
  have HV := Lib.hid hv
  have HT := Lib.hid ht
  have HU := Lib.hid hu
  clear hq
  obtain ⟨A, c, rfl, -⟩ := hv
  obtain ⟨A', c', rfl, -⟩ := ht
  obtain ⟨A'', c'', rfl, -⟩ := hu
  go_enter Tryz.func26, Tryz.ntmps26
  go_upto_region 1 with fail
  generalize hW : World.alloc _ _ = W
  have BG := Lib.hid (show CfgBox W w.heap.size ⟨a, b, p, n, s⟩ from by rw [← hW]; exact CfgBox.n3a _ ⟨a, b, p, n, s⟩ _ _ _ rfl)
  have BS := Lib.hid (show Blk W (w.heap.size + 1) 59 (regC ⟨f, .slice A l.length c⟩).toArray from by rw [← hW]; exact (Blk.new' _ _ _ (by simp)).below ((Below.refl _ _).alloc (Nat.le_refl _) _) (by simp))
  have BR := Lib.hid (show Blk W (w.heap.size + 1 + 1) 59 (regC ⟨0, .slice none 0 0⟩).toArray from by rw [← hW]; exact Blk.new' _ _ _ (by simp))
  have HB := Lib.hid (show Below w.heap.size w W from by rw [← hW]; exact (((Below.refl _ _).alloc (Nat.le_refl _) _).alloc (by simp) _).alloc (by simp; omega) _)
  clear hW
  have hgg := BG.out.has
  have hss := BS.out.lt
  obtain ⟨g0, g1, g2, g3, g4, -⟩ := BG.out
  obtain ⟨s0, s1, -⟩ := BS.out.reg
  go_wp2_with fail
  refine (HW.out _ HB.out).mono ?_
  rintro e w1 ⟨rfl, hb1⟩
  replace HB := Lib.hid (nextW HB.out hb1)
  replace BG := Lib.hid (BG.out.nx hb1)
  replace BS := Lib.hid (BS.out.nx hb1)
  replace BR := Lib.hid (BR.out.nx hb1)
  clear hb1 g0 g1 g2 g3 g4 hgg hss s0 s1 HW
  have hwz' : (q != 0) = true := by simpa using hwz
  clear hwz
  obtain ⟨r0, r1, q0, q1⟩ := BR.out.reg
  have hrr := BR.out.lt
  have HB2 := Lib.hid (RegBox.bel HB.out ⟨0, .slice none 0 0⟩ (show w.heap.size ≤ w.heap.size + 1 + 1 by omega) rfl)
  have HR2 := Lib.hid (BR.out.reg.put ⟨0, .slice none 0 0⟩)
  go_wp2
  obtain ⟨z0, z1, -⟩ := HR2.out
  refine bodyPost_ret (v := .tuple #[.agg #[.int .i64 0, .slice none 0 0], .slice none 0 0, .int .i64 q]) (by simp [results, Tryz.results26, go_sem, z0, z1]) rfl ?_
  exact ⟨rfl, HB2.out⟩

set_option maxHeartbeats 16000000 in
theorem astep_no (a b n s f : Int) (P R : Nat) (h : rt a b P n = true) (hR : regs a b P n = R) (hs : 0 ≤ s ∧ s < 18446744073709551616) (hf : 0 ≤ f ∧ f ≤ 9999) (fs : List (Int × List Ent)) (os : List (List Crs)) (hW : WOk a b P n f R fs os)
    (xs : List Inp) (hx : inpsB P xs = false) (hxl : xs.length ≤ 1000) (v u t : Value) (w : World) (hv : RgsSl w v fs) (hu : OutSl w u os) (ht : IsSl inpC w t xs) :
    Calls Tryz.prog 24 #[.agg #[.int .i64 a, .int .i64 b, .int .i64 (P : Int), .int .i64 n, .int .u64 s], .agg #[v, u], t] w fun z w' =>
      z = .returned (.tuple #[.agg #[.slice none 0 0, .slice none 0 0], .int .i64 11]) ∧ Below w.heap.size w w' := by
  have hrd := rt_bd h
  have hbd := regs_bd a b P n
  have hR16 : R ≤ 16 := by omega
  have hP6 : P ≤ 6 := by omega
  have HN := Lib.hid (fun w => new_yes a b P n s w h)
  have HRg := Lib.hid (fun w => hR ▸ regions_any a b P n s w)
  have HE := Lib.hid (fun w => empty_any a b P n s R hR hR16 w)
  have HI := Lib.hid (fun (r : Int) (u : Value) w hO => ainbox_any a b P n s r u os w hO (by rw [hW.lenO]; omega) (fun o ho => by obtain ⟨i, hi⟩ := List.getElem?_of_mem ho; exact Nat.le_trans (hW.out i o hi).1 (by omega)) (fun q hq => by
    unfold nr at hq
    split at hq
    · exact ((mem_nrTo _ _ _ _).1 hq).1
    · simp at hq))
  have HSt := Lib.hid (fun (r : Nat) (g : Int × List Ent) (hg : fs[r]? = some g) => by
    obtain ⟨h1, h2, h3⟩ := wok_asked hR hW hf hg
    have h0 := hW.reg r g hg
    have hwy : whyNot a b P n r f g.2 xs (inW a b P n os r) = 11 := by
      have h4 := why_zero (h3 (List.replicate P ⟨0, 0, false⟩) ⟨List.length_replicate, by rw [List.all_eq_true]; intro x hx; rw [List.eq_of_mem_replicate hx]; rfl⟩)
      unfold whyNot
      rw [if_pos h4.1, if_pos h4.2.1, if_neg (by rw [hx]; decide)]
    exact fun (vk t ib : Value) w (e1 : IsSl entC w vk g.2) (e2 : IsSl inpC w t xs) (e3 : IsSl crsC w ib (inW a b P n os r)) => rgno_big a b P n s r g.1 hs vk g.2 t xs ib (inW a b P n os r) w e1 (Nat.le_trans (okl_len h0.2.1 h0.2.2.2) (by omega)) e2 hxl e3
      (Nat.le_trans (inbox_le (m := 600) fun o ho => by obtain ⟨i, hi⟩ := List.getElem?_of_mem ho; exact (hW.out i o hi).1) (Nat.le_trans (Nat.mul_le_mul_right _ (nr_le a b P n r)) (by omega)))
      11 (by decide) (by rw [h0.1]; exact hwy))
  have HWl := Lib.hid (And.intro hW.lenF hW.lenO)
  have HV := Lib.hid hv
  have HU := Lib.hid hu
  have HT := Lib.hid ht
  obtain ⟨rs0, hrs0, hra0⟩ := hv
  obtain ⟨vs0, hvs0, hva0⟩ := hu
  obtain ⟨A1, n1, hv1, -⟩ := hrs0
  obtain ⟨A2, n2, hu1, -⟩ := hvs0
  rw [show rs0.length = R by rw [hra0.1, hW.lenF]] at hv1
  rw [show vs0.length = R by rw [hva0.1, hW.lenO]] at hu1
  subst hv1 hu1
  obtain ⟨A3, n3, hx3, -⟩ := ht
  subst hx3
  have HFn := Lib.hid (fun i g (hg : fs[i]? = some g) => (hW.reg i g hg).1)
  obtain ⟨X, hX⟩ : ∃ X : Nat → List Ent, X = fun _ => [] := ⟨_, rfl⟩
  obtain ⟨Y, hY⟩ : ∃ Y : Nat → List Crs, Y = fun _ => [] := ⟨_, rfl⟩
  have hR0 : 0 < R := by
    unfold regs at hR
    rw [if_pos h] at hR
    have := Int.mul_pos (show 0 < a by omega) (show 0 < b by omega)
    omega
  have hfw : IntKind.i64.wrap (f + 1) = f + 1 := by rw [IntKind.wrap_i64]; omega
  clear hX hY hW hbd hrd hx hva0 hra0 h hR
  go_enter Tryz.func24, Tryz.ntmps24
  go_upto_region 1 with fail
  generalize hW : World.alloc _ _ = W
  have BC := Lib.hid (show CfgBox W w.heap.size ⟨a, b, P, n, s⟩ from by rw [← hW]; exact CfgBox.n3a _ ⟨a, b, P, n, s⟩ _ _ _ rfl)
  have BW := Lib.hid (show Blk W (w.heap.size + 1) 32 #[.slice A1 R n1, .slice A2 R n2] from by rw [← hW]; exact (Blk.new' _ _ _ (by simp)).below ((Below.refl _ _).alloc (Nat.le_refl _) _) (by simp))
  have BR := Lib.hid (show Blk W (w.heap.size + 1 + 1) 32 #[nil0, nil0] from by rw [← hW]; exact Blk.new' _ _ _ (by simp))
  have HB := Lib.hid (show Below w.heap.size w W from by rw [← hW]; exact (((Below.refl _ _).alloc (Nat.le_refl _) _).alloc (by simp) _).alloc (by simp; omega) _)
  clear hW
  have hcl := BC.out.has
  obtain ⟨c0, c1, c2, c3, c4, -⟩ := BC.out
  go_wp2_with fail
  refine (HN.out _).mono ?_
  rintro e v2 ⟨rfl, hb⟩
  replace HB := Lib.hid (nextW HB.out hb)
  replace BR := Lib.hid (BR.out.nx hb)
  replace BW := Lib.hid (BW.out.nx hb)
  clear hb c0 c1 c2 c3 c4 hcl BC
  go_upto_region 4 with fail
  generalize hW : World.alloc _ _ = W2
  have hal0 : Below v2.heap.size v2 W2 := by rw [← hW]; exact (Below.refl _ _).alloc (Nat.le_refl _) _
  have BG := Lib.hid (show Blk W2 v2.heap.size 39 #[.int .i64 a, .int .i64 b, .int .i64 P, .int .i64 n, .int .u64 s] from by rw [← hW]; exact Blk.new' _ _ _ rfl)
  replace BR := Lib.hid (BR.out.nx hal0)
  replace BW := Lib.hid (BW.out.nx hal0)
  replace HB := Lib.hid (nextW HB.out hal0)
  generalize v2.heap.size = gb at *
  clear hW hal0
  have hgl := BG.out.lt
  have hwl := BW.out.lt
  have g0 : W2.cell? ⟨gb, 0, none⟩ = some (.int .i64 a) := BG.out.cell 0
  have g1 : W2.cell? ⟨gb, 1, none⟩ = some (.int .i64 b) := BG.out.cell 1
  have g2 : W2.cell? ⟨gb, 2, none⟩ = some (.int .i64 P) := BG.out.cell 2
  have g3 : W2.cell? ⟨gb, 3, none⟩ = some (.int .i64 n) := BG.out.cell 3
  have g4 : W2.cell? ⟨gb, 4, none⟩ = some (.int .u64 s) := BG.out.cell 4
  have w0 : W2.cell? ⟨w.heap.size + 1, 0, none⟩ = some (.slice A1 R n1) := BW.out.cell 0
  have w1 : W2.cell? ⟨w.heap.size + 1, 1, none⟩ = some (.slice A2 R n2) := BW.out.cell 1
  refine plan_region' (S := (fun w' => (∀ b o, b < (W2).heap.size → w'.cell? ⟨b, o, none⟩ = (W2).cell? ⟨b, o, none⟩) ∧ (∀ b o, b < (W2).heap.size → w'.frozen? ⟨b, o, none⟩ = (W2).frozen? ⟨b, o, none⟩) ∧ Below (W2).heap.size (W2) w')) [(0, true), (1, true), (2, true), (3, true), (4, false), (5, true), (6, true), (7, true), (8, true), (9, true), (10, true), (11, false), (12, true), (13, true)] (by kernel_rfl) (by kernel_rfl) (fun _ _ d _ _ h => by cases d <;> exact h) (keepW0 _) (fun hS => ?_)
  simp only [picked, List.getElem?_cons_succ, List.getElem?_cons_zero]
  iterate 4
   refine row_free (v := ?_) (by rfl) ?_ ?_; rotate_left 1; focus (intro w hSw; (try dsimp only at hSw); go_simp; (try with_reducible rfl))
   (try simp only [Act.put, tA, tB, tC])
  refine row_call (by rfl) (fun K hK => ?_)
  go_simp
  (refine (HRg.out _).mono ?_; rintro e w5 ⟨rfl, hb5⟩)
  (try go_wp2_with fail)
  refine hK.out _ _ ?_ (fun hS' => ?_)
  · (try dsimp only); first | exact keepW (by assumption) (by assumption) | exact keepB (by assumption) (by assumption) | exact keepA (by assumption) | assumption
  clear hS hK K
  have hS := hS'
  clear hS'
  iterate 6
   (try simp only [Act.put, tA, tB, tC])
   refine row_free (v := ?_) (by rfl) ?_ ?_; rotate_left 1; focus (intro w hSw; (try dsimp only at hSw); go_simp; (try with_reducible rfl))
  (try simp only [Act.put, tA, tB, tC])
  refine row_call (by rfl) (fun K hK => ?_)
  go_simp
  (refine (HRg.out _).mono ?_; rintro e w6 ⟨rfl, hb6⟩)
  (try go_wp2_with fail)
  refine hK.out _ _ ?_ (fun hS' => ?_)
  · (try dsimp only); first | exact keepW (by assumption) (by assumption) | exact keepB (by assumption) (by assumption) | exact keepA (by assumption) | assumption
  clear hS hK K
  have hS := hS'
  clear hS'
  iterate 2
   (try simp only [Act.put, tA, tB, tC])
   refine row_free (v := ?_) (by rfl) ?_ ?_; rotate_left 1; focus (intro w hSw; (try dsimp only at hSw); go_simp; (try with_reducible rfl))
  (try simp only [Act.put, tA, tB, tC])
  refine row_done ?_
  skip
  replace HB := Lib.hid (nextW HB.out hS.2.2)
  replace BR := Lib.hid (BR.out.nx hS.2.2)
  replace BW := Lib.hid (BW.out.nx hS.2.2)
  replace BG := Lib.hid (BG.out.nx hS.2.2)
  clear hS hb5 hb6 g0 g1 g2 g3 g4 w0 w1 hgl hwl
  have hgl := BG.out.lt
  have g0 : w6.cell? ⟨gb, 0, none⟩ = some (.int .i64 a) := BG.out.cell 0
  have g1 : w6.cell? ⟨gb, 1, none⟩ = some (.int .i64 b) := BG.out.cell 1
  have g2 : w6.cell? ⟨gb, 2, none⟩ = some (.int .i64 P) := BG.out.cell 2
  have g3 : w6.cell? ⟨gb, 3, none⟩ = some (.int .i64 n) := BG.out.cell 3
  have g4 : w6.cell? ⟨gb, 4, none⟩ = some (.int .u64 s) := BG.out.cell 4
  go_wp2_with fail
  refine (HE.out _).mono ?_
  rintro e W3 ⟨⟨gr, go_, rfl, hrow, hout⟩, hb⟩
  have HR := Lib.hid (hrow.mono HB.out.size)
  have HO := Lib.hid (hout.mono HB.out.size)
  replace HB := Lib.hid (nextW HB.out hb)
  replace BG := Lib.hid (BG.out.nx hb)
  replace BR := Lib.hid (BR.out.nx hb)
  replace BW := Lib.hid (BW.out.nx hb)
  clear hb hrow hout g0 g1 g2 g3 g4 hgl
  go_upto_region 7 with fail
  generalize hW : World.alloc _ _ = W4
  have hal : Below W3.heap.size W3 W4 := by rw [← hW]; exact (Below.refl _ _).alloc (Nat.le_refl _) _
  have HK := Lib.hid (show StpAt w.heap.size (w.heap.size + 1) (w.heap.size + 1 + 1) gb W3.heap.size gr go_ R #[.int .i64 a, .int .i64 b, .int .i64 P, .int .i64 n, .int .u64 s] (.slice A1 R n1) (.slice A2 R n2) (f + 1) X Y 0 W4 (List.replicate R r0) (List.replicate R nil0) from
    ⟨List.length_replicate, List.length_replicate, own_below HR.out hal, own_below HO.out hal, fun i hi => by omega, fun i hi => by omega, fun i _ hi => by rw [List.getElem?_replicate, if_pos hi], fun i _ hi => by rw [List.getElem?_replicate, if_pos hi], BG.out.nx hal, BW.out.nx hal, by rw [← hW]; exact Blk.new' _ _ _ rfl, BR.out.nx hal⟩)
  replace HB := Lib.hid (nextW HB.out hal)
  generalize W3.heap.size = gx at *
  clear hW hal HR HO BG BR BW
  have hwl := HK.out.world.lt
  have w0 : W4.cell? ⟨w.heap.size + 1, 0, none⟩ = some (.slice A1 R n1) := HK.out.world.cell 0
  go_wp2
  clear w0 hwl
  go_loopw [42] (fun i wr => ∃ (k : Nat), k < R ∧ i = .int .i64 k ∧ StpAt w.heap.size (w.heap.size + 1) (w.heap.size + 1 + 1) gb gx gr go_ R #[.int .i64 a, .int .i64 b, .int .i64 P, .int .i64 n, .int .u64 s] (.slice A1 R n1) (.slice A2 R n2) (f + 1) X Y 0 wr (List.replicate R r0) (List.replicate R nil0) ∧ Below w.heap.size w wr) (fun i _ => R - (intOf i).toNat)
  case atStart => exact ⟨0, hR0, rfl, HK.out, HB.out⟩
  case round =>
    clear HK HB
    obtain ⟨k, hlt, rfl, hst, hbel⟩ := hrel
    have HK := Lib.hid hst
    have HB := Lib.hid hbel
    clear hst hbel
    · have hd1 : decide ((k : Int) < (R : Int)) = true := decide_eq_true (by omega)
      obtain ⟨g, hg⟩ := getE fs k R HWl.out.1 hlt
      obtain ⟨rs1, hrs1, hra1⟩ := HV.out.below HB.out
      obtain ⟨y, hy⟩ := getE rs1 k R (by rw [hra1.1, HWl.out.1]) hlt
      obtain ⟨hyf, hys⟩ := hra1.2 k y g hy hg
      have hyf' : y.frame = f := by rw [hyf]; exact HFn.out k g hg
      obtain ⟨b1, off1, rfl, d0, d1⟩ := elem_Reg hrs1.at hy
      rw [hyf'] at d0
      have HYs := Lib.hid hys
      obtain ⟨Ay, ny, hyl, -⟩ := hys
      rw [hyl] at d1 HYs
      have hgf := HFn.out k g hg
      have hSk := HSt.out k g hg
      have hIk := HI.out (k : Int)
      obtain ⟨IB, hIB⟩ : ∃ IB, inW a b P n os k = IB := ⟨_, rfl⟩
      have hIB' : inboxL (nr a b P n k) os k = IB := hIB
      simp only [hgf, hIB] at hSk
      simp only [hIB'] at hIk
      have HSk := Lib.hid hSk
      have HIk := Lib.hid hIk
      clear hgf hSk hIk hIB hIB'
      clear hrs1 hra1 hy hyf hyf' hyl
      go_upto_region 10 with fail
      generalize hW : World.alloc _ _ = W
      have hal : Below wr.heap.size wr W := by rw [← hW]; exact (Below.refl _ _).alloc (Nat.le_refl _) _
      have b0 : W.cell? ⟨wr.heap.size, 0, none⟩ = some (.int .i64 f) := by rw [← hW, World.cell?_alloc_new]; rfl
      have b1 : W.cell? ⟨wr.heap.size, 1, none⟩ = some (.slice Ay g.2.length ny) := by rw [← hW, World.cell?_alloc_new]; rfl
      replace HK := Lib.hid (HK.out.nx hal)
      replace HB := Lib.hid (nextW HB.out hal)
      replace HYs := Lib.hid (HYs.out.below hal)
      have HUW := Lib.hid (HU.out.below HB.out)
      have HTW := Lib.hid (HT.out.below HB.out)
      generalize hgq : wr.heap.size = gq at *
      clear hW hal d0 d1 hgq
      have hql := World.block_lt_of_cell? _ _ b0
      have hgl := HK.out.grid.lt
      have hwl := HK.out.world.lt
      have hxl := HK.out.box.lt
      have g0 : W.cell? ⟨gb, 0, none⟩ = some (.int .i64 a) := HK.out.grid.cell 0
      have g1 : W.cell? ⟨gb, 1, none⟩ = some (.int .i64 b) := HK.out.grid.cell 1
      have g2 : W.cell? ⟨gb, 2, none⟩ = some (.int .i64 P) := HK.out.grid.cell 2
      have g3 : W.cell? ⟨gb, 3, none⟩ = some (.int .i64 n) := HK.out.grid.cell 3
      have g4 : W.cell? ⟨gb, 4, none⟩ = some (.int .u64 s) := HK.out.grid.cell 4
      have w1 : W.cell? ⟨w.heap.size + 1, 1, none⟩ = some (.slice A2 R n2) := HK.out.world.cell 1
      have x0 : W.cell? ⟨gx, 0, none⟩ = some (.slice (some ⟨gr, 0, none⟩) R R) := HK.out.box.cell 0
      have x1 : W.cell? ⟨gx, 1, none⟩ = some (.slice (some ⟨go_, 0, none⟩) R R) := HK.out.box.cell 1
      obtain ⟨Ar, cr, e1, hat⟩ := owned_cells HK.out.row
      cases e1
      obtain ⟨b', off, e2, y0, y1⟩ := elem_Reg hat (HK.out.reg0 k (Nat.zero_le _) hlt)
      cases e2
      rw [Nat.zero_add] at y0 y1
      have hrl := World.block_lt_of_cell? _ _ y0
      have z0 : W.cell? ⟨go_, k, none⟩ = some nil0 := by rw [HK.out.outs.cellAt k (by omega)]; exact HK.out.out0 k (Nat.zero_le _) hlt
      have hol := World.block_lt_of_cell? _ _ z0
      have fr0 := HK.out.row.frozenAt (k * 2)
      have fr1 := HK.out.row.frozenAt (k * 2 + 1)
      have fo := HK.out.outs.frozenAt k
      have hne1 : gx ≠ gr := fun e => own_neA HK.out.row HK.out.box (by decide) (by rw [e]; rfl)
      have hne2 : go_ ≠ gr := fun e => by
        rcases own_apartA HK.out.row HK.out.outs (by decide) with h | h
        · simp [Value.ownBlock] at h
        · exact h (by rw [e])
      have hrl' : gr < W.heap.size := hrl
      have hol' : go_ < W.heap.size := hol
      have hki : (k : Int) < (R : Int) := by omega
      clear hat hrl hol
      refine turn_region (S1 := (fun w' => (∀ b o, b < W.heap.size → w'.cell? ⟨b, o, none⟩ = W.cell? ⟨b, o, none⟩) ∧ (∀ b o, b < W.heap.size → w'.frozen? ⟨b, o, none⟩ = W.frozen? ⟨b, o, none⟩) ∧ Below W.heap.size W w')) (S2 := (fun w' => w'.cell? ⟨gx, 1, none⟩ = some (.slice (some ⟨go_, 0, none⟩) R R))) 21 22 (.free 0 (.free 1 (.free 2 (.freeB 3 (.freeB 4 (.freeB 5 (.free 6 (.free 7 (.free 8 (.free 9 (.free 10 (.free 11 (.free 12 (.free 13 (.one 14 (.one 15 (.free 16 (.free 17 (.freeB 18 (.freeC 19 (.free 20 (.turn 21 .tail)))))))))))))))))))))) (by kernel_rfl) (by kernel_rfl) (fun _ _ d _ _ h => by cases d <;> exact h) (keepW0 W) (x1) ?_
      have hS := keepW0 W
      have hT := x1
      simp only [writtenU, List.drop_succ_cons, List.drop_zero, List.getElem?_cons_succ, List.getElem?_cons_zero]
      iterate 3
       refine ru_free (v := ?_) (by rfl) ?_ ?_; rotate_left 1; focus (intro w hSw; (try dsimp only at hSw); go_simp; (try with_reducible rfl))
       (try simp only [Act.put, tA, tB, tC])
      iterate 3
       refine ru_freeB (v := ?_) (by rfl) ?_ ?_; rotate_left 1; focus (intro w hSw; (try dsimp only at hSw); go_simp; (try with_reducible rfl))
       (try simp only [Act.put, tA, tB, tC])
      iterate 8
       refine ru_free (v := ?_) (by rfl) ?_ ?_; rotate_left 1; focus (intro w hSw; (try dsimp only at hSw); go_simp; (try with_reducible rfl))
       (try simp only [Act.put, tA, tB, tC])
      refine ru_call (by rfl) (fun K hK => ?_)
      go_simp
      (refine (HIk.out _ _ (HUW.out.below hS.2.2)).mono ?_; rintro e w5 ⟨⟨v5, rfl, ho5⟩, hb5⟩)
      (try go_wp2_with fail)
      refine hK.out _ _ ?_ ?_ (fun hS' hT' => ?_)
      · (try dsimp only); first | exact keepW hb6 hS | exact keepW hb5 hS
      · (try dsimp only); first | exact (hb6.cell (p := ⟨gx, 1, none⟩) (Nat.lt_of_lt_of_le hxl hS.2.2.size)).trans hT | exact (hb5.cell (p := ⟨gx, 1, none⟩) (Nat.lt_of_lt_of_le hxl hS.2.2.size)).trans hT
      clear hS hT hK K
      have hS := hS'
      have hT := hT'
      clear hS' hT'
      (try simp only [Act.put, tA, tB, tC])
      refine ru_call (by rfl) (fun K hK => ?_)
      go_simp
      (refine (HSk.out _ _ _ _ (HYs.out.below hS.2.2) (HTW.out.below hS.2.2) (owned_sl ho5)).mono ?_; rintro e w6 ⟨rfl, hb6⟩; have HW6 := Lib.hid (nextW hS.2.2 hb6); have HS5 := Lib.hid (Nat.le_trans HB.out.size hS.2.2.size); have q0 : w6.cell? ⟨gr, k * 2, none⟩ = some (.int .i64 0) := (HW6.out.cell (p := ⟨gr, k * 2, none⟩) hrl').trans y0; have q1 : w6.cell? ⟨gr, k * 2 + 1, none⟩ = some (.slice none 0 0) := (HW6.out.cell (p := ⟨gr, k * 2 + 1, none⟩) hrl').trans y1; have p0 : w6.frozen? ⟨gr, k * 2, none⟩ = false := (HW6.out.frozen (p := ⟨gr, k * 2, none⟩) hrl').trans fr0; have p1 : w6.frozen? ⟨gr, k * 2 + 1, none⟩ = false := (HW6.out.frozen (p := ⟨gr, k * 2 + 1, none⟩) hrl').trans fr1)
      (try go_wp2_with fail)
      refine hK.out _ _ ?_ ?_ (fun hS' hT' => ?_)
      · (try dsimp only); first | exact keepW hb6 hS | exact keepW hb5 hS
      · (try dsimp only); first | exact (hb6.cell (p := ⟨gx, 1, none⟩) (Nat.lt_of_lt_of_le hxl hS.2.2.size)).trans hT | exact (hb5.cell (p := ⟨gx, 1, none⟩) (Nat.lt_of_lt_of_le hxl hS.2.2.size)).trans hT
      clear hS hT hK K
      have hS := hS'
      have hT := hT'
      clear hS' hT'
      iterate 2
       (try simp only [Act.put, tA, tB, tC])
       refine ru_free (v := ?_) (by rfl) ?_ ?_; rotate_left 1; focus (intro w hSw; (try dsimp only at hSw); go_simp; (try with_reducible rfl))
      (try simp only [Act.put, tA, tB, tC])
      refine ru_freeB (v := ?_) (by rfl) ?_ ?_; rotate_left 1; focus (intro w hSw; (try dsimp only at hSw); go_simp; (try with_reducible rfl))
      (try simp only [Act.put, tA, tB, tC])
      refine ru_freeC (v := ?_) (by rfl) ?_ ?_; rotate_left 1; focus (intro w hSw; (try dsimp only at hSw); go_simp; (try with_reducible rfl))
      (try simp only [Act.put, tA, tB, tC])
      refine ru_free (v := ?_) (by rfl) ?_ ?_; rotate_left 1; focus (intro w hSw; (try dsimp only at hSw); go_simp; (try with_reducible rfl))
      (try simp only [Act.put, tA, tB, tC])
      refine ru_turn (by rfl) (fun K hK => ?_)
      go_simp
      (try go_wp2_with fail)
      refine hK.out _ _ ?_ ?_
      · (try dsimp only); rw [World.cell?_setCell_other _ _ _ _ (by intro e; exact hne1 (congrArg Addr.block e).symm), World.cell?_setCell_other _ _ _ _ (by intro e; exact hne1 (congrArg Addr.block e).symm)]; exact hT
      clear hK K
      (try simp only [Act.put, tA, tB, tC])
      refine ru_done ?_
      have z7 : ((w6.setCell ⟨gr, k * 2, none⟩ (.int .i64 0)).setCell ⟨gr, k * 2 + 1, none⟩ (.slice none 0 0)).cell? ⟨go_, k, none⟩ = some (.slice none 0 0) := by
        rw [World.cell?_setCell_other _ _ _ _ (by intro e; exact hne2 (congrArg Addr.block e).symm), World.cell?_setCell_other _ _ _ _ (by intro e; exact hne2 (congrArg Addr.block e).symm)]
        exact (HW6.out.cell (p := ⟨go_, k, none⟩) hol').trans z0
      have p7 : ((w6.setCell ⟨gr, k * 2, none⟩ (.int .i64 0)).setCell ⟨gr, k * 2 + 1, none⟩ (.slice none 0 0)).frozen? ⟨go_, k, none⟩ = false := by
        rw [World.frozen?_setCell, World.frozen?_setCell]
        exact (HW6.out.frozen (p := ⟨go_, k, none⟩) hol').trans fo
      have hB6 := nextW HB.out HW6.out
      have hg1 := (HK.out.row.lt gr rfl).1
      have hg2 := (HK.out.outs.lt go_ rfl).1
      have p2 : w6.grownBy ((w6.setCell ⟨gr, k * 2, none⟩ (.int .i64 0)).setCell ⟨gr, k * 2 + 1, none⟩ (.slice none 0 0)) (some gr) := grown_trans (grown_setA _ _ _ _) (grown_setA _ _ _ _)
      have hR6 := HK.out.ret.nx HW6.out
      have hrw6 := own_below HK.out.row HW6.out
      have how6 := own_below HK.out.outs HW6.out
      have hR7 := hR6.keptA p2 (own_neA hrw6 hR6 (by decide))
      have ho7 := how6.kept p2 (own_apartA hrw6 how6 (by decide))
      have hR8 := hR7.keptA (ho7.stored k (.slice none 0 0)).2 (own_neA ho7 hR7 (by decide))
      have hB7 := ((hB6.setCell (p := ⟨gr, k * 2, none⟩) hg1 (.int .i64 0)).setCell (p := ⟨gr, k * 2 + 1, none⟩) hg1 (.slice none 0 0)).setCell (p := ⟨go_, k, none⟩) hg2 (.slice none 0 0)
      generalize (w6.setCell ⟨gr, k * 2, none⟩ (.int .i64 0)).setCell ⟨gr, k * 2 + 1, none⟩ (.slice none 0 0) = w7 at *
      have HR8 := Lib.hid hR8
      have HB7 := Lib.hid hB7
      clear hB7 hR8 hB6 hg1 hg2 p2 hR6 hrw6 how6 hR7 ho7 hb6 hb5 ho5 HW6 HS5 q0 q1 p0 p1 hS hT g0 g1 g2 g3 g4 w1 x0 x1 y0 y1 z0 b0 b1 fr0 fr1 fo hql hgl hwl hxl HK HB
      go_upto_region 11 with fail
      generalize w7.setCell _ _ = w8 at *
      have hrl8 := HR8.out.lt
      have t0 : w8.cell? ⟨w.heap.size + 1 + 1, 0, none⟩ = some (.slice none 0 0) := HR8.out.cell 0
      have t1 : w8.cell? ⟨w.heap.size + 1 + 1, 1, none⟩ = some (.slice none 0 0) := HR8.out.cell 1
      have tf0 := HR8.out.frozen 0
      have tf1 := HR8.out.frozen 1
      go_wp2
      refine bodyPost_ret (v := .tuple #[.agg #[.slice none 0 0, .slice none 0 0], .int .i64 11]) (by simp [results, Tryz.results24, go_sem, t0, t1]) rfl ⟨rfl, (HB7.out.setCell (by show w.heap.size ≤ w.heap.size + 1 + 1; omega) _).setCell (by show w.heap.size ≤ w.heap.size + 1 + 1; omega) _⟩

end Go.Proofs.YtfpofegfbinalaaGreat.Fx
namespace Go.Proofs.YtfpofegfbinalaaGreat.Fx
open Go.ChangeShapes Go.WideShapes Go.ChangeAt Go.RowKit
set_option linter.unusedVariables false
set_option maxRecDepth 100000

set_option maxHeartbeats 8000000 in
theorem arun_bad (a b n s : Int) (P R : Nat) (h : rt a b P n = true) (hR : regs a b P n = R) (hs : 0 ≤ s ∧ s < 18446744073709551616) (rows : List (List Inp)) (hok : ∀ r ∈ rows, RowOk P r) (hl : rows.length ≤ 9999) (bad : List Inp) (hbd : inpsB P bad = false) (hbl : bad.length ≤ 1000) (t : Value) (w : World) (ht : RowsSl w t (rows ++ [bad])) :
    Calls Tryz.prog 13 #[.agg #[.int .i64 a, .int .i64 b, .int .i64 (P : Int), .int .i64 n, .int .u64 s], t] w fun z w' =>
      z = .returned (.tuple #[.agg #[.slice none 0 0, .slice none 0 0], .int .i64 11]) ∧ Below w.heap.size w w' := by
  have hrd := rt_bd h
  have hP6 : P ≤ 6 := by omega
  have HBg := Lib.hid (fun w => begin_new a b n s P R h hR w)
  have HSt := Lib.hid (fun (k : Nat) (hk : k < rows.length) (x : List Inp) (hx : rows[k]? = some x) (v u t : Value) (w : World) (hv : RgsSl w v (runW a b n s P R (rows.take k)).1) (hu : OutSl w u (runW a b n s P R (rows.take k)).2) (ht : IsSl inpC w t x) => by
    have hW := wok_run (s := s) h hR hP6 (rows.take k) (by rw [List.length_take]; omega)
    rw [List.length_take, Nat.min_eq_left (by omega)] at hW
    exact astep_new a b n s k P R h hR hs (by omega) _ _ hW x (hok x (List.mem_of_getElem? hx)) v u t w hv hu ht)
  have HSn := Lib.hid (fun (v u t : Value) (w : World) (hv : RgsSl w v (runW a b n s P R rows).1) (hu : OutSl w u (runW a b n s P R rows).2) (ht : IsSl inpC w t bad) =>
    astep_no a b n s rows.length P R h hR hs (by omega) _ _ (wok_run (s := s) h hR hP6 rows hl) bad hbd hbl v u t w hv hu ht)
  have HT := Lib.hid ht
  obtain ⟨vs0, hvs0, hvl0, -⟩ := ht
  obtain ⟨A1, n1, hv1, -⟩ := hvs0
  obtain ⟨M, hM⟩ : ∃ M, rows.length = M := ⟨_, rfl⟩
  obtain ⟨N, hN⟩ : ∃ N, M + 1 = N := ⟨_, rfl⟩
  have hlen : (rows ++ [bad]).length = N := by rw [List.length_append, hM]; exact hN
  rw [hvl0, hlen] at hv1
  subst hv1
  rw [hM] at hl HSt
  have HM := Lib.hid hM
  have HN := Lib.hid hN
  have HL := Lib.hid hlen
  clear hvl0 hN hM hlen hok hrd h hR hbd hbl
  go_enter Tryz.func13, Tryz.ntmps13
  go_upto_region 1 with fail
  generalize hW : World.alloc _ _ = W
  have BC := Lib.hid (show CfgBox W w.heap.size ⟨a, b, P, n, s⟩ from by rw [← hW]; exact CfgBox.n2a _ ⟨a, b, P, n, s⟩ _ _ rfl)
  have BR := Lib.hid (show Blk W (w.heap.size + 1) 32 #[nil0, nil0] from by rw [← hW]; exact Blk.new' _ _ _ (by simp))
  have HB := Lib.hid (show Below w.heap.size w W from by rw [← hW]; exact ((Below.refl _ _).alloc (Nat.le_refl _) _).alloc (by simp) _)
  clear hW
  have hcl := BC.out.has
  obtain ⟨c0, c1, c2, c3, c4, -⟩ := BC.out
  go_wp2_with fail
  refine (HBg.out _).mono ?_
  rintro e v2 ⟨⟨g1, g2, rfl, hnw⟩, hb⟩
  have HW0 := Lib.hid (hnw.mono (show w.heap.size + 2 ≤ _ from BR.out.lt))
  replace HB := Lib.hid (nextW HB.out hb)
  replace BR := Lib.hid (BR.out.nx hb)
  replace BC := Lib.hid (BC.out.nx hb)
  clear hb c0 c1 c2 c3 c4 hcl hnw
  go_upto_region 2 with fail
  generalize hW : World.alloc _ _ = W2
  have hal0 : Below v2.heap.size v2 W2 := by rw [← hW]; exact (Below.refl _ _).alloc (Nat.le_refl _) _
  have BX := Lib.hid (show Blk W2 v2.heap.size 32 #[.slice (some ⟨g1, 0, none⟩) R R, .slice (some ⟨g2, 0, none⟩) R R] from by rw [← hW]; exact Blk.new' _ _ _ rfl)
  have hgl : w.heap.size + 1 < v2.heap.size := BR.out.lt
  replace BR := Lib.hid (BR.out.nx hal0)
  replace BC := Lib.hid (BC.out.nx hal0)
  replace HB := Lib.hid (nextW HB.out hal0)
  replace HW0 := Lib.hid (HW0.out.below hal0)
  generalize v2.heap.size = gx at *
  clear hW hal0
  go_wp2
  go_loopw [7, 8] (fun s7 i wr => ∃ (k : Nat) (v u : Value), k ≤ N ∧ i = .int .i64 k ∧ Blk wr gx 32 #[v, u] ∧ Blk wr (w.heap.size + 1) 32 #[nil0, nil0] ∧ Below w.heap.size w wr ∧ CfgBox wr w.heap.size ⟨a, b, P, n, s⟩ ∧ ((k < N ∧ s7 = .int .i64 0 ∧ ((∃ A c, v = .slice A R c) ∧ ∃ A c, u = .slice A R c) ∧ NewW (w.heap.size + 2) R wr v u (runW a b n s P R (rows.take k)).1 (runW a b n s P R (rows.take k)).2) ∨ (k = N ∧ s7 = .int .i64 11 ∧ v = nil0 ∧ u = nil0))) (fun _ i _ => N - (intOf i).toNat)
  case atStart => exact ⟨0, _, _, Nat.zero_le _, rfl, BX.out, BR.out, HB.out, BC.out, .inl ⟨by have := HN.out; omega, rfl, ⟨⟨_, _, rfl⟩, _, _, rfl⟩, HW0.out⟩⟩
  case round =>
    clear BX BC BR HW0 HB
    obtain ⟨k, v, u, hk, rfl, hbx, hbr, hb, hbc, hcs⟩ := hrel
    have BX := Lib.hid hbx
    have BC := Lib.hid hbc
    have BR := Lib.hid hbr
    have HB := Lib.hid hb
    clear hbx hbr hb hbc
    rcases hcs with ⟨hlt, rfl, ⟨⟨Av, cv, rfl⟩, Au, cu, rfl⟩, hnw⟩ | ⟨rfl, rfl, rfl, rfl⟩
    · have HNw := Lib.hid hnw
      clear hnw
      have hxl := BX.out.lt
      have hcl := BC.out.has
      have x0 : wr.cell? ⟨gx, 0, none⟩ = some (.slice Av R cv) := BX.out.cell 0
      have x1 : wr.cell? ⟨gx, 1, none⟩ = some (.slice Au R cu) := BX.out.cell 1
      have hki : (k : Int) < (N : Int) := by omega
      obtain ⟨x, hx⟩ := getE (rows ++ [bad]) k N HL.out hlt
      obtain ⟨vs, hvs, hvl, hva⟩ := HT.out.below HB.out
      obtain ⟨y, hy⟩ := getE vs k N (by rw [hvl]; exact HL.out) hlt
      have HYs := Lib.hid (hva k y x hy hx)
      obtain ⟨b1, off1, rfl, hc1⟩ := hvs.at.elem 1 oneV_len (by omega) hy
      have d0 := hc1 0 y rfl
      rw [Nat.mul_one, Nat.add_zero] at d0
      obtain ⟨Ay, cy, hye, -⟩ := HYs.out
      subst hye
      by_cases hkM : k < M
      · have hx' : rows[k]? = some x := by rw [List.getElem?_append_left (by rw [HM.out]; exact hkM)] at hx; exact hx
        have HSk := Lib.hid (HSt.out k hkM x hx')
        have HTk := Lib.hid (take_at hx')
        obtain ⟨c0, c1, c2, c3, c4, -⟩ := BC.out
        have hbl := World.block_lt_of_cell? _ _ d0
        have f0 := BX.out.frozen 0
        have f1 := BX.out.frozen 1
        clear hvs hvl hva hy hc1 hx hx'
        go_wp2_with fail
        refine turn_region (S1 := (fun w' => (∀ b o, b < wr.heap.size → w'.cell? ⟨b, o, none⟩ = wr.cell? ⟨b, o, none⟩) ∧ (∀ b o, b < wr.heap.size → w'.frozen? ⟨b, o, none⟩ = wr.frozen? ⟨b, o, none⟩) ∧ Below wr.heap.size wr w')) (S2 := (fun _ => True)) 10 11 (.free 0 (.free 1 (.free 2 (.free 3 (.free 4 (.free 5 (.one 6 (.free 7 (.free 8 (.freeB 9 (.turn 10 .tail))))))))))) (by kernel_rfl) (by kernel_rfl) (fun _ _ d _ _ h => by cases d <;> exact h) (keepW0 wr) (trivial) ?_
        have hS := keepW0 wr
        have hT := trivial
        simp only [writtenU, List.drop_succ_cons, List.drop_zero, List.getElem?_cons_succ, List.getElem?_cons_zero]
        iterate 6
         refine ru_free (v := ?_) (by rfl) ?_ ?_; rotate_left 1; focus (intro w hSw; (try dsimp only at hSw); go_simp; (try with_reducible rfl))
         (try simp only [Act.put, tA, tB, tC])
        refine ru_call (by rfl) (fun K hK => ?_)
        go_simp
        (refine (HSk.out _ _ _ _ ((HNw.out.below hS.2.2).at).1 ((HNw.out.below hS.2.2).at).2 (HYs.out.below hS.2.2)).mono ?_; rintro e w6 ⟨⟨v6, u6, rfl, hnw6⟩, hb6⟩; have HW6 := Lib.hid (nextW hS.2.2 hb6); have HS5 := Lib.hid hS.2.2.size; have q0 : w6.cell? ⟨gx, 0, none⟩ = some (.slice Av R cv) := (HW6.out.cell (p := ⟨gx, 0, none⟩) hxl).trans x0; have q1 : w6.cell? ⟨gx, 1, none⟩ = some (.slice Au R cu) := (HW6.out.cell (p := ⟨gx, 1, none⟩) hxl).trans x1; have p0 : w6.frozen? ⟨gx, 0, none⟩ = false := (HW6.out.frozen (p := ⟨gx, 0, none⟩) hxl).trans f0; have p1 : w6.frozen? ⟨gx, 1, none⟩ = false := (HW6.out.frozen (p := ⟨gx, 1, none⟩) hxl).trans f1; obtain ⟨A6, c6, hv6⟩ : ∃ A c, v6 = .slice A R c := (by obtain ⟨_, _, h1, _⟩ := hnw6; obtain ⟨A, c, e, -⟩ := owned_cells h1; exact ⟨A, c, e⟩); obtain ⟨A7, c7, hu6⟩ : ∃ A c, u6 = .slice A R c := (by obtain ⟨_, _, _, h1, _⟩ := hnw6; obtain ⟨A, c, e, -⟩ := owned_cells h1; exact ⟨A, c, e⟩); subst hv6 hu6)
        (try go_wp2_with fail)
        refine hK.out _ _ ?_ ?_ (fun hS' hT' => ?_)
        · (try dsimp only); exact keepW hb6 hS
        · (try dsimp only); all_goals trivial
        clear hS hT hK K
        have hS := hS'
        have hT := hT'
        clear hS' hT'
        iterate 2
         (try simp only [Act.put, tA, tB, tC])
         refine ru_free (v := ?_) (by rfl) ?_ ?_; rotate_left 1; focus (intro w hSw; (try dsimp only at hSw); go_simp; (try with_reducible rfl))
        (try simp only [Act.put, tA, tB, tC])
        refine ru_freeB (v := ?_) (by rfl) ?_ ?_; rotate_left 1; focus (intro w hSw; (try dsimp only at hSw); go_simp; (try with_reducible rfl))
        (try simp only [Act.put, tA, tB, tC])
        refine ru_turn (by rfl) (fun K hK => ?_)
        go_simp
        (try go_wp2_with fail)
        refine hK.out _ _ ?_ ?_
        · (try dsimp only); all_goals trivial
        clear hK K
        (try simp only [Act.put, tA, tB, tC])
        refine ru_done ?_
        have hg7 : w6.grownBy ((w6.setCell ⟨gx, 0, none⟩ (.slice A6 R c6)).setCell ⟨gx, 1, none⟩ (.slice A7 R c7)) (some gx) := grown_trans (grown_setA _ _ _ _) (grown_setA _ _ _ _)
        have hB7 := ((nextW HB.out HW6.out).setCell (p := ⟨gx, 0, none⟩) (show w.heap.size ≤ gx by omega) (.slice A6 R c6)).setCell (p := ⟨gx, 1, none⟩) (show w.heap.size ≤ gx by omega) (.slice A7 R c7)
        have hX7 : Blk ((w6.setCell ⟨gx, 0, none⟩ (.slice A6 R c6)).setCell ⟨gx, 1, none⟩ (.slice A7 R c7)) gx 32 #[.slice A6 R c6, .slice A7 R c7] := ((BX.out.nx HW6.out).put 0 (.slice A6 R c6)).put 1 (.slice A7 R c7)
        have hC7 := ((BC.out.nx HW6.out).far (show gx ≠ w.heap.size by omega) 0 (.slice A6 R c6)).far (show gx ≠ w.heap.size by omega) 1 (.slice A7 R c7)
        have hR7 := (BR.out.nx HW6.out).grownA hg7 (show w.heap.size + 1 ≠ gx by omega)
        have hN7 := (hnw6.old hg7 hxl).mono (show w.heap.size + 2 ≤ _ from (show w.heap.size + 2 ≤ wr.heap.size by omega))
        generalize (w6.setCell ⟨gx, 0, none⟩ (.slice A6 R c6)).setCell ⟨gx, 1, none⟩ (.slice A7 R c7) = w7 at *
        have HZ := Lib.hid (And.intro hX7 (And.intro hC7 (And.intro hR7 (And.intro hN7 hB7))))
        clear hg7 hB7 hX7 hC7 hR7 hN7 hS hT hnw6 hb6 HW6 HS5 q0 q1 p0 p1 x0 x1 c0 c1 c2 c3 c4 d0 f0 f1 BX BC BR HNw HB
        go_wp2
        go_roundw
        case rel => exact ⟨k + 1, _, _, by omega, by go_num, HZ.out.1, HZ.out.2.2.1, HZ.out.2.2.2.2, HZ.out.2.1, .inl ⟨by have := HN.out; omega, rfl, ⟨⟨_, _, rfl⟩, _, _, rfl⟩, by rw [HTk.out, runW_snoc]; exact HZ.out.2.2.2.1⟩⟩
        case measure => simp [intOf]; omega
      · obtain rfl : k = M := by have := HN.out; omega
        obtain rfl : x = bad := by
          rw [List.getElem?_append_right (Nat.le_of_eq HM.out), HM.out, Nat.sub_self] at hx
          exact (Option.some.inj hx).symm
        have HNk := Lib.hid (show NewW (w.heap.size + 2) R wr (.slice Av R cv) (.slice Au R cu) (runW a b n s P R rows).1 (runW a b n s P R rows).2 from by have h0 := HNw.out; rw [List.take_of_length_le (Nat.le_of_eq HM.out)] at h0; exact h0)
        clear HNw
        obtain ⟨c0, c1, c2, c3, c4, -⟩ := BC.out
        have hbl := World.block_lt_of_cell? _ _ d0
        have f0 := BX.out.frozen 0
        have f1 := BX.out.frozen 1
        clear hvs hvl hva hy hc1 hx
        go_wp2_with fail
        refine turn_region (S1 := (fun w' => (∀ b o, b < wr.heap.size → w'.cell? ⟨b, o, none⟩ = wr.cell? ⟨b, o, none⟩) ∧ (∀ b o, b < wr.heap.size → w'.frozen? ⟨b, o, none⟩ = wr.frozen? ⟨b, o, none⟩) ∧ Below wr.heap.size wr w')) (S2 := (fun _ => True)) 10 11 (.free 0 (.free 1 (.free 2 (.free 3 (.free 4 (.free 5 (.one 6 (.free 7 (.free 8 (.freeB 9 (.turn 10 .tail))))))))))) (by kernel_rfl) (by kernel_rfl) (fun _ _ d _ _ h => by cases d <;> exact h) (keepW0 wr) (trivial) ?_
        have hS := keepW0 wr
        have hT := trivial
        simp only [writtenU, List.drop_succ_cons, List.drop_zero, List.getElem?_cons_succ, List.getElem?_cons_zero]
        iterate 6
         refine ru_free (v := ?_) (by rfl) ?_ ?_; rotate_left 1; focus (intro w hSw; (try dsimp only at hSw); go_simp; (try with_reducible rfl))
         (try simp only [Act.put, tA, tB, tC])
        refine ru_call (by rfl) (fun K hK => ?_)
        go_simp
        (refine (HSn.out _ _ _ _ ((HNk.out.below hS.2.2).at).1 ((HNk.out.below hS.2.2).at).2 (HYs.out.below hS.2.2)).mono ?_; rintro e w6 ⟨rfl, hb6⟩; have HW6 := Lib.hid (nextW hS.2.2 hb6); have HS5 := Lib.hid hS.2.2.size; have q0 : w6.cell? ⟨gx, 0, none⟩ = some (.slice Av R cv) := (HW6.out.cell (p := ⟨gx, 0, none⟩) hxl).trans x0; have q1 : w6.cell? ⟨gx, 1, none⟩ = some (.slice Au R cu) := (HW6.out.cell (p := ⟨gx, 1, none⟩) hxl).trans x1; have p0 : w6.frozen? ⟨gx, 0, none⟩ = false := (HW6.out.frozen (p := ⟨gx, 0, none⟩) hxl).trans f0; have p1 : w6.frozen? ⟨gx, 1, none⟩ = false := (HW6.out.frozen (p := ⟨gx, 1, none⟩) hxl).trans f1)
        (try go_wp2_with fail)
        refine hK.out _ _ ?_ ?_ (fun hS' hT' => ?_)
        · (try dsimp only); exact keepW hb6 hS
        · (try dsimp only); all_goals trivial
        clear hS hT hK K
        have hS := hS'
        have hT := hT'
        clear hS' hT'
        iterate 2
         (try simp only [Act.put, tA, tB, tC])
         refine ru_free (v := ?_) (by rfl) ?_ ?_; rotate_left 1; focus (intro w hSw; (try dsimp only at hSw); go_simp; (try with_reducible rfl))
        (try simp only [Act.put, tA, tB, tC])
        refine ru_freeB (v := ?_) (by rfl) ?_ ?_; rotate_left 1; focus (intro w hSw; (try dsimp only at hSw); go_simp; (try with_reducible rfl))
        (try simp only [Act.put, tA, tB, tC])
        refine ru_turn (by rfl) (fun K hK => ?_)
        go_simp
        (try go_wp2_with fail)
        refine hK.out _ _ ?_ ?_
        · (try dsimp only); all_goals trivial
        clear hK K
        (try simp only [Act.put, tA, tB, tC])
        refine ru_done ?_
        have hg7 : w6.grownBy ((w6.setCell ⟨gx, 0, none⟩ (.slice none 0 0)).setCell ⟨gx, 1, none⟩ (.slice none 0 0)) (some gx) := grown_trans (grown_setA _ _ _ _) (grown_setA _ _ _ _)
        have hB7 := ((nextW HB.out HW6.out).setCell (p := ⟨gx, 0, none⟩) (show w.heap.size ≤ gx by omega) (.slice none 0 0)).setCell (p := ⟨gx, 1, none⟩) (show w.heap.size ≤ gx by omega) (.slice none 0 0)
        have hX7 : Blk ((w6.setCell ⟨gx, 0, none⟩ (.slice none 0 0)).setCell ⟨gx, 1, none⟩ (.slice none 0 0)) gx 32 #[.slice none 0 0, .slice none 0 0] := ((BX.out.nx HW6.out).put 0 (.slice none 0 0)).put 1 (.slice none 0 0)
        have hC7 := ((BC.out.nx HW6.out).far (show gx ≠ w.heap.size by omega) 0 (.slice none 0 0)).far (show gx ≠ w.heap.size by omega) 1 (.slice none 0 0)
        have hR7 := (BR.out.nx HW6.out).grownA hg7 (show w.heap.size + 1 ≠ gx by omega)
        skip
        generalize (w6.setCell ⟨gx, 0, none⟩ (.slice none 0 0)).setCell ⟨gx, 1, none⟩ (.slice none 0 0) = w7 at *
        have HZ := Lib.hid (And.intro hX7 (And.intro hC7 (And.intro hR7 hB7)))
        clear hg7 hB7 hX7 hC7 hR7 hS hT hb6 HW6 HS5 q0 q1 p0 p1 x0 x1 c0 c1 c2 c3 c4 d0 f0 f1 BX BC BR HNk HB
        go_wp2
        go_roundw
        case rel => exact ⟨k + 1, _, _, by omega, by go_num, HZ.out.1, HZ.out.2.2.1, HZ.out.2.2.2, HZ.out.2.1, .inr ⟨by have := HN.out; omega, rfl, rfl, rfl⟩⟩
        case measure => simp [intOf]; omega
    · have hxl := BX.out.lt
      have x0 : wr.cell? ⟨gx, 0, none⟩ = some (.slice none 0 0) := BX.out.cell 0
      have x1 : wr.cell? ⟨gx, 1, none⟩ = some (.slice none 0 0) := BX.out.cell 1
      have r0' : wr.cell? ⟨w.heap.size + 1, 0, none⟩ = some (.slice none 0 0) := BR.out.cell 0
      have r1' : wr.cell? ⟨w.heap.size + 1, 1, none⟩ = some (.slice none 0 0) := BR.out.cell 1
      have rf0 := BR.out.frozen 0
      have rf1 := BR.out.frozen 1
      have hrl := BR.out.lt
      go_wp2
      refine bodyPost_ret (v := .tuple #[.agg #[.slice none 0 0, .slice none 0 0], .int .i64 11]) (by simp [results, Tryz.results13, go_sem, r0', r1']) rfl ⟨rfl, (HB.out.setCell (by show w.heap.size ≤ w.heap.size + 1; omega) _).setCell (by show w.heap.size ≤ w.heap.size + 1; omega) _⟩

end Go.Proofs.YtfpofegfbinalaaGreat.Fx
