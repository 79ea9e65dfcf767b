/- Package arena: Step, of a world that is right. -/
import Derived.Test.YtfpofegfbinalaaGreatM54
import Derived.Test.YtfpofegfbinalaaGreatM46
namespace Go.Proofs.YtfpofegfbinalaaGreat.Fx
open Go.ChangeShapes Go.WideShapes Go.ChangeAt Go.RowKit
set_option linter.unusedVariables false
set_option maxRecDepth 100000

theorem okl_len {a b n : Int} {P : Nat} {l : List Ent} (h : Okl a b P n l) (ht : things l ≤ 24) : l.length ≤ P + 24 := by
  have h1 := pids_leP h
  have h2 : ∀ l : List Ent, l.length = (pids l).length + things l := fun l => by
    induction l with
    | nil => rfl
    | cons e l ih =>
      rw [things_cons, List.length_cons]
      unfold pids at ih ⊢
      by_cases hk : e.kind = 1
      · rw [List.filter_cons_of_pos (by simpa using hk), if_pos hk, List.map_cons, List.length_cons]; omega
      · rw [List.filter_cons_of_neg (by simpa using hk), if_neg hk]; omega
  have := h2 l
  omega

theorem arrive_few {a b n r f : Int} {P : Nat} {l : List Ent} {ib : List Crs} (h : Asked a b P n r f l ib) (k : Nat) : (arriveL l (ib.take k)).length ≤ P + 24 := by
  obtain ⟨h1, -, h3⟩ := arrive_ok (ib.take k) h.ok h.here h.few (fun c hc hk => h.hands c (List.mem_of_mem_take hc) hk)
  exact okl_len h1 h3

theorem flat_set_frame (es : List Reg) (k : Nat) (y : Reg) (F : Int) (hk : es[k]? = some y) : (es.flatMap regC).set (k * 2) (.int .i64 F) = (es.set k ⟨F, y.list⟩).flatMap regC := by
  induction es generalizing k with
  | nil => simp at hk
  | cons e r ih =>
    cases k with
    | zero =>
      simp only [List.getElem?_cons_zero, Option.some.injEq] at hk
      subst hk
      simp only [List.flatMap_cons, List.set_cons_zero, Nat.zero_mul]
      rw [List.set_append_left _ _ (by rw [regC_len]; omega)]
      rfl
    | succ k =>
      simp only [List.getElem?_cons_succ] at hk
      simp only [List.flatMap_cons, List.set_cons_succ]
      rw [List.set_append_right _ _ (by rw [regC_len]; omega), regC_len, show (k + 1) * 2 - 2 = k * 2 by omega, ih k hk]

/-- A region is written whole. -/
theorem own_put_whole {w : World} {base n g cap : Nat} {rs : List Reg} (h : w.ownsRow base 59 2 (.slice (some ⟨g, 0, none⟩) n cap) n (rs.flatMap regC)) {k : Nat} {y : Reg} (hk : rs[k]? = some y) (F : Int) (v : Value) :
    ((w.setCell ⟨g, k * 2, none⟩ (.int .i64 F)).setCell ⟨g, k * 2 + 1, none⟩ v).ownsRow base 59 2 (.slice (some ⟨g, 0, none⟩) n cap) n ((rs.set k ⟨F, v⟩).flatMap regC) ∧ w.grownBy ((w.setCell ⟨g, k * 2, none⟩ (.int .i64 F)).setCell ⟨g, k * 2 + 1, none⟩ v) (some g) := by
  have h1 := h.stored (k * 2) (.int .i64 F)
  rw [flat_set_frame rs k y F hk] at h1
  have hk2 : (rs.set k ⟨F, y.list⟩)[k]? = some ⟨F, y.list⟩ := List.getElem?_set_self (List.getElem?_eq_some_iff.1 hk).1
  have h2 := own_put_reg h1.1 hk2 v
  rw [List.set_set] at h2
  exact ⟨h2.1, grown_trans h1.2 h2.2⟩

/-- In Step, k regions done. -/
structure StpAt (B gw g0 gb gx g1 g2 R : Nat) (G : Array Value) (V U : Value) (F : Int) (X : Nat → List Ent) (Y : Nat → List Crs) (k : Nat) (w : World) (rs : List Reg) (vs : List Value) : Prop where
  lenR : rs.length = R
  lenV : vs.length = R
  row : w.ownsRow B 59 2 (.slice (some ⟨g1, 0, none⟩) R R) R (rs.flatMap regC)
  outs : w.ownsRow B 51 1 (.slice (some ⟨g2, 0, none⟩) R R) R vs
  reg : ∀ i, i < k → ∃ v, rs[i]? = some ⟨F, v⟩ ∧ w.ownsRow B 45 9 v (X i).length ((X i).flatMap entC)
  out : ∀ i, i < k → ∃ v, vs[i]? = some v ∧ w.ownsRow B 50 15 v (Y i).length ((Y i).flatMap crsC)
  reg0 : ∀ i, k ≤ i → i < R → rs[i]? = some r0
  out0 : ∀ i, k ≤ i → i < R → vs[i]? = some nil0
  grid : Blk w gb 39 G
  world : Blk w gw 32 #[V, U]
  box : Blk w gx 32 #[.slice (some ⟨g1, 0, none⟩) R R, .slice (some ⟨g2, 0, none⟩) R R]
  ret : Blk w g0 32 #[nil0, nil0]

namespace StpAt
variable {B gw g0 gb gx g1 g2 R : Nat} {G : Array Value} {V U : Value} {F : Int} {X : Nat → List Ent} {Y : Nat → List Crs} {k : Nat} {w w' : World} {rs : List Reg} {vs : List Value}

theorem nx (h : StpAt B gw g0 gb gx g1 g2 R G V U F X Y k w rs vs) (hb : Below w.heap.size w w') : StpAt B gw g0 gb gx g1 g2 R G V U F X Y k w' rs vs :=
  ⟨h.lenR, h.lenV, own_below h.row hb, own_below h.outs hb, fun i hi => by obtain ⟨v, h1, h2⟩ := h.reg i hi; exact ⟨v, h1, own_below h2 hb⟩, fun i hi => by obtain ⟨v, h1, h2⟩ := h.out i hi; exact ⟨v, h1, own_below h2 hb⟩, h.reg0, h.out0, h.grid.nx hb, h.world.nx hb, h.box.nx hb, h.ret.nx hb⟩

/-- One region more. -/
theorem put (h : StpAt B gw g0 gb gx g1 g2 R G V U F X Y k w rs vs) (hk : k < R) {vl vo : Value} (hl : w.ownsRow B 45 9 vl (X k).length ((X k).flatMap entC)) (ho : w.ownsRow B 50 15 vo (Y k).length ((Y k).flatMap crsC)) :
    StpAt B gw g0 gb gx g1 g2 R G V U F X Y (k + 1) (((w.setCell ⟨g1, k * 2, none⟩ (.int .i64 F)).setCell ⟨g1, k * 2 + 1, none⟩ vl).setCell ⟨g2, k, none⟩ vo) (rs.set k ⟨F, vl⟩) (vs.set k vo) := by
  have hr := h.reg0 k (Nat.le_refl _) hk
  obtain ⟨p1, p2⟩ := own_put_whole h.row hr F vl
  have ho1 := h.outs.kept p2 (own_apartA h.row h.outs (by decide))
  obtain ⟨q1, q2⟩ := ho1.stored k vo
  have hrow2 := p1.kept q2 (own_apartA ho1 p1 (by decide))
  refine ⟨by rw [List.length_set]; exact h.lenR, by rw [List.length_set]; exact h.lenV, hrow2, q1, fun i hi => ?_, fun i hi => ?_, fun i h1 h2 => ?_, fun i h1 h2 => ?_, ?_, ?_, ?_, ?_⟩
  · have hkeep : ∀ {v : Value} {n : Nat} {xs : List Value}, w.ownsRow B 45 9 v n xs → (((w.setCell ⟨g1, k * 2, none⟩ (.int .i64 F)).setCell ⟨g1, k * 2 + 1, none⟩ vl).setCell ⟨g2, k, none⟩ vo).ownsRow B 45 9 v n xs := fun hx => by
      have h1 := hx.kept p2 (own_apartA h.row hx (by decide))
      exact h1.kept q2 (own_apartA ho1 h1 (by decide))
    by_cases hik : i = k
    · subst hik
      exact ⟨vl, List.getElem?_set_self (by rw [h.lenR]; exact hk), hkeep hl⟩
    · obtain ⟨v, e1, e2⟩ := h.reg i (by omega)
      exact ⟨v, by rw [List.getElem?_set_ne (fun e => hik e.symm)]; exact e1, hkeep e2⟩
  · have hkeep : ∀ {v : Value} {n : Nat} {xs : List Value}, w.ownsRow B 50 15 v n xs → (((w.setCell ⟨g1, k * 2, none⟩ (.int .i64 F)).setCell ⟨g1, k * 2 + 1, none⟩ vl).setCell ⟨g2, k, none⟩ vo).ownsRow B 50 15 v n xs := fun hx => by
      have h1 := hx.kept p2 (own_apartA h.row hx (by decide))
      exact h1.kept q2 (own_apartA ho1 h1 (by decide))
    by_cases hik : i = k
    · subst hik
      exact ⟨vo, List.getElem?_set_self (by rw [h.lenV]; exact hk), hkeep ho⟩
    · obtain ⟨v, e1, e2⟩ := h.out i (by omega)
      exact ⟨v, by rw [List.getElem?_set_ne (fun e => hik e.symm)]; exact e1, hkeep e2⟩
  · rw [List.getElem?_set_ne (by omega)]; exact h.reg0 i (by omega) h2
  · rw [List.getElem?_set_ne (by omega)]; exact h.out0 i (by omega) h2
  · have h1 := h.grid.keptA p2 (own_neA h.row h.grid (by decide))
    exact h1.keptA q2 (own_neA ho1 h1 (by decide))
  · have h1 := h.world.keptA p2 (own_neA h.row h.world (by decide))
    exact h1.keptA q2 (own_neA ho1 h1 (by decide))
  · have h1 := h.box.keptA p2 (own_neA h.row h.box (by decide))
    exact h1.keptA q2 (own_neA ho1 h1 (by decide))
  · have h1 := h.ret.keptA p2 (own_neA h.row h.ret (by decide))
    exact h1.keptA q2 (own_neA ho1 h1 (by decide))

end StpAt

set_option maxHeartbeats 16000000 in
theorem astep_new (a b n s f : Int) (P R : Nat) (h : rt a b P n = true) (hR : regs a b P n = R) (hs : 0 ≤ s ∧ s < 18446744073709551616) (hf : 0 ≤ f ∧ f ≤ 9999) (fs : List (Int × List Ent)) (os : List (List Crs)) (hW : WOk a b P n f R fs os)
    (xs : List Inp) (hx : xs.length = P ∧ xs.all irtI = true) (v u t : Value) (w : World) (hv : RgsSl w v fs) (hu : OutSl w u os) (ht : IsSl inpC w t xs) :
    Calls Tryz.prog 24 #[.agg #[.int .i64 a, .int .i64 b, .int .i64 (P : Int), .int .i64 n, .int .u64 s], .agg #[v, u], t] w fun z w' =>
      (∃ v' u', z = .returned (.tuple #[.agg #[v', u'], .int .i64 0]) ∧ NewW w.heap.size R w' v' u' (stepF a b P n s (inpOf xs) fs os) (stepO a b P n s (inpOf xs) fs os)) ∧ Below w.heap.size w w' := by
  have hrd := rt_bd h
  have hbd := regs_bd a b P n
  have hR16 : R ≤ 16 := by omega
  have hP6 : P ≤ 6 := by omega
  have HN := Lib.hid (fun w => new_yes a b P n s w h)
  have HRg := Lib.hid (fun w => hR ▸ regions_any a b P n s w)
  have HE := Lib.hid (fun w => empty_any a b P n s R hR hR16 w)
  have HI := Lib.hid (fun (r : Int) (u : Value) w hO => ainbox_any a b P n s r u os w hO (by rw [hW.lenO]; omega) (fun o ho => by obtain ⟨i, hi⟩ := List.getElem?_of_mem ho; exact Nat.le_trans (hW.out i o hi).1 (by omega)) (fun q hq => by
    unfold nr at hq
    split at hq
    · exact ((mem_nrTo _ _ _ _).1 hq).1
    · simp at hq))
  have HSt := Lib.hid (fun (r : Nat) (g : Int × List Ent) (hg : fs[r]? = some g) => by
    obtain ⟨h1, h2, h3⟩ := wok_asked hR hW hf hg
    have h0 := hW.reg r g hg
    exact fun (vk t ib : Value) w (e1 : IsSl entC w vk g.2) (e2 : IsSl inpC w t xs) (e3 : IsSl crsC w ib (inW a b P n os r)) => rgstep_big a b P n s r g.1 hs vk g.2 t xs ib (inW a b P n os r) w e1 (Nat.le_trans (okl_len h0.2.1 h0.2.2.2) (by omega)) e2 (by omega) e3
      (Nat.le_trans (inbox_le (m := 600) fun o ho => by obtain ⟨i, hi⟩ := List.getElem?_of_mem ho; exact (hW.out i o hi).1) (Nat.le_trans (Nat.mul_le_mul_right _ (nr_le a b P n r)) (by omega)))
      (fun k => Nat.le_trans (arrive_few (h0.1 ▸ h2) k) (by omega)) (f + 1) (stayL a b P n s r g.1 (inpOf xs) g.2 (inW a b P n os r)) (st lessB (outsL a b P n s r g.1 (inpOf xs) g.2 (inW a b P n os r))) (by rw [h0.1]; exact h3 xs hx) (by rw [h0.1]) rfl rfl)
  have HWl := Lib.hid (And.intro hW.lenF hW.lenO)
  have HV := Lib.hid hv
  have HU := Lib.hid hu
  have HT := Lib.hid ht
  obtain ⟨rs0, hrs0, hra0⟩ := hv
  obtain ⟨vs0, hvs0, hva0⟩ := hu
  obtain ⟨A1, n1, hv1, -⟩ := hrs0
  obtain ⟨A2, n2, hu1, -⟩ := hvs0
  rw [show rs0.length = R by rw [hra0.1, hW.lenF]] at hv1
  rw [show vs0.length = R by rw [hva0.1, hW.lenO]] at hu1
  subst hv1 hu1
  obtain ⟨A3, n3, hx3, -⟩ := ht
  subst hx3
  have HFn := Lib.hid (fun i g (hg : fs[i]? = some g) => (hW.reg i g hg).1)
  obtain ⟨X, hX⟩ : ∃ X : Nat → List Ent, ∀ i g, fs[i]? = some g → X i = stayL a b P n s i g.1 (inpOf xs) g.2 (inW a b P n os i) :=
    ⟨fun i => match fs[i]? with | some g => stayL a b P n s i g.1 (inpOf xs) g.2 (inW a b P n os i) | none => [], fun i g hg => by simp only [hg]⟩
  obtain ⟨Y, hY⟩ : ∃ Y : Nat → List Crs, ∀ i g, fs[i]? = some g → Y i = st lessB (outsL a b P n s i g.1 (inpOf xs) g.2 (inW a b P n os i)) :=
    ⟨fun i => match fs[i]? with | some g => st lessB (outsL a b P n s i g.1 (inpOf xs) g.2 (inW a b P n os i)) | none => [], fun i g hg => by simp only [hg]⟩
  have HX := Lib.hid hX
  have HY := Lib.hid hY
  have hfw : IntKind.i64.wrap (f + 1) = f + 1 := by rw [IntKind.wrap_i64]; omega
  clear hX hY hW hbd hrd hx hva0 hra0 h hR
  go_enter Tryz.func24, Tryz.ntmps24
  go_upto_region 1 with fail
  generalize hW : World.alloc _ _ = W
  have BC := Lib.hid (show CfgBox W w.heap.size ⟨a, b, P, n, s⟩ from by rw [← hW]; exact CfgBox.n3a _ ⟨a, b, P, n, s⟩ _ _ _ rfl)
  have BW := Lib.hid (show Blk W (w.heap.size + 1) 32 #[.slice A1 R n1, .slice A2 R n2] from by rw [← hW]; exact (Blk.new' _ _ _ (by simp)).below ((Below.refl _ _).alloc (Nat.le_refl _) _) (by simp))
  have BR := Lib.hid (show Blk W (w.heap.size + 1 + 1) 32 #[nil0, nil0] from by rw [← hW]; exact Blk.new' _ _ _ (by simp))
  have HB := Lib.hid (show Below w.heap.size w W from by rw [← hW]; exact (((Below.refl _ _).alloc (Nat.le_refl _) _).alloc (by simp) _).alloc (by simp; omega) _)
  clear hW
  have hcl := BC.out.has
  obtain ⟨c0, c1, c2, c3, c4, -⟩ := BC.out
  go_wp2_with fail
  refine (HN.out _).mono ?_
  rintro e v2 ⟨rfl, hb⟩
  replace HB := Lib.hid (nextW HB.out hb)
  replace BR := Lib.hid (BR.out.nx hb)
  replace BW := Lib.hid (BW.out.nx hb)
  clear hb c0 c1 c2 c3 c4 hcl BC
  go_upto_region 4 with fail
  generalize hW : World.alloc _ _ = W2
  have hal0 : Below v2.heap.size v2 W2 := by rw [← hW]; exact (Below.refl _ _).alloc (Nat.le_refl _) _
  have BG := Lib.hid (show Blk W2 v2.heap.size 39 #[.int .i64 a, .int .i64 b, .int .i64 P, .int .i64 n, .int .u64 s] from by rw [← hW]; exact Blk.new' _ _ _ rfl)
  replace BR := Lib.hid (BR.out.nx hal0)
  replace BW := Lib.hid (BW.out.nx hal0)
  replace HB := Lib.hid (nextW HB.out hal0)
  generalize v2.heap.size = gb at *
  clear hW hal0
  have hgl := BG.out.lt
  have hwl := BW.out.lt
  have g0 : W2.cell? ⟨gb, 0, none⟩ = some (.int .i64 a) := BG.out.cell 0
  have g1 : W2.cell? ⟨gb, 1, none⟩ = some (.int .i64 b) := BG.out.cell 1
  have g2 : W2.cell? ⟨gb, 2, none⟩ = some (.int .i64 P) := BG.out.cell 2
  have g3 : W2.cell? ⟨gb, 3, none⟩ = some (.int .i64 n) := BG.out.cell 3
  have g4 : W2.cell? ⟨gb, 4, none⟩ = some (.int .u64 s) := BG.out.cell 4
  have w0 : W2.cell? ⟨w.heap.size + 1, 0, none⟩ = some (.slice A1 R n1) := BW.out.cell 0
  have w1 : W2.cell? ⟨w.heap.size + 1, 1, none⟩ = some (.slice A2 R n2) := BW.out.cell 1
  refine plan_region' (S := (fun w' => (∀ b o, b < (W2).heap.size → w'.cell? ⟨b, o, none⟩ = (W2).cell? ⟨b, o, none⟩) ∧ (∀ b o, b < (W2).heap.size → w'.frozen? ⟨b, o, none⟩ = (W2).frozen? ⟨b, o, none⟩) ∧ Below (W2).heap.size (W2) w')) [(0, true), (1, true), (2, true), (3, true), (4, false), (5, true), (6, true), (7, true), (8, true), (9, true), (10, true), (11, false), (12, true), (13, true)] (by kernel_rfl) (by kernel_rfl) (fun _ _ d _ _ h => by cases d <;> exact h) (keepW0 _) (fun hS => ?_)
  simp only [picked, List.getElem?_cons_succ, List.getElem?_cons_zero]
  iterate 4
   refine row_free (v := ?_) (by rfl) ?_ ?_; rotate_left 1; focus (intro w hSw; (try dsimp only at hSw); go_simp; (try with_reducible rfl))
   (try simp only [Act.put, tA, tB, tC])
  refine row_call (by rfl) (fun K hK => ?_)
  go_simp
  (refine (HRg.out _).mono ?_; rintro e w5 ⟨rfl, hb5⟩)
  (try go_wp2_with fail)
  refine hK.out _ _ ?_ (fun hS' => ?_)
  · (try dsimp only); first | exact keepW (by assumption) (by assumption) | exact keepB (by assumption) (by assumption) | exact keepA (by assumption) | assumption
  clear hS hK K
  have hS := hS'
  clear hS'
  iterate 6
   (try simp only [Act.put, tA, tB, tC])
   refine row_free (v := ?_) (by rfl) ?_ ?_; rotate_left 1; focus (intro w hSw; (try dsimp only at hSw); go_simp; (try with_reducible rfl))
  (try simp only [Act.put, tA, tB, tC])
  refine row_call (by rfl) (fun K hK => ?_)
  go_simp
  (refine (HRg.out _).mono ?_; rintro e w6 ⟨rfl, hb6⟩)
  (try go_wp2_with fail)
  refine hK.out _ _ ?_ (fun hS' => ?_)
  · (try dsimp only); first | exact keepW (by assumption) (by assumption) | exact keepB (by assumption) (by assumption) | exact keepA (by assumption) | assumption
  clear hS hK K
  have hS := hS'
  clear hS'
  iterate 2
   (try simp only [Act.put, tA, tB, tC])
   refine row_free (v := ?_) (by rfl) ?_ ?_; rotate_left 1; focus (intro w hSw; (try dsimp only at hSw); go_simp; (try with_reducible rfl))
  (try simp only [Act.put, tA, tB, tC])
  refine row_done ?_
  skip
  replace HB := Lib.hid (nextW HB.out hS.2.2)
  replace BR := Lib.hid (BR.out.nx hS.2.2)
  replace BW := Lib.hid (BW.out.nx hS.2.2)
  replace BG := Lib.hid (BG.out.nx hS.2.2)
  clear hS hb5 hb6 g0 g1 g2 g3 g4 w0 w1 hgl hwl
  have hgl := BG.out.lt
  have g0 : w6.cell? ⟨gb, 0, none⟩ = some (.int .i64 a) := BG.out.cell 0
  have g1 : w6.cell? ⟨gb, 1, none⟩ = some (.int .i64 b) := BG.out.cell 1
  have g2 : w6.cell? ⟨gb, 2, none⟩ = some (.int .i64 P) := BG.out.cell 2
  have g3 : w6.cell? ⟨gb, 3, none⟩ = some (.int .i64 n) := BG.out.cell 3
  have g4 : w6.cell? ⟨gb, 4, none⟩ = some (.int .u64 s) := BG.out.cell 4
  go_wp2_with fail
  refine (HE.out _).mono ?_
  rintro e W3 ⟨⟨gr, go_, rfl, hrow, hout⟩, hb⟩
  have HR := Lib.hid (hrow.mono HB.out.size)
  have HO := Lib.hid (hout.mono HB.out.size)
  replace HB := Lib.hid (nextW HB.out hb)
  replace BG := Lib.hid (BG.out.nx hb)
  replace BR := Lib.hid (BR.out.nx hb)
  replace BW := Lib.hid (BW.out.nx hb)
  clear hb hrow hout g0 g1 g2 g3 g4 hgl
  go_upto_region 7 with fail
  generalize hW : World.alloc _ _ = W4
  have hal : Below W3.heap.size W3 W4 := by rw [← hW]; exact (Below.refl _ _).alloc (Nat.le_refl _) _
  have HK := Lib.hid (show StpAt w.heap.size (w.heap.size + 1) (w.heap.size + 1 + 1) gb W3.heap.size gr go_ R #[.int .i64 a, .int .i64 b, .int .i64 P, .int .i64 n, .int .u64 s] (.slice A1 R n1) (.slice A2 R n2) (f + 1) X Y 0 W4 (List.replicate R r0) (List.replicate R nil0) from
    ⟨List.length_replicate, List.length_replicate, own_below HR.out hal, own_below HO.out hal, fun i hi => by omega, fun i hi => by omega, fun i _ hi => by rw [List.getElem?_replicate, if_pos hi], fun i _ hi => by rw [List.getElem?_replicate, if_pos hi], BG.out.nx hal, BW.out.nx hal, by rw [← hW]; exact Blk.new' _ _ _ rfl, BR.out.nx hal⟩)
  replace HB := Lib.hid (nextW HB.out hal)
  generalize W3.heap.size = gx at *
  clear hW hal HR HO BG BR BW
  have hwl := HK.out.world.lt
  have w0 : W4.cell? ⟨w.heap.size + 1, 0, none⟩ = some (.slice A1 R n1) := HK.out.world.cell 0
  go_wp2
  clear w0 hwl
  go_loopw [42] (fun i wr => ∃ (k : Nat) (rs : List Reg) (vs : List Value), k ≤ R ∧ i = .int .i64 k ∧ StpAt w.heap.size (w.heap.size + 1) (w.heap.size + 1 + 1) gb gx gr go_ R #[.int .i64 a, .int .i64 b, .int .i64 P, .int .i64 n, .int .u64 s] (.slice A1 R n1) (.slice A2 R n2) (f + 1) X Y k wr rs vs ∧ Below w.heap.size w wr) (fun i _ => R - (intOf i).toNat)
  case atStart => exact ⟨0, _, _, Nat.zero_le _, rfl, HK.out, HB.out⟩
  case round =>
    clear HK HB
    obtain ⟨k, rs, vs, hk, rfl, hst, hbel⟩ := hrel
    have HK := Lib.hid hst
    have HB := Lib.hid hbel
    clear hst hbel
    by_cases hlt : k < R
    · have hd1 : decide ((k : Int) < (R : Int)) = true := decide_eq_true (by omega)
      obtain ⟨g, hg⟩ := getE fs k R HWl.out.1 hlt
      obtain ⟨rs1, hrs1, hra1⟩ := HV.out.below HB.out
      obtain ⟨y, hy⟩ := getE rs1 k R (by rw [hra1.1, HWl.out.1]) hlt
      obtain ⟨hyf, hys⟩ := hra1.2 k y g hy hg
      have hyf' : y.frame = f := by rw [hyf]; exact HFn.out k g hg
      obtain ⟨b1, off1, rfl, d0, d1⟩ := elem_Reg hrs1.at hy
      rw [hyf'] at d0
      have HYs := Lib.hid hys
      obtain ⟨Ay, ny, hyl, -⟩ := hys
      rw [hyl] at d1 HYs
      have hgf := HFn.out k g hg
      have hSk := HSt.out k g hg
      have hXk := HX.out k g hg
      have hYk := HY.out k g hg
      have hIk := HI.out (k : Int)
      obtain ⟨IB, hIB⟩ : ∃ IB, inW a b P n os k = IB := ⟨_, rfl⟩
      have hIB' : inboxL (nr a b P n k) os k = IB := hIB
      rw [← hXk, ← hYk] at hSk
      simp only [hgf, hIB] at hSk
      simp only [hIB'] at hIk
      have HSk := Lib.hid hSk
      have HIk := Lib.hid hIk
      clear hgf hSk hXk hYk hIk hIB hIB'
      clear hrs1 hra1 hy hyf hyf' hyl
      go_upto_region 10 with fail
      generalize hW : World.alloc _ _ = W
      have hal : Below wr.heap.size wr W := by rw [← hW]; exact (Below.refl _ _).alloc (Nat.le_refl _) _
      have b0 : W.cell? ⟨wr.heap.size, 0, none⟩ = some (.int .i64 f) := by rw [← hW, World.cell?_alloc_new]; rfl
      have b1 : W.cell? ⟨wr.heap.size, 1, none⟩ = some (.slice Ay g.2.length ny) := by rw [← hW, World.cell?_alloc_new]; rfl
      replace HK := Lib.hid (HK.out.nx hal)
      replace HB := Lib.hid (nextW HB.out hal)
      replace HYs := Lib.hid (HYs.out.below hal)
      have HUW := Lib.hid (HU.out.below HB.out)
      have HTW := Lib.hid (HT.out.below HB.out)
      generalize hgq : wr.heap.size = gq at *
      clear hW hal d0 d1 hgq
      have hql := World.block_lt_of_cell? _ _ b0
      have hgl := HK.out.grid.lt
      have hwl := HK.out.world.lt
      have hxl := HK.out.box.lt
      have g0 : W.cell? ⟨gb, 0, none⟩ = some (.int .i64 a) := HK.out.grid.cell 0
      have g1 : W.cell? ⟨gb, 1, none⟩ = some (.int .i64 b) := HK.out.grid.cell 1
      have g2 : W.cell? ⟨gb, 2, none⟩ = some (.int .i64 P) := HK.out.grid.cell 2
      have g3 : W.cell? ⟨gb, 3, none⟩ = some (.int .i64 n) := HK.out.grid.cell 3
      have g4 : W.cell? ⟨gb, 4, none⟩ = some (.int .u64 s) := HK.out.grid.cell 4
      have w1 : W.cell? ⟨w.heap.size + 1, 1, none⟩ = some (.slice A2 R n2) := HK.out.world.cell 1
      have x0 : W.cell? ⟨gx, 0, none⟩ = some (.slice (some ⟨gr, 0, none⟩) R R) := HK.out.box.cell 0
      have x1 : W.cell? ⟨gx, 1, none⟩ = some (.slice (some ⟨go_, 0, none⟩) R R) := HK.out.box.cell 1
      obtain ⟨Ar, cr, e1, hat⟩ := owned_cells HK.out.row
      cases e1
      obtain ⟨b', off, e2, y0, y1⟩ := elem_Reg hat (HK.out.reg0 k (Nat.le_refl _) hlt)
      cases e2
      rw [Nat.zero_add] at y0 y1
      have hrl := World.block_lt_of_cell? _ _ y0
      have z0 : W.cell? ⟨go_, k, none⟩ = some nil0 := by rw [HK.out.outs.cellAt k (by omega)]; exact HK.out.out0 k (Nat.le_refl _) hlt
      have hol := World.block_lt_of_cell? _ _ z0
      have fr0 := HK.out.row.frozenAt (k * 2)
      have fr1 := HK.out.row.frozenAt (k * 2 + 1)
      have fo := HK.out.outs.frozenAt k
      have hne1 : gx ≠ gr := fun e => own_neA HK.out.row HK.out.box (by decide) (by rw [e]; rfl)
      have hne2 : go_ ≠ gr := fun e => by
        rcases own_apartA HK.out.row HK.out.outs (by decide) with h | h
        · simp [Value.ownBlock] at h
        · exact h (by rw [e])
      have hrl' : gr < W.heap.size := hrl
      have hol' : go_ < W.heap.size := hol
      have hki : (k : Int) < (R : Int) := by omega
      clear hat hrl hol
      refine turn_region (S1 := (fun w' => (∀ b o, b < W.heap.size → w'.cell? ⟨b, o, none⟩ = W.cell? ⟨b, o, none⟩) ∧ (∀ b o, b < W.heap.size → w'.frozen? ⟨b, o, none⟩ = W.frozen? ⟨b, o, none⟩) ∧ Below W.heap.size W w')) (S2 := (fun w' => w'.cell? ⟨gx, 1, none⟩ = some (.slice (some ⟨go_, 0, none⟩) R R))) 21 22 (.free 0 (.free 1 (.free 2 (.freeB 3 (.freeB 4 (.freeB 5 (.free 6 (.free 7 (.free 8 (.free 9 (.free 10 (.free 11 (.free 12 (.free 13 (.one 14 (.one 15 (.free 16 (.free 17 (.freeB 18 (.freeC 19 (.free 20 (.turn 21 .tail)))))))))))))))))))))) (by kernel_rfl) (by kernel_rfl) (fun _ _ d _ _ h => by cases d <;> exact h) (keepW0 W) (x1) ?_
      have hS := keepW0 W
      have hT := x1
      simp only [writtenU, List.drop_succ_cons, List.drop_zero, List.getElem?_cons_succ, List.getElem?_cons_zero]
      iterate 3
       refine ru_free (v := ?_) (by rfl) ?_ ?_; rotate_left 1; focus (intro w hSw; (try dsimp only at hSw); go_simp; (try with_reducible rfl))
       (try simp only [Act.put, tA, tB, tC])
      iterate 3
       refine ru_freeB (v := ?_) (by rfl) ?_ ?_; rotate_left 1; focus (intro w hSw; (try dsimp only at hSw); go_simp; (try with_reducible rfl))
       (try simp only [Act.put, tA, tB, tC])
      iterate 8
       refine ru_free (v := ?_) (by rfl) ?_ ?_; rotate_left 1; focus (intro w hSw; (try dsimp only at hSw); go_simp; (try with_reducible rfl))
       (try simp only [Act.put, tA, tB, tC])
      refine ru_call (by rfl) (fun K hK => ?_)
      go_simp
      (refine (HIk.out _ _ (HUW.out.below hS.2.2)).mono ?_; rintro e w5 ⟨⟨v5, rfl, ho5⟩, hb5⟩)
      (try go_wp2_with fail)
      refine hK.out _ _ ?_ ?_ (fun hS' hT' => ?_)
      · (try dsimp only); first | exact keepW hb6 hS | exact keepW hb5 hS
      · (try dsimp only); first | exact (hb6.cell (p := ⟨gx, 1, none⟩) (Nat.lt_of_lt_of_le hxl hS.2.2.size)).trans hT | exact (hb5.cell (p := ⟨gx, 1, none⟩) (Nat.lt_of_lt_of_le hxl hS.2.2.size)).trans hT
      clear hS hT hK K
      have hS := hS'
      have hT := hT'
      clear hS' hT'
      (try simp only [Act.put, tA, tB, tC])
      refine ru_call (by rfl) (fun K hK => ?_)
      go_simp
      (refine (HSk.out _ _ _ _ (HYs.out.below hS.2.2) (HTW.out.below hS.2.2) (owned_sl ho5)).mono ?_; rintro e w6 ⟨⟨vl, vo, rfl, hol6, hoo6⟩, hb6⟩; have HW6 := Lib.hid (nextW hS.2.2 hb6); have HS5 := Lib.hid (Nat.le_trans HB.out.size hS.2.2.size); have q0 : w6.cell? ⟨gr, k * 2, none⟩ = some (.int .i64 0) := (HW6.out.cell (p := ⟨gr, k * 2, none⟩) hrl').trans y0; have q1 : w6.cell? ⟨gr, k * 2 + 1, none⟩ = some (.slice none 0 0) := (HW6.out.cell (p := ⟨gr, k * 2 + 1, none⟩) hrl').trans y1; have p0 : w6.frozen? ⟨gr, k * 2, none⟩ = false := (HW6.out.frozen (p := ⟨gr, k * 2, none⟩) hrl').trans fr0; have p1 : w6.frozen? ⟨gr, k * 2 + 1, none⟩ = false := (HW6.out.frozen (p := ⟨gr, k * 2 + 1, none⟩) hrl').trans fr1; obtain ⟨Al, nl, hvl, -⟩ := owned_sl hol6; obtain ⟨Ao, no, hvo, -⟩ := owned_sl hoo6; subst hvl hvo)
      (try go_wp2_with fail)
      refine hK.out _ _ ?_ ?_ (fun hS' hT' => ?_)
      · (try dsimp only); first | exact keepW hb6 hS | exact keepW hb5 hS
      · (try dsimp only); first | exact (hb6.cell (p := ⟨gx, 1, none⟩) (Nat.lt_of_lt_of_le hxl hS.2.2.size)).trans hT | exact (hb5.cell (p := ⟨gx, 1, none⟩) (Nat.lt_of_lt_of_le hxl hS.2.2.size)).trans hT
      clear hS hT hK K
      have hS := hS'
      have hT := hT'
      clear hS' hT'
      iterate 2
       (try simp only [Act.put, tA, tB, tC])
       refine ru_free (v := ?_) (by rfl) ?_ ?_; rotate_left 1; focus (intro w hSw; (try dsimp only at hSw); go_simp; (try with_reducible rfl))
      (try simp only [Act.put, tA, tB, tC])
      refine ru_freeB (v := ?_) (by rfl) ?_ ?_; rotate_left 1; focus (intro w hSw; (try dsimp only at hSw); go_simp; (try with_reducible rfl))
      (try simp only [Act.put, tA, tB, tC])
      refine ru_freeC (v := ?_) (by rfl) ?_ ?_; rotate_left 1; focus (intro w hSw; (try dsimp only at hSw); go_simp; (try with_reducible rfl))
      (try simp only [Act.put, tA, tB, tC])
      refine ru_free (v := ?_) (by rfl) ?_ ?_; rotate_left 1; focus (intro w hSw; (try dsimp only at hSw); go_simp; (try with_reducible rfl))
      (try simp only [Act.put, tA, tB, tC])
      refine ru_turn (by rfl) (fun K hK => ?_)
      go_simp
      (try go_wp2_with fail)
      refine hK.out _ _ ?_ ?_
      · (try dsimp only); rw [World.cell?_setCell_other _ _ _ _ (by intro e; exact hne1 (congrArg Addr.block e).symm), World.cell?_setCell_other _ _ _ _ (by intro e; exact hne1 (congrArg Addr.block e).symm)]; exact hT
      clear hK K
      (try simp only [Act.put, tA, tB, tC])
      refine ru_done ?_
      have z7 : ((w6.setCell ⟨gr, k * 2, none⟩ (.int .i64 (f + 1))).setCell ⟨gr, k * 2 + 1, none⟩ (.slice Al (X k).length nl)).cell? ⟨go_, k, none⟩ = some (.slice none 0 0) := by
        rw [World.cell?_setCell_other _ _ _ _ (by intro e; exact hne2 (congrArg Addr.block e).symm), World.cell?_setCell_other _ _ _ _ (by intro e; exact hne2 (congrArg Addr.block e).symm)]
        exact (HW6.out.cell (p := ⟨go_, k, none⟩) hol').trans z0
      have p7 : ((w6.setCell ⟨gr, k * 2, none⟩ (.int .i64 (f + 1))).setCell ⟨gr, k * 2 + 1, none⟩ (.slice Al (X k).length nl)).frozen? ⟨go_, k, none⟩ = false := by
        rw [World.frozen?_setCell, World.frozen?_setCell]
        exact (HW6.out.frozen (p := ⟨go_, k, none⟩) hol').trans fo
      have hB6 := nextW HB.out HW6.out
      have hg1 := (HK.out.row.lt gr rfl).1
      have hg2 := (HK.out.outs.lt go_ rfl).1
      have hK7 := (HK.out.nx HW6.out).put hlt (hol6.mono HS5.out) (hoo6.mono HS5.out)
      have hB7 := ((hB6.setCell (p := ⟨gr, k * 2, none⟩) hg1 (.int .i64 (f + 1))).setCell (p := ⟨gr, k * 2 + 1, none⟩) hg1 (.slice Al (X k).length nl)).setCell (p := ⟨go_, k, none⟩) hg2 (.slice Ao (Y k).length no)
      generalize (w6.setCell ⟨gr, k * 2, none⟩ (.int .i64 (f + 1))).setCell ⟨gr, k * 2 + 1, none⟩ (.slice Al (X k).length nl) = w7 at *
      have HK7 := Lib.hid hK7
      have HB7 := Lib.hid hB7
      clear hK7 hB7 hB6 hg1 hg2 hol6 hoo6 hb6 hb5 ho5 HW6 HS5 q0 q1 p0 p1 hS hT g0 g1 g2 g3 g4 w1 x0 x1 y0 y1 z0 b0 b1 fr0 fr1 fo hql hgl hwl hxl HK HB
      go_wp2
      go_roundw
      case rel => exact ⟨k + 1, rs.set k ⟨f + 1, .slice Al (X k).length nl⟩, vs.set k (.slice Ao (Y k).length no), by omega, by go_num, HK7.out, HB7.out⟩
      case measure => simp [intOf]; omega
    · obtain rfl : k = R := by omega
      have hd1 : decide ((k : Int) < (k : Int)) = false := decide_eq_false (by omega)
      have hbl := HK.out.box.lt
      have hrl := HK.out.ret.lt
      have b0 : wr.cell? ⟨gx, 0, none⟩ = some (.slice (some ⟨gr, 0, none⟩) k k) := HK.out.box.cell 0
      have b1 : wr.cell? ⟨gx, 1, none⟩ = some (.slice (some ⟨go_, 0, none⟩) k k) := HK.out.box.cell 1
      have q0 : wr.cell? ⟨w.heap.size + 1 + 1, 0, none⟩ = some (.slice none 0 0) := HK.out.ret.cell 0
      have q1 : wr.cell? ⟨w.heap.size + 1 + 1, 1, none⟩ = some (.slice none 0 0) := HK.out.ret.cell 1
      have qf0 := HK.out.ret.frozen 0
      have qf1 := HK.out.ret.frozen 1
      go_wp2
      refine bodyPost_ret (v := .tuple #[.agg #[.slice (some ⟨gr, 0, none⟩) k k, .slice (some ⟨go_, 0, none⟩) k k], .int .i64 0]) (by simp [results, Tryz.results24, go_sem, q0, q1]) rfl ⟨⟨_, _, rfl, ?_⟩, (HB.out.setCell (by show w.heap.size ≤ w.heap.size + 1 + 1; omega) _).setCell (by show w.heap.size ≤ w.heap.size + 1 + 1; omega) _⟩
      refine ⟨rs, vs, own_wbox HK.out.row HK.out.ret (by decide) _ _, own_wbox HK.out.outs HK.out.ret (by decide) _ _, ⟨HK.out.lenR, HK.out.lenV, by unfold stepF; rw [List.length_mapIdx, HWl.out.1], by unfold stepO; rw [List.length_mapIdx, HWl.out.1]⟩, fun i q h2 => ?_, fun i q h2 => ?_⟩
      · have hi : i < k := by have := (List.getElem?_eq_some_iff.1 h2).1; unfold stepF at this; rw [List.length_mapIdx, HWl.out.1] at this; exact this
        unfold stepF at h2
        rw [List.getElem?_mapIdx] at h2
        obtain ⟨g, hg, rfl⟩ := Option.map_eq_some_iff.1 h2
        obtain ⟨v, e1, e2⟩ := HK.out.reg i hi
        refine ⟨v, by rw [e1, HFn.out i g hg], ?_⟩
        have h3 := own_wbox e2 HK.out.ret (by decide) (.slice (some ⟨gr, 0, none⟩) k k) (.slice (some ⟨go_, 0, none⟩) k k)
        rw [HX.out i g hg] at h3
        exact h3
      · have hi : i < k := by have := (List.getElem?_eq_some_iff.1 h2).1; unfold stepO at this; rw [List.length_mapIdx, HWl.out.1] at this; exact this
        unfold stepO at h2
        rw [List.getElem?_mapIdx] at h2
        obtain ⟨g, hg, rfl⟩ := Option.map_eq_some_iff.1 h2
        obtain ⟨v', e1, e2⟩ := HK.out.out i hi
        refine ⟨v', e1, ?_⟩
        have h3 := own_wbox e2 HK.out.ret (by decide) (.slice (some ⟨gr, 0, none⟩) k k) (.slice (some ⟨go_, 0, none⟩) k k)
        rw [HY.out i g hg] at h3
        exact h3

end Go.Proofs.YtfpofegfbinalaaGreat.Fx
