/- Package arena: Run, over frames that are right. Frames of inputs that plain lists make (joustplay.Frames). -/
import Derived.Test.YtfpofegfbinalaaGreatM55
import Derived.Test.YtfpofegfbinalaaGreatM39
import Derived.Test.YtfpofegfbinalaaGreatM42
namespace Go.Proofs.YtfpofegfbinalaaGreat.Fx
open Go.ChangeShapes Go.WideShapes Go.ChangeAt Go.RowKit
set_option linter.unusedVariables false
set_option maxRecDepth 100000

/-- A world one frame later. -/
def stepW (a b n s : Int) (P : Nat) (st : List (Int × List Ent) × List (List Crs)) (xs : List Inp) : List (Int × List Ent) × List (List Crs) := (stepF a b P n s (inpOf xs) st.1 st.2, stepO a b P n s (inpOf xs) st.1 st.2)

/-- The world behind frames. -/
def runW (a b n s : Int) (P R : Nat) (rows : List (List Inp)) : List (Int × List Ent) × List (List Crs) := rows.foldl (stepW a b n s P) (begF a b n P R, List.replicate R [])

theorem runW_snoc (a b n s : Int) (P R : Nat) (rows : List (List Inp)) (x : List Inp) : runW a b n s P R (rows ++ [x]) = stepW a b n s P (runW a b n s P R rows) x := by unfold runW; rw [List.foldl_append]; rfl

/-- Inputs of all players, right ones. -/
def RowOk (P : Nat) (xs : List Inp) : Prop := xs.length = P ∧ xs.all irtI = true

theorem wok_run {a b n s : Int} {P R : Nat} (h : rt a b P n = true) (hR : regs a b P n = R) (hP : P ≤ 6) (rows : List (List Inp)) (hl : rows.length ≤ 9999) : WOk a b P n rows.length R (runW a b n s P R rows).1 (runW a b n s P R rows).2 := by
  have : ∀ k, k ≤ rows.length → WOk a b P n k R (runW a b n s P R (rows.take k)).1 (runW a b n s P R (rows.take k)).2 := fun k => by
    induction k with
    | zero => intro _; exact wok_begin h hR
    | succ k ih =>
      intro hk
      obtain ⟨x, hx⟩ := getE rows k rows.length rfl (by omega)
      rw [take_at hx, runW_snoc]
      have := wok_step (s := s) hP hR (ih (by omega)) (by omega) (inpOf x)
      exact_mod_cast this
  have h1 := this rows.length (Nat.le_refl _)
  rw [List.take_length] at h1
  exact h1

/-- Frames: a slice of slices of inputs. -/
def RowsSl (w : World) (v : Value) (rows : List (List Inp)) : Prop := ∃ vs, IsSl oneV w v vs ∧ vs.length = rows.length ∧ ∀ (i : Nat) x r, vs[i]? = some x → rows[i]? = some r → IsSl inpC w x r

theorem RowsSl.below {w w' : World} {v : Value} {rows : List (List Inp)} (h : RowsSl w v rows) (hb : Below w.heap.size w w') : RowsSl w' v rows := by
  obtain ⟨vs, h1, h2, h3⟩ := h
  exact ⟨vs, h1.below hb, h2, fun i x r e1 e2 => (h3 i x r e1 e2).below hb⟩

theorem Blk.grownA {w w' : World} {g b : Nat} {t : TypeId} {cur : Array Value} (h : Blk w g t cur) (hg : w.grownBy w' (some b)) (hne : g ≠ b) : Blk w' g t cur := h.keptA hg (by simp [hne])

set_option maxHeartbeats 8000000 in
theorem arun_any (a b n s : Int) (P R : Nat) (h : rt a b P n = true) (hR : regs a b P n = R) (hs : 0 ≤ s ∧ s < 18446744073709551616) (rows : List (List Inp)) (hok : ∀ r ∈ rows, RowOk P r) (hl : rows.length ≤ 9999) (t : Value) (w : World) (ht : RowsSl w t rows) :
    Calls Tryz.prog 13 #[.agg #[.int .i64 a, .int .i64 b, .int .i64 (P : Int), .int .i64 n, .int .u64 s], t] w fun z w' =>
      (∃ v' u', z = .returned (.tuple #[.agg #[v', u'], .int .i64 0]) ∧ NewW w.heap.size R w' v' u' (runW a b n s P R rows).1 (runW a b n s P R rows).2) ∧ Below w.heap.size w w' := by
  have hrd := rt_bd h
  have hP6 : P ≤ 6 := by omega
  have HBg := Lib.hid (fun w => begin_new a b n s P R h hR w)
  have HSt := Lib.hid (fun (k : Nat) (hk : k < rows.length) (x : List Inp) (hx : rows[k]? = some x) (v u t : Value) (w : World) (hv : RgsSl w v (runW a b n s P R (rows.take k)).1) (hu : OutSl w u (runW a b n s P R (rows.take k)).2) (ht : IsSl inpC w t x) => by
    have hW := wok_run (s := s) h hR hP6 (rows.take k) (by rw [List.length_take]; omega)
    rw [List.length_take, Nat.min_eq_left (by omega)] at hW
    exact astep_new a b n s k P R h hR hs (by omega) _ _ hW x (hok x (List.mem_of_getElem? hx)) v u t w hv hu ht)
  have HT := Lib.hid ht
  obtain ⟨vs0, hvs0, hvl0, -⟩ := ht
  obtain ⟨A1, n1, hv1, -⟩ := hvs0
  obtain ⟨N, hN⟩ : ∃ N, rows.length = N := ⟨_, rfl⟩
  rw [hvl0, hN] at hv1
  subst hv1
  rw [hN] at hl HSt
  have HN := Lib.hid hN
  clear hvl0 hN hok hrd h hR
  go_enter Tryz.func13, Tryz.ntmps13
  go_upto_region 1 with fail
  generalize hW : World.alloc _ _ = W
  have BC := Lib.hid (show CfgBox W w.heap.size ⟨a, b, P, n, s⟩ from by rw [← hW]; exact CfgBox.n2a _ ⟨a, b, P, n, s⟩ _ _ rfl)
  have BR := Lib.hid (show Blk W (w.heap.size + 1) 32 #[nil0, nil0] from by rw [← hW]; exact Blk.new' _ _ _ (by simp))
  have HB := Lib.hid (show Below w.heap.size w W from by rw [← hW]; exact ((Below.refl _ _).alloc (Nat.le_refl _) _).alloc (by simp) _)
  clear hW
  have hcl := BC.out.has
  obtain ⟨c0, c1, c2, c3, c4, -⟩ := BC.out
  go_wp2_with fail
  refine (HBg.out _).mono ?_
  rintro e v2 ⟨⟨g1, g2, rfl, hnw⟩, hb⟩
  have HW0 := Lib.hid (hnw.mono (show w.heap.size + 2 ≤ _ from BR.out.lt))
  replace HB := Lib.hid (nextW HB.out hb)
  replace BR := Lib.hid (BR.out.nx hb)
  replace BC := Lib.hid (BC.out.nx hb)
  clear hb c0 c1 c2 c3 c4 hcl hnw
  go_upto_region 2 with fail
  generalize hW : World.alloc _ _ = W2
  have hal0 : Below v2.heap.size v2 W2 := by rw [← hW]; exact (Below.refl _ _).alloc (Nat.le_refl _) _
  have BX := Lib.hid (show Blk W2 v2.heap.size 32 #[.slice (some ⟨g1, 0, none⟩) R R, .slice (some ⟨g2, 0, none⟩) R R] from by rw [← hW]; exact Blk.new' _ _ _ rfl)
  have hgl : w.heap.size + 1 < v2.heap.size := BR.out.lt
  replace BR := Lib.hid (BR.out.nx hal0)
  replace BC := Lib.hid (BC.out.nx hal0)
  replace HB := Lib.hid (nextW HB.out hal0)
  replace HW0 := Lib.hid (HW0.out.below hal0)
  generalize v2.heap.size = gx at *
  clear hW hal0
  go_wp2
  go_loopw [7, 8] (fun s7 i wr => ∃ (k : Nat) (v u : Value), k ≤ N ∧ s7 = .int .i64 0 ∧ i = .int .i64 k ∧ ((∃ A c, v = .slice A R c) ∧ ∃ A c, u = .slice A R c) ∧ Blk wr gx 32 #[v, u] ∧ CfgBox wr w.heap.size ⟨a, b, P, n, s⟩ ∧ Blk wr (w.heap.size + 1) 32 #[nil0, nil0] ∧ NewW (w.heap.size + 2) R wr v u (runW a b n s P R (rows.take k)).1 (runW a b n s P R (rows.take k)).2 ∧ Below w.heap.size w wr) (fun _ i _ => N - (intOf i).toNat)
  case atStart => exact ⟨0, _, _, Nat.zero_le _, rfl, rfl, ⟨⟨_, _, rfl⟩, _, _, rfl⟩, BX.out, BC.out, BR.out, HW0.out, HB.out⟩
  case round =>
    clear BX BC BR HW0 HB
    obtain ⟨k, v, u, hk, rfl, rfl, ⟨⟨Av, cv, rfl⟩, Au, cu, rfl⟩, hbx, hbc, hbr, hnw, hb⟩ := hrel
    have BX := Lib.hid hbx
    have BC := Lib.hid hbc
    have BR := Lib.hid hbr
    have HNw := Lib.hid hnw
    have HB := Lib.hid hb
    clear hbx hbc hbr hnw hb
    have hxl := BX.out.lt
    have hcl := BC.out.has
    have x0 : wr.cell? ⟨gx, 0, none⟩ = some (.slice Av R cv) := BX.out.cell 0
    have x1 : wr.cell? ⟨gx, 1, none⟩ = some (.slice Au R cu) := BX.out.cell 1
    by_cases hlt : k < N
    · have hki : (k : Int) < (N : Int) := by omega
      obtain ⟨x, hx⟩ := getE rows k N HN.out hlt
      obtain ⟨vs, hvs, hvl, hva⟩ := HT.out.below HB.out
      obtain ⟨y, hy⟩ := getE vs k N (by rw [hvl, HN.out]) hlt
      have HYs := Lib.hid (hva k y x hy hx)
      obtain ⟨b1, off1, rfl, hc1⟩ := hvs.at.elem 1 oneV_len (by omega) hy
      have d0 := hc1 0 y rfl
      rw [Nat.mul_one, Nat.add_zero] at d0
      obtain ⟨Ay, cy, hye, -⟩ := HYs.out
      subst hye
      have HSk := Lib.hid (HSt.out k hlt x hx)
      have HTk := Lib.hid (take_at hx)
      obtain ⟨c0, c1, c2, c3, c4, -⟩ := BC.out
      have hbl := World.block_lt_of_cell? _ _ d0
      have f0 := BX.out.frozen 0
      have f1 := BX.out.frozen 1
      clear hvs hvl hva hy hc1 hx
      go_wp2_with fail
      refine turn_region (S1 := (fun w' => (∀ b o, b < wr.heap.size → w'.cell? ⟨b, o, none⟩ = wr.cell? ⟨b, o, none⟩) ∧ (∀ b o, b < wr.heap.size → w'.frozen? ⟨b, o, none⟩ = wr.frozen? ⟨b, o, none⟩) ∧ Below wr.heap.size wr w')) (S2 := (fun _ => True)) 10 11 (.free 0 (.free 1 (.free 2 (.free 3 (.free 4 (.free 5 (.one 6 (.free 7 (.free 8 (.freeB 9 (.turn 10 .tail))))))))))) (by kernel_rfl) (by kernel_rfl) (fun _ _ d _ _ h => by cases d <;> exact h) (keepW0 wr) (trivial) ?_
      have hS := keepW0 wr
      have hT := trivial
      simp only [writtenU, List.drop_succ_cons, List.drop_zero, List.getElem?_cons_succ, List.getElem?_cons_zero]
      iterate 6
       refine ru_free (v := ?_) (by rfl) ?_ ?_; rotate_left 1; focus (intro w hSw; (try dsimp only at hSw); go_simp; (try with_reducible rfl))
       (try simp only [Act.put, tA, tB, tC])
      refine ru_call (by rfl) (fun K hK => ?_)
      go_simp
      (refine (HSk.out _ _ _ _ ((HNw.out.below hS.2.2).at).1 ((HNw.out.below hS.2.2).at).2 (HYs.out.below hS.2.2)).mono ?_; rintro e w6 ⟨⟨v6, u6, rfl, hnw6⟩, hb6⟩; have HW6 := Lib.hid (nextW hS.2.2 hb6); have HS5 := Lib.hid hS.2.2.size; have q0 : w6.cell? ⟨gx, 0, none⟩ = some (.slice Av R cv) := (HW6.out.cell (p := ⟨gx, 0, none⟩) hxl).trans x0; have q1 : w6.cell? ⟨gx, 1, none⟩ = some (.slice Au R cu) := (HW6.out.cell (p := ⟨gx, 1, none⟩) hxl).trans x1; have p0 : w6.frozen? ⟨gx, 0, none⟩ = false := (HW6.out.frozen (p := ⟨gx, 0, none⟩) hxl).trans f0; have p1 : w6.frozen? ⟨gx, 1, none⟩ = false := (HW6.out.frozen (p := ⟨gx, 1, none⟩) hxl).trans f1; obtain ⟨A6, c6, hv6⟩ : ∃ A c, v6 = .slice A R c := (by obtain ⟨_, _, h1, _⟩ := hnw6; obtain ⟨A, c, e, -⟩ := owned_cells h1; exact ⟨A, c, e⟩); obtain ⟨A7, c7, hu6⟩ : ∃ A c, u6 = .slice A R c := (by obtain ⟨_, _, _, h1, _⟩ := hnw6; obtain ⟨A, c, e, -⟩ := owned_cells h1; exact ⟨A, c, e⟩); subst hv6 hu6)
      (try go_wp2_with fail)
      refine hK.out _ _ ?_ ?_ (fun hS' hT' => ?_)
      · (try dsimp only); exact keepW hb6 hS
      · (try dsimp only); all_goals trivial
      clear hS hT hK K
      have hS := hS'
      have hT := hT'
      clear hS' hT'
      iterate 2
       (try simp only [Act.put, tA, tB, tC])
       refine ru_free (v := ?_) (by rfl) ?_ ?_; rotate_left 1; focus (intro w hSw; (try dsimp only at hSw); go_simp; (try with_reducible rfl))
      (try simp only [Act.put, tA, tB, tC])
      refine ru_freeB (v := ?_) (by rfl) ?_ ?_; rotate_left 1; focus (intro w hSw; (try dsimp only at hSw); go_simp; (try with_reducible rfl))
      (try simp only [Act.put, tA, tB, tC])
      refine ru_turn (by rfl) (fun K hK => ?_)
      go_simp
      (try go_wp2_with fail)
      refine hK.out _ _ ?_ ?_
      · (try dsimp only); all_goals trivial
      clear hK K
      (try simp only [Act.put, tA, tB, tC])
      refine ru_done ?_
      have hg7 : w6.grownBy ((w6.setCell ⟨gx, 0, none⟩ (.slice A6 R c6)).setCell ⟨gx, 1, none⟩ (.slice A7 R c7)) (some gx) := grown_trans (grown_setA _ _ _ _) (grown_setA _ _ _ _)
      have hB7 := ((nextW HB.out HW6.out).setCell (p := ⟨gx, 0, none⟩) (show w.heap.size ≤ gx by omega) (.slice A6 R c6)).setCell (p := ⟨gx, 1, none⟩) (show w.heap.size ≤ gx by omega) (.slice A7 R c7)
      have hX7 : Blk ((w6.setCell ⟨gx, 0, none⟩ (.slice A6 R c6)).setCell ⟨gx, 1, none⟩ (.slice A7 R c7)) gx 32 #[.slice A6 R c6, .slice A7 R c7] := ((BX.out.nx HW6.out).put 0 (.slice A6 R c6)).put 1 (.slice A7 R c7)
      have hC7 := ((BC.out.nx HW6.out).far (show gx ≠ w.heap.size by omega) 0 (.slice A6 R c6)).far (show gx ≠ w.heap.size by omega) 1 (.slice A7 R c7)
      have hR7 := (BR.out.nx HW6.out).grownA hg7 (show w.heap.size + 1 ≠ gx by omega)
      have hN7 := (hnw6.old hg7 hxl).mono (show w.heap.size + 2 ≤ _ from (show w.heap.size + 2 ≤ wr.heap.size by omega))
      generalize (w6.setCell ⟨gx, 0, none⟩ (.slice A6 R c6)).setCell ⟨gx, 1, none⟩ (.slice A7 R c7) = w7 at *
      have HZ := Lib.hid (And.intro hX7 (And.intro hC7 (And.intro hR7 (And.intro hN7 hB7))))
      clear hg7 hB7 hX7 hC7 hR7 hN7 hS hT hnw6 hb6 HW6 HS5 q0 q1 p0 p1 x0 x1 c0 c1 c2 c3 c4 d0 f0 f1 BX BC BR HNw HB
      go_wp2
      go_roundw
      case rel => exact ⟨k + 1, _, _, by omega, rfl, by go_num, ⟨⟨_, _, rfl⟩, _, _, rfl⟩, HZ.out.1, HZ.out.2.1, HZ.out.2.2.1, by rw [HTk.out, runW_snoc]; exact HZ.out.2.2.2.1, HZ.out.2.2.2.2⟩
      case measure => simp [intOf]; omega
    · obtain rfl : k = N := by omega
      have r0' : wr.cell? ⟨w.heap.size + 1, 0, none⟩ = some (.slice none 0 0) := BR.out.cell 0
      have r1' : wr.cell? ⟨w.heap.size + 1, 1, none⟩ = some (.slice none 0 0) := BR.out.cell 1
      have rf0 := BR.out.frozen 0
      have rf1 := BR.out.frozen 1
      have hrl := BR.out.lt
      rw [List.take_of_length_le (Nat.le_of_eq HN.out)] at HNw
      go_wp2
      have hg7 : wr.grownBy ((wr.setCell ⟨w.heap.size + 1, 0, none⟩ (.slice Av R cv)).setCell ⟨w.heap.size + 1, 1, none⟩ (.slice Au R cu)) (some (w.heap.size + 1)) := grown_trans (grown_setA _ _ _ _) (grown_setA _ _ _ _)
      refine bodyPost_ret (v := .tuple #[.agg #[.slice Av R cv, .slice Au R cu], .int .i64 0]) (by simp [results, Tryz.results13, go_sem, r0', r1']) rfl ⟨⟨_, _, rfl, (HNw.out.old hg7 (by omega)).mono (by omega)⟩, (HB.out.setCell (by show w.heap.size ≤ w.heap.size + 1; omega) _).setCell (by show w.heap.size ≤ w.heap.size + 1; omega) _⟩

end Go.Proofs.YtfpofegfbinalaaGreat.Fx
namespace Go.Proofs.YtfpofegfbinalaaGreat.Fx
open Go.ChangeShapes Go.WideShapes Go.ChangeAt Go.RowKit
set_option linter.unusedVariables false
set_option maxRecDepth 100000

/-- 'append' of one row of inputs to a row of rows of the call's own. -/
theorem appL_rowI {w : World} {ops : Array Oper} {rest : List Oper} {o : Oper} {a : Act} {Q : Exit → Act → World → Prop} (hgd : o.guard = none) (s x : Operand)
    (ho : o.op = .call { callee := .builtin .append, args := #[s, x], argTypes := #[25, 25] }) (base : Nat) (v : Value) (vs : List Value) (hs : a.eval s = v) (hown : w.ownsRow base 55 1 v vs.length vs)
    (g c : Nat) (y : Value) (hy : y.oneCell' = true) (hx : a.eval x = .slice (some ⟨g, 0, none⟩) 1 c) (hg : w.cell? ⟨g, 0, none⟩ = some y) (hlen : vs.length ≤ 1000000) (hbase : base ≤ w.heap.size)
    (h : ∀ v' w', w'.ownsRow base 55 1 v' (vs ++ [y]).length (vs ++ [y]) → Below base w w' → w.grownBy w' v.ownBlock → wpList Tryz.prog ops Q rest (a.put o.dst v') w') : wpList Tryz.prog ops Q (o :: rest) a w := by
  obtain ⟨i0, hi, hz0, hz1, hz2⟩ := info_parts info_slI
  refine wpList_plain hgd fun _ hK => wp_app s x 25 ho base 55 i0 _ 1 24 Tryz.underlying25 hi hz0 hz1 hz2 rfl (by omega) v vs.length vs hs hown (some ⟨g, 0, none⟩) 1 c [y] hx rfl (fun h => by cases h) (fun ad had j u hu => ?_) (fun u hu => by simp at hu; rw [hu]; exact hy) (by unfold maxLen; omega) (by omega) hbase fun v' w' h1 h2 h3 => hK _ _ (h v' w' (by rw [List.length_append]; exact h1) h2 h3)
  cases had
  cases j with
  | zero =>
    simp at hu
    subst hu
    have e : (Addr.mk g 0 none).add 0 = ⟨g, 0, none⟩ := by unfold Addr.add; split <;> simp_all
    rw [e]
    exact hg
  | succ j => simp at hu

set_option maxHeartbeats 8000000 in
theorem pframes_many (a b n s : Int) (P : Nat) (hP : P ≤ 6) (M : Nat) (hM : M ≤ 1000) (L : Value) (vs0 : List Value) (w : World) (hL : IsSl oneV w L vs0) (hin : ∀ x ∈ vs0, ∃ l, IsSl inpC w x l) :
    Calls Tryz.prog 9 #[.agg #[.int .i64 a, .int .i64 b, .int .i64 (P : Int), .int .i64 n, .int .u64 s], L, .int .i64 M] w fun z w' =>
      (∃ (A : Option Addr) (c : Nat) (rows : List (List Inp)), z = .returned (.slice A rows.length c) ∧ rows.length ≤ M ∧ RowsSl w' (.slice A rows.length c) rows ∧ ∀ r ∈ rows, RowOk P r) ∧ Below w.heap.size w w' := by
  have HI := Lib.hid pinput_any
  have hmk : ∀ w, (Instr.makeSlice 55 (.int .i64 (P : Int)) (.int .i64 (P : Int))).run Tryz.prog w = .ok (.slice (some ⟨w.heap.size, 0, none⟩) P P) (w.alloc (.cells ((List.replicate P inp0).flatMap inpC).toArray 71)) := fun w => make_inp P (by omega) w
  have Hmk := Lib.hid hmk
  have HL := Lib.hid hL
  have HIn := Lib.hid hin
  obtain ⟨A0, n0, rfl, -⟩ := hL
  obtain ⟨K, hK⟩ : ∃ K, vs0.length = K := ⟨_, rfl⟩
  rw [hK] at HL ⊢
  have HKn := Lib.hid hK
  clear hmk hK hin
  go_enter Tryz.func9, Tryz.ntmps9
  go_wp2
  go_loopw [7, 8] (fun v i wr => ∃ (k : Nat) (vs : List Value) (rows : List (List Inp)), k ≤ K ∧ k ≤ M ∧ i = .int .i64 k ∧ vs.length = k ∧ rows.length = k ∧ CfgBox wr w.heap.size ⟨a, b, P, n, s⟩ ∧ Below w.heap.size w wr ∧ wr.ownsRow (w.heap.size + 1) 55 1 v vs.length vs ∧ (∀ (i : Nat) x r, vs[i]? = some x → rows[i]? = some r → wr.ownsRow (w.heap.size + 1) 71 3 x P (r.flatMap inpC)) ∧ ∀ r ∈ rows, RowOk P r) (fun _ i _ => M - (intOf i).toNat)
  case atStart => exact ⟨0, [], [], Nat.zero_le _, Nat.zero_le _, rfl, rfl, rfl, CfgBox.n1 _ ⟨a, b, P, n, s⟩ _ rfl, (Below.refl _ _).alloc (Nat.le_refl _) _, World.ownsRow_nil _ _ _ _, fun i x r h => by simp at h, fun r h => by simp at h⟩
  case round =>
    obtain ⟨k, vs, rows, hk, hkM, rfl, hvl, hrl0, hbg, hbel, hov, hor, hrok⟩ := hrel
    have Hbel := Lib.hid hbel
    have BG := Lib.hid hbg
    have HOv := Lib.hid hov
    have HOr := Lib.hid hor
    have HVl := Lib.hid (And.intro hvl hrl0)
    have HRok := Lib.hid hrok
    obtain ⟨Av, cv, hv7, -⟩ := owned_cells hov
    rw [hvl] at hv7
    subst hv7
    clear hbel hbg hov hor hvl hrl0 hrok
    by_cases hlt : k < K ∧ k < M
    · obtain ⟨hltK, hltM⟩ := hlt
      have hd3 : decide ((k : Int) < (K : Int)) = true := decide_eq_true (by omega)
      have hd4 : decide ((k : Int) < (M : Int)) = true := decide_eq_true (by omega)
      obtain ⟨u, hu⟩ := getE vs0 k K HKn.out hltK
      obtain ⟨ins, hins⟩ := HIn.out u (List.mem_of_getElem? hu)
      have HU := Lib.hid hins
      obtain ⟨g, goff, rfl, hgc0⟩ := HL.out.at.elem 1 oneV_len (by omega) hu
      have hg0 := hgc0 0 u rfl
      rw [Nat.mul_one, Nat.add_zero] at hg0
      obtain ⟨A, c, rfl, -⟩ := hins
      obtain ⟨N, hN⟩ : ∃ N, ins.length = N := ⟨_, rfl⟩
      rw [hN] at HU hg0
      have Hn := Lib.hid hN
      have Hg := Lib.hid hg0
      have hgl := World.block_lt_of_cell? _ _ hg0
      clear hu hgc0 hg0 hN
      have hgg := BG.out.has
      have hgr : w.heap.size < wr.heap.size := hgg
      obtain ⟨g0, g1, g2, g3, g4, -⟩ := BG.out
      go_upto_region 6 with (simp only [Hmk.out])
      have Hr0 := Lib.hid (make_row P (by omega) wr (w.heap.size + 1) hgg)
      rw [List.length_replicate] at Hr0
      generalize hW : World.alloc _ _ = W2 at *
      have hal : Below wr.heap.size wr W2 := by rw [← hW]; exact (Below.refl _ _).alloc (Nat.le_refl _) _
      replace Hbel := Lib.hid (nextW Hbel.out hal)
      replace BG := Lib.hid (BG.out.nx hal)
      replace HOv := Lib.hid (own_below HOv.out hal)
      have HOlt := Lib.hid (fun (i : Nat) x r (e1 : vs[i]? = some x) (e2 : rows[i]? = some r) b (hb : x.ownBlock = some b) => ((HOr.out i x r e1 e2).lt b hb).2)
      have HAp := Lib.hid (own_apartA Hr0.out HOv.out (by decide))
      have HOr2 := Lib.hid (fun (i : Nat) x r (e1 : vs[i]? = some x) (e2 : rows[i]? = some r) => own_below (HOr.out i x r e1 e2) hal)
      generalize wr.heap.size = gr at *
      clear hW hal g0 g1 g2 g3 g4 hgg Hmk HOr
      obtain ⟨wo, rfl⟩ : ∃ wo : World, wo = wr := ⟨_, rfl⟩
      have hB2 := Below.refl W2.heap.size W2
      go_wp2_with fail
      go_loopw [10] (fun i wi => ∃ (j : Nat) (row : List Inp), j ≤ P ∧ i = .int .i64 j ∧ row.length = P ∧ row.all irtI = true ∧ wi.ownsRow (w.heap.size + 1) 71 3 (.slice (some ⟨gr, 0, none⟩) P P) P (row.flatMap inpC) ∧ CfgBox wi w.heap.size ⟨a, b, P, n, s⟩ ∧ Below w.heap.size w wi ∧ W2.grownBy wi (some gr)) (fun i _ => P - (intOf i).toNat)
      case atStart => exact ⟨0, List.replicate P inp0, Nat.zero_le _, rfl, List.length_replicate, all_rep P, Hr0.out, BG.out, Hbel.out, World.grownBy.refl _ _⟩
      case round =>
        obtain ⟨j, row, hj, rfl, hrl, hra, hown, hbg, hbel, hgw2⟩ := hrel
        clear Hbel BG Hr0
        have Hbel := Lib.hid hbel
        have BG := Lib.hid hbg
        have Hown := Lib.hid hown
        have Hra := Lib.hid hra
        have Hrl := Lib.hid hrl
        have HGw := Lib.hid hgw2
        clear hbel hbg hown hra hrl hgw2
        have hgg := BG.out.has
        obtain ⟨g0, g1, g2, g3, g4, -⟩ := BG.out
        have hgc := (Hbel.out.cell (p := ⟨g, goff + k, none⟩) hgl).trans Hg.out
        have hgl2 := World.block_lt_of_cell? _ _ hgc
        by_cases hjP : j < P
        · have hd1 : decide ((j : Int) < (P : Int)) = true := decide_eq_true (by omega)
          by_cases hjN : j < N
          · have hd2 : decide ((j : Int) < (N : Int)) = true := decide_eq_true (by omega)
            obtain ⟨x, hx⟩ := getE ins j N Hn.out hjN
            obtain ⟨bb, off, rfl, hc⟩ := elem_Inp (HU.out.below Hbel.out).at hx
            obtain ⟨c0, c1, c2⟩ := hc
            clear hx
            go_wp2_with fail
            refine (HI.out x.dx x.dy x.fire _).mono ?_
            rintro e w5 ⟨X, Y, rfl, hir, hb5⟩
            replace Hbel := Lib.hid (nextW Hbel.out hb5)
            replace BG := Lib.hid (BG.out.nx hb5)
            replace Hown := Lib.hid (own_below Hown.out hb5)
            replace HGw := Lib.hid (grown_trans HGw.out (grown_below hb5))
            have Hir := Lib.hid (show irtI ⟨X, Y, x.fire⟩ = true from hir)
            clear hb5 hir g0 g1 g2 g3 g4 hgg hgc hgl2 c0 c1 c2
            obtain ⟨y, hy⟩ := getE row j P Hrl.out hjP
            have Hy := Lib.hid hy
            obtain ⟨g', cap', hTl, -, hgw, -, hcs, hfz⟩ := own_at_Inp Hown.out hy
            cases hTl
            simp only [Nat.zero_add] at hcs
            obtain ⟨y0, y1, y2⟩ := hcs
            clear hy
            go_upto_region 8 with fail
            generalize hV : World.setCell _ _ _ = V at *
            obtain ⟨hl9, hg9⟩ := own_three Hown.out Hy.out ⟨X, Y, x.fire⟩ hV
            replace Hbel := Lib.hid (show Below w.heap.size w V from by rw [← hV]; exact ((Hbel.out.setCell (show w.heap.size ≤ gr by omega) _).setCell (show w.heap.size ≤ gr by omega) _).setCell (show w.heap.size ≤ gr by omega) _)
            replace BG := Lib.hid (show CfgBox V w.heap.size ⟨a, b, P, n, s⟩ from by rw [← hV]; exact ((BG.out.far (show gr ≠ w.heap.size by omega) _ _).far (show gr ≠ w.heap.size by omega) _ _).far (show gr ≠ w.heap.size by omega) _ _)
            replace Hown := Lib.hid hl9
            replace HGw := Lib.hid (grown_trans HGw.out hg9)
            clear hl9 hg9 hV y0 y1 y2 hfz hgw
            go_wp2
            go_roundw
            case rel => exact ⟨j + 1, row.set j ⟨X, Y, x.fire⟩, by omega, by go_num, by rw [List.length_set]; exact Hrl.out, all_set Hra.out j Hir.out, Hown.out, BG.out, Hbel.out, HGw.out⟩
            case measure => simp [intOf]; omega
          · have hd2 : decide ((j : Int) < (N : Int)) = false := decide_eq_false (by omega)
            go_wp2_with (at_builtin; go_must (refine appL_rowI (by rfl) (.tmp 51) (.tmp 53) (by rfl) (w.heap.size + 1) _ vs (by rfl) ((HOv.out.kept HGw.out HAp.out).alloc _) wr.heap.size 1 (.slice (some ⟨gr, 0, none⟩) P P) (by rfl) (by rfl) (by rw [World.cell?_alloc_new]; rfl) (by have := HVl.out.1; omega) (by simp; omega) ?_))
            intro v9 w9 ho9 hb9 hg9
            have HVa := Lib.hid ((HOv.out.kept HGw.out HAp.out).alloc (.cells #[.slice (some ⟨gr, 0, none⟩) P P] 55))
            have HO9 := Lib.hid (show w9.ownsRow (w.heap.size + 1) 55 1 v9 (vs ++ [Value.slice (some ⟨gr, 0, none⟩) P P]).length (vs ++ [Value.slice (some ⟨gr, 0, none⟩) P P]) from by rw [List.length_append]; exact ho9)
            have HR9 := Lib.hid ((Hown.out.alloc (.cells #[.slice (some ⟨gr, 0, none⟩) P P] 55)).kept hg9 (own_apartA HVa.out (Hown.out.alloc _) (by decide)))
            have HA9 := Lib.hid (fun (i : Nat) x r (e1 : vs[i]? = some x) (e2 : rows[i]? = some r) =>
              let h3 := ((HOr2.out i x r e1 e2).kept HGw.out (.inr fun e => by have := HOlt.out i x r e1 e2 gr e; omega)).alloc (.cells #[.slice (some ⟨gr, 0, none⟩) P P] 55)
              h3.kept hg9 (own_apartA HVa.out h3 (by decide)))
            have HG9 := Lib.hid ((BG.out.alloc hgg (.cells #[.slice (some ⟨gr, 0, none⟩) P P] 55)).below hb9 (Nat.lt_succ_self _))
            have HB9 := Lib.hid ((Hbel.out.alloc Hbel.out.size (.cells #[.slice (some ⟨gr, 0, none⟩) P P] 55)).trans (hb9.mono (Nat.le_succ _)))
            clear ho9 hb9 hg9
            go_wp2
            go_roundw
            case rel =>
              refine ⟨k + 1, vs ++ [.slice (some ⟨gr, 0, none⟩) P P], rows ++ [row], by omega, by omega, by go_num, by rw [List.length_append, HVl.out.1]; rfl, by rw [List.length_append, HVl.out.2]; rfl, HG9.out, HB9.out, HO9.out, fun i x r e1 e2 => ?_, fun r hr => ?_⟩
              · by_cases hi : i < k
                · rw [List.getElem?_append_left (by rw [HVl.out.1]; exact hi)] at e1
                  rw [List.getElem?_append_left (by rw [HVl.out.2]; exact hi)] at e2
                  exact HA9.out i x r e1 e2
                · have hik : i = k := by have := (List.getElem?_eq_some_iff.1 e1).1; rw [List.length_append, HVl.out.1] at this; simp at this; omega
                  subst hik
                  rw [List.getElem?_append_right (by rw [HVl.out.1]; exact Nat.le_refl _), HVl.out.1, Nat.sub_self] at e1
                  rw [List.getElem?_append_right (by rw [HVl.out.2]; exact Nat.le_refl _), HVl.out.2, Nat.sub_self] at e2
                  cases e1
                  cases e2
                  exact HR9.out
              · rcases List.mem_append.1 hr with hr | hr
                · exact HRok.out r hr
                · simp at hr; subst hr; exact ⟨Hrl.out, Hra.out⟩
            case measure => simp [intOf]; omega
        · have hd1 : decide ((j : Int) < (P : Int)) = false := decide_eq_false (by omega)
          go_wp2_with (at_builtin; go_must (refine appL_rowI (by rfl) (.tmp 51) (.tmp 53) (by rfl) (w.heap.size + 1) _ vs (by rfl) ((HOv.out.kept HGw.out HAp.out).alloc _) wr.heap.size 1 (.slice (some ⟨gr, 0, none⟩) P P) (by rfl) (by rfl) (by rw [World.cell?_alloc_new]; rfl) (by have := HVl.out.1; omega) (by simp; omega) ?_))
          intro v9 w9 ho9 hb9 hg9
          have HVa := Lib.hid ((HOv.out.kept HGw.out HAp.out).alloc (.cells #[.slice (some ⟨gr, 0, none⟩) P P] 55))
          have HO9 := Lib.hid (show w9.ownsRow (w.heap.size + 1) 55 1 v9 (vs ++ [Value.slice (some ⟨gr, 0, none⟩) P P]).length (vs ++ [Value.slice (some ⟨gr, 0, none⟩) P P]) from by rw [List.length_append]; exact ho9)
          have HR9 := Lib.hid ((Hown.out.alloc (.cells #[.slice (some ⟨gr, 0, none⟩) P P] 55)).kept hg9 (own_apartA HVa.out (Hown.out.alloc _) (by decide)))
          have HA9 := Lib.hid (fun (i : Nat) x r (e1 : vs[i]? = some x) (e2 : rows[i]? = some r) =>
            let h3 := ((HOr2.out i x r e1 e2).kept HGw.out (.inr fun e => by have := HOlt.out i x r e1 e2 gr e; omega)).alloc (.cells #[.slice (some ⟨gr, 0, none⟩) P P] 55)
            h3.kept hg9 (own_apartA HVa.out h3 (by decide)))
          have HG9 := Lib.hid ((BG.out.alloc hgg (.cells #[.slice (some ⟨gr, 0, none⟩) P P] 55)).below hb9 (Nat.lt_succ_self _))
          have HB9 := Lib.hid ((Hbel.out.alloc Hbel.out.size (.cells #[.slice (some ⟨gr, 0, none⟩) P P] 55)).trans (hb9.mono (Nat.le_succ _)))
          clear ho9 hb9 hg9
          go_wp2
          go_roundw
          case rel =>
            refine ⟨k + 1, vs ++ [.slice (some ⟨gr, 0, none⟩) P P], rows ++ [row], by omega, by omega, by go_num, by rw [List.length_append, HVl.out.1]; rfl, by rw [List.length_append, HVl.out.2]; rfl, HG9.out, HB9.out, HO9.out, fun i x r e1 e2 => ?_, fun r hr => ?_⟩
            · by_cases hi : i < k
              · rw [List.getElem?_append_left (by rw [HVl.out.1]; exact hi)] at e1
                rw [List.getElem?_append_left (by rw [HVl.out.2]; exact hi)] at e2
                exact HA9.out i x r e1 e2
              · have hik : i = k := by have := (List.getElem?_eq_some_iff.1 e1).1; rw [List.length_append, HVl.out.1] at this; simp at this; omega
                subst hik
                rw [List.getElem?_append_right (by rw [HVl.out.1]; exact Nat.le_refl _), HVl.out.1, Nat.sub_self] at e1
                rw [List.getElem?_append_right (by rw [HVl.out.2]; exact Nat.le_refl _), HVl.out.2, Nat.sub_self] at e2
                cases e1
                cases e2
                exact HR9.out
            · rcases List.mem_append.1 hr with hr | hr
              · exact HRok.out r hr
              · simp at hr; subst hr; exact ⟨Hrl.out, Hra.out⟩
          case measure => simp [intOf]; omega
    · rcases (show (k < K ∧ ¬ k < M) ∨ ¬ k < K by omega) with ⟨e1, e2⟩ | e1
      all_goals
        clear hlt
        go_wp2
        go_ret
        refine ⟨⟨Av, cv, rows, by rw [HVl.out.2]; rfl, by rw [HVl.out.2]; exact hkM, ⟨vs, ?_, by rw [HVl.out.1, HVl.out.2], fun i x r h1 h2 => ?_⟩, HRok.out⟩, Hbel.out⟩
        · rw [HVl.out.2]
          have h3 := owned_sl (enc := oneV) (size := 1) (es := vs) (by rw [flat_oneV]; exact HOv.out)
          exact h3
        · have h3 := HOr.out i x r h1 h2
          have hl : r.length = P := (HRok.out r (List.mem_of_getElem? h2)).1
          rw [← hl] at h3
          exact owned_sl h3

end Go.Proofs.YtfpofegfbinalaaGreat.Fx
