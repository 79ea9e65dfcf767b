/- Package arena: Begin. -/
import Derived.Test.YtfpofegfbinalaaArNew
import Derived.Test.YtfpofegfbinalaaGBoxNEntity
import Derived.Test.YtfpofegfbinalaaGrNew
namespace Go.Proofs.Ytfpofegfbinalaa.Fx
open Go.ChangeShapes Go.WideShapes Go.ChangeAt Go.RowKit
set_option linter.unusedVariables false
set_option maxRecDepth 100000

/-- Who stands in region r, of the first k players. -/
def begL (R : Nat) (F : Nat → Ent) (k r : Nat) : List Ent := ((List.range k).filter fun i => decide (i % R = r)).map F

theorem begL_succ (R : Nat) (F : Nat → Ent) (k r : Nat) : begL R F (k + 1) r = begL R F k r ++ if k % R = r then [F k] else [] := by
  unfold begL
  rw [List.range_succ, List.filter_append, List.map_append]
  congr 1
  by_cases h : k % R = r <;> simp [h]

theorem begL_mem {R : Nat} {F : Nat → Ent} {k r : Nat} {e : Ent} (h : e ∈ begL R F k r) : ∃ i, i < k ∧ i % R = r ∧ F i = e := by
  unfold begL at h
  obtain ⟨i, hi, rfl⟩ := List.mem_map.1 h
  obtain ⟨h1, h2⟩ := List.mem_filter.1 hi
  exact ⟨i, List.mem_range.1 h1, by simpa using h2, rfl⟩

theorem begL_len (R : Nat) (F : Nat → Ent) (k r : Nat) : (begL R F k r).length ≤ k := by
  unfold begL
  rw [List.length_map]
  exact Nat.le_trans (List.length_filter_le _ _) (by simp)

theorem flat_set_reg (es : List Reg) (k : Nat) (y : Reg) (v : Value) (hk : es[k]? = some y) : (es.flatMap regC).set (k * 2 + 1) v = (es.set k ⟨y.frame, v⟩).flatMap regC := by
  induction es generalizing k with
  | nil => simp at hk
  | cons e r ih =>
    cases k with
    | zero =>
      simp only [List.getElem?_cons_zero, Option.some.injEq] at hk
      subst hk
      simp only [List.flatMap_cons, List.set_cons_zero, Nat.zero_mul, Nat.zero_add]
      rw [List.set_append_left _ _ (by rw [regC_len]; omega)]
      rfl
    | succ k =>
      simp only [List.getElem?_cons_succ] at hk
      simp only [List.flatMap_cons, List.set_cons_succ]
      rw [List.set_append_right _ _ (by rw [regC_len]; omega), regC_len, show (k + 1) * 2 + 1 - 2 = k * 2 + 1 by omega, ih k hk]

/-- The list of a region is written. -/
theorem own_put_reg {w : World} {base n g cap : Nat} {rs : List Reg} (h : w.ownsRow base 47 2 (.slice (some ⟨g, 0, none⟩) n cap) n (rs.flatMap regC)) {k : Nat} {y : Reg} (hk : rs[k]? = some y) (v : Value) :
    (w.setCell ⟨g, k * 2 + 1, none⟩ v).ownsRow base 47 2 (.slice (some ⟨g, 0, none⟩) n cap) n ((rs.set k ⟨y.frame, v⟩).flatMap regC) ∧ w.grownBy (w.setCell ⟨g, k * 2 + 1, none⟩ v) (some g) := by
  have := h.stored (k * 2 + 1) v
  rw [flat_set_reg rs k y v hk] at this
  exact this

/-- Rows whose first numbers are unlike are two blocks. -/
theorem own_heads {w : World} {B B' : Nat} {v v' : Value} {l l' : List Ent} (h : w.ownsRow B 37 9 v l.length (l.flatMap entC)) (h' : w.ownsRow B' 37 9 v' l'.length (l'.flatMap entC)) (hn : l ≠ []) (hd : ∀ e ∈ l, ∀ e' ∈ l', e.id ≠ e'.id) (hz : l' = [] → v' = .slice none 0 0) : v.ownBlock ≠ v'.ownBlock := by
  obtain ⟨e, t, rfl⟩ := List.exists_cons_of_ne_nil hn
  rcases h.2 with ⟨-, h0⟩ | ⟨g, cap, cur, rfl, -⟩
  · simp at h0
  · cases l' with
    | nil => rw [hz rfl]; simp [Value.ownBlock]
    | cons e' t' =>
      rcases h'.2 with ⟨-, h0⟩ | ⟨g', cap', cur', rfl, -⟩
      · simp at h0
      · intro hh
        simp only [Value.ownBlock, Option.some.injEq] at hh
        subst hh
        obtain ⟨A, c, e1, h1⟩ := owned_cells h
        obtain ⟨A', c', e2, h2⟩ := owned_cells h'
        cases e1
        cases e2
        obtain ⟨b, off, e3, h3⟩ := h1 (by simp [entC])
        obtain ⟨b', off', e4, h4⟩ := h2 (by simp [entC])
        cases e3
        cases e4
        have q1 := h3 0 (.int .i64 e.id) rfl
        have q2 := h4 0 (.int .i64 e'.id) rfl
        rw [q1] at q2
        simp only [Option.some.injEq, Value.int.injEq, true_and] at q2
        exact hd e (by simp) e' (by simp) q2

/-- The world on its way through Begin: k players stand. -/
structure BegAt (B gb gx g0 g1 g2 R : Nat) (G : Array Value) (F : Nat → Ent) (k : Nat) (w : World) (rs : List Reg) : Prop where
  len : rs.length = R
  row : w.ownsRow B 47 2 (.slice (some ⟨g1, 0, none⟩) R R) R (rs.flatMap regC)
  all : ∀ r, r < R → ∃ v, rs[r]? = some ⟨0, v⟩ ∧ w.ownsRow B 37 9 v (begL R F k r).length ((begL R F k r).flatMap entC) ∧ (begL R F k r = [] → v = .slice none 0 0)
  outs : w.ownsRow B 49 1 (.slice (some ⟨g2, 0, none⟩) R R) R (List.replicate R nil0)
  grid : Blk w gb 41 G
  box : Blk w gx 29 #[.slice (some ⟨g1, 0, none⟩) R R, .slice (some ⟨g2, 0, none⟩) R R]
  ret : Blk w g0 29 #[nil0, nil0]

theorem w64n (v : Int) : IntKind.i64.wrap v = wrap64 v := by rw [IntKind.wrap_i64, wrap64]

namespace BegAt
variable {B gb gx g0 g1 g2 R : Nat} {G : Array Value} {F : Nat → Ent} {k : Nat} {w w' : World} {rs : List Reg}

theorem nx (h : BegAt B gb gx g0 g1 g2 R G F k w rs) (hb : Below w.heap.size w w') : BegAt B gb gx g0 g1 g2 R G F k w' rs :=
  ⟨h.len, own_below h.row hb, fun r hr => by obtain ⟨v, h1, h2, h3⟩ := h.all r hr; exact ⟨v, h1, own_below h2 hb, h3⟩, own_below h.outs hb, h.grid.nx hb, h.box.nx hb, h.ret.nx hb⟩

/-- One more stands in region r. -/
theorem push (h : BegAt B gb gx g0 g1 g2 R G F k w rs) (hF : ∀ i j, (F i).id = (F j).id → i = j) {r : Nat} (hr : k % R = r) (hrR : r < R) {v v' : Value} (hv : rs[r]? = some ⟨0, v⟩) (hown : w.ownsRow B 37 9 v (begL R F k r).length ((begL R F k r).flatMap entC)) (hz : begL R F k r = [] → v = .slice none 0 0) (hg : w.grownBy w' v.ownBlock) (ho : w'.ownsRow B 37 9 v' (begL R F k r ++ [F k]).length ((begL R F k r ++ [F k]).flatMap entC)) :
    BegAt B gb gx g0 g1 g2 R G F (k + 1) (w'.setCell ⟨g1, r * 2 + 1, none⟩ v') (rs.set r ⟨0, v'⟩) := by
  have hrow : w'.ownsRow B 47 2 (.slice (some ⟨g1, 0, none⟩) R R) R (rs.flatMap regC) := h.row.kept hg (own_apartA hown h.row (by decide))
  obtain ⟨p1, p2⟩ := own_put_reg hrow hv v'
  have hb := h.box.keptA hg (own_neA hown h.box (by decide))
  have hgr := h.grid.keptA hg (own_neA hown h.grid (by decide))
  have hre := h.ret.keptA hg (own_neA hown h.ret (by decide))
  have hou : w'.ownsRow B 49 1 (.slice (some ⟨g2, 0, none⟩) R R) R (List.replicate R nil0) := h.outs.kept hg (own_apartA hown h.outs (by decide))
  refine ⟨by rw [List.length_set]; exact h.len, p1, fun q hq => ?_, hou.kept p2 (own_apartA hrow hou (by decide)), hgr.keptA p2 (own_neA hrow hgr (by decide)), hb.keptA p2 (own_neA hrow hb (by decide)), hre.keptA p2 (own_neA hrow hre (by decide))⟩
  by_cases hqr : q = r
  · subst hqr
    refine ⟨v', List.getElem?_set_self (by rw [h.len]; exact hrR), ?_, ?_⟩
    · rw [begL_succ, if_pos hr]
      exact ho.kept p2 (own_apartA hrow ho (by decide))
    · rw [begL_succ, if_pos hr]; simp
  · obtain ⟨u, h1, h2, h3⟩ := h.all q hq
    have he : begL R F (k + 1) q = begL R F k q := by rw [begL_succ, if_neg (by omega), List.append_nil]
    have hne : u.ownBlock = none ∨ u.ownBlock ≠ v.ownBlock := by
      by_cases hn : begL R F k q = []
      · exact .inl (by rw [h3 hn]; rfl)
      · refine .inr (own_heads h2 hown hn (fun e hm e' hm' hid => ?_) hz)
        obtain ⟨i, -, hi, rfl⟩ := begL_mem hm
        obtain ⟨j, -, hj, rfl⟩ := begL_mem hm'
        have := hF i j hid
        subst this
        omega
    refine ⟨u, by rw [List.getElem?_set_ne (fun e => hqr e.symm)]; exact h1, ?_, by rw [he]; exact h3⟩
    rw [he]
    have hu := h2.kept hg hne
    exact hu.kept p2 (own_apartA hrow hu (by decide))

/-- What region 9 reads. -/
theorem see {a b p n s : Int} (h : BegAt B gb gx g0 g1 g2 R #[.int .i64 a, .int .i64 b, .int .i64 p, .int .i64 n, .int .u64 s] F k w rs) {r : Nat} {v : Value} (hv : rs[r]? = some ⟨0, v⟩) :
    w.cell? ⟨gx, 0, none⟩ = some (.slice (some ⟨g1, 0, none⟩) R R) ∧ w.cell? ⟨g1, r * 2 + 1, none⟩ = some v ∧ w.cell? ⟨gb, 0, none⟩ = some (.int .i64 a) ∧ w.cell? ⟨gb, 1, none⟩ = some (.int .i64 b) ∧ w.cell? ⟨gb, 2, none⟩ = some (.int .i64 p) ∧ w.cell? ⟨gb, 3, none⟩ = some (.int .i64 n) ∧ w.cell? ⟨gb, 4, none⟩ = some (.int .u64 s) := by
  obtain ⟨A, c, e1, hat⟩ := owned_cells h.row
  cases e1
  obtain ⟨b', off, e2, -, h2⟩ := elem_Reg hat hv
  cases e2
  rw [Nat.zero_add] at h2
  exact ⟨h.box.cell 0, h2, h.grid.cell 0, h.grid.cell 1, h.grid.cell 2, h.grid.cell 3, h.grid.cell 4⟩

theorem frozen (h : BegAt B gb gx g0 g1 g2 R G F k w rs) (q : Nat) (hR : 0 < R) : w.frozen? ⟨g1, q, none⟩ = false := by
  obtain ⟨cur, hb, -⟩ := Blk.of_own h.row
  exact hb.frozen q

/-- The same behind the append. -/
theorem see2 {a b p n s : Int} (h : BegAt B gb gx g0 g1 g2 R #[.int .i64 a, .int .i64 b, .int .i64 p, .int .i64 n, .int .u64 s] F k w rs) {r : Nat} {v : Value} (hv : rs[r]? = some ⟨0, v⟩) (hown : w.ownsRow B 37 9 v (begL R F k r).length ((begL R F k r).flatMap entC)) (hg : w.grownBy w' v.ownBlock) :
    (w'.cell? ⟨gx, 0, none⟩ = some (.slice (some ⟨g1, 0, none⟩) R R) ∧ w'.cell? ⟨g1, r * 2 + 1, none⟩ = some v ∧ w'.cell? ⟨gb, 0, none⟩ = some (.int .i64 a) ∧ w'.cell? ⟨gb, 1, none⟩ = some (.int .i64 b) ∧ w'.cell? ⟨gb, 2, none⟩ = some (.int .i64 p) ∧ w'.cell? ⟨gb, 3, none⟩ = some (.int .i64 n) ∧ w'.cell? ⟨gb, 4, none⟩ = some (.int .u64 s)) ∧ ∀ q, w'.frozen? ⟨g1, q, none⟩ = false := by
  have hrow : w'.ownsRow B 47 2 (.slice (some ⟨g1, 0, none⟩) R R) R (rs.flatMap regC) := h.row.kept hg (own_apartA hown h.row (by decide))
  have hb := h.box.keptA hg (own_neA hown h.box (by decide))
  have hgr := h.grid.keptA hg (own_neA hown h.grid (by decide))
  obtain ⟨A, c, e1, hat⟩ := owned_cells hrow
  cases e1
  obtain ⟨b', off, e2, -, h2⟩ := elem_Reg hat hv
  cases e2
  rw [Nat.zero_add] at h2
  obtain ⟨cur, hbl, -⟩ := Blk.of_own hrow
  exact ⟨⟨hb.cell 0, h2, hgr.cell 0, hgr.cell 1, hgr.cell 2, hgr.cell 3, hgr.cell 4⟩, fun q => hbl.frozen q⟩

end BegAt

theorem own_slR {α : Type} {enc : α → List Value} {w : World} {B e sz R : Nat} {A : Option Addr} {es : List α} (h : w.ownsRow B e sz (.slice A R R) R (es.flatMap enc)) (hl : es.length = R) : IsSl enc w (.slice A R R) es := by
  subst hl
  exact owned_sl h

/-- The i-th player. -/
def plr (a b p n : Int) (R i : Nat) : Ent := std a b p n ((i % R : Nat) : Int) ((i : Int) + 1)

theorem plr_one {a b p n : Int} {R i j : Nat} (h : (plr a b p n R i).id = (plr a b p n R j).id) : i = j := by
  simp only [plr, std] at h
  omega

set_option maxHeartbeats 16000000 in
theorem begin_yes (a b n s : Int) (P R : Nat) (h : rt a b P n = true) (hR : regs a b P n = R) (w : World) :
    Calls Try.prog 5 #[.agg #[.int .i64 a, .int .i64 b, .int .i64 (P : Int), .int .i64 n, .int .u64 s]] w fun z w' =>
      (∃ v u, z = .returned (.tuple #[.agg #[.slice (some ⟨v, 0, none⟩) R R, .slice (some ⟨u, 0, none⟩) R R], .int .i64 0]) ∧ RgsSl w' (.slice (some ⟨v, 0, none⟩) R R) ((List.range R).map fun r => (0, begL R (plr a b P n R) P r)) ∧ OutSl w' (.slice (some ⟨u, 0, none⟩) R R) (List.replicate R [])) ∧ Below w.heap.size w w' := by
  have hbd := regs_bd a b P n
  have hrd := rt_bd h
  have hR1 : 1 ≤ R := by
    have : regs a b P n = a * b := by unfold regs; rw [if_pos h]
    have := mul_le4 hrd.1 hrd.2.1 hrd.2.2.1 hrd.2.2.2.1
    omega
  have hR16 : R ≤ 16 := by omega
  have hP6 : P ≤ 6 := by omega
  have HN := Lib.hid (fun w => new_yes a b P n s w h)
  have HE := Lib.hid (fun w => empty_any a b P n s R hR hR16 w)
  have HG := Lib.hid (fun w => hR ▸ regions_any a b P n s w)
  have HS := Lib.hid (fun (q : Nat) id (hq : q < R) w => standing_any a b P n s q id (by unfold hasB; exact decide_eq_true (by omega)) w)
  have HF := Lib.hid (fun i j (hh : (plr a b P n R i).id = (plr a b P n R j).id) => plr_one hh)
  clear hbd hrd hR h
  go_enter Try.func5, Try.ntmps5
  go_upto_region 1 with fail
  generalize hW : World.alloc _ _ = W
  have BC := Lib.hid (show CfgBox W w.heap.size ⟨a, b, P, n, s⟩ from by rw [← hW]; exact CfgBox.n2a _ ⟨a, b, P, n, s⟩ _ _ rfl)
  have BR := Lib.hid (show Blk W (w.heap.size + 1) 29 #[nil0, nil0] from by rw [← hW]; exact Blk.new' _ _ _ (by simp))
  have HB := Lib.hid (show Below w.heap.size w W from by rw [← hW]; exact ((Below.refl _ _).alloc (Nat.le_refl _) _).alloc (by simp) _)
  clear hW
  have hcl := BC.out.has
  obtain ⟨c0, c1, c2, c3, c4, -⟩ := BC.out
  go_wp2_with fail
  refine (HN.out _).mono ?_
  rintro e v2 ⟨rfl, hb⟩
  replace HB := Lib.hid (nextW HB.out hb)
  replace BR := Lib.hid (BR.out.nx hb)
  clear hb c0 c1 c2 c3 c4 hcl BC
  go_upto_region 4 with fail
  generalize hW : World.alloc _ _ = W2
  have BG := Lib.hid (show Blk W2 v2.heap.size 41 #[.int .i64 a, .int .i64 b, .int .i64 P, .int .i64 n, .int .u64 s] from by rw [← hW]; exact Blk.new' _ _ _ rfl)
  replace BR := Lib.hid (show Blk W2 (w.heap.size + 1) 29 #[nil0, nil0] from by rw [← hW]; exact BR.out.nx ((Below.refl _ _).alloc (Nat.le_refl _) _))
  replace HB := Lib.hid (show Below w.heap.size w W2 from by rw [← hW]; exact HB.out.alloc HB.out.size _)
  generalize v2.heap.size = gb at *
  clear hW
  have hgl := BG.out.lt
  have g0 : W2.cell? ⟨gb, 0, none⟩ = some (.int .i64 a) := BG.out.cell 0
  have g1 : W2.cell? ⟨gb, 1, none⟩ = some (.int .i64 b) := BG.out.cell 1
  have g2 : W2.cell? ⟨gb, 2, none⟩ = some (.int .i64 P) := BG.out.cell 2
  have g3 : W2.cell? ⟨gb, 3, none⟩ = some (.int .i64 n) := BG.out.cell 3
  have g4 : W2.cell? ⟨gb, 4, none⟩ = some (.int .u64 s) := BG.out.cell 4
  go_wp2_with fail
  refine (HE.out _).mono ?_
  rintro e W3 ⟨⟨gr, go_, rfl, hrow, hout⟩, hb⟩
  have HR := Lib.hid (hrow.mono HB.out.size)
  have HO := Lib.hid (hout.mono HB.out.size)
  replace HB := Lib.hid (nextW HB.out hb)
  replace BG := Lib.hid (BG.out.nx hb)
  replace BR := Lib.hid (BR.out.nx hb)
  clear hb hrow hout g0 g1 g2 g3 g4 hgl
  go_upto_region 5 with fail
  generalize hW : World.alloc _ _ = W4
  have hal : Below W3.heap.size W3 W4 := by rw [← hW]; exact (Below.refl _ _).alloc (Nat.le_refl _) _
  have HK := Lib.hid (show BegAt w.heap.size gb W3.heap.size (w.heap.size + 1) gr go_ R #[.int .i64 a, .int .i64 b, .int .i64 P, .int .i64 n, .int .u64 s] (plr a b P n R) 0 W4 (List.replicate R r0) from
    ⟨List.length_replicate, own_below HR.out hal, fun r hr => ⟨.slice none 0 0, by rw [List.getElem?_replicate, if_pos hr]; rfl, World.ownsRow_nil _ _ _ _, fun _ => rfl⟩, own_below HO.out hal, BG.out.nx hal, by rw [← hW]; exact Blk.new' _ _ _ rfl, BR.out.nx hal⟩)
  replace HB := Lib.hid (nextW HB.out hal)
  generalize W3.heap.size = gx at *
  clear hW hal HR HO BG BR
  have hgl := HK.out.grid.lt
  have g2 : W4.cell? ⟨gb, 2, none⟩ = some (.int .i64 P) := HK.out.grid.cell 2
  go_wp2
  clear g2 hgl
  go_loopw [23] (fun i wr => ∃ (k : Nat) (rs : List Reg), k ≤ P ∧ i = .int .i64 k ∧ BegAt w.heap.size gb gx (w.heap.size + 1) gr go_ R #[.int .i64 a, .int .i64 b, .int .i64 P, .int .i64 n, .int .u64 s] (plr a b P n R) k wr rs ∧ Below w.heap.size w wr) (fun i _ => P - (intOf i).toNat)
  case atStart => exact ⟨0, _, Nat.zero_le _, rfl, HK.out, HB.out⟩
  case round =>
    clear HK HB
    obtain ⟨k, rs, hk, rfl, hbeg, hbel⟩ := hrel
    have HK := Lib.hid hbeg
    have HB := Lib.hid hbel
    clear hbeg hbel
    by_cases hlt : k < P
    · have hd1 : decide ((k : Int) < (P : Int)) = true := decide_eq_true (by omega)
      have hgl := HK.out.grid.lt
      have g0 : wr.cell? ⟨gb, 0, none⟩ = some (.int .i64 a) := HK.out.grid.cell 0
      have g1 : wr.cell? ⟨gb, 1, none⟩ = some (.int .i64 b) := HK.out.grid.cell 1
      have g2 : wr.cell? ⟨gb, 2, none⟩ = some (.int .i64 P) := HK.out.grid.cell 2
      have g3 : wr.cell? ⟨gb, 3, none⟩ = some (.int .i64 n) := HK.out.grid.cell 3
      have g4 : wr.cell? ⟨gb, 4, none⟩ = some (.int .u64 s) := HK.out.grid.cell 4
      obtain ⟨q, hq⟩ : ∃ q, k % R = q := ⟨_, rfl⟩
      have hqR : q < R := by rw [← hq]; exact Nat.mod_lt _ hR1
      have hrem : (k : Int).tmod (R : Int) = q := by rw [Int.tmod_eq_emod_of_nonneg (by omega), ← hq]; rfl
      have hw1 : wrap64 (q : Int) = q := IntWalk.wrap64_in _ (by omega)
      have hw2 : IntKind.i64.wrap (q : Int) = q := (w64n _).trans hw1
      have hRn : ¬ (R : Int) = 0 := by omega
      have hRn2 : ¬ R = 0 := by omega
      go_wp2_with fail
      refine (HG.out _).mono ?_
      rintro e w4 ⟨rfl, hb4⟩
      replace HB := Lib.hid (nextW HB.out hb4)
      replace HK := Lib.hid (HK.out.nx hb4)
      clear hb4 g0 g1 g2 g3 g4 hgl
      obtain ⟨v, hv, hov, hvz⟩ := HK.out.all q hqR
      obtain ⟨Av, cv, rfl, -⟩ := owned_cells hov
      have Hv := Lib.hid hv
      have Hov := Lib.hid hov
      have Hvz := Lib.hid hvz
      have Hq := Lib.hid hq
      obtain ⟨b0, r1, g0, g1, g2, g3, g4⟩ := HK.out.see hv
      have hbl := HK.out.box.lt
      have hgl := HK.out.grid.lt
      have hrl := World.block_lt_of_cell? _ _ r1
      have hk1 : IntKind.i64.wrap ((k : Int) + 1) = (k : Int) + 1 := (w64n _).trans (IntWalk.wrap64_in _ (by omega))
      have HSk := Lib.hid (fun w => HS.out q ((k : Int) + 1) hqR w)
      have HFk := Lib.hid (show plr a b P n R k = std a b P n q ((k : Int) + 1) from by unfold plr; rw [hq])
      have hlen := begL_len R (plr a b P n R) k q
      have Hlen := Lib.hid hlen
      have hqi : (q : Int) < (R : Int) := by omega
      generalize std a b P n q ((k : Int) + 1) = E at *
      clear hv hov hvz hq hlen
      obtain ⟨Wd, hWd⟩ : ∃ Wd, Wd = w4 := ⟨_, rfl⟩
      subst hWd
      go_wp2_with fail
      refine tail_region (S := fun w' => w'.cell? ⟨gx, 0, none⟩ = some (.slice (some ⟨gr, 0, none⟩) R R) ∧ w'.cell? ⟨gr, q * 2 + 1, none⟩ = some (.slice Av (begL R (plr a b P n R) k q).length cv) ∧ w'.cell? ⟨gb, 0, none⟩ = some (.int .i64 a) ∧ w'.cell? ⟨gb, 1, none⟩ = some (.int .i64 b) ∧ w'.cell? ⟨gb, 2, none⟩ = some (.int .i64 P) ∧ w'.cell? ⟨gb, 3, none⟩ = some (.int .i64 n) ∧ w'.cell? ⟨gb, 4, none⟩ = some (.int .u64 s)) 18 (.free 0 (.free 1 (.free 2 (.free 3 (.free 4 (.free 5 (.free 6 (.free 7 (.free 8 (.free 9 (.free 10 (.free 11 (.free 12 (.one 13 (.one 14 (.one 15 (.free 16 (.free 17 .tail)))))))))))))))))) (by kernel_rfl) (by kernel_rfl) (fun _ _ d _ _ h => by cases d <;> exact h) (⟨b0, r1, g0, g1, g2, g3, g4⟩) (fun hS => ?_)
      simp only [writtenT, List.drop_succ_cons, List.drop_zero, List.getElem?_cons_succ, List.getElem?_cons_zero]
      refine rz_free (v := ?_) (by rfl) ?_ ?_
      rotate_left 1
      focus (intro w hSw; (try dsimp only at hSw); go_simp; (try with_reducible rfl))
      (try simp only [Act.put, List.setIfInBounds_toArray, List.set_cons_zero, List.set_cons_succ])
      refine rz_free (v := ?_) (by rfl) ?_ ?_
      rotate_left 1
      focus (intro w hSw; (try dsimp only at hSw); go_simp; (try with_reducible rfl))
      (try simp only [Act.put, List.setIfInBounds_toArray, List.set_cons_zero, List.set_cons_succ])
      refine rz_free (v := ?_) (by rfl) ?_ ?_
      rotate_left 1
      focus (intro w hSw; (try dsimp only at hSw); go_simp; (try with_reducible rfl))
      (try simp only [Act.put, List.setIfInBounds_toArray, List.set_cons_zero, List.set_cons_succ])
      refine rz_free (v := ?_) (by rfl) ?_ ?_
      rotate_left 1
      focus (intro w hSw; (try dsimp only at hSw); go_simp; (try with_reducible rfl))
      (try simp only [Act.put, List.setIfInBounds_toArray, List.set_cons_zero, List.set_cons_succ])
      refine rz_free (v := ?_) (by rfl) ?_ ?_
      rotate_left 1
      focus (intro w hSw; (try dsimp only at hSw); go_simp; (try with_reducible rfl))
      (try simp only [Act.put, List.setIfInBounds_toArray, List.set_cons_zero, List.set_cons_succ])
      refine rz_free (v := ?_) (by rfl) ?_ ?_
      rotate_left 1
      focus (intro w hSw; (try dsimp only at hSw); go_simp; (try with_reducible rfl))
      (try simp only [Act.put, List.setIfInBounds_toArray, List.set_cons_zero, List.set_cons_succ])
      refine rz_free (v := ?_) (by rfl) ?_ ?_
      rotate_left 1
      focus (intro w hSw; (try dsimp only at hSw); go_simp; (try with_reducible rfl))
      (try simp only [Act.put, List.setIfInBounds_toArray, List.set_cons_zero, List.set_cons_succ])
      refine rz_free (v := ?_) (by rfl) ?_ ?_
      rotate_left 1
      focus (intro w hSw; (try dsimp only at hSw); go_simp; (try with_reducible rfl))
      (try simp only [Act.put, List.setIfInBounds_toArray, List.set_cons_zero, List.set_cons_succ])
      refine rz_free (v := ?_) (by rfl) ?_ ?_
      rotate_left 1
      focus (intro w hSw; (try dsimp only at hSw); go_simp; (try with_reducible rfl))
      (try simp only [Act.put, List.setIfInBounds_toArray, List.set_cons_zero, List.set_cons_succ])
      refine rz_free (v := ?_) (by rfl) ?_ ?_
      rotate_left 1
      focus (intro w hSw; (try dsimp only at hSw); go_simp; (try with_reducible rfl))
      (try simp only [Act.put, List.setIfInBounds_toArray, List.set_cons_zero, List.set_cons_succ])
      refine rz_free (v := ?_) (by rfl) ?_ ?_
      rotate_left 1
      focus (intro w hSw; (try dsimp only at hSw); go_simp; (try with_reducible rfl))
      (try simp only [Act.put, List.setIfInBounds_toArray, List.set_cons_zero, List.set_cons_succ])
      refine rz_free (v := ?_) (by rfl) ?_ ?_
      rotate_left 1
      focus (intro w hSw; (try dsimp only at hSw); go_simp; (try with_reducible rfl))
      (try simp only [Act.put, List.setIfInBounds_toArray, List.set_cons_zero, List.set_cons_succ])
      refine rz_free (v := ?_) (by rfl) ?_ ?_
      rotate_left 1
      focus (intro w hSw; (try dsimp only at hSw); go_simp; (try with_reducible rfl))
      (try simp only [Act.put, List.setIfInBounds_toArray, List.set_cons_zero, List.set_cons_succ])
      refine rz_call (by rfl) (fun K hK => ?_)
      go_simp
      (refine (HSk.out _).mono ?_; rintro e w5 ⟨rfl, hb5⟩)
      (try go_wp2_with fail)
      refine hK.out _ _ ?_ (fun hS' => ?_)
      · (try dsimp only); first | exact ((HK.out.nx (Below.refl _ _).drew).nx hb5).see Hv.out | exact hs6.1
      clear hS hK K
      have hS := hS'
      clear hS'
      (try simp only [Act.put, List.setIfInBounds_toArray, List.set_cons_zero, List.set_cons_succ])
      refine rz_call (by rfl) (fun K hK => ?_)
      go_simp
      (skip)
      (try go_wp2_with fail)
      refine hK.out _ _ ?_ (fun hS' => ?_)
      · (try dsimp only); exact (((HK.out.nx (Below.refl _ _).drew).nx hb5).nx ((Below.refl _ _).alloc (Nat.le_refl _) _)).see Hv.out
      clear hS hK K
      have hS := hS'
      clear hS'
      (try simp only [Act.put, List.setIfInBounds_toArray, List.set_cons_zero, List.set_cons_succ])
      refine rz_call (by rfl) (fun K hK => ?_)
      (refine app_Ent (.tmp 38) (.tmp 44) (by rfl) w.heap.size _ (begL R (plr a b P n R) k q) (by rfl) (own_below (own_below (own_below Hov.out (Below.refl _ _).drew) hb5) ((Below.refl _ _).alloc (Nat.le_refl _) _)) _ [E] (by rfl) (one_Ent _ E _ 1 (by first | rfl | simp) (by omega)) (by have := Hlen.out; simp; omega) (by have h1 := HB.out.size; have h2 := hb5.size; simp at h2 ⊢; omega) ?_; intro v' w6 ho6 hb6 hg6; have hs6 := BegAt.see2 (((HK.out.nx (Below.refl _ _).drew).nx hb5).nx ((Below.refl _ _).alloc (Nat.le_refl _) _)) Hv.out (own_below (own_below (own_below Hov.out (Below.refl _ _).drew) hb5) ((Below.refl _ _).alloc (Nat.le_refl _) _)) hg6)
      simp only [Act.put, List.setIfInBounds_toArray, List.set_cons_zero, List.set_cons_succ]
      refine hK.out _ _ ?_ (fun hS' => ?_)
      · (try dsimp only); first | exact ((HK.out.nx (Below.refl _ _).drew).nx hb5).see Hv.out | exact hs6.1
      clear hS hK K
      have hS := hS'
      clear hS'
      (try simp only [Act.put, List.setIfInBounds_toArray, List.set_cons_zero, List.set_cons_succ])
      refine rz_free (v := ?_) (by rfl) ?_ ?_
      rotate_left 1
      focus (intro w hSw; (try dsimp only at hSw); go_simp; (try with_reducible rfl))
      (try simp only [Act.put, List.setIfInBounds_toArray, List.set_cons_zero, List.set_cons_succ])
      refine rz_free (v := ?_) (by rfl) ?_ ?_
      rotate_left 1
      focus (intro w hSw; (try dsimp only at hSw); go_simp; (try with_reducible rfl))
      (try simp only [Act.put, List.setIfInBounds_toArray, List.set_cons_zero, List.set_cons_succ])
      refine rz_done ?_
      obtain ⟨m6, hm6⟩ : ∃ m6, (begL R (plr a b P n R) k q ++ [E]).length = m6 := ⟨_, rfl⟩
      obtain ⟨A6, n6, hv6, -⟩ := owned_cells ho6
      rw [hm6] at hv6
      subst hv6
      clear hm6
      have hf6 := hs6.2 (q * 2 + 1)
      obtain ⟨-, r6, -⟩ := hs6.1
      have hX := ((HK.out.nx (Below.refl _ _).drew).nx hb5).nx ((Below.refl _ _).alloc (Nat.le_refl _) (.cells #[.int .i64 E.id, .int .i64 E.kind, .int .i64 E.x, .int .i64 E.y, .int .i64 E.vx, .int .i64 E.vy, .int .i64 E.health, .int .i64 E.age, .int .i64 E.owner] 37))
      have HK2 := Lib.hid (hX.push (fun i j => HF.out i j) Hq.out hqR Hv.out (own_below (own_below (own_below Hov.out (Below.refl _ _).drew) hb5) ((Below.refl _ _).alloc (Nat.le_refl _) _)) Hvz.out hg6 (by rw [HFk.out]; exact ho6))
      have HB2 := Lib.hid ((((nextW HB.out.drew hb5).alloc (nextW HB.out.drew hb5).size _).trans hb6).setCell (p := ⟨gr, q * 2 + 1, none⟩) (HK.out.row.lt gr rfl).1 (.slice A6 m6 n6))
      clear hX hs6 hg6 ho6 hb6 hb5 hS b0 r1 g0 g1 g2 g3 g4 hbl hgl hrl HK HB
      go_wp2
      go_roundw
      case rel => exact ⟨k + 1, rs.set q ⟨0, .slice A6 m6 n6⟩, by omega, by go_num, HK2.out, HB2.out⟩
      case measure => simp [intOf]; omega
    · obtain rfl : k = P := by omega
      have hd1 : decide ((k : Int) < (k : Int)) = false := decide_eq_false (by omega)
      have hbl := HK.out.box.lt
      have hrl := HK.out.ret.lt
      have b0 : wr.cell? ⟨gx, 0, none⟩ = some (.slice (some ⟨gr, 0, none⟩) R R) := HK.out.box.cell 0
      have b1 : wr.cell? ⟨gx, 1, none⟩ = some (.slice (some ⟨go_, 0, none⟩) R R) := HK.out.box.cell 1
      have q0 : wr.cell? ⟨w.heap.size + 1, 0, none⟩ = some (.slice none 0 0) := HK.out.ret.cell 0
      have q1 : wr.cell? ⟨w.heap.size + 1, 1, none⟩ = some (.slice none 0 0) := HK.out.ret.cell 1
      have qf0 := HK.out.ret.frozen 0
      have qf1 := HK.out.ret.frozen 1
      go_wp2
      refine bodyPost_ret (v := .tuple #[.agg #[.slice (some ⟨gr, 0, none⟩) R R, .slice (some ⟨go_, 0, none⟩) R R], .int .i64 0]) (by simp [results, Try.results5, go_sem, q0, q1]) rfl ⟨⟨gr, go_, rfl, ?_, ?_⟩, (HB.out.setCell (Nat.le_succ _) _).setCell (Nat.le_succ _) _⟩
      · refine ⟨rs, own_slR (own_wbox HK.out.row HK.out.ret (by decide) _ _) HK.out.len, by rw [HK.out.len]; simp, fun i Ri f h1 h2 => ?_⟩
        have hi : i < R := by have := (List.getElem?_eq_some_iff.1 h1).1; rw [HK.out.len] at this; exact this
        rw [List.getElem?_map, List.getElem?_range hi] at h2
        cases h2
        obtain ⟨v, e1, e2, -⟩ := HK.out.all i hi
        rw [e1] at h1
        cases h1
        exact ⟨rfl, owned_sl (own_wbox e2 HK.out.ret (by decide) _ _)⟩
      · refine ⟨List.replicate R nil0, own_slR (by rw [flat_oneV]; exact own_wbox HK.out.outs HK.out.ret (by decide) _ _) List.length_replicate, by simp, fun i v l h1 h2 => ?_⟩
        rw [List.getElem?_replicate] at h1 h2
        split at h1
        · rename_i hi
          rw [if_pos hi] at h2
          cases h1
          cases h2
          exact IsSl.nil _ _
        · cases h1

end Go.Proofs.Ytfpofegfbinalaa.Fx
