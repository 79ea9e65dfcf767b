/- Package arena: Inbox: what comes into a region of all that the regions emitted. Package arena: Begin. Layer 10's awake. -/
import Derived.Test.YtfpofegfbinalaaGreatM52
import Derived.Test.YtfpofegfbinalaaGreatM07
import Derived.Test.YtfpofegfbinalaaGreatM03
import Derived.Test.YtfpofegfbinalaaGreatM26
import Derived.Test.YtfpofegfbinalaaGreatM08
namespace Go.Proofs.YtfpofegfbinalaaGreat.Fx
open Go.ChangeShapes Go.WideShapes Go.ChangeAt Go.RowKit
set_option linter.unusedVariables false
set_option maxRecDepth 100000

/-- What one of the near regions sends. -/
def sentL (os : List (List Crs)) (r q : Int) : List Crs := if q < os.length then toL (os.getD q.toNat []) r else []

def inboxL (ns : List Int) (os : List (List Crs)) (r : Int) : List Crs := ns.flatMap (sentL os r)

theorem inbox_take {ns : List Int} {os : List (List Crs)} {r q : Int} {k : Nat} (h : ns[k]? = some q) : inboxL (ns.take (k + 1)) os r = inboxL (ns.take k) os r ++ sentL os r q := by
  unfold inboxL
  rw [take_at h, List.flatMap_append]
  simp

theorem inbox_le {ns : List Int} {os : List (List Crs)} {r : Int} {m : Nat} (h : ∀ o ∈ os, o.length ≤ m) : (inboxL ns os r).length ≤ ns.length * m := by
  unfold inboxL
  induction ns with
  | nil => simp
  | cons q t ih =>
    rw [List.flatMap_cons, List.length_append, List.length_cons, Nat.succ_mul]
    have h1 : (sentL os r q).length ≤ m := by
      unfold sentL
      split
      · refine Nat.le_trans (List.length_filter_le _ _) ?_
        by_cases hq : q.toNat < os.length
        · rw [List.getD_eq_getElem?_getD, List.getElem?_eq_getElem hq]; exact h _ (List.getElem_mem hq)
        · rw [List.getD_eq_getElem?_getD, List.getElem?_eq_none (by omega)]; simp
      · simp
    omega

set_option maxHeartbeats 8000000 in
theorem ainbox_any (a b p n s r : Int) (u : Value) (os : List (List Crs)) (w : World) (hO : OutSl w u os) (hq : os.length ≤ 1000) (hc : ∀ o ∈ os, o.length ≤ 1000) (hpos : ∀ q ∈ nr a b p n r, 0 ≤ q) :
    Calls Tryz.prog 21 #[.agg #[.int .i64 a, .int .i64 b, .int .i64 p, .int .i64 n, .int .u64 s], u, .int .i64 r] w fun z w' => (∃ v', z = .returned v' ∧ w'.ownsRow w.heap.size 50 15 v' (inboxL (nr a b p n r) os r).length ((inboxL (nr a b p n r) os r).flatMap crsC)) ∧ Below w.heap.size w w' := by
  obtain ⟨vs, hvs, hva⟩ := hO
  have HO := Lib.hid hvs
  have HV := Lib.hid hva
  obtain ⟨B, d, rfl, -⟩ := hvs
  obtain ⟨M, hM⟩ : ∃ M, vs.length = M := ⟨_, rfl⟩
  rw [hM] at HO ⊢
  have Hm := Lib.hid hM
  have hoM : os.length = M := by rw [← hva.1, hM]
  have hM6 : M ≤ 1000 := by omega
  have HoM := Lib.hid hoM
  have Hc := Lib.hid hc
  have Hpos := Lib.hid hpos
  have HN := Lib.hid (fun w => near_any a b p n s r w)
  have HT := Lib.hid cto_any
  have HNl := Lib.hid (nr_le a b p n r)
  have HLe := Lib.hid (fun k => inbox_le (ns := (nr a b p n r).take k) (r := r) hc)
  generalize nr a b p n r = R at *
  clear hva hM hoM hq hc hpos
  go_enter Tryz.func21, Tryz.ntmps21
  go_upto_region 2 with fail
  generalize hW : World.alloc _ _ = W at *
  have BG := Lib.hid (show CfgBox W w.heap.size ⟨a, b, p, n, s⟩ from by rw [← hW]; exact CfgBox.n1 w ⟨a, b, p, n, s⟩ _ rfl)
  have HB := Lib.hid (show Below w.heap.size w W from by rw [← hW]; exact (Below.refl _ _).alloc (Nat.le_refl _) _)
  clear hW
  have hgl := BG.out.has
  obtain ⟨g0, g1, g2, g3, g4, -⟩ := BG.out
  go_wp2_with fail
  refine (HN.out _).mono ?_
  rintro e W2 ⟨A, c, rfl, hI, hb⟩
  replace HB := Lib.hid (nextW HB.out hb)
  have HI := Lib.hid hI
  obtain ⟨N, hN⟩ : ∃ N, R.length = N := ⟨_, rfl⟩
  rw [hN] at HI HNl ⊢
  have Hn := Lib.hid hN
  have hN16 : N ≤ 16 := HNl.out
  clear hb hI hN g0 g1 g2 g3 g4 hgl BG HN
  go_wp2
  go_loopw [7, 14] (fun v i wr => ∃ k : Nat, k ≤ N ∧ i = .int .i64 k ∧ wr.ownsRow W2.heap.size 50 15 v (inboxL (R.take k) os r).length ((inboxL (R.take k) os r).flatMap crsC) ∧ Below W2.heap.size W2 wr) (fun _ i _ => N - (intOf i).toNat)
  case atStart => exact ⟨0, Nat.zero_le _, rfl, ⟨by simp [inboxL], .inl ⟨rfl, rfl⟩⟩, Below.refl _ _⟩
  case round =>
    obtain ⟨k, hk, rfl, hown, hbel⟩ := hrel
    have Hown := Lib.hid hown
    have Hbel := Lib.hid hbel
    clear hown hbel
    by_cases hlt : k < N
    · have hd1 : decide ((k : Int) < (N : Int)) = true := decide_eq_true (by omega)
      obtain ⟨q, hq⟩ := getE R k N Hn.out hlt
      have HX := Lib.hid (inbox_take (os := os) (r := r) hq)
      have HLk := Lib.hid (show (inboxL (R.take k) os r).length ≤ 16000 from by have h0 := Hn.out; have h1 := HLe.out k; rw [List.length_take] at h1; have h2 : min k R.length ≤ 16 := (by omega); have := Nat.mul_le_mul_right 1000 h2; omega)
      have hq0 := Hpos.out q (List.mem_of_getElem? hq)
      obtain ⟨Q, rfl⟩ : ∃ Q : Nat, q = (Q : Int) := ⟨q.toNat, by omega⟩
      obtain ⟨bi, oi, hA, hci⟩ := (HI.out.below Hbel.out).2 (by omega)
      subst hA
      have hck := hci k hlt
      rw [show gi R k = (Q : Int) from by unfold gi; rw [List.getD_eq_getElem?_getD, hq]; rfl] at hck
      clear hq hci
      by_cases hQ : Q < M
      · have hd2 : decide ((Q : Int) < (M : Int)) = true := decide_eq_true (by omega)
        have hd3 : decide (Q < M) = true := decide_eq_true hQ
        obtain ⟨V, hV⟩ := getE vs Q M Hm.out hQ
        obtain ⟨o, ho⟩ := getE os Q M HoM.out hQ
        have hsl := HV.out.2 Q V o hV ho
        have HS := Lib.hid (show sentL os r Q = toL o r from by unfold sentL; rw [if_pos (by have := HoM.out; omega), Int.toNat_natCast, List.getD_eq_getElem?_getD, ho]; rfl)
        rw [HS.out] at HX
        have Hol := Lib.hid (Hc.out o (List.mem_of_getElem? ho))
        have HF := Lib.hid ((hsl.below HB.out).below Hbel.out)
        obtain ⟨bb, off, hB, hc⟩ := ((HO.out.below HB.out).below Hbel.out).at (by intro h; rw [flat_oneV] at h; subst h; simp at hV)
        subst hB
        rw [flat_oneV] at hc
        have v0 := hc Q V hV
        obtain ⟨A2, c2, rfl, -⟩ := hsl
        have hQi : (Q : Int) < (M : Int) := by omega
        clear hV ho hc HS
        go_wp2_with fail
        refine (HT.out _ _ _ _ HF.out (by have := Hol.out; omega)).mono ?_
        rintro e w4 ⟨v4, rfl, ho4, hb4⟩
        have HO2 := Lib.hid (own_below Hown.out hb4)
        have HB2 := Lib.hid (nextW Hbel.out hb4)
        have HF2 := Lib.hid (owned_sl ho4)
        have HL4 := Lib.hid (show (toL o r).length ≤ 1000 from Nat.le_trans (List.length_filter_le _ _) Hol.out)
        obtain ⟨A4, c4, rfl, -⟩ := owned_sl ho4
        have hbs := HB2.out.size
        clear ho4 hb4 v0 hck Hown Hbel HF
        go_wp2_with (at_builtin; go_must (refine appL_Crs (by rfl) (.tmp 22) (.tmp 28) (by rfl) W2.heap.size _ (inboxL (R.take k) os r) (by rfl) HO2.out _ (toL o r) (by rfl) HF2.out (by have h1 := HLk.out; have h2 := HL4.out; omega) hbs ?_))
        intro v' w5 hown5 hb5 _
        have HO5 := Lib.hid (show w5.ownsRow W2.heap.size 50 15 v' (inboxL (R.take (k + 1)) os r).length ((inboxL (R.take (k + 1)) os r).flatMap crsC) from by rw [HX.out]; simpa using hown5)
        have HB5 := Lib.hid (HB2.out.trans hb5)
        clear hown5 hb5
        go_wp2
        go_roundw
        case rel => exact ⟨k + 1, by omega, by go_num, HO5.out, HB5.out⟩
        case measure => simp [intOf]; omega
      · have hd2 : decide ((Q : Int) < (M : Int)) = false := decide_eq_false (by omega)
        have hd3 : decide (Q < M) = false := decide_eq_false hQ
        have HS := Lib.hid (show sentL os r Q = [] from by unfold sentL; rw [if_neg (by have := HoM.out; omega)])
        rw [HS.out, List.append_nil] at HX
        go_wp2
        go_roundw
        case rel => exact ⟨k + 1, by omega, by go_num, by rw [HX.out]; exact Hown.out, Hbel.out⟩
        case measure => simp [intOf]; omega
    · obtain rfl : k = N := by omega
      have hd1 : decide ((k : Int) < (k : Int)) = false := decide_eq_false (by omega)
      rw [List.take_of_length_le (Nat.le_of_eq Hn.out)] at Hown
      go_wp2
      go_ret
      exact ⟨⟨_, rfl, Hown.out.mono HB.out.size⟩, nextW HB.out Hbel.out⟩

end Go.Proofs.YtfpofegfbinalaaGreat.Fx
namespace Go.Proofs.YtfpofegfbinalaaGreat.Fx
open Go.ChangeShapes Go.WideShapes Go.ChangeAt Go.RowKit
set_option linter.unusedVariables false
set_option maxRecDepth 100000

/-- Who stands in region r, of the first k players. -/
def begL (R : Nat) (F : Nat → Ent) (k r : Nat) : List Ent := ((List.range k).filter fun i => decide (i % R = r)).map F

theorem begL_succ (R : Nat) (F : Nat → Ent) (k r : Nat) : begL R F (k + 1) r = begL R F k r ++ if k % R = r then [F k] else [] := by
  unfold begL
  rw [List.range_succ, List.filter_append, List.map_append]
  congr 1
  by_cases h : k % R = r <;> simp [h]

theorem begL_mem {R : Nat} {F : Nat → Ent} {k r : Nat} {e : Ent} (h : e ∈ begL R F k r) : ∃ i, i < k ∧ i % R = r ∧ F i = e := by
  unfold begL at h
  obtain ⟨i, hi, rfl⟩ := List.mem_map.1 h
  obtain ⟨h1, h2⟩ := List.mem_filter.1 hi
  exact ⟨i, List.mem_range.1 h1, by simpa using h2, rfl⟩

theorem begL_len (R : Nat) (F : Nat → Ent) (k r : Nat) : (begL R F k r).length ≤ k := by
  unfold begL
  rw [List.length_map]
  exact Nat.le_trans (List.length_filter_le _ _) (by simp)

theorem flat_set_reg (es : List Reg) (k : Nat) (y : Reg) (v : Value) (hk : es[k]? = some y) : (es.flatMap regC).set (k * 2 + 1) v = (es.set k ⟨y.frame, v⟩).flatMap regC := by
  induction es generalizing k with
  | nil => simp at hk
  | cons e r ih =>
    cases k with
    | zero =>
      simp only [List.getElem?_cons_zero, Option.some.injEq] at hk
      subst hk
      simp only [List.flatMap_cons, List.set_cons_zero, Nat.zero_mul, Nat.zero_add]
      rw [List.set_append_left _ _ (by rw [regC_len]; omega)]
      rfl
    | succ k =>
      simp only [List.getElem?_cons_succ] at hk
      simp only [List.flatMap_cons, List.set_cons_succ]
      rw [List.set_append_right _ _ (by rw [regC_len]; omega), regC_len, show (k + 1) * 2 + 1 - 2 = k * 2 + 1 by omega, ih k hk]

/-- The list of a region is written. -/
theorem own_put_reg {w : World} {base n g cap : Nat} {rs : List Reg} (h : w.ownsRow base 59 2 (.slice (some ⟨g, 0, none⟩) n cap) n (rs.flatMap regC)) {k : Nat} {y : Reg} (hk : rs[k]? = some y) (v : Value) :
    (w.setCell ⟨g, k * 2 + 1, none⟩ v).ownsRow base 59 2 (.slice (some ⟨g, 0, none⟩) n cap) n ((rs.set k ⟨y.frame, v⟩).flatMap regC) ∧ w.grownBy (w.setCell ⟨g, k * 2 + 1, none⟩ v) (some g) := by
  have := h.stored (k * 2 + 1) v
  rw [flat_set_reg rs k y v hk] at this
  exact this

/-- Rows whose first numbers are unlike are two blocks. -/
theorem own_heads {w : World} {B B' : Nat} {v v' : Value} {l l' : List Ent} (h : w.ownsRow B 45 9 v l.length (l.flatMap entC)) (h' : w.ownsRow B' 45 9 v' l'.length (l'.flatMap entC)) (hn : l ≠ []) (hd : ∀ e ∈ l, ∀ e' ∈ l', e.id ≠ e'.id) (hz : l' = [] → v' = .slice none 0 0) : v.ownBlock ≠ v'.ownBlock := by
  obtain ⟨e, t, rfl⟩ := List.exists_cons_of_ne_nil hn
  rcases h.2 with ⟨-, h0⟩ | ⟨g, cap, cur, rfl, -⟩
  · simp at h0
  · cases l' with
    | nil => rw [hz rfl]; simp [Value.ownBlock]
    | cons e' t' =>
      rcases h'.2 with ⟨-, h0⟩ | ⟨g', cap', cur', rfl, -⟩
      · simp at h0
      · intro hh
        simp only [Value.ownBlock, Option.some.injEq] at hh
        subst hh
        obtain ⟨A, c, e1, h1⟩ := owned_cells h
        obtain ⟨A', c', e2, h2⟩ := owned_cells h'
        cases e1
        cases e2
        obtain ⟨b, off, e3, h3⟩ := h1 (by simp [entC])
        obtain ⟨b', off', e4, h4⟩ := h2 (by simp [entC])
        cases e3
        cases e4
        have q1 := h3 0 (.int .i64 e.id) rfl
        have q2 := h4 0 (.int .i64 e'.id) rfl
        rw [q1] at q2
        simp only [Option.some.injEq, Value.int.injEq, true_and] at q2
        exact hd e (by simp) e' (by simp) q2

/-- The world on its way through Begin: k players stand. -/
structure BegAt (B gb gx g0 g1 g2 R : Nat) (G : Array Value) (F : Nat → Ent) (k : Nat) (w : World) (rs : List Reg) : Prop where
  len : rs.length = R
  row : w.ownsRow B 59 2 (.slice (some ⟨g1, 0, none⟩) R R) R (rs.flatMap regC)
  all : ∀ r, r < R → ∃ v, rs[r]? = some ⟨0, v⟩ ∧ w.ownsRow B 45 9 v (begL R F k r).length ((begL R F k r).flatMap entC) ∧ (begL R F k r = [] → v = .slice none 0 0)
  outs : w.ownsRow B 51 1 (.slice (some ⟨g2, 0, none⟩) R R) R (List.replicate R nil0)
  grid : Blk w gb 39 G
  box : Blk w gx 32 #[.slice (some ⟨g1, 0, none⟩) R R, .slice (some ⟨g2, 0, none⟩) R R]
  ret : Blk w g0 32 #[nil0, nil0]

theorem w64n (v : Int) : IntKind.i64.wrap v = wrap64 v := by rw [IntKind.wrap_i64, wrap64]

namespace BegAt
variable {B gb gx g0 g1 g2 R : Nat} {G : Array Value} {F : Nat → Ent} {k : Nat} {w w' : World} {rs : List Reg}

theorem nx (h : BegAt B gb gx g0 g1 g2 R G F k w rs) (hb : Below w.heap.size w w') : BegAt B gb gx g0 g1 g2 R G F k w' rs :=
  ⟨h.len, own_below h.row hb, fun r hr => by obtain ⟨v, h1, h2, h3⟩ := h.all r hr; exact ⟨v, h1, own_below h2 hb, h3⟩, own_below h.outs hb, h.grid.nx hb, h.box.nx hb, h.ret.nx hb⟩

/-- One more stands in region r. -/
theorem push (h : BegAt B gb gx g0 g1 g2 R G F k w rs) (hF : ∀ i j, (F i).id = (F j).id → i = j) {r : Nat} (hr : k % R = r) (hrR : r < R) {v v' : Value} (hv : rs[r]? = some ⟨0, v⟩) (hown : w.ownsRow B 45 9 v (begL R F k r).length ((begL R F k r).flatMap entC)) (hz : begL R F k r = [] → v = .slice none 0 0) (hg : w.grownBy w' v.ownBlock) (ho : w'.ownsRow B 45 9 v' (begL R F k r ++ [F k]).length ((begL R F k r ++ [F k]).flatMap entC)) :
    BegAt B gb gx g0 g1 g2 R G F (k + 1) (w'.setCell ⟨g1, r * 2 + 1, none⟩ v') (rs.set r ⟨0, v'⟩) := by
  have hrow : w'.ownsRow B 59 2 (.slice (some ⟨g1, 0, none⟩) R R) R (rs.flatMap regC) := h.row.kept hg (own_apartA hown h.row (by decide))
  obtain ⟨p1, p2⟩ := own_put_reg hrow hv v'
  have hb := h.box.keptA hg (own_neA hown h.box (by decide))
  have hgr := h.grid.keptA hg (own_neA hown h.grid (by decide))
  have hre := h.ret.keptA hg (own_neA hown h.ret (by decide))
  have hou : w'.ownsRow B 51 1 (.slice (some ⟨g2, 0, none⟩) R R) R (List.replicate R nil0) := h.outs.kept hg (own_apartA hown h.outs (by decide))
  refine ⟨by rw [List.length_set]; exact h.len, p1, fun q hq => ?_, hou.kept p2 (own_apartA hrow hou (by decide)), hgr.keptA p2 (own_neA hrow hgr (by decide)), hb.keptA p2 (own_neA hrow hb (by decide)), hre.keptA p2 (own_neA hrow hre (by decide))⟩
  by_cases hqr : q = r
  · subst hqr
    refine ⟨v', List.getElem?_set_self (by rw [h.len]; exact hrR), ?_, ?_⟩
    · rw [begL_succ, if_pos hr]
      exact ho.kept p2 (own_apartA hrow ho (by decide))
    · rw [begL_succ, if_pos hr]; simp
  · obtain ⟨u, h1, h2, h3⟩ := h.all q hq
    have he : begL R F (k + 1) q = begL R F k q := by rw [begL_succ, if_neg (by omega), List.append_nil]
    have hne : u.ownBlock = none ∨ u.ownBlock ≠ v.ownBlock := by
      by_cases hn : begL R F k q = []
      · exact .inl (by rw [h3 hn]; rfl)
      · refine .inr (own_heads h2 hown hn (fun e hm e' hm' hid => ?_) hz)
        obtain ⟨i, -, hi, rfl⟩ := begL_mem hm
        obtain ⟨j, -, hj, rfl⟩ := begL_mem hm'
        have := hF i j hid
        subst this
        omega
    refine ⟨u, by rw [List.getElem?_set_ne (fun e => hqr e.symm)]; exact h1, ?_, by rw [he]; exact h3⟩
    rw [he]
    have hu := h2.kept hg hne
    exact hu.kept p2 (own_apartA hrow hu (by decide))

/-- What region 9 reads. -/
theorem see {a b p n s : Int} (h : BegAt B gb gx g0 g1 g2 R #[.int .i64 a, .int .i64 b, .int .i64 p, .int .i64 n, .int .u64 s] F k w rs) {r : Nat} {v : Value} (hv : rs[r]? = some ⟨0, v⟩) :
    w.cell? ⟨gx, 0, none⟩ = some (.slice (some ⟨g1, 0, none⟩) R R) ∧ w.cell? ⟨g1, r * 2 + 1, none⟩ = some v ∧ w.cell? ⟨gb, 0, none⟩ = some (.int .i64 a) ∧ w.cell? ⟨gb, 1, none⟩ = some (.int .i64 b) ∧ w.cell? ⟨gb, 2, none⟩ = some (.int .i64 p) ∧ w.cell? ⟨gb, 3, none⟩ = some (.int .i64 n) ∧ w.cell? ⟨gb, 4, none⟩ = some (.int .u64 s) := by
  obtain ⟨A, c, e1, hat⟩ := owned_cells h.row
  cases e1
  obtain ⟨b', off, e2, -, h2⟩ := elem_Reg hat hv
  cases e2
  rw [Nat.zero_add] at h2
  exact ⟨h.box.cell 0, h2, h.grid.cell 0, h.grid.cell 1, h.grid.cell 2, h.grid.cell 3, h.grid.cell 4⟩

theorem frozen (h : BegAt B gb gx g0 g1 g2 R G F k w rs) (q : Nat) (hR : 0 < R) : w.frozen? ⟨g1, q, none⟩ = false := by
  obtain ⟨cur, hb, -⟩ := Blk.of_own h.row
  exact hb.frozen q

/-- The same behind the append. -/
theorem see2 {a b p n s : Int} (h : BegAt B gb gx g0 g1 g2 R #[.int .i64 a, .int .i64 b, .int .i64 p, .int .i64 n, .int .u64 s] F k w rs) {r : Nat} {v : Value} (hv : rs[r]? = some ⟨0, v⟩) (hown : w.ownsRow B 45 9 v (begL R F k r).length ((begL R F k r).flatMap entC)) (hg : w.grownBy w' v.ownBlock) :
    (w'.cell? ⟨gx, 0, none⟩ = some (.slice (some ⟨g1, 0, none⟩) R R) ∧ w'.cell? ⟨g1, r * 2 + 1, none⟩ = some v ∧ w'.cell? ⟨gb, 0, none⟩ = some (.int .i64 a) ∧ w'.cell? ⟨gb, 1, none⟩ = some (.int .i64 b) ∧ w'.cell? ⟨gb, 2, none⟩ = some (.int .i64 p) ∧ w'.cell? ⟨gb, 3, none⟩ = some (.int .i64 n) ∧ w'.cell? ⟨gb, 4, none⟩ = some (.int .u64 s)) ∧ ∀ q, w'.frozen? ⟨g1, q, none⟩ = false := by
  have hrow : w'.ownsRow B 59 2 (.slice (some ⟨g1, 0, none⟩) R R) R (rs.flatMap regC) := h.row.kept hg (own_apartA hown h.row (by decide))
  have hb := h.box.keptA hg (own_neA hown h.box (by decide))
  have hgr := h.grid.keptA hg (own_neA hown h.grid (by decide))
  obtain ⟨A, c, e1, hat⟩ := owned_cells hrow
  cases e1
  obtain ⟨b', off, e2, -, h2⟩ := elem_Reg hat hv
  cases e2
  rw [Nat.zero_add] at h2
  obtain ⟨cur, hbl, -⟩ := Blk.of_own hrow
  exact ⟨⟨hb.cell 0, h2, hgr.cell 0, hgr.cell 1, hgr.cell 2, hgr.cell 3, hgr.cell 4⟩, fun q => hbl.frozen q⟩

end BegAt

theorem own_slR {α : Type} {enc : α → List Value} {w : World} {B e sz R : Nat} {A : Option Addr} {es : List α} (h : w.ownsRow B e sz (.slice A R R) R (es.flatMap enc)) (hl : es.length = R) : IsSl enc w (.slice A R R) es := by
  subst hl
  exact owned_sl h

/-- The i-th player. -/
def plr (a b p n : Int) (R i : Nat) : Ent := std a b p n ((i % R : Nat) : Int) ((i : Int) + 1)

theorem plr_one {a b p n : Int} {R i j : Nat} (h : (plr a b p n R i).id = (plr a b p n R j).id) : i = j := by
  simp only [plr, std] at h
  omega

/-- A world in memory of the call's own. -/
def NewW (B R : Nat) (w : World) (v u : Value) (fs : List (Int × List Ent)) (os : List (List Crs)) : Prop :=
  ∃ (rs : List Reg) (vs : List Value), w.ownsRow B 59 2 v R (rs.flatMap regC) ∧ w.ownsRow B 51 1 u R vs ∧ (rs.length = R ∧ vs.length = R ∧ fs.length = R ∧ os.length = R) ∧
    (∀ (i : Nat) g, fs[i]? = some g → ∃ vl, rs[i]? = some ⟨g.1, vl⟩ ∧ w.ownsRow B 45 9 vl g.2.length (g.2.flatMap entC)) ∧
    (∀ (i : Nat) o, os[i]? = some o → ∃ vo, vs[i]? = some vo ∧ w.ownsRow B 50 15 vo o.length (o.flatMap crsC))

theorem NewW.at {B R : Nat} {w : World} {v u : Value} {fs : List (Int × List Ent)} {os : List (List Crs)} (h : NewW B R w v u fs os) : RgsSl w v fs ∧ OutSl w u os := by
  obtain ⟨rs, vs, h1, h2, ⟨e1, e2, e3, e4⟩, h3, h4⟩ := h
  refine ⟨⟨rs, owned_sl (by rw [e1]; exact h1), by rw [e1, e3], fun i Ri g hR hg => ?_⟩, ⟨vs, owned_sl (by rw [flat_oneV, e2]; exact h2), by rw [e2, e4], fun i x o hx ho => ?_⟩⟩
  · obtain ⟨vl, e, ho⟩ := h3 i g hg
    rw [e] at hR
    cases hR
    exact ⟨rfl, owned_sl ho⟩
  · obtain ⟨vo, e, ho'⟩ := h4 i o ho
    rw [e] at hx
    cases hx
    exact owned_sl ho'

theorem NewW.map {B B' R : Nat} {w w' : World} {v u : Value} {fs : List (Int × List Ent)} {os : List (List Crs)} (h : NewW B R w v u fs os) (hk : ∀ {e size : Nat} {x : Value} {n : Nat} {xs : List Value}, w.ownsRow B e size x n xs → w'.ownsRow B' e size x n xs) : NewW B' R w' v u fs os := by
  obtain ⟨rs, vs, h1, h2, hl, h3, h4⟩ := h
  exact ⟨rs, vs, hk h1, hk h2, hl, fun i g hg => by obtain ⟨x, a, b⟩ := h3 i g hg; exact ⟨x, a, hk b⟩, fun i o ho => by obtain ⟨x, a, b⟩ := h4 i o ho; exact ⟨x, a, hk b⟩⟩

theorem NewW.below {B R : Nat} {w w' : World} {v u : Value} {fs : List (Int × List Ent)} {os : List (List Crs)} (h : NewW B R w v u fs os) (hb : Below w.heap.size w w') : NewW B R w' v u fs os := h.map fun hx => own_below hx hb

theorem NewW.mono {B B' R : Nat} {w : World} {v u : Value} {fs : List (Int × List Ent)} {os : List (List Crs)} (h : NewW B R w v u fs os) (hB : B' ≤ B) : NewW B' R w v u fs os := h.map fun hx => hx.mono hB

/-- An older block is written. -/
theorem NewW.old {B R b : Nat} {w w' : World} {v u : Value} {fs : List (Int × List Ent)} {os : List (List Crs)} (h : NewW B R w v u fs os) (hg : w.grownBy w' (some b)) (hb : b < B) : NewW B R w' v u fs os :=
  h.map fun hx => hx.kept hg (.inr fun hh => by have := (hx.lt b hh).1; omega)

set_option maxHeartbeats 16000000 in
theorem begin_new (a b n s : Int) (P R : Nat) (h : rt a b P n = true) (hR : regs a b P n = R) (w : World) :
    Calls Tryz.prog 11 #[.agg #[.int .i64 a, .int .i64 b, .int .i64 (P : Int), .int .i64 n, .int .u64 s]] w fun z w' =>
      (∃ v u, z = .returned (.tuple #[.agg #[.slice (some ⟨v, 0, none⟩) R R, .slice (some ⟨u, 0, none⟩) R R], .int .i64 0]) ∧ NewW w.heap.size R w' (.slice (some ⟨v, 0, none⟩) R R) (.slice (some ⟨u, 0, none⟩) R R) ((List.range R).map fun r => (0, begL R (plr a b P n R) P r)) (List.replicate R [])) ∧ Below w.heap.size w w' := by
  have hbd := regs_bd a b P n
  have hrd := rt_bd h
  have hR1 : 1 ≤ R := by
    have : regs a b P n = a * b := by unfold regs; rw [if_pos h]
    have := mul_le4 hrd.1 hrd.2.1 hrd.2.2.1 hrd.2.2.2.1
    omega
  have hR16 : R ≤ 16 := by omega
  have hP6 : P ≤ 6 := by omega
  have HN := Lib.hid (fun w => new_yes a b P n s w h)
  have HE := Lib.hid (fun w => empty_any a b P n s R hR hR16 w)
  have HG := Lib.hid (fun w => hR ▸ regions_any a b P n s w)
  have HS := Lib.hid (fun (q : Nat) id (hq : q < R) w => standing_any a b P n s q id (by unfold hasB; exact decide_eq_true (by omega)) w)
  have HF := Lib.hid (fun i j (hh : (plr a b P n R i).id = (plr a b P n R j).id) => plr_one hh)
  clear hbd hrd hR h
  go_enter Tryz.func11, Tryz.ntmps11
  go_upto_region 1 with fail
  generalize hW : World.alloc _ _ = W
  have BC := Lib.hid (show CfgBox W w.heap.size ⟨a, b, P, n, s⟩ from by rw [← hW]; exact CfgBox.n2a _ ⟨a, b, P, n, s⟩ _ _ rfl)
  have BR := Lib.hid (show Blk W (w.heap.size + 1) 32 #[nil0, nil0] from by rw [← hW]; exact Blk.new' _ _ _ (by simp))
  have HB := Lib.hid (show Below w.heap.size w W from by rw [← hW]; exact ((Below.refl _ _).alloc (Nat.le_refl _) _).alloc (by simp) _)
  clear hW
  have hcl := BC.out.has
  obtain ⟨c0, c1, c2, c3, c4, -⟩ := BC.out
  go_wp2_with fail
  refine (HN.out _).mono ?_
  rintro e v2 ⟨rfl, hb⟩
  replace HB := Lib.hid (nextW HB.out hb)
  replace BR := Lib.hid (BR.out.nx hb)
  clear hb c0 c1 c2 c3 c4 hcl BC
  go_upto_region 4 with fail
  generalize hW : World.alloc _ _ = W2
  have BG := Lib.hid (show Blk W2 v2.heap.size 39 #[.int .i64 a, .int .i64 b, .int .i64 P, .int .i64 n, .int .u64 s] from by rw [← hW]; exact Blk.new' _ _ _ rfl)
  replace BR := Lib.hid (show Blk W2 (w.heap.size + 1) 32 #[nil0, nil0] from by rw [← hW]; exact BR.out.nx ((Below.refl _ _).alloc (Nat.le_refl _) _))
  replace HB := Lib.hid (show Below w.heap.size w W2 from by rw [← hW]; exact HB.out.alloc HB.out.size _)
  generalize v2.heap.size = gb at *
  clear hW
  have hgl := BG.out.lt
  have g0 : W2.cell? ⟨gb, 0, none⟩ = some (.int .i64 a) := BG.out.cell 0
  have g1 : W2.cell? ⟨gb, 1, none⟩ = some (.int .i64 b) := BG.out.cell 1
  have g2 : W2.cell? ⟨gb, 2, none⟩ = some (.int .i64 P) := BG.out.cell 2
  have g3 : W2.cell? ⟨gb, 3, none⟩ = some (.int .i64 n) := BG.out.cell 3
  have g4 : W2.cell? ⟨gb, 4, none⟩ = some (.int .u64 s) := BG.out.cell 4
  go_wp2_with fail
  refine (HE.out _).mono ?_
  rintro e W3 ⟨⟨gr, go_, rfl, hrow, hout⟩, hb⟩
  have HR := Lib.hid (hrow.mono HB.out.size)
  have HO := Lib.hid (hout.mono HB.out.size)
  replace HB := Lib.hid (nextW HB.out hb)
  replace BG := Lib.hid (BG.out.nx hb)
  replace BR := Lib.hid (BR.out.nx hb)
  clear hb hrow hout g0 g1 g2 g3 g4 hgl
  go_upto_region 5 with fail
  generalize hW : World.alloc _ _ = W4
  have hal : Below W3.heap.size W3 W4 := by rw [← hW]; exact (Below.refl _ _).alloc (Nat.le_refl _) _
  have HK := Lib.hid (show BegAt w.heap.size gb W3.heap.size (w.heap.size + 1) gr go_ R #[.int .i64 a, .int .i64 b, .int .i64 P, .int .i64 n, .int .u64 s] (plr a b P n R) 0 W4 (List.replicate R r0) from
    ⟨List.length_replicate, own_below HR.out hal, fun r hr => ⟨.slice none 0 0, by rw [List.getElem?_replicate, if_pos hr]; rfl, World.ownsRow_nil _ _ _ _, fun _ => rfl⟩, own_below HO.out hal, BG.out.nx hal, by rw [← hW]; exact Blk.new' _ _ _ rfl, BR.out.nx hal⟩)
  replace HB := Lib.hid (nextW HB.out hal)
  generalize W3.heap.size = gx at *
  clear hW hal HR HO BG BR
  have hgl := HK.out.grid.lt
  have g2 : W4.cell? ⟨gb, 2, none⟩ = some (.int .i64 P) := HK.out.grid.cell 2
  go_wp2
  clear g2 hgl
  go_loopw [23] (fun i wr => ∃ (k : Nat) (rs : List Reg), k ≤ P ∧ i = .int .i64 k ∧ BegAt w.heap.size gb gx (w.heap.size + 1) gr go_ R #[.int .i64 a, .int .i64 b, .int .i64 P, .int .i64 n, .int .u64 s] (plr a b P n R) k wr rs ∧ Below w.heap.size w wr) (fun i _ => P - (intOf i).toNat)
  case atStart => exact ⟨0, _, Nat.zero_le _, rfl, HK.out, HB.out⟩
  case round =>
    clear HK HB
    obtain ⟨k, rs, hk, rfl, hbeg, hbel⟩ := hrel
    have HK := Lib.hid hbeg
    have HB := Lib.hid hbel
    clear hbeg hbel
    by_cases hlt : k < P
    · have hd1 : decide ((k : Int) < (P : Int)) = true := decide_eq_true (by omega)
      have hgl := HK.out.grid.lt
      have g0 : wr.cell? ⟨gb, 0, none⟩ = some (.int .i64 a) := HK.out.grid.cell 0
      have g1 : wr.cell? ⟨gb, 1, none⟩ = some (.int .i64 b) := HK.out.grid.cell 1
      have g2 : wr.cell? ⟨gb, 2, none⟩ = some (.int .i64 P) := HK.out.grid.cell 2
      have g3 : wr.cell? ⟨gb, 3, none⟩ = some (.int .i64 n) := HK.out.grid.cell 3
      have g4 : wr.cell? ⟨gb, 4, none⟩ = some (.int .u64 s) := HK.out.grid.cell 4
      obtain ⟨q, hq⟩ : ∃ q, k % R = q := ⟨_, rfl⟩
      have hqR : q < R := by rw [← hq]; exact Nat.mod_lt _ hR1
      have hrem : (k : Int).tmod (R : Int) = q := by rw [Int.tmod_eq_emod_of_nonneg (by omega), ← hq]; rfl
      have hw1 : wrap64 (q : Int) = q := IntWalk.wrap64_in _ (by omega)
      have hw2 : IntKind.i64.wrap (q : Int) = q := (w64n _).trans hw1
      have hRn : ¬ (R : Int) = 0 := by omega
      have hRn2 : ¬ R = 0 := by omega
      go_wp2_with fail
      refine (HG.out _).mono ?_
      rintro e w4 ⟨rfl, hb4⟩
      replace HB := Lib.hid (nextW HB.out hb4)
      replace HK := Lib.hid (HK.out.nx hb4)
      clear hb4 g0 g1 g2 g3 g4 hgl
      obtain ⟨v, hv, hov, hvz⟩ := HK.out.all q hqR
      obtain ⟨Av, cv, rfl, -⟩ := owned_cells hov
      have Hv := Lib.hid hv
      have Hov := Lib.hid hov
      have Hvz := Lib.hid hvz
      have Hq := Lib.hid hq
      obtain ⟨b0, r1, g0, g1, g2, g3, g4⟩ := HK.out.see hv
      have hbl := HK.out.box.lt
      have hgl := HK.out.grid.lt
      have hrl := World.block_lt_of_cell? _ _ r1
      have hk1 : IntKind.i64.wrap ((k : Int) + 1) = (k : Int) + 1 := (w64n _).trans (IntWalk.wrap64_in _ (by omega))
      have HSk := Lib.hid (fun w => HS.out q ((k : Int) + 1) hqR w)
      have HFk := Lib.hid (show plr a b P n R k = std a b P n q ((k : Int) + 1) from by unfold plr; rw [hq])
      have hlen := begL_len R (plr a b P n R) k q
      have Hlen := Lib.hid hlen
      have hqi : (q : Int) < (R : Int) := by omega
      generalize std a b P n q ((k : Int) + 1) = E at *
      clear hv hov hvz hq hlen
      obtain ⟨Wd, hWd⟩ : ∃ Wd, Wd = w4 := ⟨_, rfl⟩
      subst hWd
      go_wp2_with fail
      refine tail_region (S := fun w' => w'.cell? ⟨gx, 0, none⟩ = some (.slice (some ⟨gr, 0, none⟩) R R) ∧ w'.cell? ⟨gr, q * 2 + 1, none⟩ = some (.slice Av (begL R (plr a b P n R) k q).length cv) ∧ w'.cell? ⟨gb, 0, none⟩ = some (.int .i64 a) ∧ w'.cell? ⟨gb, 1, none⟩ = some (.int .i64 b) ∧ w'.cell? ⟨gb, 2, none⟩ = some (.int .i64 P) ∧ w'.cell? ⟨gb, 3, none⟩ = some (.int .i64 n) ∧ w'.cell? ⟨gb, 4, none⟩ = some (.int .u64 s)) 18 (.free 0 (.free 1 (.free 2 (.free 3 (.free 4 (.free 5 (.free 6 (.free 7 (.free 8 (.free 9 (.free 10 (.free 11 (.free 12 (.one 13 (.one 14 (.one 15 (.free 16 (.free 17 .tail)))))))))))))))))) (by kernel_rfl) (by kernel_rfl) (fun _ _ d _ _ h => by cases d <;> exact h) (⟨b0, r1, g0, g1, g2, g3, g4⟩) (fun hS => ?_)
      simp only [writtenT, List.drop_succ_cons, List.drop_zero, List.getElem?_cons_succ, List.getElem?_cons_zero]
      iterate 13
       refine rz_free (v := ?_) (by rfl) ?_ ?_; rotate_left 1; focus (intro w hSw; (try dsimp only at hSw); go_simp; (try with_reducible rfl))
       (try simp only [Act.put, tA, tB, tC])
      refine rz_call (by rfl) (fun K hK => ?_)
      go_simp
      (refine (HSk.out _).mono ?_; rintro e w5 ⟨rfl, hb5⟩)
      (try go_wp2_with fail)
      refine hK.out _ _ ?_ (fun hS' => ?_)
      · (try dsimp only); first | exact ((HK.out.nx (Below.refl _ _).drew).nx hb5).see Hv.out | exact hs6.1
      clear hS hK K
      have hS := hS'
      clear hS'
      (try simp only [Act.put, tA, tB, tC])
      refine rz_call (by rfl) (fun K hK => ?_)
      go_simp
      (skip)
      (try go_wp2_with fail)
      refine hK.out _ _ ?_ (fun hS' => ?_)
      · (try dsimp only); exact (((HK.out.nx (Below.refl _ _).drew).nx hb5).nx ((Below.refl _ _).alloc (Nat.le_refl _) _)).see Hv.out
      clear hS hK K
      have hS := hS'
      clear hS'
      (try simp only [Act.put, tA, tB, tC])
      refine rz_call (by rfl) (fun K hK => ?_)
      (refine app_Ent (.tmp 38) (.tmp 44) (by rfl) w.heap.size _ (begL R (plr a b P n R) k q) (by rfl) (own_below (own_below (own_below Hov.out (Below.refl _ _).drew) hb5) ((Below.refl _ _).alloc (Nat.le_refl _) _)) _ [E] (by rfl) (one_Ent _ E _ 1 (by first | rfl | simp) (by omega)) (by have := Hlen.out; simp; omega) (by have h1 := HB.out.size; have h2 := hb5.size; simp at h2 ⊢; omega) ?_; intro v' w6 ho6 hb6 hg6; have hs6 := BegAt.see2 (((HK.out.nx (Below.refl _ _).drew).nx hb5).nx ((Below.refl _ _).alloc (Nat.le_refl _) _)) Hv.out (own_below (own_below (own_below Hov.out (Below.refl _ _).drew) hb5) ((Below.refl _ _).alloc (Nat.le_refl _) _)) hg6)
      simp only [Act.put, tA, tB, tC]
      refine hK.out _ _ ?_ (fun hS' => ?_)
      · (try dsimp only); first | exact ((HK.out.nx (Below.refl _ _).drew).nx hb5).see Hv.out | exact hs6.1
      clear hS hK K
      have hS := hS'
      clear hS'
      iterate 2
       (try simp only [Act.put, tA, tB, tC])
       refine rz_free (v := ?_) (by rfl) ?_ ?_; rotate_left 1; focus (intro w hSw; (try dsimp only at hSw); go_simp; (try with_reducible rfl))
      (try simp only [Act.put, tA, tB, tC])
      refine rz_done ?_
      obtain ⟨m6, hm6⟩ : ∃ m6, (begL R (plr a b P n R) k q ++ [E]).length = m6 := ⟨_, rfl⟩
      obtain ⟨A6, n6, hv6, -⟩ := owned_cells ho6
      rw [hm6] at hv6
      subst hv6
      clear hm6
      have hf6 := hs6.2 (q * 2 + 1)
      obtain ⟨-, r6, -⟩ := hs6.1
      have hX := ((HK.out.nx (Below.refl _ _).drew).nx hb5).nx ((Below.refl _ _).alloc (Nat.le_refl _) (.cells #[.int .i64 E.id, .int .i64 E.kind, .int .i64 E.x, .int .i64 E.y, .int .i64 E.vx, .int .i64 E.vy, .int .i64 E.health, .int .i64 E.age, .int .i64 E.owner] 45))
      have HK2 := Lib.hid (hX.push (fun i j => HF.out i j) Hq.out hqR Hv.out (own_below (own_below (own_below Hov.out (Below.refl _ _).drew) hb5) ((Below.refl _ _).alloc (Nat.le_refl _) _)) Hvz.out hg6 (by rw [HFk.out]; exact ho6))
      have HB2 := Lib.hid ((((nextW HB.out.drew hb5).alloc (nextW HB.out.drew hb5).size _).trans hb6).setCell (p := ⟨gr, q * 2 + 1, none⟩) (HK.out.row.lt gr rfl).1 (.slice A6 m6 n6))
      clear hX hs6 hg6 ho6 hb6 hb5 hS b0 r1 g0 g1 g2 g3 g4 hbl hgl hrl HK HB
      go_wp2
      go_roundw
      case rel => exact ⟨k + 1, rs.set q ⟨0, .slice A6 m6 n6⟩, by omega, by go_num, HK2.out, HB2.out⟩
      case measure => simp [intOf]; omega
    · obtain rfl : k = P := by omega
      have hd1 : decide ((k : Int) < (k : Int)) = false := decide_eq_false (by omega)
      have hbl := HK.out.box.lt
      have hrl := HK.out.ret.lt
      have b0 : wr.cell? ⟨gx, 0, none⟩ = some (.slice (some ⟨gr, 0, none⟩) R R) := HK.out.box.cell 0
      have b1 : wr.cell? ⟨gx, 1, none⟩ = some (.slice (some ⟨go_, 0, none⟩) R R) := HK.out.box.cell 1
      have q0 : wr.cell? ⟨w.heap.size + 1, 0, none⟩ = some (.slice none 0 0) := HK.out.ret.cell 0
      have q1 : wr.cell? ⟨w.heap.size + 1, 1, none⟩ = some (.slice none 0 0) := HK.out.ret.cell 1
      have qf0 := HK.out.ret.frozen 0
      have qf1 := HK.out.ret.frozen 1
      go_wp2
      refine bodyPost_ret (v := .tuple #[.agg #[.slice (some ⟨gr, 0, none⟩) R R, .slice (some ⟨go_, 0, none⟩) R R], .int .i64 0]) (by simp [results, Tryz.results11, go_sem, q0, q1]) rfl ⟨⟨gr, go_, rfl, ?_⟩, (HB.out.setCell (Nat.le_succ _) _).setCell (Nat.le_succ _) _⟩
      refine ⟨rs, List.replicate R nil0, own_wbox HK.out.row HK.out.ret (by decide) _ _, own_wbox HK.out.outs HK.out.ret (by decide) _ _, ⟨HK.out.len, List.length_replicate, by simp, List.length_replicate⟩, fun i g hg => ?_, fun i o ho => ?_⟩
      · have hi : i < R := by have := (List.getElem?_eq_some_iff.1 hg).1; simpa using this
        rw [List.getElem?_map, List.getElem?_range hi] at hg
        cases hg
        obtain ⟨v, e1, e2, -⟩ := HK.out.all i hi
        exact ⟨v, e1, own_wbox e2 HK.out.ret (by decide) _ _⟩
      · have hi : i < R := by have := (List.getElem?_eq_some_iff.1 ho).1; simpa using this
        rw [List.getElem?_replicate, if_pos hi] at ho
        cases ho
        exact ⟨nil0, by rw [List.getElem?_replicate, if_pos hi], World.ownsRow_nil _ _ _ _⟩

theorem begin_yes (a b n s : Int) (P R : Nat) (h : rt a b P n = true) (hR : regs a b P n = R) (w : World) :
    Calls Tryz.prog 11 #[.agg #[.int .i64 a, .int .i64 b, .int .i64 (P : Int), .int .i64 n, .int .u64 s]] w fun z w' =>
      (∃ v u, z = .returned (.tuple #[.agg #[.slice (some ⟨v, 0, none⟩) R R, .slice (some ⟨u, 0, none⟩) R R], .int .i64 0]) ∧ RgsSl w' (.slice (some ⟨v, 0, none⟩) R R) ((List.range R).map fun r => (0, begL R (plr a b P n R) P r)) ∧ OutSl w' (.slice (some ⟨u, 0, none⟩) R R) (List.replicate R [])) ∧ Below w.heap.size w w' :=
  (begin_new a b n s P R h hR w).mono fun z w' ⟨⟨v, u, h1, h2⟩, h3⟩ => ⟨⟨v, u, h1, h2.at⟩, h3⟩

end Go.Proofs.YtfpofegfbinalaaGreat.Fx
namespace Go.Proofs.YtfpofegfbinalaaGreat.Fx
open Go.ChangeShapes Go.WideShapes Go.ChangeAt Go.RowKit
set_option linter.unusedVariables false
set_option maxRecDepth 100000

/-- The regions behind Begin. -/
def begF (a b n : Int) (P R : Nat) : List (Int × List Ent) := (List.range R).map fun r => (0, begL R (plr a b P n R) P r)

theorem awake_fs : (listsL (begF 2 1 1 3 2)).length = 3 ∧ (handsL (List.replicate 2 [])).length = 0 := by decide +kernel

set_option maxHeartbeats 4000000 in
theorem awake_ar (w : World) : Calls Tryz.prog 10 #[] w fun e w' => e = .returned (.bool true) ∧ Below w.heap.size w w' := by
  have HG := Lib.hid (fun w => begin_yes 2 1 1 0 3 2 (by decide) (by decide) w)
  have hl : (allL (begF 2 1 1 3 2) (List.replicate 2 [])).length = 3 := by unfold allL; rw [st_length, List.length_append, awake_fs.1, awake_fs.2]
  have HA := Lib.hid (fun v u w hr ho => aall_any v u (begF 2 1 1 3 2) (List.replicate 2 []) w hr ho (by rw [awake_fs.1]; omega) (by rw [awake_fs.2]; omega) (by intro o ho; rw [List.eq_of_mem_replicate ho]; simp) (by simp [begF]) (by simp))
  have Hl := Lib.hid hl
  clear hl
  go_enter Tryz.func10, Tryz.ntmps10
  go_wp2_with fail
  refine (HG.out _).mono ?_
  rintro e w1 ⟨⟨g1, g2, rfl, hr, ho⟩, hb⟩
  have HB := Lib.hid hb
  have HR := Lib.hid hr
  have HO := Lib.hid ho
  clear hb hr ho HG
  go_upto_region 2 with fail
  generalize hW : World.alloc _ _ = W
  have b0 : W.cell? ⟨w1.heap.size, 0, none⟩ = some (.slice (some ⟨g1, 0, none⟩) 2 2) := by rw [← hW, World.cell?_alloc_new]; rfl
  have b1 : W.cell? ⟨w1.heap.size, 1, none⟩ = some (.slice (some ⟨g2, 0, none⟩) 2 2) := by rw [← hW, World.cell?_alloc_new]; rfl
  have hal : Below w1.heap.size w1 W := by rw [← hW]; exact (Below.refl _ _).alloc (Nat.le_refl _) _
  replace HB := Lib.hid (nextW HB.out hal)
  replace HR := Lib.hid (HR.out.below hal)
  replace HO := Lib.hid (HO.out.below hal)
  generalize w1.heap.size = gx at *
  have hbl := World.block_lt_of_cell? _ _ b0
  clear hW hal
  go_wp2_with fail
  refine (HA.out _ _ _ HR.out HO.out).mono ?_
  rintro e w2 ⟨⟨v', rfl, ho2⟩, hb2⟩
  obtain ⟨A, c, hv, -⟩ := owned_cells ho2
  rw [Hl.out] at hv
  subst hv
  replace HB := Lib.hid (nextW HB.out hb2)
  clear ho2 hb2
  go_wp2
  go_ret
  exact ⟨rfl, HB.out⟩

end Go.Proofs.YtfpofegfbinalaaGreat.Fx
