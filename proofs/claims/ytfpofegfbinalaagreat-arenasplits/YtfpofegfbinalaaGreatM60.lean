/- What ArenaSplits asks for: frames in rows of one's own, a world's rows but for one block, regions by themselves. -/
import Derived.Test.YtfpofegfbinalaaGreatM56
import Derived.Test.YtfpofegfbinalaaGreatM57
namespace Go.Proofs.YtfpofegfbinalaaGreat.Fx
open Go.ChangeShapes Go.WideShapes Go.ChangeAt Go.RowKit
set_option linter.unusedVariables false
set_option maxRecDepth 100000

theorem Spare.cell {g : Nat} {W w : World} (h : Spare g none W w) {b : Nat} (hb : b < W.heap.size) (hne : b ≠ g) (o : Nat) : w.cell? ⟨b, o, none⟩ = W.cell? ⟨b, o, none⟩ := by
  unfold World.cell?
  rw [h.block b hb hne (by simp)]

theorem Spare.frozen {g : Nat} {W w : World} (h : Spare g none W w) {b : Nat} (hb : b < W.heap.size) (hne : b ≠ g) (o : Nat) : w.frozen? ⟨b, o, none⟩ = W.frozen? ⟨b, o, none⟩ := by
  unfold World.frozen?
  rw [h.block b hb hne (by simp)]

theorem CfgBox.spare {g : Nat} {W w : World} (h : Spare g none W w) {b : Nat} {y : Cfg} (hc : CfgBox W b y) (hne : b ≠ g) : CfgBox w b y := CfgBox.of (fun q => h.cell hc.has hne q) (fun q => h.frozen hc.has hne q) hc

theorem Blk.spare {g : Nat} {W w : World} (h : Spare g none W w) {b t : Nat} {A : Array Value} (hb : Blk W b t A) (hne : b ≠ g) : Blk w b t A := by
  have h1 := h.block b hb.lt hne (by simp)
  exact h1.trans hb

theorem Spare.own {g B : Nat} {W w : World} (h : Spare g none W w) {size n : Nat} {e : TypeId} {v : Value} {xs : List Value} (ho : W.ownsRow B e size v n xs) (hg : g < B) : w.ownsRow B e size v n xs :=
  h.row ho (fun hh => by have := (ho.lt g hh.symm).1; omega) (.inl rfl)

theorem NewW.spare {g B R : Nat} {W w : World} {v u : Value} {fs : List (Int × List Ent)} {os : List (List Crs)} (h : NewW B R W v u fs os) (hs : Spare g none W w) (hg : g < B) : NewW B R w v u fs os := h.map fun hx => hs.own hx hg

/-- Frames in rows of one's own. -/
def RowsNew (B : Nat) (w : World) (v : Value) (rows : List (List Inp)) : Prop := ∃ vs, w.ownsRow B 55 1 v vs.length vs ∧ vs.length = rows.length ∧ ∀ (i : Nat) x r, vs[i]? = some x → rows[i]? = some r → w.ownsRow B 71 3 x r.length (r.flatMap inpC)

theorem RowsNew.at {B : Nat} {w : World} {v : Value} {rows : List (List Inp)} (h : RowsNew B w v rows) : RowsSl w v rows := by
  obtain ⟨vs, h1, h2, h3⟩ := h
  exact ⟨vs, owned_sl (by rw [flat_oneV]; exact h1), h2, fun i x r e1 e2 => owned_sl (h3 i x r e1 e2)⟩

theorem RowsNew.map {B B' : Nat} {w w' : World} {v : Value} {rows : List (List Inp)} (h : RowsNew B w v rows) (hk : ∀ {e size : Nat} {x : Value} {n : Nat} {xs : List Value}, (e = 55 ∨ e = 71) → w.ownsRow B e size x n xs → w'.ownsRow B' e size x n xs) : RowsNew B' w' v rows := by
  obtain ⟨vs, h1, h2, h3⟩ := h
  exact ⟨vs, hk (.inl rfl) h1, h2, fun i x r e1 e2 => hk (.inr rfl) (h3 i x r e1 e2)⟩

theorem RowsNew.below {B : Nat} {w w' : World} {v : Value} {rows : List (List Inp)} (h : RowsNew B w v rows) (hb : Below w.heap.size w w') : RowsNew B w' v rows := h.map fun _ hx => own_below hx hb

theorem RowsNew.old {B b : Nat} {w w' : World} {v : Value} {rows : List (List Inp)} (h : RowsNew B w v rows) (hg : w.grownBy w' (some b)) (hb : b < B) : RowsNew B w' v rows := h.map fun _ hx => hx.kept hg (.inr fun hh => by have := (hx.lt b hh).1; omega)

/-- But for a block that is no row of inputs. -/
theorem RowsNew.spare {B g : Nat} {w w' : World} {v : Value} {rows : List (List Inp)} (h : RowsNew B w v rows) (hs : Spare g none w w') {cur : Array Value} (hg : Blk w g 59 cur) : RowsNew B w' v rows :=
  h.map fun he hx => hs.row hx (fun hh => by rcases he with rfl | rfl <;> exact own_neA hx hg (by decide) hh) (.inl rfl)

/-- A region is written whole, and what it emitted. -/
theorem NewW.put {B R g1 g2 c1 c2 k : Nat} {w : World} {fs : List (Int × List Ent)} {os : List (List Crs)} (h : NewW B R w (.slice (some ⟨g1, 0, none⟩) R c1) (.slice (some ⟨g2, 0, none⟩) R c2) fs os) (hk : k < R) (F : Int) {L : List Ent} {O : List Crs} {vl vo : Value}
    (hl : w.ownsRow B 45 9 vl L.length (L.flatMap entC)) (ho : w.ownsRow B 50 15 vo O.length (O.flatMap crsC)) :
    NewW B R (((w.setCell ⟨g1, k * 2, none⟩ (.int .i64 F)).setCell ⟨g1, k * 2 + 1, none⟩ vl).setCell ⟨g2, k, none⟩ vo) (.slice (some ⟨g1, 0, none⟩) R c1) (.slice (some ⟨g2, 0, none⟩) R c2) (fs.set k (F, L)) (os.set k O) := by
  obtain ⟨rs, vs, h1, h2, ⟨e1, e2, e3, e4⟩, h3, h4⟩ := h
  obtain ⟨g, hg⟩ := getE fs k R e3 hk
  obtain ⟨v0, hr0, -⟩ := h3 k g hg
  obtain ⟨p1, p2⟩ := own_put_whole h1 hr0 F vl
  have ho1 := h2.kept p2 (own_apartA h1 h2 (by decide))
  obtain ⟨q1, q2⟩ := ho1.stored k vo
  have hrow2 := p1.kept q2 (own_apartA ho1 p1 (by decide))
  have hkE : ∀ {v : Value} {n : Nat} {xs : List Value}, w.ownsRow B 45 9 v n xs → (((w.setCell ⟨g1, k * 2, none⟩ (.int .i64 F)).setCell ⟨g1, k * 2 + 1, none⟩ vl).setCell ⟨g2, k, none⟩ vo).ownsRow B 45 9 v n xs := fun hx => by
    have h1' := hx.kept p2 (own_apartA h1 hx (by decide))
    exact h1'.kept q2 (own_apartA ho1 h1' (by decide))
  have hkC : ∀ {v : Value} {n : Nat} {xs : List Value}, w.ownsRow B 50 15 v n xs → (((w.setCell ⟨g1, k * 2, none⟩ (.int .i64 F)).setCell ⟨g1, k * 2 + 1, none⟩ vl).setCell ⟨g2, k, none⟩ vo).ownsRow B 50 15 v n xs := fun hx => by
    have h1' := hx.kept p2 (own_apartA h1 hx (by decide))
    exact h1'.kept q2 (own_apartA ho1 h1' (by decide))
  refine ⟨rs.set k ⟨F, vl⟩, vs.set k vo, hrow2, q1, ⟨by rw [List.length_set]; exact e1, by rw [List.length_set]; exact e2, by rw [List.length_set]; exact e3, by rw [List.length_set]; exact e4⟩, fun i q hq => ?_, fun i q hq => ?_⟩
  · by_cases hik : i = k
    · subst hik
      rw [List.getElem?_set_self (by rw [e3]; exact hk)] at hq
      cases hq
      exact ⟨vl, List.getElem?_set_self (by rw [e1]; exact hk), hkE hl⟩
    · rw [List.getElem?_set_ne (fun e => hik e.symm)] at hq
      obtain ⟨v, x1, x2⟩ := h3 i q hq
      exact ⟨v, by rw [List.getElem?_set_ne (fun e => hik e.symm)]; exact x1, hkE x2⟩
  · by_cases hik : i = k
    · subst hik
      rw [List.getElem?_set_self (by rw [e4]; exact hk)] at hq
      cases hq
      exact ⟨vo, List.getElem?_set_self (by rw [e2]; exact hk), hkC ho⟩
    · rw [List.getElem?_set_ne (fun e => hik e.symm)] at hq
      obtain ⟨v, x1, x2⟩ := h4 i q hq
      exact ⟨v, by rw [List.getElem?_set_ne (fun e => hik e.symm)]; exact x1, hkC x2⟩

/-- The first k of one list, the others of another. -/
def mixL {α : Type} (k : Nat) (xs ys : List α) : List α := xs.take k ++ ys.drop k

theorem mix_at {α : Type} {k : Nat} {xs ys : List α} (hk : k < xs.length) : (mixL (k + 1) xs ys)[k]? = xs[k]? := by
  unfold mixL
  rw [List.getElem?_append_left (by rw [List.length_take]; omega), List.getElem?_take, if_pos (by omega)]

theorem mix_set {α : Type} {k R : Nat} {xs ys : List α} {x : α} (h1 : xs.length = R) (h2 : ys.length = R) (hk : k < R) (hx : ys[k]? = some x) : (mixL (k + 1) xs ys).set k x = mixL k xs ys := by
  unfold mixL
  obtain ⟨y, hy⟩ := getE xs k R h1 hk
  have e1 : ys.drop k = x :: ys.drop (k + 1) := by
    rw [List.drop_eq_getElem_cons (by omega), (List.getElem?_eq_some_iff.1 hx).2]
  rw [take_at hy, e1, List.append_assoc, List.set_append_right _ _ (by rw [List.length_take]; omega), List.length_take, Nat.min_eq_left (by omega), Nat.sub_self]
  rfl

theorem mix_all {α : Type} {R : Nat} {xs ys : List α} (h1 : xs.length = R) (h2 : ys.length = R) : mixL R xs ys = xs := by
  unfold mixL
  rw [List.take_of_length_le (by omega), List.drop_eq_nil_of_le (by omega), List.append_nil]

/-- 'append' of regions to a row of the call's own. -/
theorem app_Regs {w : World} {o : Oper} {a : Act} {K : Act → World → Prop} {Q : Exit → Act → World → Prop} (s x : Operand)
    (ho : o.op = .call { callee := .builtin .append, args := #[s, x], argTypes := #[29, 29] }) (base : Nat) (v : Value) (es : List Reg) (hs : a.eval s = v) (hown : w.ownsRow base 59 2 v es.length (es.flatMap regC))
    (u : Value) (fs : List Reg) (hx : a.eval x = u) (hu : IsSl regC w u fs) (h1c : ∀ r ∈ fs, r.list.oneCell' = true) (hlen : es.length + fs.length ≤ 1000000) (hbase : base ≤ w.heap.size)
    (h : ∀ v' w', w'.ownsRow base 59 2 v' (es ++ fs).length ((es ++ fs).flatMap regC) → Below base w w' → w.grownBy w' v.ownBlock → K (a.put o.dst v') w') : o.wp Tryz.prog a w K Q := by
  obtain ⟨i0, hi, hz0, hz1, hz2⟩ := info_parts info_Reg
  obtain ⟨A, c, rfl, hA, hc, hat⟩ := hu
  exact wp_app s x 29 ho base 59 i0 _ 2 32 Tryz.underlying29 hi hz0 hz1 hz2 rfl (by omega) v es.length _ hs hown A fs.length c (fs.flatMap regC) hx (by rw [flat_len regC 2 (fun _ => rfl)]) hA hat.cells (fun q hq => by
      obtain ⟨r, hr, hq⟩ := List.mem_flatMap.1 hq
      simp only [regC, List.mem_cons, List.not_mem_nil, or_false] at hq
      rcases hq with rfl | rfl
      · rfl
      · exact h1c r hr) (by unfold maxLen; omega) (by omega) hbase
    fun v' w' h1 h2 h3 => h v' w' (by rw [List.length_append, List.flatMap_append]; exact h1) h2 h3

set_option maxHeartbeats 8000000 in
theorem pframes_new (a b n s : Int) (P : Nat) (hP : P ≤ 6) (M : Nat) (hM : M ≤ 1000) (L : Value) (vs0 : List Value) (w : World) (hL : IsSl oneV w L vs0) (hin : ∀ x ∈ vs0, ∃ l, IsSl inpC w x l) :
    Calls Tryz.prog 9 #[.agg #[.int .i64 a, .int .i64 b, .int .i64 (P : Int), .int .i64 n, .int .u64 s], L, .int .i64 M] w fun z w' =>
      (∃ (A : Option Addr) (c : Nat) (rows : List (List Inp)), z = .returned (.slice A rows.length c) ∧ rows.length ≤ M ∧ RowsNew w.heap.size w' (.slice A rows.length c) rows ∧ ∀ r ∈ rows, RowOk P r) ∧ Below w.heap.size w w' := by
  have HI := Lib.hid pinput_any
  have hmk : ∀ w, (Instr.makeSlice 55 (.int .i64 (P : Int)) (.int .i64 (P : Int))).run Tryz.prog w = .ok (.slice (some ⟨w.heap.size, 0, none⟩) P P) (w.alloc (.cells ((List.replicate P inp0).flatMap inpC).toArray 71)) := fun w => make_inp P (by omega) w
  have Hmk := Lib.hid hmk
  have HL := Lib.hid hL
  have HIn := Lib.hid hin
  obtain ⟨A0, n0, rfl, -⟩ := hL
  obtain ⟨K, hK⟩ : ∃ K, vs0.length = K := ⟨_, rfl⟩
  rw [hK] at HL ⊢
  have HKn := Lib.hid hK
  clear hmk hK hin
  go_enter Tryz.func9, Tryz.ntmps9
  go_wp2
  go_loopw [7, 8] (fun v i wr => ∃ (k : Nat) (vs : List Value) (rows : List (List Inp)), k ≤ K ∧ k ≤ M ∧ i = .int .i64 k ∧ vs.length = k ∧ rows.length = k ∧ CfgBox wr w.heap.size ⟨a, b, P, n, s⟩ ∧ Below w.heap.size w wr ∧ wr.ownsRow (w.heap.size + 1) 55 1 v vs.length vs ∧ (∀ (i : Nat) x r, vs[i]? = some x → rows[i]? = some r → wr.ownsRow (w.heap.size + 1) 71 3 x P (r.flatMap inpC)) ∧ ∀ r ∈ rows, RowOk P r) (fun _ i _ => M - (intOf i).toNat)
  case atStart => exact ⟨0, [], [], Nat.zero_le _, Nat.zero_le _, rfl, rfl, rfl, CfgBox.n1 _ ⟨a, b, P, n, s⟩ _ rfl, (Below.refl _ _).alloc (Nat.le_refl _) _, World.ownsRow_nil _ _ _ _, fun i x r h => by simp at h, fun r h => by simp at h⟩
  case round =>
    obtain ⟨k, vs, rows, hk, hkM, rfl, hvl, hrl0, hbg, hbel, hov, hor, hrok⟩ := hrel
    have Hbel := Lib.hid hbel
    have BG := Lib.hid hbg
    have HOv := Lib.hid hov
    have HOr := Lib.hid hor
    have HVl := Lib.hid (And.intro hvl hrl0)
    have HRok := Lib.hid hrok
    obtain ⟨Av, cv, hv7, -⟩ := owned_cells hov
    rw [hvl] at hv7
    subst hv7
    clear hbel hbg hov hor hvl hrl0 hrok
    by_cases hlt : k < K ∧ k < M
    · obtain ⟨hltK, hltM⟩ := hlt
      have hd3 : decide ((k : Int) < (K : Int)) = true := decide_eq_true (by omega)
      have hd4 : decide ((k : Int) < (M : Int)) = true := decide_eq_true (by omega)
      obtain ⟨u, hu⟩ := getE vs0 k K HKn.out hltK
      obtain ⟨ins, hins⟩ := HIn.out u (List.mem_of_getElem? hu)
      have HU := Lib.hid hins
      obtain ⟨g, goff, rfl, hgc0⟩ := HL.out.at.elem 1 oneV_len (by omega) hu
      have hg0 := hgc0 0 u rfl
      rw [Nat.mul_one, Nat.add_zero] at hg0
      obtain ⟨A, c, rfl, -⟩ := hins
      obtain ⟨N, hN⟩ : ∃ N, ins.length = N := ⟨_, rfl⟩
      rw [hN] at HU hg0
      have Hn := Lib.hid hN
      have Hg := Lib.hid hg0
      have hgl := World.block_lt_of_cell? _ _ hg0
      clear hu hgc0 hg0 hN
      have hgg := BG.out.has
      have hgr : w.heap.size < wr.heap.size := hgg
      obtain ⟨g0, g1, g2, g3, g4, -⟩ := BG.out
      go_upto_region 6 with (simp only [Hmk.out])
      have Hr0 := Lib.hid (make_row P (by omega) wr (w.heap.size + 1) hgg)
      rw [List.length_replicate] at Hr0
      generalize hW : World.alloc _ _ = W2 at *
      have hal : Below wr.heap.size wr W2 := by rw [← hW]; exact (Below.refl _ _).alloc (Nat.le_refl _) _
      replace Hbel := Lib.hid (nextW Hbel.out hal)
      replace BG := Lib.hid (BG.out.nx hal)
      replace HOv := Lib.hid (own_below HOv.out hal)
      have HOlt := Lib.hid (fun (i : Nat) x r (e1 : vs[i]? = some x) (e2 : rows[i]? = some r) b (hb : x.ownBlock = some b) => ((HOr.out i x r e1 e2).lt b hb).2)
      have HAp := Lib.hid (own_apartA Hr0.out HOv.out (by decide))
      have HOr2 := Lib.hid (fun (i : Nat) x r (e1 : vs[i]? = some x) (e2 : rows[i]? = some r) => own_below (HOr.out i x r e1 e2) hal)
      generalize wr.heap.size = gr at *
      clear hW hal g0 g1 g2 g3 g4 hgg Hmk HOr
      obtain ⟨wo, rfl⟩ : ∃ wo : World, wo = wr := ⟨_, rfl⟩
      have hB2 := Below.refl W2.heap.size W2
      go_wp2_with fail
      go_loopw [10] (fun i wi => ∃ (j : Nat) (row : List Inp), j ≤ P ∧ i = .int .i64 j ∧ row.length = P ∧ row.all irtI = true ∧ wi.ownsRow (w.heap.size + 1) 71 3 (.slice (some ⟨gr, 0, none⟩) P P) P (row.flatMap inpC) ∧ CfgBox wi w.heap.size ⟨a, b, P, n, s⟩ ∧ Below w.heap.size w wi ∧ W2.grownBy wi (some gr)) (fun i _ => P - (intOf i).toNat)
      case atStart => exact ⟨0, List.replicate P inp0, Nat.zero_le _, rfl, List.length_replicate, all_rep P, Hr0.out, BG.out, Hbel.out, World.grownBy.refl _ _⟩
      case round =>
        obtain ⟨j, row, hj, rfl, hrl, hra, hown, hbg, hbel, hgw2⟩ := hrel
        clear Hbel BG Hr0
        have Hbel := Lib.hid hbel
        have BG := Lib.hid hbg
        have Hown := Lib.hid hown
        have Hra := Lib.hid hra
        have Hrl := Lib.hid hrl
        have HGw := Lib.hid hgw2
        clear hbel hbg hown hra hrl hgw2
        have hgg := BG.out.has
        obtain ⟨g0, g1, g2, g3, g4, -⟩ := BG.out
        have hgc := (Hbel.out.cell (p := ⟨g, goff + k, none⟩) hgl).trans Hg.out
        have hgl2 := World.block_lt_of_cell? _ _ hgc
        by_cases hjP : j < P
        · have hd1 : decide ((j : Int) < (P : Int)) = true := decide_eq_true (by omega)
          by_cases hjN : j < N
          · have hd2 : decide ((j : Int) < (N : Int)) = true := decide_eq_true (by omega)
            obtain ⟨x, hx⟩ := getE ins j N Hn.out hjN
            obtain ⟨bb, off, rfl, hc⟩ := elem_Inp (HU.out.below Hbel.out).at hx
            obtain ⟨c0, c1, c2⟩ := hc
            clear hx
            go_wp2_with fail
            refine (HI.out x.dx x.dy x.fire _).mono ?_
            rintro e w5 ⟨X, Y, rfl, hir, hb5⟩
            replace Hbel := Lib.hid (nextW Hbel.out hb5)
            replace BG := Lib.hid (BG.out.nx hb5)
            replace Hown := Lib.hid (own_below Hown.out hb5)
            replace HGw := Lib.hid (grown_trans HGw.out (grown_below hb5))
            have Hir := Lib.hid (show irtI ⟨X, Y, x.fire⟩ = true from hir)
            clear hb5 hir g0 g1 g2 g3 g4 hgg hgc hgl2 c0 c1 c2
            obtain ⟨y, hy⟩ := getE row j P Hrl.out hjP
            have Hy := Lib.hid hy
            obtain ⟨g', cap', hTl, -, hgw, -, hcs, hfz⟩ := own_at_Inp Hown.out hy
            cases hTl
            simp only [Nat.zero_add] at hcs
            obtain ⟨y0, y1, y2⟩ := hcs
            clear hy
            go_upto_region 8 with fail
            generalize hV : World.setCell _ _ _ = V at *
            obtain ⟨hl9, hg9⟩ := own_three Hown.out Hy.out ⟨X, Y, x.fire⟩ hV
            replace Hbel := Lib.hid (show Below w.heap.size w V from by rw [← hV]; exact ((Hbel.out.setCell (show w.heap.size ≤ gr by omega) _).setCell (show w.heap.size ≤ gr by omega) _).setCell (show w.heap.size ≤ gr by omega) _)
            replace BG := Lib.hid (show CfgBox V w.heap.size ⟨a, b, P, n, s⟩ from by rw [← hV]; exact ((BG.out.far (show gr ≠ w.heap.size by omega) _ _).far (show gr ≠ w.heap.size by omega) _ _).far (show gr ≠ w.heap.size by omega) _ _)
            replace Hown := Lib.hid hl9
            replace HGw := Lib.hid (grown_trans HGw.out hg9)
            clear hl9 hg9 hV y0 y1 y2 hfz hgw
            go_wp2
            go_roundw
            case rel => exact ⟨j + 1, row.set j ⟨X, Y, x.fire⟩, by omega, by go_num, by rw [List.length_set]; exact Hrl.out, all_set Hra.out j Hir.out, Hown.out, BG.out, Hbel.out, HGw.out⟩
            case measure => simp [intOf]; omega
          · have hd2 : decide ((j : Int) < (N : Int)) = false := decide_eq_false (by omega)
            go_wp2_with (at_builtin; go_must (refine appL_rowI (by rfl) (.tmp 51) (.tmp 53) (by rfl) (w.heap.size + 1) _ vs (by rfl) ((HOv.out.kept HGw.out HAp.out).alloc _) wr.heap.size 1 (.slice (some ⟨gr, 0, none⟩) P P) (by rfl) (by rfl) (by rw [World.cell?_alloc_new]; rfl) (by have := HVl.out.1; omega) (by simp; omega) ?_))
            intro v9 w9 ho9 hb9 hg9
            have HVa := Lib.hid ((HOv.out.kept HGw.out HAp.out).alloc (.cells #[.slice (some ⟨gr, 0, none⟩) P P] 55))
            have HO9 := Lib.hid (show w9.ownsRow (w.heap.size + 1) 55 1 v9 (vs ++ [Value.slice (some ⟨gr, 0, none⟩) P P]).length (vs ++ [Value.slice (some ⟨gr, 0, none⟩) P P]) from by rw [List.length_append]; exact ho9)
            have HR9 := Lib.hid ((Hown.out.alloc (.cells #[.slice (some ⟨gr, 0, none⟩) P P] 55)).kept hg9 (own_apartA HVa.out (Hown.out.alloc _) (by decide)))
            have HA9 := Lib.hid (fun (i : Nat) x r (e1 : vs[i]? = some x) (e2 : rows[i]? = some r) =>
              let h3 := ((HOr2.out i x r e1 e2).kept HGw.out (.inr fun e => by have := HOlt.out i x r e1 e2 gr e; omega)).alloc (.cells #[.slice (some ⟨gr, 0, none⟩) P P] 55)
              h3.kept hg9 (own_apartA HVa.out h3 (by decide)))
            have HG9 := Lib.hid ((BG.out.alloc hgg (.cells #[.slice (some ⟨gr, 0, none⟩) P P] 55)).below hb9 (Nat.lt_succ_self _))
            have HB9 := Lib.hid ((Hbel.out.alloc Hbel.out.size (.cells #[.slice (some ⟨gr, 0, none⟩) P P] 55)).trans (hb9.mono (Nat.le_succ _)))
            clear ho9 hb9 hg9
            go_wp2
            go_roundw
            case rel =>
              refine ⟨k + 1, vs ++ [.slice (some ⟨gr, 0, none⟩) P P], rows ++ [row], by omega, by omega, by go_num, by rw [List.length_append, HVl.out.1]; rfl, by rw [List.length_append, HVl.out.2]; rfl, HG9.out, HB9.out, HO9.out, fun i x r e1 e2 => ?_, fun r hr => ?_⟩
              · by_cases hi : i < k
                · rw [List.getElem?_append_left (by rw [HVl.out.1]; exact hi)] at e1
                  rw [List.getElem?_append_left (by rw [HVl.out.2]; exact hi)] at e2
                  exact HA9.out i x r e1 e2
                · have hik : i = k := by have := (List.getElem?_eq_some_iff.1 e1).1; rw [List.length_append, HVl.out.1] at this; simp at this; omega
                  subst hik
                  rw [List.getElem?_append_right (by rw [HVl.out.1]; exact Nat.le_refl _), HVl.out.1, Nat.sub_self] at e1
                  rw [List.getElem?_append_right (by rw [HVl.out.2]; exact Nat.le_refl _), HVl.out.2, Nat.sub_self] at e2
                  cases e1
                  cases e2
                  exact HR9.out
              · rcases List.mem_append.1 hr with hr | hr
                · exact HRok.out r hr
                · simp at hr; subst hr; exact ⟨Hrl.out, Hra.out⟩
            case measure => simp [intOf]; omega
        · have hd1 : decide ((j : Int) < (P : Int)) = false := decide_eq_false (by omega)
          go_wp2_with (at_builtin; go_must (refine appL_rowI (by rfl) (.tmp 51) (.tmp 53) (by rfl) (w.heap.size + 1) _ vs (by rfl) ((HOv.out.kept HGw.out HAp.out).alloc _) wr.heap.size 1 (.slice (some ⟨gr, 0, none⟩) P P) (by rfl) (by rfl) (by rw [World.cell?_alloc_new]; rfl) (by have := HVl.out.1; omega) (by simp; omega) ?_))
          intro v9 w9 ho9 hb9 hg9
          have HVa := Lib.hid ((HOv.out.kept HGw.out HAp.out).alloc (.cells #[.slice (some ⟨gr, 0, none⟩) P P] 55))
          have HO9 := Lib.hid (show w9.ownsRow (w.heap.size + 1) 55 1 v9 (vs ++ [Value.slice (some ⟨gr, 0, none⟩) P P]).length (vs ++ [Value.slice (some ⟨gr, 0, none⟩) P P]) from by rw [List.length_append]; exact ho9)
          have HR9 := Lib.hid ((Hown.out.alloc (.cells #[.slice (some ⟨gr, 0, none⟩) P P] 55)).kept hg9 (own_apartA HVa.out (Hown.out.alloc _) (by decide)))
          have HA9 := Lib.hid (fun (i : Nat) x r (e1 : vs[i]? = some x) (e2 : rows[i]? = some r) =>
            let h3 := ((HOr2.out i x r e1 e2).kept HGw.out (.inr fun e => by have := HOlt.out i x r e1 e2 gr e; omega)).alloc (.cells #[.slice (some ⟨gr, 0, none⟩) P P] 55)
            h3.kept hg9 (own_apartA HVa.out h3 (by decide)))
          have HG9 := Lib.hid ((BG.out.alloc hgg (.cells #[.slice (some ⟨gr, 0, none⟩) P P] 55)).below hb9 (Nat.lt_succ_self _))
          have HB9 := Lib.hid ((Hbel.out.alloc Hbel.out.size (.cells #[.slice (some ⟨gr, 0, none⟩) P P] 55)).trans (hb9.mono (Nat.le_succ _)))
          clear ho9 hb9 hg9
          go_wp2
          go_roundw
          case rel =>
            refine ⟨k + 1, vs ++ [.slice (some ⟨gr, 0, none⟩) P P], rows ++ [row], by omega, by omega, by go_num, by rw [List.length_append, HVl.out.1]; rfl, by rw [List.length_append, HVl.out.2]; rfl, HG9.out, HB9.out, HO9.out, fun i x r e1 e2 => ?_, fun r hr => ?_⟩
            · by_cases hi : i < k
              · rw [List.getElem?_append_left (by rw [HVl.out.1]; exact hi)] at e1
                rw [List.getElem?_append_left (by rw [HVl.out.2]; exact hi)] at e2
                exact HA9.out i x r e1 e2
              · have hik : i = k := by have := (List.getElem?_eq_some_iff.1 e1).1; rw [List.length_append, HVl.out.1] at this; simp at this; omega
                subst hik
                rw [List.getElem?_append_right (by rw [HVl.out.1]; exact Nat.le_refl _), HVl.out.1, Nat.sub_self] at e1
                rw [List.getElem?_append_right (by rw [HVl.out.2]; exact Nat.le_refl _), HVl.out.2, Nat.sub_self] at e2
                cases e1
                cases e2
                exact HR9.out
            · rcases List.mem_append.1 hr with hr | hr
              · exact HRok.out r hr
              · simp at hr; subst hr; exact ⟨Hrl.out, Hra.out⟩
          case measure => simp [intOf]; omega
    · rcases (show (k < K ∧ ¬ k < M) ∨ ¬ k < K by omega) with ⟨e1, e2⟩ | e1
      all_goals
        clear hlt
        go_wp2
        go_ret
        refine ⟨⟨Av, cv, rows, by rw [HVl.out.2]; rfl, by rw [HVl.out.2]; exact hkM, ⟨vs, ?_, by rw [HVl.out.1, HVl.out.2], fun i x r h1 h2 => ?_⟩, HRok.out⟩, Hbel.out⟩
        · rw [HVl.out.2]
          exact HOv.out.mono (Nat.le_succ _)
        · have h3 := HOr.out i x r h1 h2
          have hl : r.length = P := (HRok.out r (List.mem_of_getElem? h2)).1
          rw [← hl] at h3
          exact h3.mono (Nat.le_succ _)

end Go.Proofs.YtfpofegfbinalaaGreat.Fx
