/- The document's own Take. -/
import Derived.Test.YtlpkaljepaclpaaGreatM43
namespace Go.Proofs.YtlpkaljepaclpaaGreat.Fx
open Go.ChangeShapes Go.WideShapes Go.ChangeAt Go.RowKit
set_option linter.unusedVariables false
set_option maxRecDepth 100000

/-- A base and a number. -/
def RetBs (q : Rb) (z : Int) (w : World) (e : Ending) (w' : World) : Prop := ∃ vE vL, e = .returned (.tuple #[.agg #[.int .i64 q.f, vE, vL], .int .i64 z]) ∧ w'.ownsRow w.heap.size 45 9 vE q.es.length (q.es.flatMap entC) ∧ w'.ownsRow w.heap.size 50 15 vL q.l.length (q.l.flatMap crsC) ∧ Below w.heap.size w w'

theorem tkB_doc {a b p n r : Int} {x : List Int} (hok : ByOk x) : tkB a b p n r x = if (Rd.base ⟨x, 0⟩).2.e ≠ 0 then (⟨0, [], []⟩, (Rd.base ⟨x, 0⟩).2.e) else if (fpkB a b p n r (Rd.base ⟨x, 0⟩).1.f (Rd.base ⟨x, 0⟩).1.es (Rd.base ⟨x, 0⟩).1.l).2 = 0 ∧ (fpkB a b p n r (Rd.base ⟨x, 0⟩).1.f (Rd.base ⟨x, 0⟩).1.es (Rd.base ⟨x, 0⟩).1.l).1 = x then ((Rd.base ⟨x, 0⟩).1, 0) else (⟨0, [], []⟩, 4) := by
  have hq := @base_eq x hok
  unfold tkB fpkB
  generalize Rd.base ⟨x, 0⟩ = L at *
  by_cases h1 : L.2.e = 0
  · have hx := hq h1
    by_cases h3 : mayB a b p n r L.1.f L.1.es L.1.l = true
    · by_cases h2 : L.2.l = []
      · rw [h2, List.append_nil] at hx
        simp [h1, h2, h3, ← hx]
      · have h4 : ¬ packB L.1.f L.1.es L.1.l = x := fun h => h2 (by
          rw [h] at hx
          have := congrArg List.length hx
          rw [List.length_append] at this
          exact List.eq_nil_of_length_eq_zero (by omega))
        simp [h1, h2, h3, h4]
    · by_cases h2 : L.2.l = [] <;> simp [h1, h2, h3]
  · simp [h1]

theorem fpkB_ok (a b p n r f : Int) (es : List Ent) (l : List Crs) : ByOk (fpkB a b p n r f es l).1 := by
  unfold fpkB
  split
  · exact packB_ok _ _ _
  · intro z hz; simp at hz

theorem Blk.othX {w w' : World} {g b : Nat} {t : TypeId} {cur : Array Value} (h : Blk w g t cur) (hg : w.grownBy w' (some b)) (hne : g ≠ b) : Blk w' g t cur := (hg.block g h.lt (by simpa using hne)).trans h

theorem Blk.rowX {w w' : World} {g : Nat} {row : Option Nat} {t : TypeId} {cur : Array Value} (h : Blk w g t cur) (hg : w.grownBy w' row) (hne : ∀ p, row = some p → g ≠ p) : Blk w' g t cur := (hg.block g h.lt (fun e => hne g e.symm rfl)).trans h

theorem CfgBox.othX {w w' : World} {g b : Nat} {y : Cfg} (h : CfgBox w g y) (hg : w.grownBy w' (some b)) (hne : g ≠ b) : CfgBox w' g y :=
  CfgBox.of (fun q => World.cell?_of_block (a := ⟨g, q, none⟩) (hg.block g h.has (by simpa using hne))) (fun q => World.frozen?_of_block (a := ⟨g, q, none⟩) (hg.block g h.has (by simpa using hne))) h

theorem below_rowX {B : Nat} {w0 w w' : World} {row : Option Nat} (h : Below B w0 w) (hg : w.grownBy w' row) (hB : B ≤ w.heap.size) (hr : ∀ p, row = some p → B ≤ p) : Below B w0 w' :=
  ⟨hg.os.trans h.os, hg.tape.trans h.tape, hg.output.trans h.output, Nat.le_trans h.size hg.size, fun k hk => (hg.block k (by omega) (fun e => by have := hr k e.symm; omega)).trans (h.block k hk)⟩

theorem own_gtX {w : World} {base size n g : Nat} {e : TypeId} {v : Value} {xs : List Value} (h : w.ownsRow base e size v n xs) (hg : g < base) (o : Nat) (x : Value) : (w.setCell ⟨g, o, none⟩ x).ownsRow base e size v n xs :=
  h.kept (grown_setX w g o x) (.inr fun hh => by have := h.lt g hh; omega)

/-- The world within the document's Take. -/
structure TkW (w0 : World) (g : Cfg) (c gq : Nat) (v : Value) (x : List Int) (r : Rd) (B0 : Array Value) (w : World) : Prop where
  cfg : CfgBox w w0.heap.size g
  res : Blk w (w0.heap.size + 1) 63 #[.int .i64 0, .slice none 0 0, .slice none 0 0]
  rd : Rx w c v x r
  bs : Blk w gq 63 B0
  old : Below w0.heap.size w0 w
  c1 : w0.heap.size + 1 < c
  q1 : c < gq

namespace TkW
variable {w0 w w' : World} {g : Cfg} {c gq : Nat} {v : Value} {x : List Int} {r r' : Rd} {B0 : Array Value}

theorem go (h : TkW w0 g c gq v x r B0 w) (hr : Rx w' c v x r') (hg : w.grownBy w' (some c)) : TkW w0 g c gq v x r' B0 w' := by
  have h1 := h.c1
  have h2 := h.q1
  exact ⟨h.cfg.othX hg (by omega), h.res.othX hg (by omega), hr, h.bs.othX hg (by omega), below_rowX h.old hg h.old.size (by intro p hp; cases hp; omega), h1, h2⟩

theorem bel (h : TkW w0 g c gq v x r B0 w) (hb : Below w.heap.size w w') : TkW w0 g c gq v x r B0 w' :=
  ⟨h.cfg.nx hb, h.res.below hb h.res.lt, h.rd.bel hb, h.bs.below hb h.bs.lt, nextW h.old hb, h.c1, h.q1⟩

/-- A row that is newer than all boxes was written. -/
theorem row (h : TkW w0 g c gq v x r B0 w) {row : Option Nat} (hg : w.grownBy w' row) (hr : ∀ p, row = some p → gq < p) : TkW w0 g c gq v x r B0 w' := by
  have h1 := h.c1
  have h2 := h.q1
  exact ⟨CfgBox.of (fun q => World.cell?_of_block (a := ⟨w0.heap.size, q, none⟩) (hg.block _ h.cfg.has (fun e => by have := hr w0.heap.size e.symm; omega))) (fun q => World.frozen?_of_block (a := ⟨w0.heap.size, q, none⟩) (hg.block _ h.cfg.has (fun e => by have := hr w0.heap.size e.symm; omega))) h.cfg, h.res.rowX hg (fun p hp => by have := hr p hp; omega), h.rd.row hg (fun p hp => by have := hr p hp; omega), h.bs.rowX hg (fun p hp => by have := hr p hp; omega), below_rowX h.old hg h.old.size (fun p hp => by have := hr p hp; omega), h1, h2⟩

theorem put (h : TkW w0 g c gq v x r B0 w) (i : Nat) (u : Value) : TkW w0 g c gq v x r (B0.setIfInBounds i u) (w.setCell ⟨gq, i, none⟩ u) := by
  have h1 := h.c1
  have h2 := h.q1
  have hg := grown_setX w gq i u
  exact ⟨h.cfg.othX hg (by omega), h.res.othX hg (by omega), h.rd.far h2 i u, h.bs.put i u, below_rowX h.old hg h.old.size (by intro p hp; cases hp; omega), h1, h2⟩
end TkW

set_option maxHeartbeats 8000000 in
theorem ftakeB_any (a b p n s r : Int) (v : Value) (x : List Int) (w : World) (hv : IsSl byC w v x) (hok : ByOk x) (hn : x.length ≤ 1000000) :
    Calls Tryz.prog 35 #[.agg #[.int .i64 a, .int .i64 b, .int .i64 p, .int .i64 n, .int .u64 s], .int .i64 r, v] w (RetBs (tkB a b p n r x).1 (tkB a b p n r x).2 w) := by
  have HQ := Lib.hid (tkB_doc (a := a) (b := b) (p := p) (n := n) (r := r) hok)
  have HI := Lib.hid (fun c w h => fint_nx c v x ⟨x, 0⟩ hok hn 0 1 rfl w h)
  have HEn := Lib.hid (fun c => fentityT_any c v x hok hn)
  have HC := Lib.hid (fun c => fcrossesT_any c v x hok hn)
  have HCt := Lib.hid (fun c rr w1 (h : Rx w1 c v x rr) => show Calls Tryz.prog 83 #[.pointer (some ⟨c, 0, none⟩), .int .i64 1000] w1 fun e w' => e = .returned (.int .i64 (rr.count 1000).1) ∧ Rx w' c v x (rr.count 1000).2 ∧ w1.grownBy w' (some c) from by
    obtain ⟨⟨p, h1⟩, hv⟩ := h
    exact (fcount_any c v x p rr 1000 w1 h1 hok hn).mono fun e w' ⟨a1, a2, a3⟩ => ⟨a1, ⟨a2, hv⟩, a3⟩)
  have hle : (Rd.base ⟨x, 0⟩).1.es.length ≤ 1000 := list_le' _ _
  have hll : (Rd.base ⟨x, 0⟩).1.l.length ≤ 1000 := list_le' _ _
  have HP := Lib.hid (fun vE vL w1 h1 h2 => fpackB_any a b p n s r (Rd.base ⟨x, 0⟩).1.f vE (Rd.base ⟨x, 0⟩).1.es vL (Rd.base ⟨x, 0⟩).1.l w1 h1 hle h2 (by omega))
  have HBy := Lib.hid (fun u v w1 hu hv => bytes_any u v (fpkB a b p n r (Rd.base ⟨x, 0⟩).1.f (Rd.base ⟨x, 0⟩).1.es (Rd.base ⟨x, 0⟩).1.l).1 x w1 hu hv (fpkB_ok _ _ _ _ _ _ _ _) hok)
  have HBs := Lib.hid (show Rd.base ⟨x, 0⟩ = (⟨(Rd.mk x 0).num 0, (Rd.list Rd.ent ((Rd.mk x 0).nx 1)).1, (Rd.list Rd.crs (Rd.list Rd.ent ((Rd.mk x 0).nx 1)).2).1⟩, (Rd.list Rd.crs (Rd.list Rd.ent ((Rd.mk x 0).nx 1)).2).2) from rfl)
  have HV := Lib.hid hv
  generalize tkB a b p n r x = Q at *
  generalize Rd.base ⟨x, 0⟩ = L at *
  obtain ⟨⟨K, kz⟩, hK⟩ : ∃ K, fpkB a b p n r L.1.f L.1.es L.1.l = K := ⟨_, rfl⟩
  rw [hK] at HQ HP HBy
  simp only [] at HQ HP HBy
  obtain ⟨R1, hR1⟩ : ∃ R1, (Rd.mk x 0).nx 1 = R1 := ⟨_, rfl⟩
  rw [hR1] at HBs HI
  obtain ⟨F, hF⟩ : ∃ F, (Rd.mk x 0).num 0 = F := ⟨_, rfl⟩
  rw [hF] at HBs HI
  have HLE := Lib.hid (show Rd.list Rd.ent R1 = Rd.many Rd.ent (R1.count 1000).1.toNat (R1.count 1000).2 from rfl)
  have hcb := count_bdX R1 1000 (by omega)
  generalize Rd.list Rd.ent R1 = LE at *
  have HCt1 := Lib.hid (fun c w1 h => HCt.out c R1 w1 h)
  obtain ⟨⟨cn, rc⟩, hrc⟩ : ∃ c, R1.count 1000 = c := ⟨_, rfl⟩
  rw [hrc] at HCt1 HLE hcb
  simp only [] at HCt1 HLE hcb
  obtain ⟨m0, hm0⟩ := Int.eq_ofNat_of_zero_le hcb.1
  subst hm0
  rw [Int.toNat_natCast] at HLE
  have hm0 := hcb.2
  obtain ⟨A, cv, rfl, -⟩ := hv
  obtain ⟨nx, hnx⟩ : ∃ nx, x.length = nx := ⟨_, rfl⟩
  rw [hnx] at HV HI HEn HC HCt1 ⊢
  clear hle hll hK hR1 hF hcb hrc hnx HCt hn
  go_enter Tryz.func35, Tryz.ntmps35
  go_upto_region 2 with fail
  generalize hW : World.alloc _ _ = W
  have HX0 := Lib.hid (show Rx W (w.heap.size + 1 + 1) (.slice A nx cv) x ⟨x, 0⟩ from by
    have h := Rx.new 130 (HV.out.below (((Below.refl _ w).alloc (Nat.le_refl _) (.cells #[.int .i64 a, .int .i64 b, .int .i64 p, .int .i64 n, .int .u64 s] 24)).alloc (by simp) (.cells #[.int .i64 0, .slice none 0 0, .slice none 0 0] 63))) hW
    simpa using h)
  have BG := Lib.hid (show CfgBox W w.heap.size ⟨a, b, p, n, s⟩ from by rw [← hW]; exact CfgBox.n3a _ ⟨a, b, p, n, s⟩ _ _ _ rfl)
  have BR := Lib.hid (show Blk W (w.heap.size + 1) 63 #[.int .i64 0, .slice none 0 0, .slice none 0 0] from by rw [← hW]; exact (Blk.new' _ _ _ (by simp)).below ((Below.refl _ _).alloc (Nat.le_refl _) _) (by simp))
  have HB := Lib.hid (show Below w.heap.size w W from by rw [← hW]; exact (((Below.refl _ _).alloc (Nat.le_refl _) _).alloc (by simp) _).alloc (by simp; omega) _)
  have hWs : w.heap.size + 1 + 1 < W.heap.size := by rw [← hW]; simp
  clear hW
  go_wp2_with fail
  refine (HI.out _ _ HX0.out).mono ?_
  rintro e w1 ⟨rfl, hr1, hg1⟩
  have HR1 := Lib.hid hr1
  have BG1 := Lib.hid (BG.out.othX hg1 (by omega))
  have BR1 := Lib.hid (BR.out.othX hg1 (by omega))
  have HB1 := Lib.hid (below_rowX HB.out hg1 HB.out.size (by intro p hp; cases hp; omega))
  have hW1 : w.heap.size + 1 + 1 < w1.heap.size := hr1.lt
  clear hr1 hg1 HX0 BG BR HB hWs HI
  go_upto_region 3 with fail
  generalize hW : World.alloc _ _ = W
  have TW := Lib.hid (show TkW w ⟨a, b, p, n, s⟩ (w.heap.size + 1 + 1) w1.heap.size (.slice A nx cv) x R1 #[.int .i64 F, .slice none 0 0, .slice none 0 0] W from by
    have hal : Below w1.heap.size w1 W := by rw [← hW]; exact (Below.refl _ _).alloc (Nat.le_refl _) _
    exact ⟨BG1.out.nx hal, BR1.out.below hal BR1.out.lt, HR1.out.bel hal, by rw [← hW]; exact Blk.new' _ _ _ rfl, nextW HB1.out hal, by omega, hW1⟩)
  clear hW HR1 BG1 BR1 HB1
  generalize w1.heap.size = gq at *
  go_wp2_with fail
  refine (HCt1.out _ _ TW.out.rd).mono ?_
  rintro e w2 ⟨rfl, hr2, hg2⟩
  have TW2 := Lib.hid (TW.out.go hr2 hg2)
  clear hr2 hg2 TW HCt1 hW1
  go_wp2
  go_loopw [11] (fun i wr => ∃ (acc : List Ent) (m : Nat) (rr : Rd) (A1 : Option Addr) (c1 : Nat), acc.length + m = m0 ∧ i = .int .i64 acc.length ∧ (LE.1 = acc ++ (Rd.many Rd.ent m rr).1 ∧ LE.2 = (Rd.many Rd.ent m rr).2) ∧ wr.ownsRow (gq + 1) 45 9 (.slice A1 acc.length c1) acc.length (acc.flatMap entC) ∧ TkW w ⟨a, b, p, n, s⟩ (w.heap.size + 1 + 1) gq (.slice A nx cv) x rr #[.int .i64 F, .slice A1 acc.length c1, .slice none 0 0] wr) (fun i _ => m0 - (intOf i).toNat)
  case atStart => exact ⟨[], m0, rc, none, 0, by simp, rfl, by rw [HLE.out]; exact ⟨rfl, rfl⟩, World.ownsRow_nil _ _ _ _, TW2.out⟩
  case round =>
    clear TW2
    obtain ⟨acc, m, rr, A1, c1, hm, rfl, hR, ho, htw⟩ := hrel
    have HR := Lib.hid hR
    have HO := Lib.hid ho
    have TW := Lib.hid htw
    have hcl := htw.rd.lt
    have hce := htw.rd.e2
    obtain ⟨k, hkk⟩ : ∃ k, acc.length = k := ⟨_, rfl⟩
    have Hkk := Lib.hid hkk
    rw [hkk] at HO TW hm ⊢
    clear hR ho htw hkk
    obtain ⟨ze, hze⟩ : ∃ ze, rr.e = ze := ⟨_, rfl⟩
    have Hze := Lib.hid hze
    rw [hze] at hce
    clear hze
    go_upto_region 5 with fail
    go_cut [32] (fun s32 wx => s32 = .bool (decide (m ≠ 0 ∧ ze = 0)) ∧ wx = wr)
    case first =>
      by_cases hm1 : m = 0
      · have hd : decide (m ≠ 0 ∧ ze = 0) = false := decide_eq_false (by omega)
        have hkn : ¬ (k : Int) < (m0 : Int) := by omega
        clear hm1
        go_wp2_with fail
        go_meet
        exact ⟨by rw [hd], rfl⟩
      · have hkn : (k : Int) < (m0 : Int) := by omega
        by_cases he : ze = 0
        · have hd : decide (m ≠ 0 ∧ ze = 0) = true := decide_eq_true ⟨hm1, he⟩
          have he' : (ze == 0) = true := by simpa using he
          clear hm1 he
          go_wp2_with fail
          go_meet
          exact ⟨by rw [hd], rfl⟩
        · have hd : decide (m ≠ 0 ∧ ze = 0) = false := decide_eq_false (fun h => he h.2)
          have he' : (ze == 0) = false := by simpa using he
          clear hm1 he
          go_wp2_with fail
          go_meet
          exact ⟨by rw [hd], rfl⟩
    case rest =>
      obtain ⟨rfl, rfl⟩ := hcut
      by_cases hgo : m ≠ 0 ∧ ze = 0
      · rw [decide_eq_true hgo]
        obtain ⟨m, rfl⟩ : ∃ m', m = m' + 1 := ⟨m - 1, by have := hgo.1; omega⟩
        have HM := Lib.hid (many_goX Rd.ent m (Hze.out.trans hgo.2))
        have HOne := Lib.hid (HEn.out (w.heap.size + 1 + 1) rr)
        obtain ⟨⟨y, r2⟩, hy⟩ : ∃ q, rr.ent = q := ⟨_, rfl⟩
        rw [show Rd.ent rr = (y, r2) from hy] at HM HOne
        simp only [] at HM HOne
        clear hgo hy
        have hbl := TW.out.bs.lt
        have hcq := TW.out.q1
        have s1 : wc.cell? ⟨gq, 1, none⟩ = some (.slice A1 k c1) := TW.out.bs.cell 1
        go_upto_region 7 with fail
        refine tail_region (S := (fun w' => w'.cell? ⟨gq, 1, none⟩ = some (.slice A1 k c1))) 6 (.free 0 (.free 1 (.free 2 (.free 3 (.one 4 (.one 5 .tail)))))) (by kernel_rfl) (by kernel_rfl) (fun _ _ d _ _ h => by cases d <;> exact h) (s1) (fun hS => ?_)
        simp only [writtenT, List.drop_succ_cons, List.drop_zero, List.getElem?_cons_succ, List.getElem?_cons_zero]
        iterate 4
         refine rz_free (v := ?_) (by rfl) ?_ ?_; rotate_left 1; focus (intro w hSw; (try dsimp only at hSw); go_simp; (try with_reducible rfl))
         (try simp only [Act.put, tA, tB, tC])
        refine rz_call (by rfl) (fun K hK => ?_)
        go_simp
        (refine (HOne.out _ (TW.out.rd.bel (Below.refl _ _).drew)).mono ?_; rintro e w3 ⟨rfl, hr3, hg3⟩)
        (try go_wp2_with fail)
        refine hK.out _ _ ?_ (fun hS' => ?_)
        · (try dsimp only); exact grown_cell hg3 (by simp; omega) hS
        clear hS hK K
        have hS := hS'
        clear hS'
        (try simp only [Act.put, tA, tB, tC])
        refine rz_call (by rfl) (fun K hK => ?_)
        go_simp
        (skip)
        (try go_wp2_with fail)
        refine hK.out _ _ ?_ (fun hS' => ?_)
        · (try dsimp only); rw [World.cell?_alloc_lt _ _ _ (World.block_lt_of_cell? _ _ hS)]; exact hS
        clear hS hK K
        have hS := hS'
        clear hS'
        (try simp only [Act.put, tA, tB, tC])
        refine rz_done ?_
        have TW3 := Lib.hid ((TW.out.bel (Below.refl _ _).drew).go hr3 hg3)
        have HO3 := Lib.hid (own_c (own_below HO.out (Below.refl _ _).drew) hg3 (by omega))
        clear hr3 hg3 hS TW HO s1 hbl
        have hb3 := TW3.out.bs.lt
        go_wp2_with (at_builtin; go_must (refine appL_Ent (by rfl) (.tmp 37) (.tmp 40) (by rfl) (gq + 1) _ acc (by rfl) (by rw [Hkk.out]; exact own_below HO3.out ((Below.refl _ _).alloc (Nat.le_refl _) _)) _ [y] (by rfl) (one_Ent _ y _ 1 (by rfl) (by omega)) (by have := Hkk.out; simp; omega) (by simp; omega) ?_))
        intro v5 w5 ho5 hb5 hg5
        have hown : ∀ p, (Value.slice A1 k c1).ownBlock = some p → gq < p := fun p hp => by have := HO3.out.lt p hp; omega
        have TW5 := Lib.hid ((TW3.out.bel ((Below.refl _ _).alloc (Nat.le_refl _) _)).row hg5 hown)
        have ho5' : w5.ownsRow (gq + 1) 45 9 v5 (acc ++ [y]).length ((acc ++ [y]).flatMap entC) := by simpa using ho5
        obtain ⟨A5, c5, hv5⟩ := slLenX ho5'
        subst hv5
        have HO5 := Lib.hid ho5'
        clear ho5 ho5' hb5 hg5 hown TW3 HO3 hb3
        have hb5 := TW5.out.bs.lt
        have s1 : w5.cell? ⟨gq, 1, none⟩ = some (.slice A1 k c1) := TW5.out.bs.cell 1
        have f1 := TW5.out.bs.frozen 1
        go_wp2
        go_roundw
        case rel =>
          have hR := HR.out
          have hM := HM.out
          refine ⟨acc ++ [y], m, r2, A5, c5, by have := Hkk.out; simp; omega, by have := Hkk.out; simp; go_num, ?_, own_neX HO5.out (fun p hp => by have := HO5.out.lt p hp; omega) _ _, by simpa using (TW5.out.put 1 (.slice A5 (acc ++ [y]).length c5))⟩
          rw [hM] at hR
          exact ⟨by rw [hR.1]; simp, hR.2⟩
        case measure => simp [intOf]; omega
      · rw [decide_eq_false hgo]
        have hEnd : LE.1 = acc ∧ LE.2 = rr := by
          have hR := HR.out
          rcases Nat.eq_zero_or_pos m with h0 | h0
          · subst h0
            exact ⟨by rw [hR.1]; simp [Rd.many], hR.2⟩
          · have he : rr.e ≠ 0 := fun h => hgo ⟨by omega, Hze.out.symm.trans h⟩
            rw [many_stuck m he] at hR
            exact ⟨by rw [hR.1]; simp, hR.2⟩
        have HEnd := Lib.hid hEnd
        clear hEnd hgo hcl hce
        have HCr := Lib.hid (HC.out (w.heap.size + 1 + 1) LE.2)
        rw [← HEnd.out.2] at TW
        generalize Rd.list Rd.crs LE.2 = LC at *
        have hcq := TW.out.q1
        go_wp2_with fail
        refine (HCr.out _ TW.out.rd).mono ?_
        rintro e w3 ⟨u3, rfl, ho3, hr3, hg3⟩
        have TW3 := Lib.hid (TW.out.go hr3 hg3)
        have HOE := Lib.hid (own_c HO.out hg3 (by omega))
        have HOL := Lib.hid (own_lower ho3 TW.out.bs.lt)
        clear ho3 hr3 hg3 TW HO
        obtain ⟨A3, c3, hv3⟩ := slLenX HOL.out
        subst hv3
        obtain ⟨NL, hNL⟩ : ∃ N, LC.1.length = N := ⟨_, rfl⟩
        have HNL := Lib.hid hNL
        rw [hNL] at HOL
        simp only [hNL]
        clear hNL
        have hb3 := TW3.out.bs.lt
        have s2 : w3.cell? ⟨gq, 2, none⟩ = some (.slice none 0 0) := TW3.out.bs.cell 2
        have f2 := TW3.out.bs.frozen 2
        go_upto_region 9 with fail
        generalize hV : World.setCell _ _ _ = V at *
        have TV := Lib.hid (show TkW w ⟨a, b, p, n, s⟩ (w.heap.size + 1 + 1) gq (.slice A nx cv) x LC.2 #[.int .i64 F, .slice A1 k c1, .slice A3 NL c3] V from by rw [← hV]; exact TW3.out.put 2 (.slice A3 NL c3))
        have HVE := Lib.hid (show V.ownsRow (gq + 1) _ _ _ _ _ from by rw [← hV]; exact own_neX HOE.out (fun p hp => by have := HOE.out.lt p hp; omega) 2 (.slice A3 NL c3))
        have HVL := Lib.hid (show V.ownsRow (gq + 1) _ _ _ _ _ from by rw [← hV]; exact own_neX HOL.out (fun p hp => by have := HOL.out.lt p hp; omega) 2 (.slice A3 NL c3))
        clear hV TW3 HOE HOL hb3 s2 f2
        have hL : L = (⟨F, acc, LC.1⟩, LC.2) := by rw [HBs.out, HEnd.out.1]
        have HLq := Lib.hid hL
        obtain ⟨z, hz⟩ : ∃ z, LC.2.e = z := ⟨_, rfl⟩
        rw [show L.2.e = z from by rw [hL]; exact hz] at HQ
        have hce : V.cell? ⟨w.heap.size + 1 + 1, 2, none⟩ = some (.int .i64 z) := by have := TV.out.rd.e2; rw [hz] at this; exact this
        have hcl := TV.out.rd.lt
        have HsE := Lib.hid (show IsSl entC V (.slice A1 k c1) acc from by have h := HVE.out; rw [← Hkk.out] at h ⊢; exact owned_sl h)
        have HsL := Lib.hid (show IsSl crsC V (.slice A3 NL c3) LC.1 from by have h := HVL.out; rw [← HNL.out] at h ⊢; exact owned_sl h)
        rw [show L.1.f = F from by rw [hL], show L.1.es = acc from by rw [hL], show L.1.l = LC.1 from by rw [hL]] at HP
        rw [show L.1 = ⟨F, acc, LC.1⟩ from by rw [hL]] at HQ
        clear hL hz HBs
        have hrl := TV.out.res.lt
        have r0 : V.cell? ⟨w.heap.size + 1, 0, none⟩ = some (.int .i64 0) := TV.out.res.cell 0
        have r1 : V.cell? ⟨w.heap.size + 1, 1, none⟩ = some (.slice none 0 0) := TV.out.res.cell 1
        have r2 : V.cell? ⟨w.heap.size + 1, 2, none⟩ = some (.slice none 0 0) := TV.out.res.cell 2
        have e0 := TV.out.res.frozen 0
        have e1 := TV.out.res.frozen 1
        have e2 := TV.out.res.frozen 2
        have hwl := TV.out.old.size
        by_cases h0 : z = 0
        · subst h0
          rw [if_neg (by simp)] at HQ
          clear r0 r1 r2 e0 e1 e2
          have hgl := TV.out.cfg.has
          have hbl := TV.out.bs.lt
          obtain ⟨g0, g1, g2, g3, g4, -⟩ := TV.out.cfg
          have s0 : V.cell? ⟨gq, 0, none⟩ = some (.int .i64 F) := TV.out.bs.cell 0
          have s1 : V.cell? ⟨gq, 1, none⟩ = some (.slice A1 k c1) := TV.out.bs.cell 1
          have s2 : V.cell? ⟨gq, 2, none⟩ = some (.slice A3 NL c3) := TV.out.bs.cell 2
          go_wp2_with fail
          refine (HP.out _ _ _ HsE.out HsL.out).mono ?_
          rintro e w4 ⟨v4, rfl, ho4, hb4⟩
          have T4 := Lib.hid (TV.out.bel hb4)
          have HE4 := Lib.hid (own_below HVE.out hb4)
          have HL4 := Lib.hid (own_below HVL.out hb4)
          have HS4 := Lib.hid ho4.sl
          obtain ⟨A4, c4, rfl, -⟩ := ho4.sl
          clear ho4 hb4 TV HVE HVL g0 g1 g2 g3 g4 s0 s1 s2 hgl hbl hrl hce hcl
          generalize K.length = nK at *
          have hrl := T4.out.res.lt
          have r0 : w4.cell? ⟨w.heap.size + 1, 0, none⟩ = some (.int .i64 0) := T4.out.res.cell 0
          have r1 : w4.cell? ⟨w.heap.size + 1, 1, none⟩ = some (.slice none 0 0) := T4.out.res.cell 1
          have r2 : w4.cell? ⟨w.heap.size + 1, 2, none⟩ = some (.slice none 0 0) := T4.out.res.cell 2
          have e0 := T4.out.res.frozen 0
          have e1 := T4.out.res.frozen 1
          have e2 := T4.out.res.frozen 2
          have hbl := T4.out.bs.lt
          have s0 : w4.cell? ⟨gq, 0, none⟩ = some (.int .i64 F) := T4.out.bs.cell 0
          have s1 : w4.cell? ⟨gq, 1, none⟩ = some (.slice A1 k c1) := T4.out.bs.cell 1
          have s2 : w4.cell? ⟨gq, 2, none⟩ = some (.slice A3 NL c3) := T4.out.bs.cell 2
          have hgq : w.heap.size + 1 ≠ gq := by omega
          by_cases hk : kz = 0
          · subst hk
            obtain ⟨t, ht⟩ : ∃ t, decide (K = x) = t := ⟨_, rfl⟩
            rw [ht] at HBy
            have Ht := Lib.hid ht
            clear ht
            have HVx := Lib.hid (HV.out.below T4.out.old)
            go_wp2_with fail
            refine (HBy.out _ _ _ HS4.out HVx.out).mono ?_
            rintro e w5 ⟨rfl, rfl⟩
            cases t with
            | true =>
              rw [if_pos ⟨trivial, of_decide_eq_true Ht.out⟩] at HQ
              go_wp2
              refine bodyPost_ret (v := .tuple #[.agg #[.int .i64 F, .slice A1 k c1, .slice A3 NL c3], .int .i64 0]) (by simp [results, Tryz.results35, go_sem, r0, r1, r2]) rfl ⟨.slice A1 k c1, .slice A3 NL c3, by rw [HQ.out], ?_, ?_, ?_⟩
              · rw [HQ.out]
                have h := own_gtX (own_gtX (own_gtX HE4.out (show w.heap.size + 1 < gq + 1 by omega) 0 (.int .i64 F)) (show w.heap.size + 1 < gq + 1 by omega) 1 (.slice A1 k c1)) (show w.heap.size + 1 < gq + 1 by omega) 2 (.slice A3 NL c3)
                rw [← Hkk.out] at h ⊢
                exact own_lower h (by omega)
              · rw [HQ.out]
                have h := own_gtX (own_gtX (own_gtX HL4.out (show w.heap.size + 1 < gq + 1 by omega) 0 (.int .i64 F)) (show w.heap.size + 1 < gq + 1 by omega) 1 (.slice A1 k c1)) (show w.heap.size + 1 < gq + 1 by omega) 2 (.slice A3 NL c3)
                rw [← HNL.out] at h ⊢
                exact own_lower h (by omega)
              · exact ((T4.out.old.setCell (Nat.le_succ _) _).setCell (Nat.le_succ _) _).setCell (Nat.le_succ _) _
            | false =>
              rw [if_neg (fun h => of_decide_eq_false Ht.out h.2)] at HQ
              go_wp2
              refine bodyPost_ret (v := .tuple #[.agg #[.int .i64 0, .slice none 0 0, .slice none 0 0], .int .i64 4]) (by simp [results, Tryz.results35, go_sem, r0, r1, r2]) rfl ⟨.slice none 0 0, .slice none 0 0, by rw [HQ.out], ?_, ?_, ?_⟩
              · rw [HQ.out]; exact World.ownsRow_nil _ _ _ _
              · rw [HQ.out]; exact World.ownsRow_nil _ _ _ _
              · exact ((T4.out.old.setCell (Nat.le_succ _) _).setCell (Nat.le_succ _) _).setCell (Nat.le_succ _) _
          · rw [if_neg (fun h => hk h.1)] at HQ
            have hk' : (kz != 0) = true := by simpa using hk
            clear hk
            go_wp2
            refine bodyPost_ret (v := .tuple #[.agg #[.int .i64 0, .slice none 0 0, .slice none 0 0], .int .i64 4]) (by simp [results, Tryz.results35, go_sem, r0, r1, r2]) rfl ⟨.slice none 0 0, .slice none 0 0, by rw [HQ.out], ?_, ?_, ?_⟩
            · rw [HQ.out]; exact World.ownsRow_nil _ _ _ _
            · rw [HQ.out]; exact World.ownsRow_nil _ _ _ _
            · exact ((T4.out.old.setCell (Nat.le_succ _) _).setCell (Nat.le_succ _) _).setCell (Nat.le_succ _) _
        · rw [if_pos h0] at HQ
          have hz' : (z != 0) = true := by simpa using h0
          clear h0
          go_upto_region 10 with fail
          refine plan_region' (S := (fun w' => w'.cell? ⟨w.heap.size + 1 + 1, 2, none⟩ = some (.int .i64 z))) [(0, true), (1, true), (2, true), (3, true), (4, true), (5, false), (6, true)] (by kernel_rfl) (by kernel_rfl) (fun _ _ d _ _ h => by cases d <;> exact h) (hce) (fun hS => ?_)
          simp only [picked, List.getElem?_cons_succ, List.getElem?_cons_zero]
          iterate 5
           refine row_free (v := ?_) (by rfl) ?_ ?_; rotate_left 1; focus (intro w hSw; (try dsimp only at hSw); go_simp; (try with_reducible rfl))
           (try simp only [Act.put, tA, tB, tC])
          refine row_call (by rfl) (fun K hK => ?_)
          go_simp
          (skip)
          (try go_wp2_with fail)
          refine hK.out _ _ ?_ (fun hS' => ?_)
          · (try dsimp only); show (((V.setCell _ _).setCell _ _).setCell _ _).cell? _ = _; rw [World.cell?_setCell_other _ _ _ _ (by intro e; have := congrArg Addr.block e; simp at this), World.cell?_setCell_other _ _ _ _ (by intro e; have := congrArg Addr.block e; simp at this), World.cell?_setCell_other _ _ _ _ (by intro e; have := congrArg Addr.block e; simp at this)]; exact hS
          clear hS hK K
          have hS := hS'
          clear hS'
          (try simp only [Act.put, tA, tB, tC])
          refine row_free (v := ?_) (by rfl) ?_ ?_; rotate_left 1; focus (intro w hSw; (try dsimp only at hSw); go_simp; (try with_reducible rfl))
          (try simp only [Act.put, tA, tB, tC])
          refine row_done ?_
          have HSo := Lib.hid TV.out.old
          clear hS
          go_wp2
          refine bodyPost_ret (v := .tuple #[.agg #[.int .i64 0, .slice none 0 0, .slice none 0 0], .int .i64 z]) (by simp [results, Tryz.results35, go_sem, r0, r1, r2]) rfl ⟨.slice none 0 0, .slice none 0 0, by rw [HQ.out], ?_, ?_, ?_⟩
          · rw [HQ.out]; exact World.ownsRow_nil _ _ _ _
          · rw [HQ.out]; exact World.ownsRow_nil _ _ _ _
          · exact (((HSo.out.setCell (Nat.le_succ _) _).setCell (Nat.le_succ _) _).setCell (Nat.le_succ _) _).drew

end Go.Proofs.YtlpkaljepaclpaaGreat.Fx
