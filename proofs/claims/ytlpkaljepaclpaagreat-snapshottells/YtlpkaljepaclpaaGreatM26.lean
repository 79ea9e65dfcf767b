/- Package snapshot's reader: the world between, with a box in it. Package snapshot's reader: read, Err, end. -/
import Derived.Test.YtlpkaljepaclpaaGreatM25
import Derived.Deep.DeepCutAuto
namespace Go.Proofs.YtlpkaljepaclpaaGreat.Fx
open Go.ChangeShapes Go.WideShapes Go.ChangeAt Go.RowKit
set_option linter.unusedVariables false
set_option maxRecDepth 100000

theorem CrsBox.oth' {w w' : World} {g b : Nat} {y : Crs} (h : CrsBox w g y) (hg : w.grownBy w' (some b)) (hne : g ≠ b) : CrsBox w' g y :=
  CrsBox.of (fun q => World.cell?_of_block (a := ⟨g, q, none⟩) (hg.block g h.has (by simpa using hne))) (fun q => World.frozen?_of_block (a := ⟨g, q, none⟩) (hg.block g h.has (by simpa using hne))) h

theorem CrsBox.kp {w w' : World} {b g c : Nat} {y : Crs} (h : CrsBox w c y) (hk : Kp b g w w') (h1 : c ≠ b) (h2 : c ≠ g) : CrsBox w' c y :=
  CrsBox.of (fun q => World.cell?_of_block (a := ⟨c, q, none⟩) (hk.block c h.has h1 h2)) (fun q => World.frozen?_of_block (a := ⟨c, q, none⟩) (hk.block c h.has h1 h2)) h

/-- The world between, with a box in it. -/
def Mid (b g gx : Nat) (y : Crs) (r : Rd) (W w : World) : Prop := CrsBox w gx y ∧ SrAt w b g r false ∧ Kp b g W w ∧ W.heap.size ≤ gx

theorem Mid.new {b g : Nat} {r : Rd} {W w : World} (t : TypeId) (hs : SrAt w b g r false) (hk : Kp b g W w) : Mid b g w.heap.size ⟨0, 0, 0, 0, e0, 0, 0⟩ r W (w.alloc (.cells #[.int .i64 0, .int .i64 0, .int .i64 0, .int .i64 0, .int .i64 0, .int .i64 0, .int .i64 0, .int .i64 0, .int .i64 0, .int .i64 0, .int .i64 0, .int .i64 0, .int .i64 0, .int .i64 0, .int .i64 0] t)) :=
  ⟨CrsBox.n1 w _ _ rfl, hs.bel ((Below.refl _ _).alloc (Nat.le_refl _) _), hk.trans (Kp.of_below ((Below.refl _ _).alloc (Nat.le_refl _) _)), hk.size⟩

theorem Mid.bel {b g gx : Nat} {y : Crs} {r : Rd} {W w w' : World} (h : Mid b g gx y r W w) (hb : Below w.heap.size w w') : Mid b g gx y r W w' :=
  ⟨h.1.below hb h.1.has, h.2.1.bel hb, h.2.2.1.trans (Kp.of_below hb), h.2.2.2⟩

theorem Mid.go {b g gx : Nat} {y : Crs} {r r' : Rd} {W w w' : World} (h : Mid b g gx y r W w) (hb : b < W.heap.size) (hr : RdAt (Fro g) w' g r') (hg : w.grownBy w' (some g)) : Mid b g gx y r' W w' := by
  obtain ⟨h1, h2, h3, h4⟩ := h
  exact ⟨h1.oth' hg (by have := h2.ne; omega), h2.rdd hg hr, h3.trans (Kp.of_g hg), h4⟩

theorem Mid.put {b g gx : Nat} {y : Crs} {r : Rd} {W w : World} (h : Mid b g gx y r W w) (hb : b < W.heap.size) (z : Crs) : Mid b g gx z r W (((((((((((((((w.setCell ⟨gx, 0, none⟩ (.int .i64 z.kind)).setCell ⟨gx, 1, none⟩ (.int .i64 z.src)).setCell ⟨gx, 2, none⟩ (.int .i64 z.dst)).setCell ⟨gx, 3, none⟩ (.int .i64 z.frame)).setCell ⟨gx, 4, none⟩ (.int .i64 z.e.id)).setCell ⟨gx, 5, none⟩ (.int .i64 z.e.kind)).setCell ⟨gx, 6, none⟩ (.int .i64 z.e.x)).setCell ⟨gx, 7, none⟩ (.int .i64 z.e.y)).setCell ⟨gx, 8, none⟩ (.int .i64 z.e.vx)).setCell ⟨gx, 9, none⟩ (.int .i64 z.e.vy)).setCell ⟨gx, 10, none⟩ (.int .i64 z.e.health)).setCell ⟨gx, 11, none⟩ (.int .i64 z.e.age)).setCell ⟨gx, 12, none⟩ (.int .i64 z.e.owner)).setCell ⟨gx, 13, none⟩ (.int .i64 z.x)).setCell ⟨gx, 14, none⟩ (.int .i64 z.y)) := by
  obtain ⟨h1, h2, h3, h4⟩ := h
  have := h2.ne
  refine ⟨h1.put z, ?_, ?_, h4⟩
  · iterate 15 (refine SrAt.far ?_ (by omega) (by omega) _ _)
    exact h2
  · iterate 15 (refine Kp.set ?_ h4)
    exact h3

/-- A strange message was met. -/
theorem SrAt.strange {w : World} {b g : Nat} {r : Rd} {q : Bool} (h : SrAt w b g r q) : SrAt (w.setCell ⟨b, 1, none⟩ (.bool true)) b g r true :=
  ⟨h.ne, by simpa using h.lt, by rw [World.cell?_setCell_other _ _ _ _ (by simp)]; exact h.p, World.cell?_setCell_same _ _ _ h.q, by rw [World.frozen?_setCell]; exact h.f, h.rd.grown (grown_setF w b 1 _) (by have := h.ne; omega) (Nat.le_of_lt h.ne)⟩

theorem rint_nx (b g : Nat) (r : Rd) (hf : r.fine) (k k' : Nat) (hk : k' = k + 1) (w : World) (h : RdAt (Fro g) w g (r.nx k)) :
    Calls Tryz.prog 140 #[.pointer (some ⟨g, 0, none⟩)] w fun e w' => e = .returned (.int .i64 (r.num k)) ∧ RdAt (Fro g) w' g (r.nx k') ∧ w.grownBy w' (some g) := by
  subst hk
  exact rint_at b g (r.nx k) w h (hf.nx k)

end Go.Proofs.YtlpkaljepaclpaaGreat.Fx
namespace Go.Proofs.YtlpkaljepaclpaaGreat.Fx
open Go.ChangeShapes Go.WideShapes Go.ChangeAt Go.RowKit
set_option linter.unusedVariables false
set_option maxRecDepth 100000

theorem SrAt.sr {w : World} {b g : Nat} {r : Rd} (h : SrAt w b g r false) : Sr w b g r := .inl h

theorem Sr.plain {w : World} {b g : Nat} {r : Rd} (h : Sr w b g r) (he : r.e = 0) : SrAt w b g r false := by
  rcases h with h | ⟨r', h, rfl⟩
  · exact h
  · exfalso
    unfold Rd.bad at he
    split at he
    · simp at he
    · rename_i h2; exact h2 he

theorem read_sn (v : Value) (l : List Int) (w : World) (hv : IsSl byC w v l) (hn : l.length ≤ 1000000) :
    Calls Tryz.prog 72 #[v] w fun z w' => ∃ b g, z = .returned (.pointer (some ⟨b, 0, none⟩)) ∧ w.heap.size ≤ g ∧ SrAt w' b g ⟨l, 0⟩ false ∧ Below w.heap.size w w' := by
  have HR := Lib.hid (read_any v l w hv hn)
  obtain ⟨A, c, rfl, -⟩ := hv
  go_enter Tryz.func72, Tryz.ntmps72
  go_wp2_with fail
  refine HR.out.mono ?_
  rintro e w1 ⟨g, rfl, hg1, hg2, hr, hb⟩
  have H1 := Lib.hid (And.intro (hr (Fro g) (Nat.le_refl _) (fun k hk => .inr hk)) hb)
  clear hr hb
  go_wp2
  go_ret
  exact ⟨_, _, rfl, hg1, ⟨hg2, by simp, by rw [World.cell?_alloc_new]; rfl, by rw [World.cell?_alloc_new]; rfl, World.frozen?_alloc_new _ _ _ _, H1.out.1.bel ((Below.refl _ _).alloc (Nat.le_refl _) _)⟩, H1.out.2.alloc H1.out.2.size _⟩

theorem serr_any (b g : Nat) (r : Rd) (w : World) (h : Sr w b g r) : Calls Tryz.prog 139 #[.pointer (some ⟨b, 0, none⟩)] w fun z w' => z = .returned (.int .i64 r.e) ∧ w = w' := by
  rcases h with h | ⟨r', h, rfl⟩
  · have HE := Lib.hid (rerr_any (Fro g) g r w h.rd)
    have hp := h.p
    have hq := h.q
    have hl := h.lt
    clear h
    obtain ⟨x, hx⟩ : ∃ x, r.e = x := ⟨_, rfl⟩
    rw [hx] at HE ⊢
    clear hx
    by_cases h0 : x = 0
    · subst h0
      go_enter Tryz.func139, Tryz.ntmps139
      go_wp2_with fail
      refine HE.out.mono ?_
      rintro e w1 ⟨rfl, rfl⟩
      go_wp2
      go_ret
      exact ⟨rfl, rfl⟩
    · have h1 : (x != 0) = true := by simpa using h0
      clear h0
      go_enter Tryz.func139, Tryz.ntmps139
      go_wp2_with fail
      refine HE.out.mono ?_
      rintro e w1 ⟨rfl, rfl⟩
      go_wp2
      go_ret
      exact ⟨rfl, rfl⟩
  · have HE := Lib.hid (rerr_any (Fro g) g r' w h.rd)
    have hp := h.p
    have hq := h.q
    have hl := h.lt
    clear h
    have HB := Lib.hid (show r'.bad.e = if r'.e = 0 then 4 else r'.e from by unfold Rd.bad; split <;> rfl)
    generalize r'.bad.e = z at *
    obtain ⟨x, hx⟩ : ∃ x, r'.e = x := ⟨_, rfl⟩
    rw [hx] at HE HB
    clear hx
    by_cases h0 : x = 0
    · subst h0
      rw [if_pos rfl] at HB
      go_enter Tryz.func139, Tryz.ntmps139
      go_wp2_with fail
      refine HE.out.mono ?_
      rintro e w1 ⟨rfl, rfl⟩
      go_wp2
      go_ret
      exact ⟨by rw [HB.out]; first | done | rfl, rfl⟩
    · have h1 : (x != 0) = true := by simpa using h0
      rw [if_neg h0] at HB
      clear h0
      go_enter Tryz.func139, Tryz.ntmps139
      go_wp2_with fail
      refine HE.out.mono ?_
      rintro e w1 ⟨rfl, rfl⟩
      go_wp2
      go_ret
      exact ⟨by rw [HB.out]; first | done | rfl, rfl⟩

/-- Why what was read is not all. -/
def Rd.why (r : Rd) : Int := if r.e = 0 ∧ 0 < r.l.length then 4 else r.e

theorem send_any (b g : Nat) (r : Rd) (w : World) (h : Sr w b g r) : Calls Tryz.prog 75 #[.pointer (some ⟨b, 0, none⟩)] w fun z w' => z = .returned (.int .i64 r.why) ∧ w = w' := by
  have HE := Lib.hid (serr_any b g r w h)
  have HW := Lib.hid (show r.why = if r.e = 0 ∧ 0 < r.l.length then 4 else r.e from rfl)
  generalize r.why = z at *
  by_cases he : r.e = 0
  · have hs := h.plain he
    have HL := Lib.hid (rleft_any (Fro g) g r w hs.rd)
    have hp := hs.p
    have hl := hs.lt
    rw [he] at HE HW
    generalize r.l.length = n at *
    clear h hs he
    by_cases hn : 0 < n
    · rw [if_pos ⟨rfl, hn⟩] at HW
      have hn' : (0 : Int) < (n : Int) := by omega
      go_enter Tryz.func75, Tryz.ntmps75
      go_wp2_with fail
      refine HE.out.mono ?_
      rintro e w1 ⟨rfl, rfl⟩
      go_wp2_with fail
      refine HL.out.mono ?_
      rintro e w1 ⟨rfl, rfl⟩
      go_wp2
      go_ret
      exact ⟨by rw [HW.out]; first | done | rfl, rfl⟩
    · rw [if_neg (fun h => hn h.2)] at HW
      obtain rfl : n = 0 := by omega
      go_enter Tryz.func75, Tryz.ntmps75
      go_wp2_with fail
      refine HE.out.mono ?_
      rintro e w1 ⟨rfl, rfl⟩
      go_wp2_with fail
      refine HL.out.mono ?_
      rintro e w1 ⟨rfl, rfl⟩
      go_wp2_with fail
      refine HE.out.mono ?_
      rintro e w1 ⟨rfl, rfl⟩
      go_wp2
      go_ret
      exact ⟨by rw [HW.out]; first | done | rfl, rfl⟩
  · rw [if_neg (fun h => he h.1)] at HW
    generalize r.e = x at *
    have h1 : (x == 0) = false := by simpa using he
    clear he h
    go_enter Tryz.func75, Tryz.ntmps75
    iterate 2
     go_wp2_with fail
     refine HE.out.mono ?_
     rintro e w1 ⟨rfl, rfl⟩
    go_wp2
    go_ret
    exact ⟨by rw [HW.out]; first | done | rfl, rfl⟩

end Go.Proofs.YtlpkaljepaclpaaGreat.Fx
