/- Package snapshot's reader: the contracts of read, Err, end, entity, message. -/
import Derived.Test.YtlpkaljepaclpaaGreatM11
import Derived.Test.YtlpkaljepaclpaaGreatM24
import Derived.Test.YtlpkaljepaclpaaGreatM20
import Derived.Test.YtlpkaljepaclpaaGreatM15
import Derived.Test.YtlpkaljepaclpaaGreatM19
namespace Go.Proofs.YtlpkaljepaclpaaGreat.Fx
open Go.ChangeShapes Go.WideShapes Go.ChangeAt Go.RowKit
set_option linter.unusedVariables false
set_option maxRecDepth 100000

/-- All but the blocks b and g stays. -/
structure Kp (b g : Nat) (w w' : World) : Prop where
  os : w'.os = w.os
  tape : w'.tape = w.tape
  output : w'.output = w.output
  size : w.heap.size ≤ w'.heap.size
  block : ∀ k, k < w.heap.size → k ≠ b → k ≠ g → w'.heap[k]? = w.heap[k]?

namespace Kp
variable {b g : Nat} {w w1 w2 : World}

theorem refl (b g : Nat) (w : World) : Kp b g w w := ⟨rfl, rfl, rfl, Nat.le_refl _, fun _ _ _ _ => rfl⟩
theorem trans (h : Kp b g w w1) (h' : Kp b g w1 w2) : Kp b g w w2 :=
  ⟨h'.os.trans h.os, h'.tape.trans h.tape, h'.output.trans h.output, Nat.le_trans h.size h'.size, fun k hk h1 h2 => (h'.block k (Nat.lt_of_lt_of_le hk h.size) h1 h2).trans (h.block k hk h1 h2)⟩
theorem of_g (h : w.grownBy w1 (some g)) : Kp b g w w1 := ⟨h.os, h.tape, h.output, h.size, fun k hk _ h2 => h.block k hk (by simpa using h2)⟩
theorem of_below (h : Below w.heap.size w w1) : Kp b g w w1 := ⟨h.os, h.tape, h.output, h.size, fun k hk _ _ => h.block k hk⟩
/-- What is older than both stays. -/
theorem below {B : Nat} {w0 : World} (h : Kp b g w w1) (h0 : Below B w0 w) (hb : B ≤ b) (hg : B ≤ g) (hB : B ≤ w.heap.size) : Below B w0 w1 :=
  ⟨h.os.trans h0.os, h.tape.trans h0.tape, h.output.trans h0.output, Nat.le_trans h0.size h.size, fun k hk => (h.block k (by omega) (by omega) (by omega)).trans (h0.block k hk)⟩
theorem set (h : Kp b g w w1) {c o : Nat} {v : Value} (hc : w.heap.size ≤ c) : Kp b g w (w1.setCell ⟨c, o, none⟩ v) :=
  ⟨h.os, h.tape, h.output, by simpa using h.size, fun k hk h1 h2 => by rw [Below.heap_setCell _ _ _ _ (show k ≠ c by omega)]; exact h.block k hk h1 h2⟩
theorem set2 (h : Kp b g w w1) {o : Nat} {v : Value} : Kp b g w (w1.setCell ⟨b, o, none⟩ v) :=
  ⟨h.os, h.tape, h.output, by simpa using h.size, fun k hk h1 h2 => by rw [Below.heap_setCell _ _ _ _ h1]; exact h.block k hk h1 h2⟩
theorem cell (h : Kp b g w w1) {a : Addr} {u : Value} (h1 : a.block ≠ b) (h2 : a.block ≠ g) (hc : w.cell? a = some u) : w1.cell? a = some u :=
  (World.cell?_of_block (w := w) (h.block a.block (World.block_lt_of_cell? _ _ hc) h1 h2)).trans hc
/-- A row that lies in neither. -/
theorem own (h : Kp b g w w1) {base e size n : Nat} {v : Value} {xs : List Value} (ho : w.ownsRow base e size v n xs) (hb : b < base) (hg : g < base) : w1.ownsRow base e size v n xs := by
  refine ⟨ho.1, ?_⟩
  rcases ho.2 with h2 | ⟨k, cap, cur, hv, hk, hc, r⟩
  · exact .inl h2
  · have hlt : k < w.heap.size := by
      rcases Nat.lt_or_ge k w.heap.size with h3 | h3
      · exact h3
      · rw [Array.getElem?_eq_none h3] at hc; cases hc
    exact .inr ⟨k, cap, cur, hv, hk, (h.block k hlt (by omega) (by omega)).trans hc, r⟩
end Kp

/-- The bytes lie ahead of the block g. -/
def Fro (g : Nat) : Nat → Prop := fun k => g ≤ k

/-- A reader in block b, over a Reader in block g. -/
structure SrAt (w : World) (b g : Nat) (r : Rd) (q : Bool) : Prop where
  ne : g < b
  lt : b < w.heap.size
  p : w.cell? ⟨b, 0, none⟩ = some (.pointer (some ⟨g, 0, none⟩))
  q : w.cell? ⟨b, 1, none⟩ = some (.bool q)
  f : w.frozen? ⟨b, 1, none⟩ = false
  rd : RdAt (Fro g) w g r

theorem RdAt.bel {S : Nat → Prop} {w w' : World} {b : Nat} {r : Rd} (h : RdAt S w b r) (hb : Below w.heap.size w w') : RdAt S w' b r := h.off hb.block hb.size

theorem SrAt.bel {w w' : World} {b g : Nat} {r : Rd} {q : Bool} (h : SrAt w b g r q) (hb : Below w.heap.size w w') : SrAt w' b g r q :=
  ⟨h.ne, Nat.lt_of_lt_of_le h.lt hb.size, (hb.cell (p := ⟨b, 0, none⟩) h.lt).trans h.p, (hb.cell (p := ⟨b, 1, none⟩) h.lt).trans h.q, (hb.frozen (p := ⟨b, 1, none⟩) h.lt).trans h.f, h.rd.bel hb⟩

/-- The Reader below was turned. -/
theorem SrAt.rdd {w w' : World} {b g : Nat} {r r' : Rd} {q : Bool} (h : SrAt w b g r q) (hg : w.grownBy w' (some g)) (hr : RdAt (Fro g) w' g r') : SrAt w' b g r' q :=
  ⟨h.ne, Nat.lt_of_lt_of_le h.lt hg.size, grown_cell hg (by have := h.ne; simp; omega) h.p, grown_cell hg (by have := h.ne; simp; omega) h.q, (grown_frozen hg h.lt (by have := h.ne; simp; omega)).trans h.f, hr⟩

theorem grown_setF (w : World) (c o : Nat) (v : Value) : w.grownBy (w.setCell ⟨c, o, none⟩ v) (some c) :=
  ⟨rfl, rfl, rfl, by simp, fun k hk hne => Below.heap_setCell _ _ _ _ (by intro e; apply hne; rw [e])⟩

/-- Another block behind g is written. -/
theorem SrAt.far {w : World} {b g : Nat} {r : Rd} {q : Bool} (h : SrAt w b g r q) {c : Nat} (h1 : c ≠ b) (h2 : g < c) (o : Nat) (v : Value) : SrAt (w.setCell ⟨c, o, none⟩ v) b g r q :=
  ⟨h.ne, by simpa using h.lt, by rw [World.cell?_setCell_other _ _ _ _ (by intro e; exact h1 (congrArg Addr.block e))]; exact h.p, by rw [World.cell?_setCell_other _ _ _ _ (by intro e; exact h1 (congrArg Addr.block e))]; exact h.q, by rw [World.frozen?_setCell]; exact h.f, h.rd.grown (grown_setF w c o v) (by omega) (Nat.le_of_lt h2)⟩

theorem EntBox.oth {w w' : World} {g b : Nat} {y : Ent} (h : EntBox w g y) (hg : w.grownBy w' (some b)) (hne : g ≠ b) : EntBox w' g y :=
  EntBox.of (fun q => World.cell?_of_block (a := ⟨g, q, none⟩) (hg.block g h.has (by simpa using hne))) (fun q => World.frozen?_of_block (a := ⟨g, q, none⟩) (hg.block g h.has (by simpa using hne))) h

/-- A reader that reads as r: one that is strange has seen its fault. -/
def Sr (w : World) (b g : Nat) (r : Rd) : Prop := SrAt w b g r false ∨ ∃ r', SrAt w b g r' true ∧ r = r'.bad

theorem Sr.bel {w w' : World} {b g : Nat} {r : Rd} (h : Sr w b g r) (hb : Below w.heap.size w w') : Sr w' b g r := by
  rcases h with h | ⟨r', h, e⟩
  · exact .inl (h.bel hb)
  · exact .inr ⟨r', h.bel hb, e⟩

/-- What may be read: bytes, not too many. -/
def Rd.fine (r : Rd) : Prop := ByOk r.l ∧ r.l.length ≤ 1000000
theorem Rd.fine.int {r : Rd} (h : r.fine) : r.int.2.fine := by
  unfold Rd.fine Rd.int at *
  split
  · exact h
  · split
    · exact ⟨fun x hx => by simp at hx, by simp⟩
    · split
      · exact ⟨fun x hx => by simp at hx, by simp⟩
      · exact ⟨h.1.dr _, by simp; omega⟩
theorem Rd.fine.nx {r : Rd} (h : r.fine) (k : Nat) : (r.nx k).fine := by
  induction k with
  | zero => exact h
  | succ k ih => exact ih.int
theorem Rd.fine.bad {r : Rd} (h : r.fine) : r.bad.fine := by
  unfold Rd.bad
  split
  · exact ⟨fun x hx => by simp at hx, by simp⟩
  · exact h
theorem Rd.fine.ent {r : Rd} (h : r.fine) : r.ent.2.fine := h.nx 9
theorem Rd.fine.crs {r : Rd} (h : r.fine) : r.crs.2.fine := by
  unfold Rd.crs
  split
  · exact (h.nx 4).ent
  · split
    · exact (h.nx 4).nx 2
    · exact (h.nx 4).bad

theorem rint_at (b g : Nat) (r : Rd) (w : World) (h : RdAt (Fro g) w g r) (hf : r.fine) :
    Calls Tryz.prog 140 #[.pointer (some ⟨g, 0, none⟩)] w fun e w' => e = .returned (.int .i64 r.int.1) ∧ RdAt (Fro g) w' g r.int.2 ∧ w.grownBy w' (some g) :=
  rint_any (Fro g) g r w h hf.1 (by have := hf.2; omega)

set_option maxHeartbeats 4000000 in
theorem sentity_any (b g : Nat) (r : Rd) (w : World) (h : SrAt w b g r false) (hf : r.fine) :
    Calls Tryz.prog 141 #[.pointer (some ⟨b, 0, none⟩)] w fun z w' => z = .returned (.agg #[.int .i64 r.ent.1.id, .int .i64 r.ent.1.kind, .int .i64 r.ent.1.x, .int .i64 r.ent.1.y, .int .i64 r.ent.1.vx, .int .i64 r.ent.1.vy, .int .i64 r.ent.1.health, .int .i64 r.ent.1.age, .int .i64 r.ent.1.owner]) ∧ SrAt w' b g r.ent.2 false ∧ Kp b g w w' := by
  have HS := Lib.hid h
  have HI := Lib.hid (fun k w h => rint_at b g (r.nx k) w h (hf.nx k))
  have HN := Lib.hid (fun k => show (r.nx k).int.1 = r.num k from rfl)
  have HE := Lib.hid (show r.ent = (⟨r.num 0, r.num 1, r.num 2, r.num 3, r.num 4, r.num 5, r.num 6, r.num 7, r.num 8⟩, r.nx 9) from rfl)
  have hbl := h.lt
  have hgb := h.ne
  generalize r.ent = RE at *
  clear h
  go_enter Tryz.func141, Tryz.ntmps141
  go_upto_region 1 with fail
  generalize hW : World.alloc _ _ = W
  have BE := Lib.hid (show EntBox W w.heap.size ⟨0, 0, 0, 0, 0, 0, 0, 0, 0⟩ from by rw [← hW]; exact EntBox.n1 _ ⟨0, 0, 0, 0, 0, 0, 0, 0, 0⟩ _ rfl)
  have HB := Lib.hid (show Below w.heap.size w W from by rw [← hW]; exact (Below.refl _ _).alloc (Nat.le_refl _) _)
  clear hW
  have HSW := Lib.hid (HS.out.bel HB.out)
  have hp := HSW.out.p
  refine tail_region (S := (fun w' => w'.cell? ⟨b, 0, none⟩ = some (.pointer (some ⟨g, 0, none⟩)))) 46 (.free 0 (.free 1 (.free 2 (.free 3 (.free 5 (.free 6 (.free 7 (.free 8 (.free 10 (.free 11 (.free 12 (.free 13 (.free 15 (.free 16 (.free 17 (.free 18 (.free 20 (.free 21 (.free 22 (.free 23 (.free 25 (.free 26 (.free 27 (.free 28 (.free 30 (.free 31 (.free 32 (.free 33 (.free 35 (.free 36 (.free 37 (.free 38 (.free 40 (.free 41 (.free 42 (.free 43 (.one 4 (.one 9 (.one 14 (.one 19 (.one 24 (.one 29 (.one 34 (.one 39 (.one 44 (.free 45 .tail)))))))))))))))))))))))))))))))))))))))))))))) (by kernel_rfl) (by kernel_rfl) (fun _ _ d _ _ h => by cases d <;> exact h) (hp) (fun hS => ?_)
  simp only [writtenT, List.drop_succ_cons, List.drop_zero, List.getElem?_cons_succ, List.getElem?_cons_zero]
  iterate 36
   refine rz_free (v := ?_) (by rfl) ?_ ?_; rotate_left 1; focus (intro w hSw; (try dsimp only at hSw); go_simp; (try with_reducible rfl))
   (try simp only [Act.put, tA, tB, tC])
  refine rz_call (by rfl) (fun K hK => ?_)
  go_simp
  (refine (HI.out 0 _ (HSW.out.rd.bel (Below.refl _ _).drew)).mono ?_; rintro e w1 ⟨rfl, h1, hg1⟩)
  (try go_wp2_with fail)
  refine hK.out _ _ ?_ (fun hS' => ?_)
  · (try dsimp only); first | exact grown_cell hg9 (by simpa using Nat.ne_of_gt HSW.out.ne) hS | exact grown_cell hg8 (by simpa using Nat.ne_of_gt HSW.out.ne) hS | exact grown_cell hg7 (by simpa using Nat.ne_of_gt HSW.out.ne) hS | exact grown_cell hg6 (by simpa using Nat.ne_of_gt HSW.out.ne) hS | exact grown_cell hg5 (by simpa using Nat.ne_of_gt HSW.out.ne) hS | exact grown_cell hg4 (by simpa using Nat.ne_of_gt HSW.out.ne) hS | exact grown_cell hg3 (by simpa using Nat.ne_of_gt HSW.out.ne) hS | exact grown_cell hg2 (by simpa using Nat.ne_of_gt HSW.out.ne) hS | exact grown_cell hg1 (by simpa using Nat.ne_of_gt HSW.out.ne) hS
  clear hS hK K
  have hS := hS'
  clear hS'
  (try simp only [Act.put, tA, tB, tC])
  refine rz_call (by rfl) (fun K hK => ?_)
  go_simp
  (refine (HI.out 1 _ (h1)).mono ?_; rintro e w2 ⟨rfl, h2, hg2⟩)
  (try go_wp2_with fail)
  refine hK.out _ _ ?_ (fun hS' => ?_)
  · (try dsimp only); first | exact grown_cell hg9 (by simpa using Nat.ne_of_gt HSW.out.ne) hS | exact grown_cell hg8 (by simpa using Nat.ne_of_gt HSW.out.ne) hS | exact grown_cell hg7 (by simpa using Nat.ne_of_gt HSW.out.ne) hS | exact grown_cell hg6 (by simpa using Nat.ne_of_gt HSW.out.ne) hS | exact grown_cell hg5 (by simpa using Nat.ne_of_gt HSW.out.ne) hS | exact grown_cell hg4 (by simpa using Nat.ne_of_gt HSW.out.ne) hS | exact grown_cell hg3 (by simpa using Nat.ne_of_gt HSW.out.ne) hS | exact grown_cell hg2 (by simpa using Nat.ne_of_gt HSW.out.ne) hS | exact grown_cell hg1 (by simpa using Nat.ne_of_gt HSW.out.ne) hS
  clear hS hK K
  have hS := hS'
  clear hS'
  (try simp only [Act.put, tA, tB, tC])
  refine rz_call (by rfl) (fun K hK => ?_)
  go_simp
  (refine (HI.out 2 _ (h2)).mono ?_; rintro e w3 ⟨rfl, h3, hg3⟩)
  (try go_wp2_with fail)
  refine hK.out _ _ ?_ (fun hS' => ?_)
  · (try dsimp only); first | exact grown_cell hg9 (by simpa using Nat.ne_of_gt HSW.out.ne) hS | exact grown_cell hg8 (by simpa using Nat.ne_of_gt HSW.out.ne) hS | exact grown_cell hg7 (by simpa using Nat.ne_of_gt HSW.out.ne) hS | exact grown_cell hg6 (by simpa using Nat.ne_of_gt HSW.out.ne) hS | exact grown_cell hg5 (by simpa using Nat.ne_of_gt HSW.out.ne) hS | exact grown_cell hg4 (by simpa using Nat.ne_of_gt HSW.out.ne) hS | exact grown_cell hg3 (by simpa using Nat.ne_of_gt HSW.out.ne) hS | exact grown_cell hg2 (by simpa using Nat.ne_of_gt HSW.out.ne) hS | exact grown_cell hg1 (by simpa using Nat.ne_of_gt HSW.out.ne) hS
  clear hS hK K
  have hS := hS'
  clear hS'
  (try simp only [Act.put, tA, tB, tC])
  refine rz_call (by rfl) (fun K hK => ?_)
  go_simp
  (refine (HI.out 3 _ (h3)).mono ?_; rintro e w4 ⟨rfl, h4, hg4⟩)
  (try go_wp2_with fail)
  refine hK.out _ _ ?_ (fun hS' => ?_)
  · (try dsimp only); first | exact grown_cell hg9 (by simpa using Nat.ne_of_gt HSW.out.ne) hS | exact grown_cell hg8 (by simpa using Nat.ne_of_gt HSW.out.ne) hS | exact grown_cell hg7 (by simpa using Nat.ne_of_gt HSW.out.ne) hS | exact grown_cell hg6 (by simpa using Nat.ne_of_gt HSW.out.ne) hS | exact grown_cell hg5 (by simpa using Nat.ne_of_gt HSW.out.ne) hS | exact grown_cell hg4 (by simpa using Nat.ne_of_gt HSW.out.ne) hS | exact grown_cell hg3 (by simpa using Nat.ne_of_gt HSW.out.ne) hS | exact grown_cell hg2 (by simpa using Nat.ne_of_gt HSW.out.ne) hS | exact grown_cell hg1 (by simpa using Nat.ne_of_gt HSW.out.ne) hS
  clear hS hK K
  have hS := hS'
  clear hS'
  (try simp only [Act.put, tA, tB, tC])
  refine rz_call (by rfl) (fun K hK => ?_)
  go_simp
  (refine (HI.out 4 _ (h4)).mono ?_; rintro e w5 ⟨rfl, h5, hg5⟩)
  (try go_wp2_with fail)
  refine hK.out _ _ ?_ (fun hS' => ?_)
  · (try dsimp only); first | exact grown_cell hg9 (by simpa using Nat.ne_of_gt HSW.out.ne) hS | exact grown_cell hg8 (by simpa using Nat.ne_of_gt HSW.out.ne) hS | exact grown_cell hg7 (by simpa using Nat.ne_of_gt HSW.out.ne) hS | exact grown_cell hg6 (by simpa using Nat.ne_of_gt HSW.out.ne) hS | exact grown_cell hg5 (by simpa using Nat.ne_of_gt HSW.out.ne) hS | exact grown_cell hg4 (by simpa using Nat.ne_of_gt HSW.out.ne) hS | exact grown_cell hg3 (by simpa using Nat.ne_of_gt HSW.out.ne) hS | exact grown_cell hg2 (by simpa using Nat.ne_of_gt HSW.out.ne) hS | exact grown_cell hg1 (by simpa using Nat.ne_of_gt HSW.out.ne) hS
  clear hS hK K
  have hS := hS'
  clear hS'
  (try simp only [Act.put, tA, tB, tC])
  refine rz_call (by rfl) (fun K hK => ?_)
  go_simp
  (refine (HI.out 5 _ (h5)).mono ?_; rintro e w6 ⟨rfl, h6, hg6⟩)
  (try go_wp2_with fail)
  refine hK.out _ _ ?_ (fun hS' => ?_)
  · (try dsimp only); first | exact grown_cell hg9 (by simpa using Nat.ne_of_gt HSW.out.ne) hS | exact grown_cell hg8 (by simpa using Nat.ne_of_gt HSW.out.ne) hS | exact grown_cell hg7 (by simpa using Nat.ne_of_gt HSW.out.ne) hS | exact grown_cell hg6 (by simpa using Nat.ne_of_gt HSW.out.ne) hS | exact grown_cell hg5 (by simpa using Nat.ne_of_gt HSW.out.ne) hS | exact grown_cell hg4 (by simpa using Nat.ne_of_gt HSW.out.ne) hS | exact grown_cell hg3 (by simpa using Nat.ne_of_gt HSW.out.ne) hS | exact grown_cell hg2 (by simpa using Nat.ne_of_gt HSW.out.ne) hS | exact grown_cell hg1 (by simpa using Nat.ne_of_gt HSW.out.ne) hS
  clear hS hK K
  have hS := hS'
  clear hS'
  (try simp only [Act.put, tA, tB, tC])
  refine rz_call (by rfl) (fun K hK => ?_)
  go_simp
  (refine (HI.out 6 _ (h6)).mono ?_; rintro e w7 ⟨rfl, h7, hg7⟩)
  (try go_wp2_with fail)
  refine hK.out _ _ ?_ (fun hS' => ?_)
  · (try dsimp only); first | exact grown_cell hg9 (by simpa using Nat.ne_of_gt HSW.out.ne) hS | exact grown_cell hg8 (by simpa using Nat.ne_of_gt HSW.out.ne) hS | exact grown_cell hg7 (by simpa using Nat.ne_of_gt HSW.out.ne) hS | exact grown_cell hg6 (by simpa using Nat.ne_of_gt HSW.out.ne) hS | exact grown_cell hg5 (by simpa using Nat.ne_of_gt HSW.out.ne) hS | exact grown_cell hg4 (by simpa using Nat.ne_of_gt HSW.out.ne) hS | exact grown_cell hg3 (by simpa using Nat.ne_of_gt HSW.out.ne) hS | exact grown_cell hg2 (by simpa using Nat.ne_of_gt HSW.out.ne) hS | exact grown_cell hg1 (by simpa using Nat.ne_of_gt HSW.out.ne) hS
  clear hS hK K
  have hS := hS'
  clear hS'
  (try simp only [Act.put, tA, tB, tC])
  refine rz_call (by rfl) (fun K hK => ?_)
  go_simp
  (refine (HI.out 7 _ (h7)).mono ?_; rintro e w8 ⟨rfl, h8, hg8⟩)
  (try go_wp2_with fail)
  refine hK.out _ _ ?_ (fun hS' => ?_)
  · (try dsimp only); first | exact grown_cell hg9 (by simpa using Nat.ne_of_gt HSW.out.ne) hS | exact grown_cell hg8 (by simpa using Nat.ne_of_gt HSW.out.ne) hS | exact grown_cell hg7 (by simpa using Nat.ne_of_gt HSW.out.ne) hS | exact grown_cell hg6 (by simpa using Nat.ne_of_gt HSW.out.ne) hS | exact grown_cell hg5 (by simpa using Nat.ne_of_gt HSW.out.ne) hS | exact grown_cell hg4 (by simpa using Nat.ne_of_gt HSW.out.ne) hS | exact grown_cell hg3 (by simpa using Nat.ne_of_gt HSW.out.ne) hS | exact grown_cell hg2 (by simpa using Nat.ne_of_gt HSW.out.ne) hS | exact grown_cell hg1 (by simpa using Nat.ne_of_gt HSW.out.ne) hS
  clear hS hK K
  have hS := hS'
  clear hS'
  (try simp only [Act.put, tA, tB, tC])
  refine rz_call (by rfl) (fun K hK => ?_)
  go_simp
  (refine (HI.out 8 _ (h8)).mono ?_; rintro e w9 ⟨rfl, h9, hg9⟩)
  (try go_wp2_with fail)
  refine hK.out _ _ ?_ (fun hS' => ?_)
  · (try dsimp only); first | exact grown_cell hg9 (by simpa using Nat.ne_of_gt HSW.out.ne) hS | exact grown_cell hg8 (by simpa using Nat.ne_of_gt HSW.out.ne) hS | exact grown_cell hg7 (by simpa using Nat.ne_of_gt HSW.out.ne) hS | exact grown_cell hg6 (by simpa using Nat.ne_of_gt HSW.out.ne) hS | exact grown_cell hg5 (by simpa using Nat.ne_of_gt HSW.out.ne) hS | exact grown_cell hg4 (by simpa using Nat.ne_of_gt HSW.out.ne) hS | exact grown_cell hg3 (by simpa using Nat.ne_of_gt HSW.out.ne) hS | exact grown_cell hg2 (by simpa using Nat.ne_of_gt HSW.out.ne) hS | exact grown_cell hg1 (by simpa using Nat.ne_of_gt HSW.out.ne) hS
  clear hS hK K
  have hS := hS'
  clear hS'
  (try simp only [Act.put, tA, tB, tC])
  refine rz_free (v := ?_) (by rfl) ?_ ?_; rotate_left 1; focus (intro w hSw; (try dsimp only at hSw); go_simp; (try with_reducible rfl))
  (try simp only [Act.put, tA, tB, tC])
  refine rz_done ?_
  have hgn : w.heap.size ≠ g := by omega
  have HWD := (nextW HB.out (Below.refl _ _).drew)
  have HSR := Lib.hid ((((((((((HSW.out.bel (Below.refl _ _).drew).rdd hg1 h1).rdd hg2 h2).rdd hg3 h3).rdd hg4 h4).rdd hg5 h5).rdd hg6 h6).rdd hg7 h7).rdd hg8 h8).rdd hg9 h9)
  have HKp := Lib.hid (show Kp b g w w9 from (((((((((Kp.of_below HWD).trans (Kp.of_g hg1)).trans (Kp.of_g hg2)).trans (Kp.of_g hg3)).trans (Kp.of_g hg4)).trans (Kp.of_g hg5)).trans (Kp.of_g hg6)).trans (Kp.of_g hg7)).trans (Kp.of_g hg8)).trans (Kp.of_g hg9))
  have BE9 := Lib.hid ((((((((((BE.out.drew).oth hg1 hgn).oth hg2 hgn).oth hg3 hgn).oth hg4 hgn).oth hg5 hgn).oth hg6 hgn).oth hg7 hgn).oth hg8 hgn).oth hg9 hgn)
  simp only [HN.out]
  clear h1 h2 h3 h4 h5 h6 h7 h8 h9 hg1 hg2 hg3 hg4 hg5 hg6 hg7 hg8 hg9 HWD BE HSW hS hp HI HN
  have hgl := BE9.out.has
  generalize hgx : w.heap.size = gx at *
  obtain ⟨c0, c1, c2, c3, c4, c5, c6, c7, c8, f0, f1, f2, f3, f4, f5, f6, f7, f8⟩ := BE9.out
  generalize r.num 0 = n0 at *
  generalize r.num 1 = n1 at *
  generalize r.num 2 = n2 at *
  generalize r.num 3 = n3 at *
  generalize r.num 4 = n4 at *
  generalize r.num 5 = n5 at *
  generalize r.num 6 = n6 at *
  generalize r.num 7 = n7 at *
  generalize r.num 8 = n8 at *
  go_wp2
  refine bodyPost_ret (v := .agg #[.int .i64 (⟨n0, n1, n2, n3, n4, n5, n6, n7, n8⟩ : Ent).id, .int .i64 (⟨n0, n1, n2, n3, n4, n5, n6, n7, n8⟩ : Ent).kind, .int .i64 (⟨n0, n1, n2, n3, n4, n5, n6, n7, n8⟩ : Ent).x, .int .i64 (⟨n0, n1, n2, n3, n4, n5, n6, n7, n8⟩ : Ent).y, .int .i64 (⟨n0, n1, n2, n3, n4, n5, n6, n7, n8⟩ : Ent).vx, .int .i64 (⟨n0, n1, n2, n3, n4, n5, n6, n7, n8⟩ : Ent).vy, .int .i64 (⟨n0, n1, n2, n3, n4, n5, n6, n7, n8⟩ : Ent).health, .int .i64 (⟨n0, n1, n2, n3, n4, n5, n6, n7, n8⟩ : Ent).age, .int .i64 (⟨n0, n1, n2, n3, n4, n5, n6, n7, n8⟩ : Ent).owner]) (by simp [results, Tryz.results141, go_sem, c0, c1, c2, c3, c4, c5, c6, c7, c8]) rfl ⟨by rw [HE.out], ?_, ?_⟩
  · rw [HE.out]
    iterate 9 (refine SrAt.far ?_ (by omega) (by omega) _ _)
    exact HSR.out
  · iterate 9 (refine Kp.set ?_ (by omega))
    exact HKp.out

end Go.Proofs.YtlpkaljepaclpaaGreat.Fx
