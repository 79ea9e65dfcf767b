/- A region on its way through one frame: the turn in its box, its list, and what goes out, each in a row of its own. What a turn leaves alone: all that is older than B, and every block that is no row of entities, of messages, and no turn. The turn's small calls: room, number, below, place. The numbers of the players of a list (region.players); how many gems there are. The turn's call add: a new thing comes into the list. A region that nothing was put into, in a new box. -/
import Derived.Test.YtfpofegfbinalaaGreatM03
import Derived.Test.YtfpofegfbinalaaGreatM02
import Derived.Test.YtfpofegfbinalaaGreatM04
import Derived.Deep.Onto
import Derived.Lib.Hide
import Derived.Test.YtfpofegfbinalaaGreatM14
import Derived.Test.YtfpofegfbinalaaGreatM07
import Derived.Test.YtfpofegfbinalaaGreatM05
import Derived.Test.YtfpofegfbinalaaGreatM01
import Derived.Test.YtfpofegfbinalaaGreatM16
namespace Go.Proofs.YtfpofegfbinalaaGreat.Fx
open Go.ChangeShapes Go.WideShapes Go.ChangeAt Go.RowKit
set_option linter.unusedVariables false
set_option maxRecDepth 100000

theorem grown_set (w : World) (b o : Nat) (v : Value) : w.grownBy (w.setCell ⟨b, o, none⟩ v) (some b) :=
  ⟨rfl, rfl, rfl, by simp, fun k _ hk => Below.heap_setCell _ _ _ k (fun e => hk (by rw [e]))⟩

theorem Blk.kept {w w' : World} {g : Nat} {t : TypeId} {cur : Array Value} {row : Option Nat} (h : Blk w g t cur) (hg : w.grownBy w' row) (hne : some g ≠ row) : Blk w' g t cur := by
  unfold Blk at *
  rw [hg.block g (Array.getElem?_eq_some_iff.1 h).1 hne]
  exact h

/-- A row is no block of another type. -/
theorem own_ne {w : World} {base size n b : Nat} {e t : TypeId} {v : Value} {xs : List Value} {cur : Array Value} (h : w.ownsRow base e size v n xs) (hb : Blk w b t cur) (hne : e ≠ t) : some b ≠ v.ownBlock := by
  rcases h.2 with ⟨rfl, -⟩ | ⟨g, cap, c, rfl, -, hg, -⟩
  · simp [Value.ownBlock]
  · intro hh
    simp only [Value.ownBlock, Option.some.injEq] at hh
    subst hh
    unfold Blk at hb
    rw [hb] at hg
    simp only [Option.some.injEq, Obj.cells.injEq] at hg
    exact hne hg.2.1.symm

theorem own_apart {w : World} {base base' size size' n n' : Nat} {e t : TypeId} {v v' : Value} {xs xs' : List Value} (h : w.ownsRow base e size v n xs) (h' : w.ownsRow base' t size' v' n' xs') (hne : e ≠ t) : v'.ownBlock = none ∨ v'.ownBlock ≠ v.ownBlock := by
  rcases h'.2 with ⟨rfl, -⟩ | ⟨g, cap, c, rfl, -, hg, -⟩
  · exact .inl rfl
  · exact .inr (own_ne (cur := c) h hg hne)

/-- The turn T lies in block b; its list is L, and what goes out O. -/
structure Turn (B : Nat) (w : World) (b : Nat) (T : Trn) (L : List Ent) (O : List Crs) : Prop where
  blk : Blk w b 95 (trnC T).toArray
  le : B ≤ b
  list : w.ownsRow B 45 9 T.list L.length (L.flatMap entC)
  out : w.ownsRow B 50 15 T.out O.length (O.flatMap crsC)

namespace Turn
variable {B b : Nat} {w w' : World} {T : Trn} {L : List Ent} {O : List Crs}

theorem box (h : Turn B w b T L O) : TrnBox w b T := by
  constructor
  all_goals first | exact h.blk.frozen _ | (rw [h.blk.cell]; rfl)

theorem size (h : Turn B w b T L O) : B ≤ w.heap.size := Nat.le_trans h.le (Nat.le_of_lt h.blk.lt)

theorem nx (h : Turn B w b T L O) (hb : Below w.heap.size w w') : Turn B w' b T L O :=
  ⟨h.blk.below hb h.blk.lt, h.le, own_below h.list hb, own_below h.out hb⟩

theorem drew (h : Turn B w b T L O) : Turn B w.drew b T L O := h.nx (Below.refl _ _).drew

theorem alloc (h : Turn B w b T L O) (o : Obj) : Turn B (w.alloc o) b T L O := h.nx ((Below.refl _ _).alloc (Nat.le_refl _) _)

theorem sl (h : Turn B w b T L O) : IsSl entC w T.list L := owned_sl h.list

theorem osl (h : Turn B w b T L O) : IsSl crsC w T.out O := owned_sl h.out

/-- A cell of the box is written. -/
theorem set7 (h : Turn B w b T L O) {v : Value} {L' : List Ent} (hv : w.ownsRow B 45 9 v L'.length (L'.flatMap entC)) : Turn B (w.setCell ⟨b, 7, none⟩ v) b ⟨T.cols, T.rows, T.players, T.window, T.seed, T.reg, T.frame, v, T.made, T.out⟩ L' O :=
  ⟨by have := h.blk.put 7 v; exact this, h.le, hv.kept (grown_set w b 7 v) (.inr (Ne.symm (own_ne hv h.blk (by decide)))), h.out.kept (grown_set w b 7 v) (.inr (Ne.symm (own_ne h.out h.blk (by decide))))⟩

theorem set8 (h : Turn B w b T L O) (m : Int) : Turn B (w.setCell ⟨b, 8, none⟩ (.int .i64 m)) b ⟨T.cols, T.rows, T.players, T.window, T.seed, T.reg, T.frame, T.list, m, T.out⟩ L O :=
  ⟨by have := h.blk.put 8 (.int .i64 m); exact this, h.le, h.list.kept (grown_set w b 8 _) (.inr (Ne.symm (own_ne h.list h.blk (by decide)))), h.out.kept (grown_set w b 8 _) (.inr (Ne.symm (own_ne h.out h.blk (by decide))))⟩

theorem set9 (h : Turn B w b T L O) {v : Value} {O' : List Crs} (hv : w.ownsRow B 50 15 v O'.length (O'.flatMap crsC)) : Turn B (w.setCell ⟨b, 9, none⟩ v) b ⟨T.cols, T.rows, T.players, T.window, T.seed, T.reg, T.frame, T.list, T.made, v⟩ L O' :=
  ⟨by have := h.blk.put 9 v; exact this, h.le, h.list.kept (grown_set w b 9 v) (.inr (Ne.symm (own_ne h.list h.blk (by decide)))), hv.kept (grown_set w b 9 v) (.inr (Ne.symm (own_ne hv h.blk (by decide))))⟩

/-- What goes out has grown. -/
theorem grownO (h : Turn B w b T L O) (hg : w.grownBy w' T.out.ownBlock) (hw : B ≤ w'.heap.size) {O' : List Crs} (hv : w'.ownsRow B 50 15 T.out O'.length (O'.flatMap crsC)) : Turn B w' b T L O' :=
  ⟨h.blk.kept hg (own_ne h.out h.blk (by decide)), h.le, h.list.kept hg (own_apart h.out h.list (by decide)), hv⟩

/-- An append to what goes out. -/
theorem pushO (h : Turn B w b T L O) (hg : w.grownBy w' T.out.ownBlock) {v : Value} {O' : List Crs} (hv : w'.ownsRow B 50 15 v O'.length (O'.flatMap crsC)) : Turn B (w'.setCell ⟨b, 9, none⟩ v) b ⟨T.cols, T.rows, T.players, T.window, T.seed, T.reg, T.frame, T.list, T.made, v⟩ L O' := by
  have h1 : Blk w' b 95 (trnC T).toArray := h.blk.kept hg (own_ne h.out h.blk (by decide))
  have h2 := h.list.kept hg (own_apart h.out h.list (by decide))
  exact ⟨by have := h1.put 9 v; exact this, h.le, h2.kept (grown_set w' b 9 v) (.inr (Ne.symm (own_ne h2 h1 (by decide)))), hv.kept (grown_set w' b 9 v) (.inr (Ne.symm (own_ne hv h1 (by decide))))⟩

/-- What is newer is none of its blocks. -/
theorem newer (h : Turn B w b T L O) {p : Nat} (hp : w.heap.size ≤ p) : b ≠ p ∧ some p ≠ T.list.ownBlock ∧ some p ≠ T.out.ownBlock :=
  ⟨by have := h.blk.lt; omega, fun hh => by have := (h.list.lt _ hh.symm).2; omega, fun hh => by have := (h.out.lt _ hh.symm).2; omega⟩

theorem far (h : Turn B w b T L O) {p : Nat} (hg : w.grownBy w' (some p)) (hp : b ≠ p ∧ some p ≠ T.list.ownBlock ∧ some p ≠ T.out.ownBlock) : Turn B w' b T L O :=
  ⟨h.blk.kept hg (fun e => hp.1 (Option.some.inj e)), h.le, h.list.kept hg (.inr (Ne.symm hp.2.1)), h.out.kept hg (.inr (Ne.symm hp.2.2))⟩

/-- The list is written in place. -/
theorem putL (h : Turn B w b T L O) (hg : w.grownBy w' T.list.ownBlock) {L' : List Ent} (hv : w'.ownsRow B 45 9 T.list L'.length (L'.flatMap entC)) : Turn B w' b T L' O :=
  ⟨h.blk.kept hg (own_ne h.list h.blk (by decide)), h.le, hv, h.out.kept hg (own_apart h.list h.out (by decide))⟩

end Turn

end Go.Proofs.YtfpofegfbinalaaGreat.Fx
namespace Go.Proofs.YtfpofegfbinalaaGreat.Fx
open Go.ChangeShapes Go.WideShapes Go.ChangeAt Go.RowKit
set_option linter.unusedVariables false
set_option maxRecDepth 100000

/-- Block k is a row of entities, of messages, or a turn. -/
def Mine (w : World) (k : Nat) : Prop := ∃ t cur, Blk w k t cur ∧ (t = 45 ∨ t = 50 ∨ t = 95)

structure Kept (B : Nat) (w w' : World) : Prop where
  os : w'.os = w.os
  tape : w'.tape = w.tape
  output : w'.output = w.output
  size : w.heap.size ≤ w'.heap.size
  block : ∀ k, k < w.heap.size → k < B ∨ ¬ Mine w k → w'.heap[k]? = w.heap[k]?

theorem Mine.of {w w' : World} {k : Nat} (h : Mine w k) (e : w'.heap[k]? = w.heap[k]?) : Mine w' k := by
  obtain ⟨t, cur, h1, h2⟩ := h
  exact ⟨t, cur, by unfold Blk at *; rw [e]; exact h1, h2⟩

namespace Kept
variable {B : Nat} {w w1 w2 : World}

theorem refl (B : Nat) (w : World) : Kept B w w := ⟨rfl, rfl, rfl, Nat.le_refl _, fun _ _ _ => rfl⟩

theorem trans (h : Kept B w w1) (h' : Kept B w1 w2) : Kept B w w2 := by
  refine ⟨h'.os.trans h.os, h'.tape.trans h.tape, h'.output.trans h.output, Nat.le_trans h.size h'.size, fun k hk hc => ?_⟩
  have e1 := h.block k hk hc
  rw [h'.block k (Nat.lt_of_lt_of_le hk h.size) (hc.imp id fun hn hm => hn (hm.of e1.symm)), e1]

theorem of_below (B : Nat) (hb : Below w.heap.size w w1) : Kept B w w1 := ⟨hb.os, hb.tape, hb.output, hb.size, fun k hk _ => hb.block k hk⟩

theorem below (h : Kept B w w1) (hb : Below w1.heap.size w1 w2) : Kept B w w2 := h.trans (of_below B hb)

theorem drew (h : Kept B w w1) : Kept B w w1.drew := ⟨h.os, h.tape, h.output, h.size, h.block⟩

theorem alloc (h : Kept B w w1) (o : Obj) : Kept B w (w1.alloc o) := h.below ((Below.refl _ _).alloc (Nat.le_refl _) _)

theorem of_grown {row : Option Nat} (hg : w1.grownBy w2 row) (hr : ∀ p, row = some p → p < w1.heap.size → B ≤ p ∧ Mine w1 p) : Kept B w1 w2 := by
  refine ⟨hg.os, hg.tape, hg.output, hg.size, fun k hk hc => ?_⟩
  refine hg.block k hk fun e => ?_
  obtain ⟨h1, h2⟩ := hr k e.symm hk
  rcases hc with hc | hc
  · omega
  · exact hc h2

theorem grown (h : Kept B w w1) {row : Option Nat} (hg : w1.grownBy w2 row) (hr : ∀ p, row = some p → p < w1.heap.size → B ≤ p ∧ Mine w1 p) : Kept B w w2 := h.trans (of_grown hg hr)

/-- A newer block is written. -/
theorem new (h : Kept B w w1) {p : Nat} (hg : w1.grownBy w2 (some p)) (hp : w.heap.size ≤ p) : Kept B w w2 := by
  refine ⟨hg.os.trans h.os, hg.tape.trans h.tape, hg.output.trans h.output, Nat.le_trans h.size hg.size, fun k hk hc => ?_⟩
  rw [hg.block k (Nat.lt_of_lt_of_le hk h.size) (fun e => by cases e; omega)]
  exact h.block k hk hc

theorem old (h : Kept B w w1) (hB : B ≤ w.heap.size) : Below B w w1 := ⟨h.os, h.tape, h.output, h.size, fun k hk => h.block k (by omega) (.inl hk)⟩

/-- A row of another type stays. -/
theorem row (h : Kept B w w1) {base size n : Nat} {e : TypeId} {v : Value} {xs : List Value} (ho : w.ownsRow base e size v n xs) (h1 : e ≠ 45) (h2 : e ≠ 50) (h3 : e ≠ 95) : w1.ownsRow base e size v n xs := by
  refine ⟨ho.1, ?_⟩
  rcases ho.2 with hn | ⟨g, cap, cur, rfl, hb, hg, rest⟩
  · exact .inl hn
  · refine .inr ⟨g, cap, cur, rfl, hb, ?_, rest⟩
    rw [h.block g (Array.getElem?_eq_some_iff.1 hg).1 (.inr ?_)]
    · exact hg
    · rintro ⟨t, c, hblk, ht⟩
      unfold Blk at hblk
      rw [hblk] at hg
      simp only [Option.some.injEq, Obj.cells.injEq] at hg
      obtain ⟨-, rfl, -⟩ := hg
      rcases ht with rfl | rfl | rfl
      · exact h1 rfl
      · exact h2 rfl
      · exact h3 rfl

end Kept

theorem Turn.mine {B b : Nat} {w : World} {T : Trn} {L : List Ent} {O : List Crs} (h : Turn B w b T L O) : B ≤ b ∧ Mine w b := ⟨h.le, _, _, h.blk, .inr (.inr rfl)⟩

theorem own_mine {w : World} {base size n : Nat} {e : TypeId} {v : Value} {xs : List Value} (h : w.ownsRow base e size v n xs) (he : e = 45 ∨ e = 50) : ∀ p, v.ownBlock = some p → base ≤ p ∧ Mine w p := by
  intro p hp
  rcases h.2 with ⟨rfl, -⟩ | ⟨g, cap, cur, rfl, hb, hg, -⟩
  · simp [Value.ownBlock] at hp
  · simp only [Value.ownBlock, Option.some.injEq] at hp
    subst hp
    exact ⟨hb, e, cur, hg, by rcases he with he | he <;> simp [he]⟩

theorem Turn.mineL {B b : Nat} {w : World} {T : Trn} {L : List Ent} {O : List Crs} (h : Turn B w b T L O) : ∀ p, T.list.ownBlock = some p → B ≤ p ∧ Mine w p := own_mine h.list (.inl rfl)

theorem Turn.mineO {B b : Nat} {w : World} {T : Trn} {L : List Ent} {O : List Crs} (h : Turn B w b T L O) : ∀ p, T.out.ownBlock = some p → B ≤ p ∧ Mine w p := own_mine h.out (.inr rfl)

/-- All blocks stay, but for b, and the block o. -/
structure Spare (b : Nat) (o : Option Nat) (w w' : World) : Prop where
  size : w.heap.size ≤ w'.heap.size
  block : ∀ k, k < w.heap.size → k ≠ b → some k ≠ o → w'.heap[k]? = w.heap[k]?

namespace Spare
variable {b : Nat} {o : Option Nat} {w w1 w2 : World}

theorem refl (b : Nat) (o : Option Nat) (w : World) : Spare b o w w := ⟨Nat.le_refl _, fun _ _ _ _ => rfl⟩

theorem drew (h : Spare b o w w1) : Spare b o w w1.drew := ⟨h.size, h.block⟩

theorem below (h : Spare b o w w1) (hb : Below w1.heap.size w1 w2) : Spare b o w w2 :=
  ⟨Nat.le_trans h.size hb.size, fun k hk h1 h2 => (hb.block k (Nat.lt_of_lt_of_le hk h.size)).trans (h.block k hk h1 h2)⟩

theorem alloc (h : Spare b o w w1) (x : Obj) : Spare b o w (w1.alloc x) := h.below ((Below.refl _ _).alloc (Nat.le_refl _) _)

theorem grown (h : Spare b o w w1) {row : Option Nat} (hg : w1.grownBy w2 row) (hr : ∀ p, row = some p → p = b ∨ some p = o) : Spare b o w w2 := by
  refine ⟨Nat.le_trans h.size hg.size, fun k hk h1 h2 => ?_⟩
  rw [hg.block k (Nat.lt_of_lt_of_le hk h.size) (fun e => (hr k e.symm).elim h1 h2)]
  exact h.block k hk h1 h2

theorem row (h : Spare b o w w1) {base size n : Nat} {e : TypeId} {v : Value} {xs : List Value} (ho : w.ownsRow base e size v n xs) (h1 : some b ≠ v.ownBlock) (h2 : o = none ∨ o ≠ v.ownBlock) : w1.ownsRow base e size v n xs := by
  refine ⟨ho.1, ?_⟩
  rcases ho.2 with hn | ⟨g, cap, cur, rfl, hb, hg, rest⟩
  · exact .inl hn
  · refine .inr ⟨g, cap, cur, rfl, hb, ?_, rest⟩
    rw [h.block g (Array.getElem?_eq_some_iff.1 hg).1 (fun hh => h1 (by subst hh; rfl)) (fun hh => ?_)]
    · exact hg
    · subst hh
      rcases h2 with h2 | h2
      · cases h2
      · exact h2 rfl

end Spare

/-- Another row of entities, newer than the turn, has grown. -/
theorem Turn.other {B b : Nat} {w w' : World} {T : Trn} {L : List Ent} {O : List Crs} (h : Turn B w b T L O) {v : Value} {base n : Nat} {xs : List Value} (ho : w.ownsRow base 45 9 v n xs) (hg : w.grownBy w' v.ownBlock) (hl : ∀ p, T.list.ownBlock = some p → p < base) : Turn B w' b T L O :=
  ⟨h.blk.kept hg (own_ne ho h.blk (by decide)), h.le,
    h.list.kept hg (by
      cases hv : T.list.ownBlock with
      | none => exact .inl rfl
      | some p =>
        refine .inr fun hh => ?_
        have h1 := hl p hv
        have h2 := (ho.lt p hh.symm).1
        omega),
    h.out.kept hg (own_apart ho h.out (by decide))⟩

end Go.Proofs.YtfpofegfbinalaaGreat.Fx
namespace Go.Proofs.YtfpofegfbinalaaGreat.Fx
open Go.ChangeShapes Go.WideShapes Go.ChangeAt Go.RowKit
set_option linter.unusedVariables false
set_option maxRecDepth 100000

theorem room_any {B b : Nat} {w : World} {T : Trn} {L : List Ent} {O : List Crs} (h : Turn B w b T L O) (hn : L.length ≤ 1000) :
    Calls Tryz.prog 107 #[.pointer (some ⟨b, 0, none⟩)] w fun z w' => z = .returned (.bool (roomB L T.made)) ∧ Below w.heap.size w w' := by
  have HT := Lib.hid (fun w1 (hb : Below w.heap.size w w1) => things_any T.list L w1 (h.sl.below hb) hn)
  obtain ⟨-, -, -, -, -, -, -, c7, c8, -⟩ := h.box
  have HR := Lib.hid (show roomB L T.made = (decide (T.made < 8) && decide (things L < 24)) from rfl)
  generalize roomB L T.made = q at *
  generalize things L = t at *
  clear h
  by_cases hm : T.made < 8
  · have hm' : decide (T.made < 8) = true := decide_eq_true hm
    go_enter Tryz.func107, Tryz.ntmps107
    go_wp2_with fail
    refine (HT.out _ (Below.refl _ _)).mono ?_
    rintro e w1 ⟨rfl, hb⟩
    have Hb := Lib.hid hb
    clear hb
    go_wp2
    go_ret
    exact ⟨ret_bool (by rw [HR.out]; simp [hm]), Hb.out⟩
  · have hm' : decide (T.made < 8) = false := decide_eq_false hm
    go_enter Tryz.func107, Tryz.ntmps107
    go_wp2
    go_ret
    exact ⟨ret_bool (by rw [HR.out]; simp; omega), Below.refl _ _⟩

theorem number_any {B b : Nat} {w : World} {T : Trn} {L : List Ent} {O : List Crs} (h : Turn B w b T L O) (hf : 0 ≤ T.frame ∧ T.frame ≤ 10000) (hr : 0 ≤ T.reg ∧ T.reg ≤ 16) (hm : 0 ≤ T.made ∧ T.made ≤ 8) :
    Calls Tryz.prog 109 #[.pointer (some ⟨b, 0, none⟩)] w fun z w' => z = .returned (.int .i64 (newId (regs T.cols T.rows T.players T.window) T.reg T.frame T.made)) ∧ Below w.heap.size w w' := by
  have HT := Lib.hid (fun w => regions_any T.cols T.rows T.players T.window T.seed w)
  have hR := regs_bd T.cols T.rows T.players T.window
  obtain ⟨c0, c1, c2, c3, c4, c5, c6, -, c8, -⟩ := h.box
  have hlt := h.blk.lt
  have HN := Lib.hid (show newId (regs T.cols T.rows T.players T.window) T.reg T.frame T.made = 1000 + (T.frame * regs T.cols T.rows T.players T.window + T.reg) * 8 + T.made from rfl)
  generalize newId (regs T.cols T.rows T.players T.window) T.reg T.frame T.made = q at *
  generalize regs T.cols T.rows T.players T.window = R at *
  have hP : 0 ≤ T.frame * R ∧ T.frame * R ≤ 160000 := by
    have e1 := Int.mul_le_mul_of_nonneg_left hR.2 hf.1
    have e2 := Int.mul_nonneg hf.1 hR.1
    omega
  have hw1 : IntKind.i64.wrap (T.frame * R) = T.frame * R := by rw [IntKind.wrap_i64]; omega
  have hw2 : IntKind.i64.wrap (T.frame * R + T.reg) = T.frame * R + T.reg := by rw [IntKind.wrap_i64]; omega
  have hw3 : IntKind.i64.wrap ((T.frame * R + T.reg) * 8) = (T.frame * R + T.reg) * 8 := by rw [IntKind.wrap_i64]; omega
  have hw4 : IntKind.i64.wrap (1000 + (T.frame * R + T.reg) * 8) = 1000 + (T.frame * R + T.reg) * 8 := by rw [IntKind.wrap_i64]; omega
  have hw5 : IntKind.i64.wrap (1000 + (T.frame * R + T.reg) * 8 + T.made) = 1000 + (T.frame * R + T.reg) * 8 + T.made := by rw [IntKind.wrap_i64]; omega
  clear h
  go_enter Tryz.func109, Tryz.ntmps109
  go_upto_region 1 with fail
  refine plan_region' (S := (fun w' => (∀ b o, b < (w).heap.size → w'.cell? ⟨b, o, none⟩ = (w).cell? ⟨b, o, none⟩) ∧ (∀ b o, b < (w).heap.size → w'.frozen? ⟨b, o, none⟩ = (w).frozen? ⟨b, o, none⟩) ∧ Below (w).heap.size (w) w')) [(0, true), (1, true), (2, true), (3, true), (4, true), (5, true), (6, true), (7, true), (10, true), (11, true), (12, true), (13, true), (17, true), (18, true), (19, true), (20, true), (8, false), (9, true), (14, true), (15, true), (16, true), (21, true), (22, true)] (by kernel_rfl) (by kernel_rfl) (fun _ _ d _ _ h => by cases d <;> exact h) (keepW0 _) (fun hS => ?_)
  simp only [picked, List.getElem?_cons_succ, List.getElem?_cons_zero]
  iterate 16
   refine row_free (v := ?_) (by rfl) ?_ ?_; rotate_left 1; focus (intro w hSw; (try dsimp only at hSw); go_simp; (try with_reducible rfl))
   (try simp only [Act.put, tA, tB, tC])
  refine row_call (by rfl) (fun K hK => ?_)
  go_simp
  (refine (HT.out _).mono ?_; rintro e w1 ⟨rfl, hb1⟩)
  (try go_wp2_with fail)
  refine hK.out _ _ ?_ (fun hS' => ?_)
  · (try dsimp only); first | exact keepW (by assumption) (by assumption) | exact keepB (by assumption) (by assumption) | exact keepA (by assumption) | assumption
  clear hS hK K
  have hS := hS'
  clear hS'
  iterate 6
   (try simp only [Act.put, tA, tB, tC])
   refine row_free (v := ?_) (by rfl) ?_ ?_; rotate_left 1; focus (intro w hSw; (try dsimp only at hSw); go_simp; (try with_reducible rfl))
  (try simp only [Act.put, tA, tB, tC])
  refine row_done ?_
  have HS := Lib.hid hS.2.2
  clear hS hb1
  go_wp2
  go_ret
  exact ⟨ret_int (by rw [HN.out]), HS.out⟩

end Go.Proofs.YtfpofegfbinalaaGreat.Fx
namespace Go.Proofs.YtfpofegfbinalaaGreat.Fx
open Go.ChangeShapes Go.WideShapes Go.ChangeAt Go.RowKit
set_option linter.unusedVariables false
set_option maxRecDepth 100000

theorem pids_take {l : List Ent} {k : Nat} {p : Ent} (h : l[k]? = some p) : pids (l.take (k + 1)) = pids (l.take k) ++ if p.kind = 1 then [p.id] else [] := by
  rw [take_at h, pids_append]
  congr 1
  rw [pids_cons]
  split <;> rfl

theorem pids_le (l : List Ent) : (pids l).length ≤ l.length := by
  unfold pids
  rw [List.length_map]
  exact List.length_filter_le _ _

set_option maxHeartbeats 2000000 in
theorem players_any (v : Value) (l : List Ent) (w : World) (hv : IsSl entC w v l) (hn : l.length ≤ 1000) :
    Calls Tryz.prog 95 #[v] w fun z w' => ∃ v', z = .returned v' ∧ w'.ownsRow w.heap.size 3 1 v' (pids l).length ((pids l).map (Value.int .i64)) ∧ Below w.heap.size w w' := by
  obtain ⟨i0, hi, hz0, hz1, hz2⟩ := info_parts info_int
  obtain ⟨A, c, rfl, -, -, hat⟩ := hv
  have Hat := Lib.hid hat
  obtain ⟨n, hnn⟩ : ∃ n, l.length = n := ⟨_, rfl⟩
  rw [hnn] at hn ⊢
  have Hn := Lib.hid hnn
  have Hi := Lib.hid hi
  have Hz0 := Lib.hid hz0
  have Hz1 := Lib.hid hz1
  have Hz2 := Lib.hid hz2
  have HL := Lib.hid (fun k => pids_le (l.take k))
  clear hat hnn hi hz0 hz1 hz2
  go_enter Tryz.func95, Tryz.ntmps95
  go_wp2
  go_loopw [3, 8] (fun v i wr => ∃ k : Nat, k ≤ n ∧ i = .int .i64 k ∧ wr.ownsRow w.heap.size 3 1 v (pids (l.take k)).length ((pids (l.take k)).map (Value.int .i64)) ∧ Below w.heap.size w wr) (fun _ i _ => n - (intOf i).toNat)
  case atStart => exact ⟨0, Nat.zero_le _, rfl, ⟨by simp [pids], .inl ⟨rfl, rfl⟩⟩, Below.refl _ _⟩
  case round =>
    obtain ⟨k, hk, rfl, hown, hbel⟩ := hrel
    have Hown := Lib.hid hown
    have Hbel := Lib.hid hbel
    clear hown hbel
    by_cases hlt : k < n
    · obtain ⟨x, hx⟩ := getE l k n Hn.out hlt
      have HX := Lib.hid (pids_take hx)
      have HLk := Lib.hid (show (pids (l.take k)).length ≤ k from Nat.le_trans (HL.out k) (by rw [List.length_take]; omega))
      obtain ⟨b, off, rfl, hc⟩ := elem_Ent (Hat.out.below Hbel.out) hx
      obtain ⟨c0, c1, c2, c3, c4, c5, c6, c7, c8⟩ := hc
      clear hx
      by_cases hk1 : x.kind = 1
      · have hk1' : (x.kind == 1) = true := by simpa using hk1
        rw [if_pos hk1] at HX
        have hbs := Hbel.out.size
        go_wp2_with (at_builtin; go_must (refine append_int (by rfl) (.tmp 15) (.tmp 18) 87 (by rfl) w.heap.size 3 .i64 i0 8 Tryz.underlying87 Hi.out Hz0.out Hz1.out Hz2.out (by omega) _ (pids (l.take k)) (Hown.out.alloc _) x.id (by rfl) _ 1 (by rfl) (by simp) (by have := HLk.out; omega) (by simp; omega) ?_))
        intro v' w5 hown5 hb5
        have HO5 := Lib.hid (show w5.ownsRow w.heap.size 3 1 v' (pids (l.take (k + 1))).length ((pids (l.take (k + 1))).map (Value.int .i64)) from by rw [HX.out]; simpa using hown5)
        have HB5 := Lib.hid ((Hbel.out.alloc Hbel.out.size _).trans hb5)
        clear hown5 hb5
        go_wp2
        go_roundw
        case rel => exact ⟨k + 1, by omega, by go_num, HO5.out, HB5.out⟩
        case measure => simp [intOf]; omega
      · have hk1' : (x.kind == 1) = false := by simpa using hk1
        rw [if_neg hk1, List.append_nil] at HX
        go_wp2
        go_roundw
        case rel => exact ⟨k + 1, by omega, by go_num, by rw [HX.out]; exact Hown.out.alloc _, Hbel.out.alloc Hbel.out.size _⟩
        case measure => simp [intOf]; omega
    · obtain rfl : k = n := by omega
      rw [List.take_of_length_le (Nat.le_of_eq Hn.out)] at Hown
      go_wp2
      go_ret
      exact ⟨_, rfl, Hown.out, Hbel.out⟩

theorem gem_take {l : List Ent} {k : Nat} {p : Ent} (h : l[k]? = some p) : gemCount (l.take (k + 1)) = gemCount (l.take k) + if p.kind = 3 then 1 else 0 := by
  unfold gemCount
  rw [take_at h, List.filter_append, List.length_append]
  by_cases hk : p.kind = 3 <;> simp [hk]

theorem gem_le (l : List Ent) : 0 ≤ gemCount l ∧ gemCount l ≤ l.length := by
  unfold gemCount
  have := List.length_filter_le (fun e : Ent => decide (e.kind = 3)) l
  omega

set_option maxHeartbeats 2000000 in
theorem gemn_any (v : Value) (l : List Ent) (w : World) (hv : IsSl entC w v l) (hn : l.length ≤ 1000) :
    Calls Tryz.prog 106 #[v] w fun z w' => z = .returned (.int .i64 (gemCount l)) ∧ Below w.heap.size w w' := by
  obtain ⟨A, c, rfl, -, -, hat⟩ := hv
  have Hat := Lib.hid hat
  obtain ⟨n, hnn⟩ : ∃ n, l.length = n := ⟨_, rfl⟩
  rw [hnn] at hn ⊢
  have Hn := Lib.hid hnn
  have HL := Lib.hid (fun k => gem_le (l.take k))
  clear hat hnn
  go_enter Tryz.func106, Tryz.ntmps106
  go_wp2
  go_loopw [3, 8] (fun g i wr => ∃ k : Nat, k ≤ n ∧ i = .int .i64 k ∧ g = .int .i64 (gemCount (l.take k)) ∧ Below w.heap.size w wr) (fun _ i _ => n - (intOf i).toNat)
  case atStart => exact ⟨0, Nat.zero_le _, rfl, rfl, Below.refl _ _⟩
  case round =>
    obtain ⟨k, hk, rfl, rfl, hbel⟩ := hrel
    have Hbel := Lib.hid hbel
    clear hbel
    by_cases hlt : k < n
    · obtain ⟨x, hx⟩ := getE l k n Hn.out hlt
      have HX := Lib.hid (gem_take hx)
      have hLk : 0 ≤ gemCount (l.take k) ∧ gemCount (l.take k) ≤ 1000 := by have := HL.out k; rw [List.length_take] at this; omega
      obtain ⟨b, off, rfl, hc⟩ := elem_Ent (Hat.out.below Hbel.out) hx
      obtain ⟨c0, c1, c2, c3, c4, c5, c6, c7, c8⟩ := hc
      clear hx
      generalize gemCount (l.take k) = q at *
      by_cases hk1 : x.kind = 3
      · have hk1' : (x.kind == 3) = true := by simpa using hk1
        rw [if_pos hk1] at HX
        go_wp2
        go_roundw
        case rel => exact ⟨k + 1, by omega, by go_num, by rw [HX.out], Hbel.out.alloc Hbel.out.size _⟩
        case measure => simp [intOf]; omega
      · have hk1' : (x.kind == 3) = false := by simpa using hk1
        rw [if_neg hk1, Int.add_zero] at HX
        go_wp2
        go_roundw
        case rel => exact ⟨k + 1, by omega, by go_num, by rw [HX.out], Hbel.out.alloc Hbel.out.size _⟩
        case measure => simp [intOf]; omega
    · obtain rfl : k = n := by omega
      rw [List.take_of_length_le (Nat.le_of_eq Hn.out)]
      go_wp2
      go_ret
      exact ⟨rfl, Hbel.out⟩

end Go.Proofs.YtfpofegfbinalaaGreat.Fx
namespace Go.Proofs.YtfpofegfbinalaaGreat.Fx
open Go.ChangeShapes Go.WideShapes Go.ChangeAt Go.RowKit
set_option linter.unusedVariables false
set_option maxRecDepth 100000

theorem puts_one (l : List Ent) (y : Ent) : Fx.puts l [y] = put l y := by
  rw [show [y] = [] ++ [y] from rfl, puts_snoc]
  rfl

set_option maxHeartbeats 2000000 in
theorem tadd_any {B b : Nat} {w : World} {T : Trn} {L : List Ent} {O : List Crs} (h : Turn B w b T L O) (hn : L.length ≤ 400) (hm : 0 ≤ T.made ∧ T.made ≤ 1000) (y : Ent) :
    Calls Tryz.prog 108 #[.pointer (some ⟨b, 0, none⟩), .agg #[.int .i64 y.id, .int .i64 y.kind, .int .i64 y.x, .int .i64 y.y, .int .i64 y.vx, .int .i64 y.vy, .int .i64 y.health, .int .i64 y.age, .int .i64 y.owner]] w fun z w' => z = .returned (.tuple #[]) ∧ (∃ vl, Turn B w' b ⟨T.cols, T.rows, T.players, T.window, T.seed, T.reg, T.frame, vl, T.made + 1, T.out⟩ (put L y) O) ∧ w.grownBy w' (some b) := by
  have hlt := h.blk.lt
  have hB := h.size
  have HX := Lib.hid (EntBox.n1 w y 45 rfl)
  have HY := Lib.hid (h.alloc (.cells (entC y).toArray 45))
  have HZ := Lib.hid (show w.grownBy (w.alloc (.cells (entC y).toArray 45)) (some b) from World.grownBy_alloc _ _ _)
  simp only [entC] at HX HY HZ
  clear h
  go_enter Tryz.func108, Tryz.ntmps108
  go_upto_region 1 with fail
  generalize hW : World.alloc _ _ = W at *
  have hgW : w.heap.size < W.heap.size := HX.out.has
  clear hW
  obtain ⟨d0, d1, d2, d3, d4, d5, d6, d7, d8, -⟩ := HX.out
  have c7 := HY.out.box.c7
  have f7 := HY.out.box.f7
  have hbW := HY.out.blk.lt
  refine tail_region (S := (fun w' => (∀ b o, b < (W).heap.size → w'.cell? ⟨b, o, none⟩ = (W).cell? ⟨b, o, none⟩) ∧ (∀ b o, b < (W).heap.size → w'.frozen? ⟨b, o, none⟩ = (W).frozen? ⟨b, o, none⟩) ∧ Below (W).heap.size (W) w')) 10 (.free 0 (.free 1 (.free 2 (.free 3 (.free 4 (.free 5 (.one 6 (.one 7 (.free 8 (.free 9 .tail)))))))))) (by kernel_rfl) (by kernel_rfl) (fun _ _ d _ _ h => by cases d <;> exact h) (keepW0 _) (fun hS => ?_)
  simp only [writtenT, List.drop_succ_cons, List.drop_zero, List.getElem?_cons_succ, List.getElem?_cons_zero]
  iterate 6
   refine rz_free (v := ?_) (by rfl) ?_ ?_; rotate_left 1; focus (intro w hSw; (try dsimp only at hSw); go_simp; (try with_reducible rfl))
   (try simp only [Act.put, tA, tB, tC])
  refine rz_call (by rfl) (fun K hK => ?_)
  go_simp
  (skip)
  (try go_wp2_with fail)
  refine hK.out _ _ ?_ (fun hS' => ?_)
  · (try dsimp only); first | exact keepW (by assumption) (by assumption) | exact keepB (by assumption) (by assumption) | exact keepA (by assumption) | assumption
  clear hS hK K
  have hS := hS'
  clear hS'
  (try simp only [Act.put, tA, tB, tC])
  refine rz_call (by rfl) (fun K hK => ?_)
  go_simp
  (refine (puts_own T.list L _ [y] _ (HY.out.drew.alloc _).sl (by omega) (one_Ent _ y _ 1 (by first | rfl | simp) (by omega)) (by simp)).mono ?_; rintro e w5 ⟨v', rfl, ho5, hb5⟩)
  (try go_wp2_with fail)
  refine hK.out _ _ ?_ (fun hS' => ?_)
  · (try dsimp only); first | exact keepW (by assumption) (by assumption) | exact keepB (by assumption) (by assumption) | exact keepA (by assumption) | assumption
  clear hS hK K
  have hS := hS'
  clear hS'
  iterate 2
   (try simp only [Act.put, tA, tB, tC])
   refine rz_free (v := ?_) (by rfl) ?_ ?_; rotate_left 1; focus (intro w hSw; (try dsimp only at hSw); go_simp; (try with_reducible rfl))
  (try simp only [Act.put, tA, tB, tC])
  refine rz_done ?_
  have k7 : w5.cell? ⟨b, 7, none⟩ = some T.list := (hS.1 b 7 hbW).trans c7
  have l7 : w5.frozen? ⟨b, 7, none⟩ = false := (hS.2.1 b 7 hbW).trans f7
  rw [puts_one] at ho5
  obtain ⟨A5, n5, rfl, -⟩ := owned_sl ho5
  have HT := Lib.hid (HY.out.nx hS.2.2)
  have HU := Lib.hid (HT.out.set7 (ho5.mono (by have := HY.out.size; simp; omega)))
  have HV := Lib.hid (grown_trans (grown_trans HZ.out (grown_below hS.2.2)) (grown_set w5 b 7 (.slice A5 (put L y).length n5)))
  clear hS ho5 hb5 c7 f7 d0 d1 d2 d3 d4 d5 d6 d7 d8
  go_upto_region 2 with fail
  generalize hW : World.setCell _ _ _ = W2 at *
  clear hW k7 l7
  have k8 := HU.out.box.c8
  have l8 := HU.out.box.f8
  have HF := Lib.hid (HU.out.set8 (T.made + 1))
  have HG := Lib.hid (grown_trans HV.out (grown_set _ b 8 (.int .i64 (T.made + 1))))
  go_wp2
  (try simp only [Exit.inBlock, Exit.then])
  refine bodyPost_end (results_none rfl _ _ _) rfl ?_
  exact ⟨rfl, ⟨_, HF.out⟩, HG.out⟩

end Go.Proofs.YtfpofegfbinalaaGreat.Fx
namespace Go.Proofs.YtfpofegfbinalaaGreat.Fx
open Go.ChangeShapes Go.WideShapes Go.ChangeAt Go.RowKit
set_option linter.unusedVariables false
set_option maxRecDepth 100000

theorem Blk.nx {w w' : World} {g : Nat} {t : TypeId} {cur : Array Value} (h : Blk w g t cur) (hb : Below w.heap.size w w') : Blk w' g t cur := h.below hb h.lt

theorem Blk.drew {w : World} {g : Nat} {t : TypeId} {cur : Array Value} (h : Blk w g t cur) : Blk w.drew g t cur := h

theorem Blk.new (w : World) (cur : Array Value) (t : TypeId) : Blk (w.alloc (.cells cur t)) w.heap.size t cur := heap_alloc_new w _

theorem Blk.new' (w : World) (cur : Array Value) (t : TypeId) {g : Nat} (hg : g = w.heap.size) : Blk (w.alloc (.cells cur t)) g t cur := hg ▸ Blk.new w cur t

/-- A region that nothing was put into. -/
def r0 : Reg := ⟨0, .slice none 0 0⟩

end Go.Proofs.YtfpofegfbinalaaGreat.Fx
