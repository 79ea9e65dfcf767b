/- Package bytes' Writer: what it holds, and the contracts of Put, Raw and Bytes (of a nil one, too). -/
import Derived.Test.YtlpkaljepaclpaaGreatM22
namespace Go.Proofs.YtlpkaljepaclpaaGreat.Fx
open Go.ChangeShapes Go.WideShapes Go.ChangeAt Go.RowKit
set_option linter.unusedVariables false
set_option maxRecDepth 100000

/-- A slice that reads as bytes, and lies from block B on. -/
def FarSl (B : Nat) (w : World) (v : Value) (l : List Int) : Prop := IsSl byC w v l ∧ ∀ a n c, v = .slice (some a) n c → B ≤ a.block

theorem FarSl.keep {B : Nat} {w w' : World} {v : Value} {l : List Int} (h : FarSl B w v l) (hk : ∀ p u, B ≤ p.block → w.cell? p = some u → w'.cell? p = some u) : FarSl B w' v l := by
  obtain ⟨⟨A, c, rfl, hA, hc, hat⟩, hf⟩ := h
  refine ⟨⟨A, c, rfl, hA, hc, fun hx => ?_⟩, hf⟩
  obtain ⟨b, off, rfl, hcell⟩ := hat hx
  have := hf _ _ _ rfl
  exact ⟨b, off, rfl, fun i u hu => hk _ _ this (hcell i u hu)⟩

theorem ownB.far {base B : Nat} {w : World} {v : Value} {l : List Int} (h : ownB base w v l) (hB : B ≤ base) : FarSl B w v l := by
  refine ⟨h.sl, fun a n c hv => ?_⟩
  rcases h.2 with ⟨h', -⟩ | ⟨g, cap, cur, h', hb, -⟩
  · rw [hv] at h'; cases h'
  · rw [hv] at h'; simp at h'; rw [h'.1]; show B ≤ g; omega

/-- The chain of parts, the last one first: none lies ahead of block B. -/
def Parts (B : Nat) (w : World) : List (List Int) → Value → Prop
  | [], p => p = .pointer none
  | l :: ls, p => ∃ g q s, p = .pointer (some ⟨g, 0, none⟩) ∧ B ≤ g ∧ w.cell? ⟨g, 0, none⟩ = some q ∧ w.cell? ⟨g, 1, none⟩ = some s ∧ FarSl B w s l ∧ Parts B w ls q

theorem Parts.keep {B : Nat} {w w' : World} {ls : List (List Int)} {p : Value} (h : Parts B w ls p) (hk : ∀ a u, B ≤ a.block → w.cell? a = some u → w'.cell? a = some u) : Parts B w' ls p := by
  induction ls generalizing p with
  | nil => exact h
  | cons l ls ih =>
    obtain ⟨g, q, s, e, hB, h0, h1, h2, h3⟩ := h
    exact ⟨g, q, s, e, hB, hk _ _ hB h0, hk _ _ hB h1, h2.keep hk, ih h3⟩

/-- The Writer in block b has written bs. -/
def WrAt (B : Nat) (w : World) (b : Nat) (bs : List Int) : Prop :=
  ∃ p ls, b < B ∧ B ≤ w.heap.size ∧ w.cell? ⟨b, 0, none⟩ = some p ∧ w.frozen? ⟨b, 0, none⟩ = false ∧ Parts B w ls p ∧ ls.reverse.flatten = bs ∧ ls.length ≤ bs.length

theorem grown_cell {w w' : World} {row : Option Nat} (h : w.grownBy w' row) {a : Addr} {u : Value} (hr : some a.block ≠ row) (hc : w.cell? a = some u) : w'.cell? a = some u :=
  (World.cell?_of_block (w := w) (h.block a.block (World.block_lt_of_cell? _ _ hc) hr)).trans hc

theorem grown_frozen {w w' : World} {row : Option Nat} (h : w.grownBy w' row) {a : Addr} (hl : a.block < w.heap.size) (hr : some a.block ≠ row) : w'.frozen? a = w.frozen? a :=
  World.frozen?_of_block (w := w) (h.block a.block hl hr)

/-- Another block was written. -/
theorem WrAt.grown {B : Nat} {w w' : World} {b c : Nat} {bs : List Int} (h : WrAt B w b bs) (hg : w.grownBy w' (some c)) (hne : b ≠ c) (hc : c < B) : WrAt B w' b bs := by
  obtain ⟨p, ls, h1, h2, h3, h4, h5, h6⟩ := h
  have hh := hg.size
  refine ⟨p, ls, h1, by omega, grown_cell hg (by simp [hne]) h3, ?_, h5.keep fun a u ha hu => grown_cell hg (fun e => by simp at e; omega) hu, h6⟩
  rw [grown_frozen hg (show b < w.heap.size by omega) (by simp [hne])]
  exact h4

theorem WrAt.below {B : Nat} {w w' : World} {b : Nat} {bs : List Int} (h : WrAt B w b bs) (hb : Below w.heap.size w w') : WrAt B w' b bs := by
  obtain ⟨p, ls, h1, h2, h3, h4, h5, h6⟩ := h
  have hh := hb.size
  refine ⟨p, ls, h1, by omega, grown_cell (grown_below (row := none) hb) (by simp) h3, ?_, h5.keep fun a u ha hu => grown_cell (grown_below (row := none) hb) (by simp) hu, h6⟩
  rw [hb.frozen (p := ⟨b, 0, none⟩) (show b < w.heap.size by omega)]
  exact h4

/-- A new Writer. -/
theorem WrAt.new (w : World) (T : TypeId) : WrAt (w.heap.size + 1) (w.alloc (.cells #[.pointer none] T)) w.heap.size [] :=
  ⟨.pointer none, [], by omega, by simp, by rw [World.cell?_alloc_new]; rfl, World.frozen?_alloc_new _ _ _ _, rfl, rfl, Nat.le_refl _⟩

/-- Farther on. -/
theorem WrAt.more {B B' : Nat} {w : World} {b : Nat} (h : WrAt B w b []) (hB : B ≤ B') (hs : B' ≤ w.heap.size) : WrAt B' w b [] := by
  obtain ⟨p, ls, h1, h2, h3, h4, h5, h6, h7⟩ := h
  obtain rfl : ls = [] := List.eq_nil_of_length_eq_zero (by simpa using h7)
  exact ⟨p, [], by omega, hs, h3, h4, h5, rfl, Nat.le_refl _⟩

theorem below_grownB {w w1 w2 : World} {b : Nat} (h : Below w.heap.size w w1) (hg : w1.grownBy w2 (some b)) : w.grownBy w2 (some b) := grown_trans (grown_below h) hg

theorem own_mono_by {base base' : Nat} {w : World} {v : Value} {l : List Int} (hb : base ≤ base') (h : ownB base' w v l) : ownB base w v l := by
  refine ⟨h.1, ?_⟩
  rcases h.2 with h2 | ⟨g, cap, cur, hv, hg, r⟩
  · exact .inl h2
  · exact .inr ⟨g, cap, cur, hv, Nat.le_trans hb hg, r⟩

theorem add_nil (v : Value) (l : List Int) (w : World) (hv : IsSl byC w v l) :
    Calls Tryz.prog 145 #[.pointer none, v] w fun e w' => e = .returned (.tuple #[]) ∧ w = w' := by
  obtain ⟨A, c, rfl, -⟩ := hv
  go_enter Tryz.func145, Tryz.ntmps145
  go_wp2
  go_end0
  exact ⟨rfl, rfl⟩

theorem wadd_any (B b : Nat) (v : Value) (l bs : List Int) (w : World) (hw : WrAt B w b bs) (hv : FarSl B w v l) :
    Calls Tryz.prog 145 #[.pointer (some ⟨b, 0, none⟩), v] w fun e w' => e = .returned (.tuple #[]) ∧ WrAt B w' b (bs ++ l) ∧ w.grownBy w' (some b) := by
  have HW := Lib.hid hw
  have HV := Lib.hid hv
  obtain ⟨⟨A, c, rfl, -⟩, -⟩ := hv
  obtain ⟨p, ls, hbB, hBw, hc0, hf0, -⟩ := hw
  obtain ⟨n, hn⟩ : ∃ n, l.length = n := ⟨_, rfl⟩
  rw [hn] at HV ⊢
  by_cases h0 : n = 0
  · subst h0
    obtain rfl : l = [] := List.eq_nil_of_length_eq_zero hn
    clear hn
    go_enter Tryz.func145, Tryz.ntmps145
    go_wp2
    go_end0
    exact ⟨rfl, by simpa using HW.out, World.grownBy.refl _ _⟩
  · have hp : (0 : Int) < (n : Int) := by omega
    have HN := Lib.hid hn
    obtain ⟨hP⟩ : Nonempty (p = p) := ⟨rfl⟩
    clear hn hP
    have hbs : b < w.heap.size := by omega
    have hpv : ∃ q, p = .pointer q := by
      obtain ⟨p', ls', -, -, hc0', -, hp', -⟩ := HW.out
      rw [hc0] at hc0'
      cases hc0'
      cases ls' with
      | nil => exact ⟨none, hp'⟩
      | cons l' ls' => obtain ⟨g, q, s, e, -⟩ := hp'; exact ⟨_, e⟩
    obtain ⟨q, rfl⟩ := hpv
    go_enter Tryz.func145, Tryz.ntmps145
    go_wp2
    go_end0
    refine ⟨rfl, ?_, ?_⟩
    · obtain ⟨p', ls', h1, h2, h3, h4, h5, h6, h7⟩ := HW.out
      rw [hc0] at h3
      cases h3
      have hk : ∀ (a : Addr) (u : Value), B ≤ a.block → w.cell? a = some u → ((w.setCell ⟨b, 0, none⟩ (.pointer (some ⟨w.heap.size, 0, none⟩))).alloc (.cells #[.pointer q, .slice A n c] 183)).cell? a = some u := by
        intro a u ha hu
        rw [World.cell?_alloc_lt _ _ _ (by simpa using World.block_lt_of_cell? _ _ hu), World.cell?_setCell_other _ _ _ _ (by intro e; rw [← e] at ha; simp at ha; omega)]
        exact hu
      have hs : (w.setCell ⟨b, 0, none⟩ (.pointer (some ⟨w.heap.size, 0, none⟩))).heap.size = w.heap.size := by simp
      refine ⟨_, l :: ls', h1, by simp; omega, by rw [World.cell?_alloc_lt _ _ _ (by rw [hs]; exact hbs)]; exact World.cell?_setCell_same _ _ _ hc0, ?_, ⟨w.heap.size, .pointer q, .slice A n c, rfl, h2, ?_, ?_, HV.out.keep hk, h5.keep hk⟩, ?_, ?_⟩
      · have : (w.setCell ⟨b, 0, none⟩ (.pointer (some ⟨w.heap.size, 0, none⟩))).frozen? ⟨b, 0, none⟩ = false := by rw [World.frozen?_setCell]; exact h4
        rw [← this]
        exact World.frozen?_of_block (Below.heap_alloc _ _ _ (by rw [hs]; exact hbs))
      · have := World.cell?_alloc_new (w.setCell ⟨b, 0, none⟩ (.pointer (some ⟨w.heap.size, 0, none⟩))) #[.pointer q, .slice A n c] 183 0
        rw [hs] at this
        rw [this]; rfl
      · have := World.cell?_alloc_new (w.setCell ⟨b, 0, none⟩ (.pointer (some ⟨w.heap.size, 0, none⟩))) #[.pointer q, .slice A n c] 183 1
        rw [hs] at this
        rw [this]; rfl
      · rw [List.reverse_cons, List.flatten_append, h6]; simp
      · rw [List.length_append, HN.out, List.length_cons]; omega
    · exact ⟨rfl, rfl, rfl, by simp, fun k hk hne => by
        rw [Below.heap_alloc _ _ _ (by simpa using hk), Below.heap_setCell _ _ _ _ (by intro e; apply hne; rw [e])]⟩

theorem numsL_take {l : List Int} {k n : Nat} (hn : l.length = n) (h : k < n) : numsL (l.take (k + 1)) = numsL (l.take k) ++ nums (gi l k) := by
  have e : l[k]? = some (gi l k) := by simp [gi, List.getD_eq_getElem?_getD, List.getElem?_eq_getElem (show k < l.length by omega)]
  rw [take_at e]
  unfold numsL
  rw [List.flatMap_append]
  simp

theorem numsL_len (l : List Int) : (numsL l).length ≤ 9 * l.length := by
  unfold numsL
  induction l with
  | nil => simp
  | cons x l ih => rw [List.flatMap_cons, List.length_append, List.length_cons]; have := (nums_len x).2; omega

/-- A Writer that has written ds, or a nil one. -/
def Tgt (B : Nat) (w : World) (p : Option Addr) (ds : List Int) : Prop := p = none ∨ ∃ b, p = some ⟨b, 0, none⟩ ∧ WrAt B w b ds

/-- What a call leaves that writes bs. -/
def PutEnd (B : Nat) (w : World) (p : Option Addr) (ds bs : List Int) (e : Ending) (w' : World) : Prop :=
  e = .returned (.tuple #[]) ∧ (p = none → Below w.heap.size w w') ∧ ∀ b, p = some ⟨b, 0, none⟩ → WrAt B w' b (ds ++ bs) ∧ w.grownBy w' (some b)

theorem Tgt.le {B : Nat} {w : World} {b : Nat} {ds : List Int} (h : WrAt B w b ds) : B ≤ w.heap.size := by obtain ⟨_, _, -, h, -⟩ := h; exact h

theorem add_end (B : Nat) (p : Option Addr) (ds : List Int) (v : Value) (l : List Int) (w w1 : World) (hp : Tgt B w p ds) (hb : Below w.heap.size w w1) (ho : ownB w.heap.size w1 v l) :
    Calls Tryz.prog 145 #[.pointer p, v] w1 (PutEnd B w p ds l) := by
  rcases hp with rfl | ⟨b, rfl, hw⟩
  · exact (add_nil v l w1 ho.sl).mono fun e w' ⟨he, hw⟩ => ⟨he, fun _ => by rw [← hw]; exact hb, fun b h => by cases h⟩
  · refine (wadd_any B b v l ds w1 (hw.below hb) (ho.far (Tgt.le hw))).mono fun e w' ⟨he, h1, h2⟩ => ⟨he, fun h => (by cases h), fun b' h => ?_⟩
    cases h
    exact ⟨h1, below_grownB hb h2⟩

theorem put_any (B : Nat) (p : Option Addr) (ds : List Int) (A : Option Addr) (n c : Nat) (l : List Int) (w : World) (hp : Tgt B w p ds) (hl : IntsAt w A n l) (hn : n ≤ 1000000) :
    Calls Tryz.prog 77 #[.pointer p, .slice A n c] w (PutEnd B w p ds (numsL l)) := by
  have Hp := Lib.hid hp
  obtain ⟨hlen, hat⟩ := hl
  have Hlen := Lib.hid hlen
  have Hat := Lib.hid hat
  have HLn := Lib.hid numsL_len
  clear hp hat hlen
  go_enter Tryz.func77, Tryz.ntmps77
  go_wp2
  go_loopw [4, 9] (fun v i wr => ∃ k : Nat, k ≤ n ∧ i = .int .i64 k ∧ ownB w.heap.size wr v (numsL (l.take k)) ∧ Below w.heap.size w wr) (fun _ i _ => n - (intOf i).toNat)
  case atStart => exact ⟨0, Nat.zero_le _, rfl, ownB.nil _ _, Below.refl _ _⟩
  case round =>
    obtain ⟨k, hk, rfl, ho, hb⟩ := hrel
    have HO := Lib.hid ho
    have HB := Lib.hid hb
    clear ho hb
    by_cases hlt : k < n
    · obtain ⟨b, off, hA, hc⟩ := Hat.out (by omega)
      have hck : wr.cell? ⟨b, off + k, none⟩ = some (.int .i64 (gi l k)) := (HB.out.cell (p := ⟨b, off + k, none⟩) (World.block_lt_of_cell? _ _ (hc k hlt))).trans (hc k hlt)
      subst hA
      have HT := Lib.hid (numsL_take Hlen.out hlt)
      clear hc
      go_wp2_with fail
      refine (withnum_any w.heap.size _ (numsL (l.take k)) _ _ HO.out HB.out.size (by have := HLn.out (l.take k); rw [List.length_take] at this; omega)).mono ?_
      rintro e w1 ⟨⟨v', rfl, ho1⟩, hb1⟩
      have HO1 := Lib.hid ho1
      have HB1 := Lib.hid (HB.out.trans hb1)
      clear ho1 hb1
      go_wp2
      go_roundw
      case rel => exact ⟨k + 1, by omega, by go_num, by rw [HT.out]; exact HO1.out, HB1.out⟩
      case measure => simp [intOf]; omega
    · obtain rfl : k = n := by omega
      have hall : l.take k = l := List.take_of_length_le (by have := Hlen.out; omega)
      rw [hall] at HO
      go_wp2_with fail
      refine (add_end B p ds _ _ w _ Hp.out HB.out HO.out).mono ?_
      rintro e w2 h2
      have he := h2.1
      subst he
      go_wp2
      go_end0
      exact h2

theorem info_sl8 : (Tryz.prog.info? 64).map (fun i => (i.zero, i.size, i.bytes)) = some (some (.slice none 0 0), 1, 24) := by kernel_rfl

/-- How long a slice is. -/
def slLen : Value → Nat | .slice _ n _ => n | _ => 0

set_option maxHeartbeats 1000000 in
theorem wbytes_any (B b : Nat) (bs : List Int) (w : World) (hw : WrAt B w b bs) (hn : bs.length ≤ 1000000) :
    Calls Tryz.prog 69 #[.pointer (some ⟨b, 0, none⟩)] w (RetBy bs w) := by
  obtain ⟨p, ls, hbB, hBw, hc0, hf0, hps, hbs, hll⟩ := hw
  obtain ⟨i0, hi, hz0, hz1, hz2⟩ := info_parts info_sl8
  have Hi := Lib.hid hi
  have Hz := Lib.hid (And.intro hz0 (And.intro hz1 hz2))
  have HP := Lib.hid hps
  have HBs := Lib.hid hbs
  have Hn := Lib.hid hn
  have hL : ls.length ≤ 1000000 := by omega
  obtain ⟨q, rfl⟩ : ∃ q, p = .pointer q := by
    cases ls with
    | nil => exact ⟨none, hps⟩
    | cons l ls => obtain ⟨g, q, s, e, -⟩ := hps; exact ⟨_, e⟩
  obtain ⟨N, hN⟩ : ∃ N, ls.length = N := ⟨_, rfl⟩
  rw [hN] at hL
  have HN := Lib.hid hN
  clear hi hz0 hz1 hz2 hps hbs hn hll hN
  go_enter Tryz.func69, Tryz.ntmps69
  go_wp2
  go_loopw [3, 4] (fun v s4 wr => ∃ (k : Nat) (q' : Option Addr) (vs : List Value), k ≤ N ∧ s4 = .pointer q' ∧ Parts B w (ls.drop k) s4 ∧ wr.ownsRow w.heap.size 64 1 v vs.length vs ∧ vs.length = k ∧ AllBy w vs (ls.take k) ∧ Below w.heap.size w wr) (fun v _ _ => N - slLen v)
  case atStart => exact ⟨0, q, [], Nat.zero_le _, rfl, by simpa using HP.out, World.ownsRow_nil _ _ _ _, rfl, ⟨by simp, fun i v l h => by simp at h⟩, Below.refl _ _⟩
  case round =>
    obtain ⟨k, q', vs, hk, rfl, hpk, ho, hvk, hall, hb⟩ := hrel
    have HO := Lib.hid ho
    have HB := Lib.hid hb
    have HA := Lib.hid hall
    have HV := Lib.hid hvk
    have hV : ∃ A c, u3 = .slice A k c := by
      rcases ho.2 with ⟨rfl, h⟩ | ⟨g, cap, cur, rfl, -⟩
      · exact ⟨none, 0, by rw [← hvk, h]⟩
      · exact ⟨_, _, by rw [← hvk]⟩
    obtain ⟨A3, c3, hV3⟩ := hV
    have HV3 := Lib.hid hV3
    clear ho hb hall hvk hV3
    by_cases hlt : k < N
    · obtain ⟨l, hl⟩ := getE ls k N HN.out hlt
      rw [drop_at hl] at hpk
      obtain ⟨g, q2, s, he, hBg, h0, h1, h2, h3⟩ := hpk
      cases he
      have c0 : wr.cell? ⟨g, 0, none⟩ = some q2 := (HB.out.cell (p := ⟨g, 0, none⟩) (World.block_lt_of_cell? _ _ h0)).trans h0
      have c1 : wr.cell? ⟨g, 1, none⟩ = some s := (HB.out.cell (p := ⟨g, 1, none⟩) (World.block_lt_of_cell? _ _ h1)).trans h1
      have HS := Lib.hid h2.1
      have hgw : g < w.heap.size := World.block_lt_of_cell? _ _ h0
      have H3 := Lib.hid h3
      obtain ⟨q3, rfl⟩ : ∃ q, q2 = .pointer q := by
        cases hd : ls.drop (k + 1) with
        | nil => rw [hd] at h3; exact ⟨none, h3⟩
        | cons l' ls' => rw [hd] at h3; obtain ⟨g', q', s', e, -⟩ := h3; exact ⟨_, e⟩
      obtain ⟨A', c', rfl, -⟩ := h2.1
      have HL := Lib.hid (take_at hl)
      clear h0 h1 h2 h3 hl
      go_wp2_with (at_builtin; go_must (refine append_elem (by rfl) (.tmp 17) (.tmp 22) 181 (by rfl) w.heap.size 64 i0 _ 1 24 Tryz.underlying181 Hi.out Hz.out.1 Hz.out.2.1 Hz.out.2.2 rfl (by omega) _ vs.length vs HO.out [.slice A' l.length c'] rfl (by simp [Value.oneCell']) (by rfl) wr.heap.size 1 (by rfl) (by rfl) (by have := HV.out; unfold maxLen; omega) (by have := HV.out; omega) HB.out.size ?_); intro v' w5 hown5 hb5; have c5 : w5.cell? ⟨g, 0, none⟩ = some (.pointer q3) := (hb5.cell (p := ⟨g, 0, none⟩) hgw).trans c0; have HO5 := Lib.hid hown5; have HB5 := Lib.hid (HB.out.trans hb5); clear hown5 hb5 c0 c1)
      go_roundw
      case rel =>
        refine ⟨k + 1, q3, vs ++ [.slice A' l.length c'], by omega, rfl, H3.out, by simpa using HO5.out, by rw [List.length_append, HV.out]; rfl, ?_, HB5.out⟩
        rw [HL.out]
        refine ⟨by rw [List.length_append, List.length_append, HA.out.1]; rfl, fun i v m h1 h2 => ?_⟩
        by_cases hi : i < vs.length
        · rw [List.getElem?_append_left hi] at h1
          rw [List.getElem?_append_left (by rw [← HA.out.1]; exact hi)] at h2
          exact HA.out.2 i v m h1 h2
        · rw [List.getElem?_append_right (by omega)] at h1
          rw [List.getElem?_append_right (by rw [← HA.out.1]; omega), ← HA.out.1] at h2
          have : i - vs.length = 0 := by
            have := (List.getElem?_eq_some_iff.1 h1).1
            simp at this; omega
          rw [this] at h1 h2
          simp at h1 h2
          subst h1 h2
          exact HS.out
      case measure =>
        have hv' : ∃ A c, v' = .slice A (k + 1) c := by
          have hl : (vs ++ [Value.slice A' l.length c']).length = k + 1 := by rw [List.length_append, HV.out]; rfl
          rcases HO5.out.2 with ⟨rfl, h⟩ | ⟨g, cap, cur, rfl, -⟩
          · have := HV.out; omega
          · exact ⟨_, _, by rw [HV.out]⟩
        obtain ⟨A4, c4, rfl⟩ := hv'
        rw [HV3.out]
        simp [slLen]
        omega
    · obtain rfl : k = N := by omega
      rw [show ls.drop k = [] from List.drop_eq_nil_of_le (by rw [HN.out]; exact Nat.le_refl _)] at hpk
      have hq : q' = none := by simpa [Parts] using hpk
      subst hq
      have hall : ls.take k = ls := List.take_of_length_le (by rw [HN.out]; exact Nat.le_refl _)
      rw [hall] at HA
      clear hall hpk
      have Hsl := Lib.hid (show ∀ v ∈ vs, ∃ A n c, v = .slice A n c from fun v hv => by
        obtain ⟨i, hi⟩ := List.getElem?_of_mem hv
        have hil : i < ls.length := by rw [← HA.out.1]; exact (List.getElem?_eq_some_iff.1 hi).1
        obtain ⟨A, c, h, -⟩ := HA.out.2 i v _ hi (List.getElem?_eq_getElem hil)
        exact ⟨_, _, _, h⟩)
      go_wp2_with fail
      refine (rev_by w.heap.size _ vs _ HO.out (by rw [HV.out]; exact hL) Hsl.out).mono ?_
      rintro e w1 ⟨rfl, ho1, hb1⟩
      have HO1 := Lib.hid ho1
      have HB1 := Lib.hid (HB.out.trans hb1)
      clear ho1 hb1
      go_wp2_with fail
      refine (concat_by _ vs.reverse ls.reverse _ (owned_sl (enc := oneB) (e := 64) (size := 1) (by rw [flat_oneB, List.length_reverse]; exact HO1.out)) ?_ (by rw [List.length_reverse, HV.out]; exact hL) (by rw [HBs.out]; exact Hn.out)).mono ?_
      · refine ⟨by rw [List.length_reverse, List.length_reverse, HA.out.1], fun i v l h1 h2 => ?_⟩
        have hi := (List.getElem?_eq_some_iff.1 h1).1
        rw [List.length_reverse] at hi
        rw [List.getElem?_reverse hi] at h1
        rw [List.getElem?_reverse (by rw [← HA.out.1]; exact hi), ← HA.out.1] at h2
        exact (HA.out.2 _ v l h1 h2).below HB1.out
      · rintro e w2 ⟨v2, rfl, ho2, hb2⟩
        rw [HBs.out] at ho2
        have HO2 := Lib.hid ho2
        have hle := HB1.out.size
        have HB2 := Lib.hid (HB1.out.trans (hb2.mono hle))
        clear ho2 hb2
        go_wp2
        go_ret
        exact ⟨_, rfl, by have := HO2.out; exact own_mono_by hle this, HB2.out⟩

end Go.Proofs.YtlpkaljepaclpaaGreat.Fx
