/- The table of inputs: contracts of input.table and input.all, of slices.Index over it, and of input.Code and input.FromCode. -/
import Derived.Test.YtaoncmgcpegogaaInLeaf
import Derived.Test.YtaoncmgcpegogaaGRows
import Derived.Test.YtaoncmgcpegogaaGSeq
import Derived.Maps.AppendAt
import Derived.Deep.DeepMust
namespace Go.Proofs.Ytaoncmgcpegogaa.Fx
open Go.ChangeShapes Go.WideShapes Go.ChangeAt Go.RowKit
set_option linter.unusedVariables false

/-- An input's cells. -/
def ienc (i : Int × Int × Bool) : List Value := [.int .i64 i.1, .int .i64 i.2.1, .bool i.2.2]

theorem ienc_len (i : Int × Int × Bool) : (ienc i).length = 3 := rfl

def pr2 (x y : Int) : List (Int × Int × Bool) := [(x, y, false), (x, y, true)]

/-- The inputs whose first step is x and whose second is one of the first k of l. -/
def inr (l : List Int) (x : Int) : Nat → List (Int × Int × Bool)
  | 0 => []
  | k + 1 => inr l x k ++ pr2 x (gi l k)

/-- The inputs whose first step is one of the first k of l. -/
def tab (l : List Int) : Nat → List (Int × Int × Bool)
  | 0 => []
  | k + 1 => tab l k ++ inr l (gi l k) 5

theorem inr_len (l : List Int) (x : Int) (k : Nat) : (inr l x k).length = 2 * k := by
  induction k with
  | zero => rfl
  | succ k ih => simp [inr, pr2, ih]; omega

theorem tab_len (l : List Int) (k : Nat) : (tab l k).length = 10 * k := by
  induction k with
  | zero => rfl
  | succ k ih => simp [tab, inr_len, ih]; omega

theorem info_input : (Try.prog.info? 23).map (fun i => (i.zero, i.size, i.bytes)) = some (some (.agg #[.int .i64 0, .int .i64 0, .bool false]), 3, 24) := by kernel_rfl

set_option maxHeartbeats 1000000 in
theorem table_in (g c : Nat) (l : List Int) (w : World) (hl : l.length = 5) (hI : IntsAt w (some ⟨g, 0, none⟩) 5 l) :
    Calls Try.prog 20 #[.slice (some ⟨g, 0, none⟩) 5 c] w fun e w' => ∃ A c', e = .returned (.slice A 50 c') ∧ CellsAt w' A ((tab l 5).flatMap ienc) ∧ Below w.heap.size w w' := by
  obtain ⟨i0, hi, hz0, hz1, hz2⟩ := info_parts info_input
  have Hi := Lib.hid hi
  have Hz0 := Lib.hid hz0
  have Hz1 := Lib.hid hz1
  have Hz2 := Lib.hid hz2
  have HI := Lib.hid hI
  clear hi hz0 hz1 hz2 hI
  go_enter Try.func20, Try.ntmps20
  go_wp2_with (at_make; go_must (refine wpList_make_own _ (by rfl) _ _ 35 (by rfl) w.heap.size 23 i0 (.agg #[.int .i64 0, .int .i64 0, .bool false]) 3 Try.underlying35 Hi.out Hz0.out Hz1.out .i64 .i64 _ 50 (by rfl) (by rfl) (by rfl) (by rw [Hz2.out]; omega) (by unfold maxLen; omega) (Nat.le_refl _) ?_); intro w0 hown0 hg0)
  have Hown0 := Lib.hid hown0
  have Hb0 := Lib.hid ((Below.refl w.heap.size w).grown hg0 (Nat.le_refl _) (fun k hk => by cases hk))
  clear hown0 hg0
  go_wp2
  go_loopw [3, 17] (fun v i wr => ∃ k : Nat, k ≤ 5 ∧ i = .int .i64 k ∧ wr.ownsRow w.heap.size 23 3 v (10 * k) ((tab l k).flatMap ienc) ∧ Below w.heap.size w wr) (fun _ i _ => 5 - (intOf i).toNat)
  case atStart => exact ⟨0, Nat.zero_le _, rfl, Hown0.out, Hb0.out⟩
  case round =>
    obtain ⟨k, hk, rfl, hown, hbel⟩ := hrel
    have Hown := Lib.hid hown
    have Hbel := Lib.hid hbel
    clear hown hbel
    by_cases hlt : k < 5
    · have hck : wr.cell? ⟨g, k, none⟩ = some (.int .i64 (gi l k)) := by
        obtain ⟨b, off, e, hc⟩ := (HI.out.below Hbel.out).2 (by omega)
        cases e
        have := hc k hlt
        rwa [Nat.zero_add] at this
      have HS := Lib.hid (show tab l (k + 1) = tab l k ++ inr l (gi l k) 5 from rfl)
      generalize gi l k = x at *
      have hd : decide ((k : Int) < 5) = true := decide_eq_true (by omega)
      go_wp2
      have Hlt := Lib.hid hlt
      clear hlt
      obtain ⟨wo, rfl⟩ : ∃ wo : World, wo = wr := ⟨_, rfl⟩
      go_loopw [3, 23] (fun v i wr => ∃ j : Nat, j ≤ 5 ∧ i = .int .i64 j ∧ wr.ownsRow w.heap.size 23 3 v (10 * k + 2 * j) ((tab l k ++ inr l x j).flatMap ienc) ∧ Below w.heap.size w wr) (fun _ i _ => 5 - (intOf i).toNat)
      case atStart => exact ⟨0, Nat.zero_le _, rfl, by simpa [inr] using Hown.out, Hbel.out⟩
      case round =>
        obtain ⟨j, hj, rfl, hown, hbel⟩ := hrel
        clear Hown Hbel
        have Hown := Lib.hid hown
        have Hbel := Lib.hid hbel
        clear hown hbel
        by_cases hlt2 : j < 5
        · have hck : wr.cell? ⟨g, j, none⟩ = some (.int .i64 (gi l j)) := by
            obtain ⟨b, off, e, hc⟩ := (HI.out.below Hbel.out).2 (by omega)
            cases e
            have := hc j hlt2
            rwa [Nat.zero_add] at this
          have HS2 := Lib.hid (show inr l x (j + 1) = inr l x j ++ pr2 x (gi l j) from rfl)
          generalize gi l j = y at *
          go_wp2_with (at_builtin; go_must (refine append_elems (by rfl) (.tmp 27) (.tmp 34) 35 (by rfl) w.heap.size 23 i0 (.agg #[.int .i64 0, .int .i64 0, .bool false]) 3 24 Try.underlying35 Hi.out Hz0.out Hz1.out Hz2.out (by rfl) (by omega) _ (10 * k + 2 * j) _ Hown.out 2 [.int .i64 x, .int .i64 y, .bool false, .int .i64 x, .int .i64 y, .bool true] (by rfl) (by simp [Value.oneCell']) (by rfl) wr.heap.size 2 (by rfl) (by rfl) (by unfold maxLen; omega) (by omega) Hbel.out.size ?_); intro v' w5 hown5 hb5)
          have HO5 := Lib.hid hown5
          have HB5 := Lib.hid (Hbel.out.trans hb5)
          clear hown5 hb5
          go_wp2
          go_roundw
          case rel =>
            refine ⟨j + 1, by omega, by go_num, ?_, HB5.out⟩
            have := HO5.out
            rw [HS2.out]
            simpa [pr2, ienc, Nat.mul_add, Nat.add_assoc] using this
          case measure => simp [intOf]; omega
        · obtain rfl : j = 5 := by omega
          rw [← HS.out] at Hown
          go_wp2
          go_roundw
          case rel => exact ⟨k + 1, by have := Hlt.out; omega, by go_num, by simpa [Nat.mul_add] using Hown.out, Hbel.out⟩
          case measure => have := Hlt.out; simp [intOf]; omega
    · obtain rfl : k = 5 := by omega
      obtain ⟨A, c, rfl, hat⟩ := owned_cells Hown.out
      have Hat := Lib.hid hat
      clear hat
      go_wp2
      go_ret
      exact ⟨A, c, rfl, Hat.out, Hbel.out⟩

/-- All right inputs in the order of their codes. -/
def T5 : List (Int × Int × Bool) := tab [-2, -1, 0, 1, 2] 5

theorem all_in (w : World) :
    Calls Try.prog 17 #[] w fun e w' => ∃ A c', e = .returned (.slice A 50 c') ∧ CellsAt w' A (T5.flatMap ienc) ∧ Below w.heap.size w w' := by
  have HT := Lib.hid (fun g c w hI => table_in g c [-2, -1, 0, 1, 2] w rfl hI)
  go_enter Try.func17, Try.ntmps17
  go_wp2_with fail
  refine (HT.out _ _ _ (ints_new w 3 [-2, -1, 0, 1, 2])).mono ?_
  rintro e w1 ⟨A, c, rfl, hat, hb⟩
  have Hat := Lib.hid hat
  have Hb := Lib.hid hb
  clear hat hb
  go_wp2
  go_ret
  exact ⟨A, c, rfl, Hat.out, unbox Hb.out⟩

set_option maxHeartbeats 1000000 in
theorem index_in (A : Option Addr) (c n : Nat) (es : List (Int × Int × Bool)) (x y : Int) (f : Bool) (w : World) (hn : es.length = n) (hn2 : n ≤ 1000) (hat : CellsAt w A (es.flatMap ienc)) :
    Calls Try.prog 19 #[.slice A n c, .agg #[.int .i64 x, .int .i64 y, .bool f]] w fun e w' => (∃ r, e = .returned (.int .i64 r) ∧ ((∃ k : Nat, r = k ∧ es[k]? = some (x, y, f)) ∨ (r = -1 ∧ ¬ (x, y, f) ∈ es))) ∧ Below w.heap.size w w' := by
  have Hn := Lib.hid hn
  have Hat := Lib.hid hat
  clear hn hat
  go_enter Try.func19, Try.ntmps19
  go_wp2
  go_loopw [8] (fun i wr => ∃ k : Nat, k ≤ n ∧ i = .int .i64 k ∧ (∀ j, j < k → es[j]? ≠ some (x, y, f)) ∧ Below (w.heap.size + 1) (w.alloc (.cells #[.int .i64 x, .int .i64 y, .bool f] 23)) wr) (fun i _ => n - (intOf i).toNat)
  case atStart => exact ⟨0, Nat.zero_le _, rfl, fun j hj => by omega, Below.refl _ _⟩
  case round =>
    obtain ⟨k, hk, rfl, hno, hbel⟩ := hrel
    have Hno := Lib.hid hno
    have Hbel := Lib.hid hbel
    have hb0 : Below w.heap.size w wr := ((Below.refl _ _).alloc (Nat.le_refl _) _).trans (hbel.mono (by omega))
    have c0 : wr.cell? ⟨w.heap.size, 0, none⟩ = some (.int .i64 x) := by rw [hbel.cell (p := ⟨w.heap.size, 0, none⟩) (Nat.lt_succ_self _)]; simp
    have c1 : wr.cell? ⟨w.heap.size, 1, none⟩ = some (.int .i64 y) := by rw [hbel.cell (p := ⟨w.heap.size, 1, none⟩) (Nat.lt_succ_self _)]; simp
    have c2 : wr.cell? ⟨w.heap.size, 2, none⟩ = some (.bool f) := by rw [hbel.cell (p := ⟨w.heap.size, 2, none⟩) (Nat.lt_succ_self _)]; simp
    have Hb0 := Lib.hid hb0
    clear hno hbel hb0
    by_cases hlt : k < n
    · obtain ⟨⟨a1, a2, a3⟩, ha⟩ : ∃ a, es[k]? = some a := ⟨_, List.getElem?_eq_getElem (by have := Hn.out; omega)⟩
      have Ha := Lib.hid ha
      obtain ⟨b, off, rfl, he⟩ := (Hat.out.below Hb0.out).elem 3 ienc_len (by omega) ha
      have d0 : wr.cell? ⟨b, off + k * 3, none⟩ = some (.int .i64 a1) := he 0 _ rfl
      have d1 : wr.cell? ⟨b, off + k * 3 + 1, none⟩ = some (.int .i64 a2) := he 1 _ rfl
      have d2 : wr.cell? ⟨b, off + k * 3 + 2, none⟩ = some (.bool a3) := he 2 _ rfl
      clear he ha
      have HS := Lib.hid (show same x y f a1 a2 a3 = true ↔ (x, y, f) = (a1, a2, a3) by simp [same])
      go_wp2_with fail
      go_region
      generalize same x y f a1 a2 a3 = q at *
      cases q
      · go_wp2
        go_roundw
        case rel =>
          refine ⟨k + 1, by omega, by go_num, fun j hj => ?_, Hbel.out.drew⟩
          rcases Nat.lt_succ_iff_lt_or_eq.1 hj with h | rfl
          · exact Hno.out j h
          · intro h
            rw [Ha.out] at h
            exact absurd (HS.out.2 (Option.some.inj h).symm) (by simp)
        case measure => simp [intOf]; omega
      · go_wp2
        go_ret
        exact ⟨⟨k, rfl, .inl ⟨k, rfl, by rw [Ha.out, HS.out.1 (by trivial)]⟩⟩, Hb0.out.drew⟩
    · go_wp2
      go_ret
      refine ⟨⟨-1, rfl, .inr ⟨rfl, fun hm => ?_⟩⟩, Hb0.out⟩
      obtain ⟨j, hj, he⟩ := List.mem_iff_getElem.1 hm
      exact Hno.out j (by have := Hn.out; omega) (by rw [List.getElem?_eq_getElem hj, he])

theorem T5_len : T5.length = 50 := rfl

theorem T5_get : ∀ k : Nat, k < 50 → T5[k]? = some (fcx k, fcy k, fcf k) := by decide

theorem cod_back {x y : Int} {f : Bool} (h : irt x y = true) : 0 ≤ cod x y f ∧ cod x y f ≤ 49 ∧ fcx (cod x y f) = x ∧ fcy (cod x y f) = y ∧ fcf (cod x y f) = f := by
  obtain ⟨h1, h2, h3, h4⟩ := irt_bd h
  have e : cod x y f = (x + 2) * 10 + (y + 2) * 2 + (if f then 1 else 0) := by unfold cod; rw [if_pos h]
  rw [e]
  unfold fcx fcy fcf
  cases f
  · simp only [Bool.false_eq_true, if_false]
    refine ⟨by omega, by omega, by rw [if_pos (by omega)]; omega, by rw [if_pos (by omega)]; omega, decide_eq_false (by omega)⟩
  · simp only [if_true]
    refine ⟨by omega, by omega, by rw [if_pos (by omega)]; omega, by rw [if_pos (by omega)]; omega, decide_eq_true (by omega)⟩

theorem from_back : ∀ k : Nat, k < 50 → irt (fcx k) (fcy k) = true ∧ cod (fcx k) (fcy k) (fcf k) = k := by decide

theorem T5_ix {x y : Int} {f : Bool} (h : irt x y = true) : (x, y, f) ∈ T5 ∧ ∀ k : Nat, T5[k]? = some (x, y, f) → (k : Int) = cod x y f := by
  obtain ⟨h1, h2, h3, h4, h5⟩ := cod_back (f := f) h
  obtain ⟨n, hn⟩ : ∃ n : Nat, cod x y f = n := ⟨(cod x y f).toNat, by omega⟩
  refine ⟨?_, fun k hk => ?_⟩
  · have := T5_get n (by omega)
    rw [← hn, h3, h4, h5] at this
    exact List.mem_of_getElem? this
  · have hlt := (List.getElem?_eq_some_iff.1 hk).1
    rw [T5_len] at hlt
    have := T5_get k hlt
    rw [hk] at this
    have e := Option.some.inj this
    rw [Prod.mk.injEq, Prod.mk.injEq] at e
    rw [e.1, e.2.1, e.2.2, (from_back k hlt).2]

theorem cod_bd (x y : Int) (f : Bool) : 0 ≤ cod x y f ∧ cod x y f ≤ 49 := by
  by_cases h : irt x y = true
  · have := cod_back (f := f) h
    omega
  · unfold cod
    rw [if_neg h]
    omega

theorem code_in (x y : Int) (f : Bool) (w : World) :
    Calls Try.prog 13 #[.agg #[.int .i64 x, .int .i64 y, .bool f]] w fun e w' => e = .returned (.int .u8 (cod x y f)) ∧ Below w.heap.size w w' := by
  have HT := Lib.hid (fun w => right_in x y f w)
  by_cases h : irt x y = true
  · have HX := Lib.hid (T5_ix (f := f) h)
    have HD := Lib.hid (cod_bd x y f)
    rw [h] at HT
    clear h
    generalize cod x y f = q at *
    have HA := Lib.hid all_in
    have HI := Lib.hid (fun A c w h => index_in A c 50 T5 x y f w T5_len (by omega) h)
    go_enter Try.func13, Try.ntmps13
    go_wp2_with fail
    refine (HT.out _).mono ?_
    rintro e w1 ⟨rfl, hbw1⟩
    obtain ⟨hcw1, hfw1⟩ := bcell hbw1
    have hzw1 : w.heap.size < w1.heap.size := by have := hbw1.size; (try simp at this); omega
    have Hbw1 := Lib.hid hbw1
    clear hbw1
    go_wp2_with fail
    refine plan_region' (S := (fun w' => (∀ b o, b < (w1).heap.size → w'.cell? ⟨b, o, none⟩ = (w1).cell? ⟨b, o, none⟩) ∧ (∀ b o, b < (w1).heap.size → w'.frozen? ⟨b, o, none⟩ = (w1).frozen? ⟨b, o, none⟩) ∧ Below (w1).heap.size (w1) w')) [(1, true), (0, false), (2, false), (3, true), (4, true)] (by kernel_rfl) (by kernel_rfl) (fun _ _ d _ _ h => by cases d <;> exact h) (keepW0 _) (fun hS => ?_)
    simp only [picked, List.getElem?_cons_succ, List.getElem?_cons_zero, List.append_eq, List.cons_append, List.nil_append]
    refine row_free (v := ?_) (by rfl) ?_ ?_
    rotate_left 1
    focus (intro w hSw; (try dsimp only at hSw); go_simp; (try with_reducible rfl))
    (try simp only [Act.put, List.setIfInBounds_toArray, List.set_cons_zero, List.set_cons_succ])
    refine row_call (by rfl) (fun K hK => ?_)
    go_simp
    (refine (HA.out _).mono ?_; rintro e w4 ⟨A, c, rfl, hat, hb4⟩; have Hat := Lib.hid hat; clear hat)
    (try go_wp2_with fail)
    refine hK.out _ _ ?_ (fun hS' => ?_)
    · (try dsimp only); exact keepW (by assumption) (by assumption)
    clear hS hK K
    have hS := hS'
    clear hS'
    (try simp only [Act.put, List.setIfInBounds_toArray, List.set_cons_zero, List.set_cons_succ])
    refine row_call (by rfl) (fun K hK => ?_)
    go_simp
    (refine (HI.out _ _ _ Hat.out).mono ?_; rintro e w5 ⟨⟨r, rfl, hr⟩, hb5⟩; have hrq : r = q := (by rcases hr with ⟨k, rfl, hk⟩ | ⟨_, hno⟩; exact HX.out.2 k hk; exact absurd HX.out.1 hno); subst hrq; have hq := HD.out)
    (try go_wp2_with fail)
    refine hK.out _ _ ?_ (fun hS' => ?_)
    · (try dsimp only); exact keepW (by assumption) (by assumption)
    clear hS hK K
    have hS := hS'
    clear hS'
    (try simp only [Act.put, List.setIfInBounds_toArray, List.set_cons_zero, List.set_cons_succ])
    refine row_free (v := ?_) (by rfl) ?_ ?_
    rotate_left 1
    focus (intro w hSw; (try dsimp only at hSw); go_simp; (try with_reducible rfl))
    (try simp only [Act.put, List.setIfInBounds_toArray, List.set_cons_zero, List.set_cons_succ])
    refine row_free (v := ?_) (by rfl) ?_ ?_
    rotate_left 1
    focus (intro w hSw; (try dsimp only at hSw); go_simp; (try with_reducible rfl))
    (try simp only [Act.put, List.setIfInBounds_toArray, List.set_cons_zero, List.set_cons_succ])
    refine row_done ?_
    rw [show IntKind.u8.wrap r = r by rw [IntKind.wrap_u8]; omega]
    go_wp2
    go_ret
    exact ⟨rfl, unbox (Hbw1.out.trans (hS.2.2.mono Hbw1.out.size))⟩
  · rw [Bool.not_eq_true] at h
    have hc : cod x y f = 0 := by unfold cod; rw [if_neg (by simp [h])]
    rw [h] at HT
    rw [hc]
    clear hc h
    go_enter Try.func13, Try.ntmps13
    go_wp2_with fail
    refine (HT.out _).mono ?_
    rintro e w1 ⟨rfl, hbw1⟩
    obtain ⟨hcw1, hfw1⟩ := bcell hbw1
    have hzw1 : w.heap.size < w1.heap.size := by have := hbw1.size; (try simp at this); omega
    have Hbw1 := Lib.hid hbw1
    clear hbw1
    go_wp2
    go_ret
    exact ⟨rfl, unbox Hbw1.out⟩

theorem from_in (b : Int) (w : World) (h0 : 0 ≤ b) (h1 : b ≤ 255) :
    Calls Try.prog 8 #[.int .u8 b] w fun e w' => e = .returned (.tuple #[.agg #[.int .i64 (fcx b), .int .i64 (fcy b), .bool (fcf b)], .bool (decide (b ≤ 49))]) ∧ Below w.heap.size w w' := by
  have HA := Lib.hid all_in
  by_cases h : b ≤ 49
  · rw [decide_eq_true h]
    obtain ⟨k, rfl⟩ : ∃ k : Nat, b = k := ⟨b.toNat, by omega⟩
    have HG := Lib.hid (T5_get k (by omega))
    generalize fcx k = x at *
    generalize fcy k = y at *
    generalize fcf k = f at *
    go_enter Try.func8, Try.ntmps8
    go_wp2_with fail
    refine (HA.out _).mono ?_
    rintro e w1 ⟨A, c, rfl, hat, hb⟩
    obtain ⟨p, off, rfl, he⟩ := hat.elem 3 ienc_len (by omega) HG.out
    have d0 : w1.cell? ⟨p, off + k * 3, none⟩ = some (.int .i64 x) := he 0 _ rfl
    have d1 : w1.cell? ⟨p, off + k * 3 + 1, none⟩ = some (.int .i64 y) := he 1 _ rfl
    have d2 : w1.cell? ⟨p, off + k * 3 + 2, none⟩ = some (.bool f) := he 2 _ rfl
    obtain ⟨hc1, hf1⟩ := bcell hb
    have hz1 : w.heap.size < w1.heap.size := by have := hb.size; simp at this; omega
    have Hb := Lib.hid hb
    clear he hat hb
    go_wp2
    refine bodyPost_ret (v := .tuple #[.agg #[.int .i64 x, .int .i64 y, .bool f], .bool true]) (by simp [results, Try.results8, go_sem, hc1]) rfl ⟨rfl, ?_⟩
    exact (((unbox Hb.out).setCell (Nat.le_refl _) _).setCell (Nat.le_refl _) _).setCell (Nat.le_refl _) _
  · have e1 : fcx b = 0 := by unfold fcx; rw [if_neg h]
    have e2 : fcy b = 0 := by unfold fcy; rw [if_neg h]
    have e3 : fcf b = false := by simp [fcf, h]
    rw [e1, e2, e3, decide_eq_false h]
    clear e1 e2 e3
    go_enter Try.func8, Try.ntmps8
    go_wp2_with fail
    refine (HA.out _).mono ?_
    rintro e w1 ⟨A, c, rfl, hat, hb⟩
    obtain ⟨hc1, hf1⟩ := bcell hb
    have hz1 : w.heap.size < w1.heap.size := by have := hb.size; simp at this; omega
    have Hb := Lib.hid hb
    clear hat hb
    go_wp2
    refine bodyPost_ret (v := .tuple #[.agg #[.int .i64 0, .int .i64 0, .bool false], .bool false]) (by simp [results, Try.results8, go_sem, hc1]) rfl ⟨rfl, ?_⟩
    exact (((unbox Hb.out).setCell (Nat.le_refl _) _).setCell (Nat.le_refl _) _).setCell (Nat.le_refl _) _

theorem awake_in (w : World) :
    Calls Try.prog 10 #[] w fun e w' => e = .returned (.bool true) ∧ Below w.heap.size w w' := by
  have H1 := Lib.hid (fun w => right_in 2 0 false w)
  have H2 := Lib.hid (fun w => right_in 3 0 false w)
  have H3 := Lib.hid (fun w => code_in 0 0 false w)
  rw [show irt 2 0 = true by decide] at H1
  rw [show irt 3 0 = false by decide] at H2
  rw [show cod 0 0 false = 24 by decide] at H3
  go_enter Try.func10, Try.ntmps10
  go_wp2_with fail
  refine (H1.out _).mono ?_
  rintro e w1 ⟨rfl, hbw1⟩
  obtain ⟨hcw1, hfw1⟩ := bcell hbw1
  have Hbw1 := Lib.hid hbw1
  clear hbw1
  go_wp2_with fail
  refine (H2.out _).mono ?_
  rintro e w2 ⟨rfl, hbw2⟩
  obtain ⟨hcw2, hfw2⟩ := bcell hbw2
  have Hbw2 := Lib.hid hbw2
  clear hbw2
  go_wp2_with fail
  refine (H3.out _).mono ?_
  rintro e w3 ⟨rfl, hbw3⟩
  obtain ⟨hcw3, hfw3⟩ := bcell hbw3
  have Hbw3 := Lib.hid hbw3
  clear hbw3
  go_wp2
  go_ret
  exact ⟨rfl, (Hbw1.out.trans (Hbw2.out.mono Hbw1.out.size)).trans (Hbw3.out.mono (Nat.le_trans Hbw1.out.size Hbw2.out.size))⟩

end Go.Proofs.Ytaoncmgcpegogaa.Fx
