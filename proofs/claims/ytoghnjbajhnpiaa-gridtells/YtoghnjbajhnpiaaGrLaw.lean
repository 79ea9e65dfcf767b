/- Contracts of grid.New, of the statements' Config and In, and of awake: what each returns; old memory stays. -/
import Derived.Test.YtoghnjbajhnpiaaGrNear
import Derived.Test.YtoghnjbajhnpiaaGOwn
import Derived.Deep.RegionHeld3
namespace Go.Proofs.Ytoghnjbajhnpiaa.Fx
open Go.ChangeShapes Go.WideShapes Go.ChangeAt Go.RowKit
set_option linter.unusedVariables false

theorem new_yes (a b p n s : Int) (w : World) (h : rt a b p n = true) :
    Calls Try.prog 7 #[.agg #[.int .i64 a, .int .i64 b, .int .i64 p, .int .i64 n, .int .u64 s]] w fun e w' => e = .returned (.tuple #[.agg #[.int .i64 a, .int .i64 b, .int .i64 p, .int .i64 n, .int .u64 s], .int .i64 0]) ∧ Below w.heap.size w w' := by
  have HT := Lib.hid (fun w => told_any a b p n s w)
  rw [h] at HT
  clear h
  go_enter Try.func7, Try.ntmps7
  go_wp2_with fail
  refine (HT.out _).mono ?_
  rintro e w1 ⟨rfl, hbw1⟩
  obtain ⟨hcw1, hfw1⟩ := bcell hbw1
  have hzw1 : w.heap.size < w1.heap.size := by have := hbw1.size; (try simp at this); omega
  have hzw1_1 : w.heap.size + 1 < w1.heap.size := by have := hbw1.size; (try simp at this); omega
  have hzw1_2 : w.heap.size + 2 < w1.heap.size := by have := hbw1.size; (try simp at this); omega
  have Hbw1 := Lib.hid hbw1
  clear hbw1
  go_wp2
  refine bodyPost_ret (v := .tuple #[.agg #[.int .i64 a, .int .i64 b, .int .i64 p, .int .i64 n, .int .u64 s], .int .i64 0]) (by simp [results, Try.results7, go_sem, hcw1]) rfl ⟨rfl, ?_⟩
  exact (((((unbox (unbox (unbox Hbw1.out))).setCell (Nat.le_succ _) _).setCell (Nat.le_succ _) _).setCell (Nat.le_succ _) _).setCell (Nat.le_succ _) _).setCell (Nat.le_succ _) _

theorem new_no (a b p n s : Int) (w : World) (h : rt a b p n = false) :
    Calls Try.prog 7 #[.agg #[.int .i64 a, .int .i64 b, .int .i64 p, .int .i64 n, .int .u64 s]] w fun e w' => e = .returned (.tuple #[.agg #[.int .i64 0, .int .i64 0, .int .i64 0, .int .i64 0, .int .u64 0], .int .i64 10]) ∧ Below w.heap.size w w' := by
  have HT := Lib.hid (fun w => told_any a b p n s w)
  rw [h] at HT
  clear h
  go_enter Try.func7, Try.ntmps7
  go_wp2_with fail
  refine (HT.out _).mono ?_
  rintro e w1 ⟨rfl, hbw1⟩
  obtain ⟨hcw1, hfw1⟩ := bcell hbw1
  have hzw1 : w.heap.size < w1.heap.size := by have := hbw1.size; (try simp at this); omega
  have hzw1_1 : w.heap.size + 1 < w1.heap.size := by have := hbw1.size; (try simp at this); omega
  have hzw1_2 : w.heap.size + 2 < w1.heap.size := by have := hbw1.size; (try simp at this); omega
  have Hbw1 := Lib.hid hbw1
  clear hbw1
  go_wp2
  refine bodyPost_ret (v := .tuple #[.agg #[.int .i64 0, .int .i64 0, .int .i64 0, .int .i64 0, .int .u64 0], .int .i64 10]) (by simp [results, Try.results7, go_sem, hcw1]) rfl ⟨rfl, ?_⟩
  exact (((((unbox (unbox (unbox Hbw1.out))).setCell (Nat.le_succ _) _).setCell (Nat.le_succ _) _).setCell (Nat.le_succ _) _).setCell (Nat.le_succ _) _).setCell (Nat.le_succ _) _

theorem umod (x m : Int) (hm : 1 ≤ m) (hm2 : m ≤ 1000000) : wrap64 ((IntKind.u64.wrap x).tmod m) = IntKind.u64.wrap x % m ∧ 0 ≤ IntKind.u64.wrap x % m ∧ IntKind.u64.wrap x % m < m := by
  have h0 : 0 ≤ IntKind.u64.wrap x := by rw [IntKind.wrap_u64]; omega
  have h1 := Int.emod_nonneg (IntKind.u64.wrap x) (show m ≠ 0 by omega)
  have h2 := Int.emod_lt_of_pos (IntKind.u64.wrap x) (show 0 < m by omega)
  rw [Int.tmod_eq_emod_of_nonneg h0, IntWalk.wrap64_in _ (by omega)]
  exact ⟨rfl, h1, h2⟩

theorem umodR (x R : Int) (h1 : 1 ≤ R) (h2 : R ≤ 1000000) : IntKind.i64.wrap ((IntKind.u64.wrap x).tmod R) = IntKind.u64.wrap x % R ∧ 0 ≤ IntKind.i64.wrap ((IntKind.u64.wrap x).tmod R) ∧ IntKind.i64.wrap ((IntKind.u64.wrap x).tmod R) < R := by
  obtain ⟨h, h3, h4⟩ := umod x R h1 h2
  have : IntKind.i64.wrap ((IntKind.u64.wrap x).tmod R) = IntKind.u64.wrap x % R := by rw [← h, IntKind.wrap_i64, wrap64]
  rw [this]
  exact ⟨rfl, h3, h4⟩

theorem umod1 (x m : Int) (hm : 1 ≤ m) (hm2 : m ≤ 1000000) : 1 ≤ wrap64 (1 + wrap64 ((IntKind.u64.wrap x).tmod m)) ∧ wrap64 (1 + wrap64 ((IntKind.u64.wrap x).tmod m)) ≤ m := by
  obtain ⟨h, h1, h2⟩ := umod x m hm hm2
  rw [h, IntWalk.wrap64_in _ (by omega)]
  omega

/-- A config that is right and not too great. -/
def Small (a b p n : Int) : Prop := rt a b p n = true ∧ a ≤ 3 ∧ b ≤ 3 ∧ p ≤ 4

/-- A config that is right and not too great comes back. -/
def RetSmall (s : Int) (w : World) (e : Ending) (w' : World) : Prop := ∃ a b p n, e = .returned (.agg #[.int .i64 a, .int .i64 b, .int .i64 p, .int .i64 n, .int .u64 s]) ∧ Small a b p n ∧ Below w.heap.size w w'

set_option maxHeartbeats 1000000 in
theorem config_any (a b p n s : Int) (w : World) :
    Calls Try.prog 23 #[.agg #[.int .i64 a, .int .i64 b, .int .i64 p, .int .i64 n, .int .u64 s]] w (RetSmall s w) := by
  have HT := Lib.hid (fun w => right_any a b p n s w)
  by_cases h : rt a b p n = true ∧ a ≤ 3 ∧ b ≤ 3 ∧ p ≤ 4
  · have HS := Lib.hid (show Small a b p n from h)
    obtain ⟨h, h1, h2, h3⟩ := h
    rw [h] at HT
    clear h
    go_enter Try.func23, Try.ntmps23
    go_wp2_with fail
    refine (HT.out _).mono ?_
    rintro e w1 ⟨rfl, hbw1⟩
    obtain ⟨hcw1, hfw1⟩ := bcell hbw1
    have hzw1 : w.heap.size < w1.heap.size := by have := hbw1.size; (try simp at this); omega
    have hzw1_1 : w.heap.size + 1 < w1.heap.size := by have := hbw1.size; (try simp at this); omega
    have Hbw1 := Lib.hid hbw1
    clear hbw1
    go_wp2
    refine bodyPost_ret (v := .agg #[.int .i64 a, .int .i64 b, .int .i64 p, .int .i64 n, .int .u64 s]) (by simp [results, Try.results23, go_sem, hcw1]) rfl ⟨a, b, p, n, rfl, HS.out, ?_⟩
    exact (((((unbox (unbox Hbw1.out)).setCell (Nat.le_succ _) _).setCell (Nat.le_succ _) _).setCell (Nat.le_succ _) _).setCell (Nat.le_succ _) _).setCell (Nat.le_succ _) _
  · have HS : ∃ a' b' p' n', wrap64 (1 + wrap64 ((IntKind.u64.wrap a).tmod 3)) = a' ∧ wrap64 (1 + wrap64 ((IntKind.u64.wrap b).tmod 3)) = b' ∧ wrap64 (1 + wrap64 ((IntKind.u64.wrap p).tmod 4)) = p' ∧ wrap64 (1 + wrap64 ((IntKind.u64.wrap n).tmod 8)) = n' ∧ Small a' b' p' n' := by
      refine ⟨_, _, _, _, rfl, rfl, rfl, rfl, ?_⟩
      have m1 := umod1 a 3 (by decide) (by decide)
      have m2 := umod1 b 3 (by decide) (by decide)
      have m3 := umod1 p 4 (by decide) (by decide)
      have m4 := umod1 n 8 (by decide) (by decide)
      refine ⟨by unfold rt; exact decide_eq_true (by omega), by omega, by omega, by omega⟩
    obtain ⟨a', b', p', n', e1, e2, e3, e4, hs⟩ := HS
    have HS := Lib.hid hs
    have E1 := Lib.hid e1
    have E2 := Lib.hid e2
    have E3 := Lib.hid e3
    have E4 := Lib.hid e4
    clear hs e1 e2 e3 e4
    cases hrt : rt a b p n
    · rw [hrt] at HT
      clear hrt h
      go_enter Try.func23, Try.ntmps23
      go_wp2_with fail
      refine (HT.out _).mono ?_
      rintro e w1 ⟨rfl, hbw1⟩
      obtain ⟨hcw1, hfw1⟩ := bcell hbw1
      have hzw1 : w.heap.size < w1.heap.size := by have := hbw1.size; (try simp at this); omega
      have hzw1_1 : w.heap.size + 1 < w1.heap.size := by have := hbw1.size; (try simp at this); omega
      have Hbw1 := Lib.hid hbw1
      clear hbw1
      go_wp2
      rw [E1.out, E2.out, E3.out, E4.out]
      refine bodyPost_ret (v := .agg #[.int .i64 a', .int .i64 b', .int .i64 p', .int .i64 n', .int .u64 s]) (by simp [results, Try.results23, go_sem, hcw1]) rfl ⟨a', b', p', n', rfl, HS.out, ?_⟩
      exact (((((unbox (unbox Hbw1.out)).setCell (Nat.le_succ _) _).setCell (Nat.le_succ _) _).setCell (Nat.le_succ _) _).setCell (Nat.le_succ _) _).setCell (Nat.le_succ _) _
    · rw [hrt] at HT
      have H := Lib.hid (fun h' : a ≤ 3 ∧ b ≤ 3 ∧ p ≤ 4 => h ⟨hrt, h'⟩)
      clear hrt h
      go_enter Try.func23, Try.ntmps23
      go_wp2_with fail
      refine (HT.out _).mono ?_
      rintro e w1 ⟨rfl, hbw1⟩
      obtain ⟨hcw1, hfw1⟩ := bcell hbw1
      have hzw1 : w.heap.size < w1.heap.size := by have := hbw1.size; (try simp at this); omega
      have hzw1_1 : w.heap.size + 1 < w1.heap.size := by have := hbw1.size; (try simp at this); omega
      have Hbw1 := Lib.hid hbw1
      clear hbw1
      go_wp2
      all_goals first | (exfalso; exact H.out ⟨by omega, by omega, by omega⟩) | skip
      all_goals
        rw [E1.out, E2.out, E3.out, E4.out]
        refine bodyPost_ret (v := .agg #[.int .i64 a', .int .i64 b', .int .i64 p', .int .i64 n', .int .u64 s]) (by simp [results, Try.results23, go_sem, hcw1]) rfl ⟨a', b', p', n', rfl, HS.out, ?_⟩
        exact (((((unbox (unbox Hbw1.out)).setCell (Nat.le_succ _) _).setCell (Nat.le_succ _) _).setCell (Nat.le_succ _) _).setCell (Nat.le_succ _) _).setCell (Nat.le_succ _) _

/-- In's plain meaning. -/
def inB (l : List Int) (x : Int) : Bool := decide (x ∈ l)

theorem in_any (A : Option Addr) (n c : Nat) (l : List Int) (x : Int) (w : World) (hl : IntsAt w A n l) (hn : n ≤ 1000000) :
    Calls Try.prog 24 #[.slice A n c, .int .i64 x] w fun e w' => e = .returned (.bool (inB l x)) ∧ w = w' := by
  obtain ⟨hlen, hat⟩ := hl
  have Hlen := Lib.hid hlen
  have Hat := Lib.hid hat
  have HB := Lib.hid (show inB l x = decide (x ∈ l) from rfl)
  clear hat hlen
  generalize inB l x = r at *
  go_enter Try.func24, Try.ntmps24
  go_wp2
  go_loop [5] (fun i => ∃ k : Nat, k ≤ n ∧ i = .int .i64 k ∧ ∀ j, j < k → gi l j ≠ x) (fun i => n - (intOf i).toNat)
  case atStart => exact ⟨0, Nat.zero_le _, rfl, fun j hj => by omega⟩
  case round =>
    obtain ⟨k, hk, rfl, hno⟩ := hrel
    have Hno := Lib.hid hno
    clear hno
    by_cases hlt : k < n
    · obtain ⟨b, off, hA, hc⟩ := Hat.out (by omega)
      subst hA
      have hck := hc k hlt
      clear hc
      have HG := Lib.hid (show gi l k ∈ l by unfold gi; rw [List.getD_eq_getElem?_getD, List.getElem?_eq_getElem (by have := Hlen.out; omega)]; simp)
      generalize hg : gi l k = y at *
      have Hg := Lib.hid hg
      clear hg
      by_cases hxy : y = x
      · subst hxy
        go_wp2
        go_ret
        exact ⟨ret_bool (by rw [HB.out]; simp [HG.out]), rfl⟩
      · have hxy' : (y == x) = false := by simpa using hxy
        go_wp2
        go_round
        case rel => exact ⟨k + 1, by omega, by go_num, fun j hj => by rcases Nat.lt_succ_iff_lt_or_eq.1 hj with h | rfl; exact Hno.out j h; rw [Hg.out]; exact hxy⟩
        case measure => simp [intOf]; omega
    · go_wp2
      go_ret
      have hnot : ¬ x ∈ l := by
        intro hm
        obtain ⟨j, hj, rfl⟩ := List.mem_iff_getElem.1 hm
        have := Hno.out j (by have := Hlen.out; omega)
        unfold gi at this
        rw [List.getD_eq_getElem?_getD, List.getElem?_eq_getElem hj] at this
        exact this rfl
      exact ⟨ret_bool (by rw [HB.out]; simp [hnot]), rfl⟩

theorem near330 : nr 3 3 1 1 0 = [0, 1, 3, 4] := by decide +kernel

theorem regs33 : regs 3 3 1 1 = 9 := by decide +kernel

theorem ints_new4 (w : World) (T : TypeId) (a b c d : Int) (g : Nat) (hg : g = w.heap.size) : IntsAt (w.alloc (.cells #[.int .i64 a, .int .i64 b, .int .i64 c, .int .i64 d] T)) (some ⟨g, 0, none⟩) 4 [a, b, c, d] := by subst hg; exact ints_new w T [a, b, c, d]

theorem awake_any (w : World) :
    Calls Try.prog 11 #[] w fun e w' => e = .returned (.bool true) ∧ Below w.heap.size w w' := by
  have HN := Lib.hid (fun w => new_yes 3 3 1 1 0 w (by decide +kernel))
  have HR := Lib.hid (fun w => regions_any 3 3 1 1 0 w)
  have HE := Lib.hid (fun w => near_any 3 3 1 1 0 0 w)
  rw [near330] at HE
  rw [regs33] at HR
  go_enter Try.func11, Try.ntmps11
  go_wp2_with fail
  refine (HN.out _).mono ?_
  rintro e w1 ⟨rfl, hbw1⟩
  obtain ⟨hcw1, hfw1⟩ := bcell hbw1
  have Hbw1 := Lib.hid hbw1
  clear hbw1
  go_wp2_with fail
  refine (HR.out _).mono ?_
  rintro e w2 ⟨rfl, hbw2⟩
  obtain ⟨hcw2, hfw2⟩ := bcell hbw2
  have Hbw2 := Lib.hid hbw2
  clear hbw2
  have hzw2 : w1.heap.size < w2.heap.size := by have := Hbw2.out.size; (try simp at this); omega
  go_wp2_with fail
  refine (HE.out _).mono ?_
  rintro e w3 ⟨A, c, rfl, hat, hb3⟩
  have Hat := Lib.hid hat
  have Hb3 := Lib.hid hb3
  clear hat hb3
  go_wp2_with fail
  refine (plain_yes A _ 4 c 4 [0, 1, 3, 4] _ (Hat.out.keep fun _ _ h => by rw [World.cell?_alloc_lt _ _ _ (World.block_lt_of_cell? _ _ h)]; exact h) (ints_new4 _ _ 0 1 3 4 _ (by rfl)) (by omega)).mono ?_
  rintro e w4 ⟨rfl, hq⟩
  have Hq := Lib.hid hq
  clear hq
  go_wp2
  go_ret
  refine ⟨rfl, ?_⟩
  obtain ⟨q, rfl⟩ := Hq.out
  have h2 := unbox Hbw2.out
  have h3 : Below w.heap.size w w3 := (Hbw1.out.trans (h2.mono Hbw1.out.size)).trans (Hb3.out.mono (Nat.le_trans Hbw1.out.size h2.size))
  exact below_drewN (h3.alloc h3.size _) q

theorem mem_nrTo (a r y : Int) (k : Nat) : y ∈ nrTo a r k ↔ 0 ≤ y ∧ y < k ∧ nearB a r y = true := by
  induction k with
  | zero => simp [nrTo]; omega
  | succ k ih =>
    unfold nrTo
    by_cases h : nearB a r k = true
    · rw [if_pos h, List.mem_append, ih, List.mem_singleton]
      constructor
      · rintro (⟨h0, h1, h2⟩ | rfl)
        · exact ⟨h0, by omega, h2⟩
        · exact ⟨by omega, by omega, h⟩
      · rintro ⟨h0, h1, h2⟩
        by_cases e : y = k
        · exact .inr e
        · exact .inl ⟨h0, by omega, h2⟩
    · rw [if_neg h, List.append_nil, ih]
      constructor
      · rintro ⟨h0, h1, h2⟩
        exact ⟨h0, by omega, h2⟩
      · rintro ⟨h0, h1, h2⟩
        refine ⟨h0, ?_, h2⟩
        by_cases e : y = k
        · subst e; exact absurd h2 h
        · omega

theorem mem_nr {a b p n r y : Int} (h : hasB a b p n r = true) : y ∈ nr a b p n r ↔ 0 ≤ y ∧ y < a * b ∧ nearB a r y = true := by
  unfold nr
  rw [if_pos h, mem_nrTo]
  obtain ⟨-, h0, h1, ha, ha4, hb, hb4, -⟩ := hasB_rt h
  have := mul_le4 ha ha4 hb hb4
  constructor <;> (rintro ⟨x, y, z⟩; exact ⟨x, by omega, z⟩)

theorem of_has {a b p n : Int} (h : rt a b p n = true) (x y : Int) : 0 ≤ ofr a b p n x y ∧ ofr a b p n x y < a * b ∧ ofr a b p n x y % a = clamp x 0 (a * 1024 - 1) / 1024 ∧ ofr a b p n x y / a = clamp y 0 (b * 1024 - 1) / 1024 := by
  obtain ⟨r1, r2, r3, r4, -⟩ := rt_bd h
  have hx := clamp_bd x (a * 1024 - 1) (by omega)
  have hy := clamp_bd y (b * 1024 - 1) (by omega)
  unfold ofr
  rw [if_pos h]
  generalize clamp x 0 (a * 1024 - 1) = cx at *
  generalize clamp y 0 (b * 1024 - 1) = cy at *
  have ea : a = 1 ∨ a = 2 ∨ a = 3 ∨ a = 4 := by omega
  have eb : b = 1 ∨ b = 2 ∨ b = 3 ∨ b = 4 := by omega
  rcases ea with rfl | rfl | rfl | rfl <;> rcases eb with rfl | rfl | rfl | rfl <;> omega

/-- Five cells of a box, and all that is older, stay while what is new alone turns. -/
theorem keep5 {w0 w w1 : World} {B g : Nat} {v0 v1 v2 v3 v4 : Value} (hb : Below w.heap.size w w1)
    (h : w.cell? ⟨g, 0, none⟩ = some v0 ∧ w.cell? ⟨g, 1, none⟩ = some v1 ∧ w.cell? ⟨g, 2, none⟩ = some v2 ∧ w.cell? ⟨g, 3, none⟩ = some v3 ∧ w.cell? ⟨g, 4, none⟩ = some v4 ∧ Below B w0 w ∧ B ≤ w.heap.size) :
    w1.cell? ⟨g, 0, none⟩ = some v0 ∧ w1.cell? ⟨g, 1, none⟩ = some v1 ∧ w1.cell? ⟨g, 2, none⟩ = some v2 ∧ w1.cell? ⟨g, 3, none⟩ = some v3 ∧ w1.cell? ⟨g, 4, none⟩ = some v4 ∧ Below B w0 w1 ∧ B ≤ w1.heap.size := by
  obtain ⟨h0, h1, h2, h3, h4, h5, h6⟩ := h
  have hg : g < w.heap.size := World.block_lt_of_cell? _ _ h0
  exact ⟨(hb.cell hg).trans h0, (hb.cell hg).trans h1, (hb.cell hg).trans h2, (hb.cell hg).trans h3, (hb.cell hg).trans h4, h5.trans (hb.mono h6), Nat.le_trans h6 hb.size⟩

end Go.Proofs.Ytoghnjbajhnpiaa.Fx
