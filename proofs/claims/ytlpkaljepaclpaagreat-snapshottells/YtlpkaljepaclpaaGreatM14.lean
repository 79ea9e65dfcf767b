/- Package entity's calls on lists: what each returns, for every list; old memory stays. Package region: is a number there? -/
import Derived.Test.YtlpkaljepaclpaaGreatM09
import Derived.Test.YtlpkaljepaclpaaGreatM13
import Derived.Test.YtlpkaljepaclpaaGreatM07
import Derived.Test.YtlpkaljepaclpaaGreatM06
namespace Go.Proofs.YtlpkaljepaclpaaGreat.Fx
open Go.ChangeShapes Go.WideShapes Go.ChangeAt Go.RowKit
set_option linter.unusedVariables false
set_option maxRecDepth 100000

theorem things_any (v : Value) (l : List Ent) (w : World) (hv : IsSl entC w v l) (hn : l.length ≤ 1000) :
    Calls Tryz.prog 150 #[v] w fun e w' => e = .returned (.int .i64 (Fx.things l)) ∧ Below w.heap.size w w' := by
  obtain ⟨A, c, rfl, -, -, hat⟩ := hv
  have Hat := Lib.hid hat
  obtain ⟨n, hnn⟩ : ∃ n, l.length = n := ⟨_, rfl⟩
  rw [hnn] at hn ⊢
  have Hn := Lib.hid hnn
  clear hat hnn
  have HF := Lib.hid (show Fx.things l = 0 + Fx.things (l.drop 0) by simp)
  generalize Fx.things l = r at *
  go_enter Tryz.func150, Tryz.ntmps150
  go_wp2
  go_loopw [3, 8] (fun m i wr => ∃ (k : Nat) (q : Int), k ≤ n ∧ i = .int .i64 k ∧ m = .int .i64 q ∧ 0 ≤ q ∧ q ≤ k ∧ r = q + Fx.things (l.drop k) ∧ Below w.heap.size w wr) (fun _ i _ => n - (intOf i).toNat)
  case atStart => exact ⟨0, 0, Nat.zero_le _, rfl, rfl, by omega, by omega, HF.out, Below.refl _ _⟩
  case round =>
    obtain ⟨k, q, hk, rfl, rfl, hq0, hq1, hr, hbel⟩ := hrel
    have Hr := Lib.hid hr
    have Hbel := Lib.hid hbel
    clear hr hbel
    by_cases hlt : k < n
    · obtain ⟨x, hx⟩ := getE l k n Hn.out hlt
      have HX := Lib.hid (drop_at hx)
      obtain ⟨b, off, rfl, hc⟩ := elem_Ent (Hat.out.below Hbel.out) hx
      obtain ⟨c0, c1, c2, c3, c4, c5, c6, c7, c8⟩ := hc
      clear hx
      by_cases hxy : x.kind = 1
      · go_wp2
        go_roundw
        case rel => exact ⟨k + 1, q, by omega, by go_num, rfl, hq0, by omega, by rw [Hr.out, HX.out, Fx.things, if_pos hxy]; omega, by (repeat refine Below.setCell ?_ Hbel.out.size _); exact Hbel.out.alloc Hbel.out.size _⟩
        case measure => simp [intOf]; omega
      · have hxy' : (x.kind != 1) = true := by simpa using hxy
        go_wp2
        go_roundw
        case rel => exact ⟨k + 1, q + 1, by omega, by go_num, by go_num, by omega, by omega, by rw [Hr.out, HX.out, Fx.things, if_neg hxy]; omega, by (repeat refine Below.setCell ?_ Hbel.out.size _); exact Hbel.out.alloc Hbel.out.size _⟩
        case measure => simp [intOf]; omega
    · obtain rfl : k = n := by omega
      go_wp2
      go_ret
      exact ⟨ret_int (by rw [Hr.out, List.drop_eq_nil_of_le (by have := Hn.out; omega)]; simp [Fx.things]), Hbel.out⟩

theorem sorted_any (v : Value) (l : List Ent) (w : World) (hv : IsSl entC w v l) (hn : l.length ≤ 1000) :
    Calls Tryz.prog 149 #[v] w fun e w' => e = .returned (.bool (srt l)) ∧ Below w.heap.size w w' := by
  obtain ⟨A, c, rfl, -, -, hat⟩ := hv
  have Hat := Lib.hid hat
  obtain ⟨n, hnn⟩ : ∃ n, l.length = n := ⟨_, rfl⟩
  rw [hnn] at hn ⊢
  have Hn := Lib.hid hnn
  have HF := Lib.hid (show ∀ y, l[0]? = some y → srt l = srtI y.id (l.drop 1) from fun y hy => by cases l with | nil => simp at hy | cons e r => simp at hy; subst hy; rfl)
  have H0 := Lib.hid (show n = 0 → srt l = true from fun h => by cases l with | nil => rfl | cons e r => simp at hnn; omega)
  clear hat hnn
  generalize srt l = r at *
  go_enter Tryz.func149, Tryz.ntmps149
  go_wp2
  go_loopw [3] (fun i wr => ∃ k : Nat, 1 ≤ k ∧ k ≤ n + 1 ∧ i = .int .i64 k ∧ (∀ y, l[k - 1]? = some y → r = srtI y.id (l.drop k)) ∧ (k ≤ n ∨ n = 0) ∧ Below w.heap.size w wr) (fun i _ => n + 1 - (intOf i).toNat)
  case atStart => exact ⟨1, by omega, by omega, rfl, HF.out, by omega, Below.refl _ _⟩
  case round =>
    obtain ⟨k, hk1, hk, rfl, hr, hkn, hbel⟩ := hrel
    have Hr := Lib.hid hr
    have Hbel := Lib.hid hbel
    clear hr hbel
    by_cases hlt : k < n
    · obtain ⟨x, hx⟩ := getE l k n Hn.out hlt
      obtain ⟨y, hy⟩ := getE l (k - 1) n Hn.out (by omega)
      have HX := Lib.hid (drop_at hx)
      have HY := Lib.hid (Hr.out y hy)
      have HK := Lib.hid (show l[k + 1 - 1]? = some x from hx)
      obtain ⟨b, off, rfl, hc⟩ := elem_Ent (Hat.out.below Hbel.out) hx
      obtain ⟨b', off', hbo, hd⟩ := elem_Ent (Hat.out.below Hbel.out) hy
      cases hbo
      have hck := hc.1
      have hdk := hd.1
      have hk' : ((k : Int) - 1).toNat = k - 1 := by omega
      clear hc hx hd hy
      by_cases hxy : x.id ≤ y.id
      · go_wp2_with fail
        go_region
        go_wp2
        go_ret
        exact ⟨ret_bool (by rw [HY.out, HX.out, srtI]; simp; omega), Hbel.out.drew⟩
      · have hxy' : decide (x.id ≤ y.id) = false := by simpa using hxy
        go_wp2_with fail
        go_region
        go_wp2
        go_roundw
        case rel => exact ⟨k + 1, by omega, by omega, by go_num, fun z hz => by rw [HK.out] at hz; cases hz; rw [HY.out, HX.out, srtI, decide_eq_true (by omega)]; rfl, by omega, Hbel.out.drew⟩
        case measure => simp [intOf]; omega
    · go_wp2
      go_ret
      refine ⟨ret_bool ?_, Hbel.out⟩
      rcases hkn with h | h
      · obtain ⟨y, hy⟩ := getE l (k - 1) n Hn.out (by omega)
        rw [Hr.out y hy, List.drop_eq_nil_of_le (by have := Hn.out; omega)]
        simp [srtI]
      · rw [H0.out h]

/-- The test that Find hands on: a box that holds the number is in memory. -/
theorem findf_any (y : Ent) (g : Nat) (id : Int) (w : World) (hg : w.cell? ⟨g, 0, none⟩ = some (.int .i64 id)) :
    Calls Tryz.prog 231 #[.agg #[.int .i64 y.id, .int .i64 y.kind, .int .i64 y.x, .int .i64 y.y, .int .i64 y.vx, .int .i64 y.vy, .int .i64 y.health, .int .i64 y.age, .int .i64 y.owner], .pointer (some ⟨g, 0, none⟩)] w
      fun e w' => e = .returned (.bool (decide (y.id = id))) ∧ Below w.heap.size w w' := by
  have hlt : g < w.heap.size := World.block_lt_of_cell? _ _ hg
  by_cases h : y.id = id
  · go_enter Tryz.func231, Tryz.ntmps231
    go_wp2
    go_ret
    exact ⟨ret_bool (by simp [h]), (Below.refl _ _).alloc (Nat.le_refl _) _⟩
  · have h' : (y.id == id) = false := by simpa using h
    go_enter Tryz.func231, Tryz.ntmps231
    go_wp2
    go_ret
    exact ⟨ret_bool (by simp [h]), (Below.refl _ _).alloc (Nat.le_refl _) _⟩

end Go.Proofs.YtlpkaljepaclpaaGreat.Fx
namespace Go.Proofs.YtlpkaljepaclpaaGreat.Fx
open Go.ChangeShapes Go.WideShapes Go.ChangeAt Go.RowKit
set_option linter.unusedVariables false
set_option maxRecDepth 100000

theorem rhas_any (a b p n s r : Int) (w : World) :
    Calls Tryz.prog 148 #[.agg #[.int .i64 a, .int .i64 b, .int .i64 p, .int .i64 n, .int .u64 s], .int .i64 r] w fun e w' => e = .returned (.bool (hasB a b p n r)) ∧ Below w.heap.size w w' := by
  have HT := Lib.hid (fun w => regions_any a b p n s w)
  have hR : hasB a b p n r = (decide (0 ≤ r) && decide (r < regs a b p n)) := by rw [Bool.eq_iff_iff]; simp [hasB]
  rw [hR]
  generalize regs a b p n = R at *
  clear hR
  by_cases h : 0 ≤ r
  · have h1 : decide (0 ≤ r) = true := decide_eq_true h
    rw [h1]
    go_enter Tryz.func148, Tryz.ntmps148
    go_wp2_with fail
    refine (HT.out _).mono ?_
    rintro e w1 ⟨rfl, hbw1⟩
    obtain ⟨hcw1, hfw1⟩ := bcell hbw1
    have hzw1 : w.heap.size < w1.heap.size := by have := hbw1.size; (try simp at this); omega
    have Hbw1 := Lib.hid hbw1
    clear hbw1
    go_wp2
    go_ret
    exact ⟨ret_bool (by simp), unbox Hbw1.out⟩
  · have h1 : decide (0 ≤ r) = false := decide_eq_false h
    rw [h1]
    go_enter Tryz.func148, Tryz.ntmps148
    go_wp2
    go_ret
    exact ⟨ret_bool (by simp), (Below.refl _ _).alloc (Nat.le_refl _) _⟩

end Go.Proofs.YtlpkaljepaclpaaGreat.Fx
