/- Package snapshot: inOrder, and who is astray. -/
import Derived.Test.YtlpkaljepaclpaaGreatM18
import Derived.Test.YtlpkaljepaclpaaGreatM20
import Derived.Test.YtlpkaljepaclpaaGreatM19
import Derived.Test.YtlpkaljepaclpaaGreatM16
import Derived.Deep.DeepCutAuto
namespace Go.Proofs.YtlpkaljepaclpaaGreat.Fx
open Go.ChangeShapes Go.WideShapes Go.ChangeAt Go.RowKit
set_option linter.unusedVariables false
set_option maxRecDepth 100000

theorem straysC_any (r f : Int) (hf : 0 ≤ f ∧ f ≤ 10000) (y : Crs) (h g : Nat) (w : World) (hh : w.cell? ⟨h, 0, none⟩ = some (.int .i64 r)) (hg : w.cell? ⟨g, 0, none⟩ = some (.int .i64 f)) :
    Calls Tryz.prog 85 #[.agg #[.int .i64 y.kind, .int .i64 y.src, .int .i64 y.dst, .int .i64 y.frame, .int .i64 y.e.id, .int .i64 y.e.kind, .int .i64 y.e.x, .int .i64 y.e.y, .int .i64 y.e.vx, .int .i64 y.e.vy, .int .i64 y.e.health, .int .i64 y.e.age, .int .i64 y.e.owner, .int .i64 y.x, .int .i64 y.y], .pointer (some ⟨h, 0, none⟩), .pointer (some ⟨g, 0, none⟩)] w fun z w' => z = .returned (.bool (!decide (y.dst = r ∧ y.frame = f - 1))) ∧ Below w.heap.size w w' := by
  have hlg : g < w.heap.size := World.block_lt_of_cell? _ _ hg
  have hlh : h < w.heap.size := World.block_lt_of_cell? _ _ hh
  have Hg := Lib.hid hg
  have Hh := Lib.hid hh
  have hwf : wrap64 (f - 1) = f - 1 := IntWalk.wrap64_in _ (by omega)
  have hwf' : IntKind.i64.wrap (f - 1) = f - 1 := by rw [IntKind.wrap_i64]; omega
  obtain ⟨q, hq⟩ : ∃ q, decide (y.dst = r ∧ y.frame = f - 1) = q := ⟨_, rfl⟩
  rw [hq]
  have HQ := Lib.hid hq
  clear hg hh hq
  go_enter Tryz.func85, Tryz.ntmps85
  go_upto_region 1 with fail
  generalize hW : World.alloc _ _ = W at *
  have BX := Lib.hid (show CrsBox W w.heap.size y from by rw [← hW]; exact CrsBox.n1 _ y _ rfl)
  have HB := Lib.hid (show Below w.heap.size w W from by rw [← hW]; exact (Below.refl _ _).alloc (Nat.le_refl _) _)
  clear hW
  have g0 := (HB.out.cell (p := ⟨g, 0, none⟩) hlg).trans Hg.out
  have h0 := (HB.out.cell (p := ⟨h, 0, none⟩) hlh).trans Hh.out
  have hgx := BX.out.has
  have hl1 := World.block_lt_of_cell? _ _ g0
  have hl2 := World.block_lt_of_cell? _ _ h0
  obtain ⟨x0, x1, x2, x3, x4, x5, x6, x7, x8, x9, x10, x11, x12, x13, x14, -⟩ := BX.out
  by_cases h1 : y.dst = r
  · have h1' : (y.dst != r) = false := by simpa using h1
    by_cases h2 : y.frame = f - 1
    · have h2' : (y.frame != f - 1) = false := by simpa using h2
      have HD := Lib.hid (show q = true from HQ.out ▸ decide_eq_true ⟨h1, h2⟩)
      clear h1 h2
      go_wp2
      go_ret
      exact ⟨by rw [HD.out]; first | done | rfl, HB.out⟩
    · have h2' : (y.frame != f - 1) = true := by simpa using h2
      have HD := Lib.hid (show q = false from HQ.out ▸ decide_eq_false (fun h => h2 h.2))
      clear h1 h2
      go_wp2
      go_ret
      exact ⟨by rw [HD.out]; first | done | rfl, HB.out⟩
  · have h1' : (y.dst != r) = true := by simpa using h1
    have HD := Lib.hid (show q = false from HQ.out ▸ decide_eq_false (fun h => h1 h.1))
    clear h1
    go_wp2
    go_ret
    exact ⟨by rw [HD.out]; first | done | rfl, HB.out⟩

/-- Is one astray? -/
theorem anystrays_any (r f : Int) (hf : 0 ≤ f ∧ f ≤ 10000) (v : Value) (l : List Crs) (w : World) (hv : IsSl crsC w v l) (hn : l.length ≤ 1000000) (h g : Nat) (hh : w.cell? ⟨h, 0, none⟩ = some (.int .i64 r)) (hg : w.cell? ⟨g, 0, none⟩ = some (.int .i64 f)) :
    Calls Tryz.prog 87 #[v, .func (.func 85) #[] #[.pointer (some ⟨h, 0, none⟩), .pointer (some ⟨g, 0, none⟩)]] w
      fun z w' => z = .returned (.bool (!l.all (fun c => decide (c.dst = r ∧ c.frame = f - 1)))) ∧ Below w.heap.size w w' := by
  obtain ⟨A, c, rfl, -, -, hat⟩ := hv
  have Hat := Lib.hid hat
  obtain ⟨N, hnn⟩ : ∃ N, l.length = N := ⟨_, rfl⟩
  rw [hnn] at hn ⊢
  have Hn := Lib.hid hnn
  clear hat hnn
  obtain ⟨F, hFF⟩ : ∃ F : Crs → Bool, F = (fun c => decide (c.dst = r ∧ c.frame = f - 1)) := ⟨_, rfl⟩
  rw [← hFF]
  have HF := Lib.hid (show l.all F = (l.drop 0).all F from by simp)
  have HT := Lib.hid (show ∀ (x : Crs) (w1 : World), Below w.heap.size w w1 → Calls Tryz.prog 85 #[.agg #[.int .i64 x.kind, .int .i64 x.src, .int .i64 x.dst, .int .i64 x.frame, .int .i64 x.e.id, .int .i64 x.e.kind, .int .i64 x.e.x, .int .i64 x.e.y, .int .i64 x.e.vx, .int .i64 x.e.vy, .int .i64 x.e.health, .int .i64 x.e.age, .int .i64 x.e.owner, .int .i64 x.x, .int .i64 x.y], .pointer (some ⟨h, 0, none⟩), .pointer (some ⟨g, 0, none⟩)] w1 (fun z w' => z = .returned (.bool (!F x)) ∧ Below w1.heap.size w1 w') from fun x w1 hb => by rw [hFF]; exact straysC_any r f hf x h g w1 ((hb.cell (p := ⟨h, 0, none⟩) (World.block_lt_of_cell? _ _ hh)).trans hh) ((hb.cell (p := ⟨g, 0, none⟩) (World.block_lt_of_cell? _ _ hg)).trans hg))
  generalize l.all F = q at *
  clear hFF hg hh
  go_enter Tryz.func87, Tryz.ntmps87
  go_wp2_with (go_at_call 155; go_in)
  go_loopw [8] (fun i wr => ∃ k : Nat, k ≤ N ∧ i = .int .i64 k ∧ q = (l.drop k).all F ∧ Below w.heap.size w wr) (fun i _ => N - (intOf i).toNat)
  case atStart => exact ⟨0, Nat.zero_le _, rfl, HF.out, Below.refl _ _⟩
  case round =>
    obtain ⟨k, hk, rfl, hr, hbel⟩ := hrel
    have Hr := Lib.hid hr
    have Hbel := Lib.hid hbel
    clear hr hbel
    by_cases hlt : k < N
    · obtain ⟨x, hx⟩ := getE l k N Hn.out hlt
      have HX := Lib.hid (drop_at hx)
      obtain ⟨bb, off, rfl, hc⟩ := elem_Crs (Hat.out.below Hbel.out) hx
      obtain ⟨c0, c1, c2, c3, c4, c5, c6, c7, c8, c9, c10, c11, c12, c13, c14⟩ := hc
      clear hx
      go_wp2_with fail
      refine (HT.out x _ Hbel.out).mono ?_
      rintro e w4 ⟨rfl, hb4⟩
      have Hb4 := Lib.hid (nextW Hbel.out hb4)
      clear hb4 c0 c1 c2 c3 c4 c5 c6 c7 c8 c9 c10 c11 c12 c13 c14 HT
      cases hxy : F x with
      | false =>
        have Hxy := Lib.hid hxy
        clear hxy
        go_wp2
        go_ret
        exact ⟨ret_bool (by rw [Hr.out, HX.out, List.all_cons, Hxy.out]; simp), Hb4.out⟩
      | true =>
        have Hxy := Lib.hid hxy
        clear hxy
        go_wp2
        go_roundw
        case rel => exact ⟨k + 1, by omega, by go_num, by rw [Hr.out, HX.out, List.all_cons, Hxy.out, Bool.true_and], Hb4.out⟩
        case measure => simp [intOf]; omega
    · obtain rfl : k = N := by omega
      go_wp2
      go_ret
      exact ⟨ret_bool (by rw [Hr.out, List.drop_eq_nil_of_le (by have := Hn.out; omega)]; simp), Hbel.out⟩

theorem inOrd_cons (x y : Crs) (t : List Crs) : inOrd (x :: y :: t) = (ordB x y && inOrd (y :: t)) := rfl
theorem inOrd_short {l : List Crs} (h : l.length ≤ 1) : inOrd l = true := by
  match l, h with
  | [], _ => rfl
  | [_], _ => rfl
  | x :: y :: t, h => simp at h

set_option maxHeartbeats 4000000 in
theorem inorder_any (v : Value) (l : List Crs) (w : World) (hv : IsSl crsC w v l) (hn : l.length ≤ 1000000) :
    Calls Tryz.prog 88 #[v] w fun z w' => z = .returned (.bool (inOrd l)) ∧ Below w.heap.size w w' := by
  have HLess := Lib.hid less_any
  obtain ⟨A, c, rfl, -, -, hat⟩ := hv
  have Hat := Lib.hid hat
  obtain ⟨N, hnn⟩ : ∃ N, l.length = N := ⟨_, rfl⟩
  rw [hnn] at hn ⊢
  have Hn := Lib.hid hnn
  clear hat hnn
  have HF := Lib.hid (show inOrd l = inOrd (l.drop 0) from by simp)
  generalize inOrd l = q at *
  go_enter Tryz.func88, Tryz.ntmps88
  go_wp2
  go_loopw [3] (fun i wr => ∃ j : Nat, 1 ≤ j ∧ j ≤ N + 1 ∧ i = .int .i64 j ∧ q = inOrd (l.drop (j - 1)) ∧ Below w.heap.size w wr) (fun i _ => N + 1 - (intOf i).toNat)
  case atStart => exact ⟨1, Nat.le_refl _, by omega, rfl, HF.out, Below.refl _ _⟩
  case round =>
    obtain ⟨j, hj1, hk, rfl, hr, hbel⟩ := hrel
    have Hr := Lib.hid hr
    have Hbel := Lib.hid hbel
    clear hr hbel HF
    by_cases hlt : j < N
    · obtain ⟨x, hx⟩ := getE l (j - 1) N Hn.out (by omega)
      obtain ⟨y, hy⟩ := getE l j N Hn.out hlt
      have HX := Lib.hid (show q = (ordB x y && inOrd (l.drop j)) from by rw [Hr.out, drop_at hx, show j - 1 + 1 = j by omega, drop_at hy, inOrd_cons])
      obtain ⟨bb, off, rfl, hc⟩ := elem_Crs (Hat.out.below Hbel.out) hx
      obtain ⟨bb2, off2, hb2, hc2⟩ := elem_Crs (Hat.out.below Hbel.out) hy
      cases hb2
      have hbw : bb < wr.heap.size := World.block_lt_of_cell? _ _ hc.1
      obtain ⟨c0, c1, c2, c3, c4, c5, c6, c7, c8, c9, c10, c11, c12, c13, c14⟩ := hc
      obtain ⟨d0, d1, d2, d3, d4, d5, d6, d7, d8, d9, d10, d11, d12, d13, d14⟩ := hc2
      have hki : (j : Int) < (N : Int) := by omega
      have hq1 : ((j : Int) - 1).toNat = j - 1 := by omega
      have hq2 : (1 : Int) ≤ (j : Int) := by omega
      have hq3 : (j : Int) - 1 < (N : Int) := by omega
      have hq4 : IntKind.i64.wrap ((j : Int) - 1) = (j : Int) - 1 := by rw [IntKind.wrap_i64]; omega
      clear hx hy
      go_upto_region 4 with fail
      go_cut [4, 5] (fun s4 s5 wx => ∃ g4 g5, s4 = .pointer (some ⟨g4, 0, none⟩) ∧ s5 = .pointer (some ⟨g5, 0, none⟩) ∧ CrsBox wx g4 x ∧ CrsBox wx g5 y ∧ Below wr.heap.size wr wx)
      case first =>
        refine tree_region (S := (fun w' => (∀ b o, b < (wr).heap.size → w'.cell? ⟨b, o, none⟩ = (wr).cell? ⟨b, o, none⟩) ∧ (∀ b o, b < (wr).heap.size → w'.frozen? ⟨b, o, none⟩ = (wr).frozen? ⟨b, o, none⟩) ∧ Below (wr).heap.size (wr) w')) (.free 0 (.free 1 (.free 2 (.free 3 (.free 4 (.free 5 (.free 6 (.free 7 (.free 8 (.two 9 (.one 10 (.one 11 (.one 12 .done))) 10 (.one 9 (.one 11 (.one 12 .done))))))))))))) (by kernel_rfl) (by kernel_rfl) (fun _ _ d _ _ h => by cases d <;> exact h) (keepW0 _) (fun hS => ?_)
        simp only [written, List.getElem?_cons_succ, List.getElem?_cons_zero]
        iterate 9
         refine rw_free (v := ?_) (by rfl) ?_ ?_; rotate_left 1; focus (intro w hSw; (try dsimp only at hSw); go_simp; (try with_reducible rfl))
         (try simp only [Act.put, tA, tB, tC])
        refine rw_two ?_ ?_
        · skip
          refine rw_call (by rfl) (fun K hK => ?_)
          go_simp
          (skip)
          (try go_wp2_with fail)
          refine hK.out _ _ ?_ (fun hS' => ?_)
          · (try dsimp only); first | exact keepA (by assumption) | exact keepOf (((Below.refl _ _).alloc (Nat.le_refl _) _).drew) | exact keepOf ((((Below.refl _ _).alloc (Nat.le_refl _) _).alloc (by simp) _).drew)
          clear hS hK K
          have hS := hS'
          clear hS'
          (try simp only [Act.put, tA, tB, tC])
          refine rw_call (by rfl) (fun K hK => ?_)
          go_simp
          (skip)
          (try go_wp2_with fail)
          refine hK.out _ _ ?_ (fun hS' => ?_)
          · (try dsimp only); first | exact keepA (by assumption) | exact keepOf (((Below.refl _ _).alloc (Nat.le_refl _) _).drew) | exact keepOf ((((Below.refl _ _).alloc (Nat.le_refl _) _).alloc (by simp) _).drew)
          clear hS hK K
          have hS := hS'
          clear hS'
          (try simp only [Act.put, tA, tB, tC])
          refine rw_call (by rfl) (fun K hK => ?_)
          go_simp
          (skip)
          (try go_wp2_with fail)
          refine hK.out _ _ ?_ (fun hS' => ?_)
          · (try dsimp only); first | exact keepA (by assumption) | exact keepOf (((Below.refl _ _).alloc (Nat.le_refl _) _).drew) | exact keepOf ((((Below.refl _ _).alloc (Nat.le_refl _) _).alloc (by simp) _).drew)
          clear hS hK K
          have hS := hS'
          clear hS'
          (try simp only [Act.put, tA, tB, tC])
          refine rw_call (by rfl) (fun K hK => ?_)
          go_simp
          (skip)
          (try go_wp2_with fail)
          refine hK.out _ _ ?_ (fun hS' => ?_)
          · (try dsimp only); first | exact keepA (by assumption) | exact keepOf (((Below.refl _ _).alloc (Nat.le_refl _) _).drew) | exact keepOf ((((Below.refl _ _).alloc (Nat.le_refl _) _).alloc (by simp) _).drew)
          clear hS hK K
          have hS := hS'
          clear hS'
          (try simp only [Act.put, tA, tB, tC])
          refine rw_done ?_
          go_wp2_with fail
          go_meet
          first | exact ⟨_, _, rfl, rfl, (CrsBox.n2a _ x _ _ rfl).drew, (CrsBox.n2b _ y _ _ rfl).drew, ((((Below.refl _ _).alloc (Nat.le_refl _) _).alloc (by simp) _).drew)⟩ | exact ⟨_, _, rfl, rfl, (CrsBox.n2b _ x _ _ rfl).drew, (CrsBox.n2a _ y _ _ rfl).drew, ((((Below.refl _ _).alloc (Nat.le_refl _) _).alloc (by simp) _).drew)⟩
        · skip
          refine rw_call (by rfl) (fun K hK => ?_)
          go_simp
          (skip)
          (try go_wp2_with fail)
          refine hK.out _ _ ?_ (fun hS' => ?_)
          · (try dsimp only); first | exact keepA (by assumption) | exact keepOf (((Below.refl _ _).alloc (Nat.le_refl _) _).drew) | exact keepOf ((((Below.refl _ _).alloc (Nat.le_refl _) _).alloc (by simp) _).drew)
          clear hS hK K
          have hS := hS'
          clear hS'
          (try simp only [Act.put, tA, tB, tC])
          refine rw_call (by rfl) (fun K hK => ?_)
          go_simp
          (skip)
          (try go_wp2_with fail)
          refine hK.out _ _ ?_ (fun hS' => ?_)
          · (try dsimp only); first | exact keepA (by assumption) | exact keepOf (((Below.refl _ _).alloc (Nat.le_refl _) _).drew) | exact keepOf ((((Below.refl _ _).alloc (Nat.le_refl _) _).alloc (by simp) _).drew)
          clear hS hK K
          have hS := hS'
          clear hS'
          (try simp only [Act.put, tA, tB, tC])
          refine rw_call (by rfl) (fun K hK => ?_)
          go_simp
          (skip)
          (try go_wp2_with fail)
          refine hK.out _ _ ?_ (fun hS' => ?_)
          · (try dsimp only); first | exact keepA (by assumption) | exact keepOf (((Below.refl _ _).alloc (Nat.le_refl _) _).drew) | exact keepOf ((((Below.refl _ _).alloc (Nat.le_refl _) _).alloc (by simp) _).drew)
          clear hS hK K
          have hS := hS'
          clear hS'
          (try simp only [Act.put, tA, tB, tC])
          refine rw_call (by rfl) (fun K hK => ?_)
          go_simp
          (skip)
          (try go_wp2_with fail)
          refine hK.out _ _ ?_ (fun hS' => ?_)
          · (try dsimp only); first | exact keepA (by assumption) | exact keepOf (((Below.refl _ _).alloc (Nat.le_refl _) _).drew) | exact keepOf ((((Below.refl _ _).alloc (Nat.le_refl _) _).alloc (by simp) _).drew)
          clear hS hK K
          have hS := hS'
          clear hS'
          (try simp only [Act.put, tA, tB, tC])
          refine rw_done ?_
          go_wp2_with fail
          go_meet
          first | exact ⟨_, _, rfl, rfl, (CrsBox.n2a _ x _ _ rfl).drew, (CrsBox.n2b _ y _ _ rfl).drew, ((((Below.refl _ _).alloc (Nat.le_refl _) _).alloc (by simp) _).drew)⟩ | exact ⟨_, _, rfl, rfl, (CrsBox.n2b _ x _ _ rfl).drew, (CrsBox.n2a _ y _ _ rfl).drew, ((((Below.refl _ _).alloc (Nat.le_refl _) _).alloc (by simp) _).drew)⟩
      case rest =>
        obtain ⟨g4, g5, rfl, rfl, hb4, hb5, hbc⟩ := hcut
        have HB := Lib.hid (nextW Hbel.out hbc)
        have HO := Lib.hid (show ordB x y = !(decide (y.src < x.src) || (decide (x.src = y.src) && lessB y x)) from rfl)
        have HL := Lib.hid (HLess.out y x wc)
        clear hbc c0 c1 c2 c3 c4 c5 c6 c7 c8 c9 c10 c11 c12 c13 c14 d0 d1 d2 d3 d4 d5 d6 d7 d8 d9 d10 d11 d12 d13 d14
        have hg4 := hb4.has
        have hg5 := hb5.has
        obtain ⟨c0, c1, c2, c3, c4, c5, c6, c7, c8, c9, c10, c11, c12, c13, c14, -⟩ := hb4
        obtain ⟨d0, d1, d2, d3, d4, d5, d6, d7, d8, d9, d10, d11, d12, d13, d14, -⟩ := hb5
        by_cases h1 : y.src < x.src
        · have h1' : decide (y.src < x.src) = true := decide_eq_true h1
          have HY := Lib.hid (show q = false from by rw [HX.out, HO.out, h1']; rfl)
          go_wp2
          go_ret
          exact ⟨by rw [HY.out]; first | done | rfl, HB.out⟩
        · have h1' : decide (y.src < x.src) = false := decide_eq_false h1
          by_cases h2 : x.src = y.src
          · have h2' : (x.src == y.src) = true := by simpa using h2
            have hO2 : ordB x y = !lessB y x := by rw [HO.out, h1', decide_eq_true h2]; simp
            obtain ⟨z, hz⟩ : ∃ z, lessB y x = z := ⟨_, rfl⟩
            rw [hz] at HL hO2
            have HO2 := Lib.hid hO2
            clear h2 hz hO2
            cases z with
            | true =>
              have HY := Lib.hid (show q = false from by rw [HX.out, HO2.out]; rfl)
              go_wp2_with fail
              refine HL.out.mono ?_
              rintro e w6 ⟨rfl, hb6⟩
              have HB6 := Lib.hid (nextW HB.out hb6)
              clear hb6
              go_wp2
              go_ret
              exact ⟨by rw [HY.out]; first | done | rfl, HB6.out⟩
            | false =>
              have HY := Lib.hid (show q = inOrd (l.drop j) from by rw [HX.out, HO2.out]; simp)
              go_wp2_with fail
              refine HL.out.mono ?_
              rintro e w6 ⟨rfl, hb6⟩
              have HB6 := Lib.hid (nextW HB.out hb6)
              clear hb6
              go_wp2
              go_roundw
              case rel => exact ⟨j + 1, by omega, by omega, by go_num, HY.out, HB6.out⟩
              case measure => simp [intOf]; omega
          · have h2' : (x.src == y.src) = false := by simpa using h2
            have HY := Lib.hid (show q = inOrd (l.drop j) from by rw [HX.out, HO.out, h1', decide_eq_false h2]; simp)
            clear h2
            go_wp2
            go_roundw
            case rel => exact ⟨j + 1, by omega, by omega, by go_num, HY.out, HB.out⟩
            case measure => simp [intOf]; omega
    · have HX := Lib.hid (show q = true from by rw [Hr.out]; exact inOrd_short (by rw [List.length_drop]; have := Hn.out; omega))
      have hki : ¬ (j : Int) < (N : Int) := by omega
      go_wp2
      go_ret
      exact ⟨by rw [HX.out]; first | done | rfl, Hbel.out⟩

end Go.Proofs.YtlpkaljepaclpaaGreat.Fx
