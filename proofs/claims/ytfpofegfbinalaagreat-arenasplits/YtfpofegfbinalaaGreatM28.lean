/- Package region: who arrives (fits, Arrive), who is present. -/
import Derived.Test.YtfpofegfbinalaaGreatM19
import Derived.Test.YtfpofegfbinalaaGreatM14
import Derived.Test.YtfpofegfbinalaaGreatM03
import Derived.Test.YtfpofegfbinalaaGreatM17
import Derived.Test.YtfpofegfbinalaaGreatM21
namespace Go.Proofs.YtfpofegfbinalaaGreat.Fx
open Go.ChangeShapes Go.WideShapes Go.ChangeAt Go.RowKit
set_option linter.unusedVariables false
set_option maxRecDepth 100000

theorem rhas_any (a b p n s r : Int) (w : World) :
    Calls Tryz.prog 88 #[.agg #[.int .i64 a, .int .i64 b, .int .i64 p, .int .i64 n, .int .u64 s], .int .i64 r] w fun e w' => e = .returned (.bool (hasB a b p n r)) ∧ Below w.heap.size w w' := by
  have HT := Lib.hid (fun w => regions_any a b p n s w)
  have hR : hasB a b p n r = (decide (0 ≤ r) && decide (r < regs a b p n)) := by rw [Bool.eq_iff_iff]; simp [hasB]
  rw [hR]
  generalize regs a b p n = R at *
  clear hR
  by_cases h : 0 ≤ r
  · have h1 : decide (0 ≤ r) = true := decide_eq_true h
    rw [h1]
    go_enter Tryz.func88, Tryz.ntmps88
    go_wp2_with fail
    refine (HT.out _).mono ?_
    rintro e w1 ⟨rfl, hbw1⟩
    obtain ⟨hcw1, hfw1⟩ := bcell hbw1
    have hzw1 : w.heap.size < w1.heap.size := by have := hbw1.size; (try simp at this); omega
    have Hbw1 := Lib.hid hbw1
    clear hbw1
    go_wp2
    go_ret
    exact ⟨ret_bool (by simp), unbox Hbw1.out⟩
  · have h1 : decide (0 ≤ r) = false := decide_eq_false h
    rw [h1]
    go_enter Tryz.func88, Tryz.ntmps88
    go_wp2
    go_ret
    exact ⟨ret_bool (by simp), (Below.refl _ _).alloc (Nat.le_refl _) _⟩

def fitsB (l : List Ent) (e : Ent) : Bool := decide (e.kind = 1) || decide (things l < 24)

theorem fits_any (v : Value) (l : List Ent) (y : Ent) (w : World) (hv : IsSl entC w v l) (hn : l.length ≤ 1000) :
    Calls Tryz.prog 93 #[v, .agg #[.int .i64 y.id, .int .i64 y.kind, .int .i64 y.x, .int .i64 y.y, .int .i64 y.vx, .int .i64 y.vy, .int .i64 y.health, .int .i64 y.age, .int .i64 y.owner]] w fun e w' => e = .returned (.bool (fitsB l y)) ∧ Below w.heap.size w w' := by
  have HT := Lib.hid (fun w1 (hb : Below w.heap.size w w1) => things_any v l w1 (hv.below hb) hn)
  have HR := Lib.hid (show fitsB l y = (decide (y.kind = 1) || decide (things l < 24)) from rfl)
  generalize fitsB l y = q at *
  generalize things l = t at *
  obtain ⟨A, c, rfl, -⟩ := hv
  by_cases hk : y.kind = 1
  · have hk' : (y.kind == 1) = true := by simpa using hk
    rw [decide_eq_true hk] at HR
    clear hk
    go_enter Tryz.func93, Tryz.ntmps93
    go_wp2
    go_ret
    exact ⟨ret_bool (by rw [HR.out]; simp), (Below.refl _ _).alloc (Nat.le_refl _) _⟩
  · have hk' : (y.kind == 1) = false := by simpa using hk
    rw [decide_eq_false hk] at HR
    clear hk
    go_enter Tryz.func93, Tryz.ntmps93
    go_wp2_with fail
    refine (HT.out _ ((Below.refl _ _).alloc (Nat.le_refl _) _)).mono ?_
    rintro e w1 ⟨rfl, hb⟩
    have Hb := Lib.hid (unbox hb)
    clear hb
    go_wp2
    go_ret
    exact ⟨ret_bool (by rw [HR.out]; simp), Hb.out⟩

theorem arr1_fits (l : List Ent) (c : Crs) : arr1 l c = if c.kind = 1 then (if fitsB l c.e = true then put l c.e else l) else l := by
  unfold arr1 fitsB
  by_cases h1 : c.kind = 1 <;> by_cases h2 : c.e.kind = 1 <;> by_cases h3 : things l < 24 <;> simp [h1, h2, h3]

theorem put_le (l : List Ent) (e : Ent) : (put l e).length ≤ l.length + 1 := by
  unfold put
  split
  · omega
  · simp [List.length_take, List.length_drop]; omega

theorem arr1_le (l : List Ent) (c : Crs) : (arr1 l c).length ≤ l.length + 1 := by
  unfold arr1
  split
  · exact put_le _ _
  · omega

theorem arrive_take {l : List Ent} {ib : List Crs} {k : Nat} {c : Crs} (h : ib[k]? = some c) : arriveL l (ib.take (k + 1)) = arr1 (arriveL l (ib.take k)) c := by
  unfold arriveL
  rw [List.take_add_one, h, Option.toList_some, List.foldl_append]
  rfl

theorem arrive_le (l : List Ent) (ib : List Crs) : (arriveL l ib).length ≤ l.length + ib.length := by
  unfold arriveL
  induction ib generalizing l with
  | nil => simp
  | cons c t ih =>
    rw [List.foldl_cons, List.length_cons]
    have := ih (arr1 l c)
    have := arr1_le l c
    omega

set_option maxHeartbeats 4000000 in
theorem arrive_big (a b p n s r f : Int) (v : Value) (l : List Ent) (u : Value) (ib : List Crs) (w : World) (hv : IsSl entC w v l) (hn : l.length ≤ 200) (hu : IsSl crsC w u ib) (hm : ib.length ≤ 100000) (hkk : ∀ k, (arriveL l (ib.take k)).length ≤ 300) :
    Calls Tryz.prog 53 #[.agg #[.int .i64 a, .int .i64 b, .int .i64 p, .int .i64 n, .int .u64 s], .int .i64 r, .agg #[.int .i64 f, v], u] w fun z w' => ∃ v', z = .returned v' ∧ w'.ownsRow w.heap.size 45 9 v' (arriveL l ib).length ((arriveL l ib).flatMap entC) ∧ Below w.heap.size w w' := by
  have HC := Lib.hid (fun w1 (hb : Below w.heap.size w w1) => clone_Ent v l w1 (hv.below hb) (by omega))
  have HL := Lib.hid hkk
  clear hkk
  have HT := Lib.hid (fun k c (h : ib[k]? = some c) => arrive_take (l := l) h)
  have HU := Lib.hid hu
  obtain ⟨A, c, rfl, -⟩ := hv
  obtain ⟨B, d, rfl, -⟩ := hu
  obtain ⟨N, hN⟩ : ∃ N, ib.length = N := ⟨_, rfl⟩
  rw [hN] at hm HU ⊢
  have HN := Lib.hid hN
  clear hN
  go_enter Tryz.func53, Tryz.ntmps53
  go_wp2_with fail
  refine (HC.out _ (((Below.refl _ _).alloc (Nat.le_refl _) _).alloc (by simp) _)).mono ?_
  rintro e w1 ⟨v1, rfl, ho1, hb1⟩
  have HO1 := Lib.hid (ho1.mono (show w.heap.size ≤ _ by simp; omega))
  have HB1 := Lib.hid (show Below w.heap.size w w1 from unbox (unbox hb1))
  clear ho1 hb1 HC
  obtain ⟨A1, c1, rfl, -⟩ := owned_sl HO1.out
  go_wp2_with fail
  go_loopw [9, 17] (fun v i wr => ∃ k : Nat, k ≤ N ∧ i = .int .i64 k ∧ wr.ownsRow w.heap.size 45 9 v (arriveL l (ib.take k)).length ((arriveL l (ib.take k)).flatMap entC) ∧ Below w.heap.size w wr) (fun _ i _ => N - (intOf i).toNat)
  case atStart => exact ⟨0, Nat.zero_le _, rfl, HO1.out, HB1.out⟩
  case round =>
    obtain ⟨k, hk, rfl, hown, hbel⟩ := hrel
    have Hown := Lib.hid hown
    have Hbel := Lib.hid hbel
    clear hown hbel HO1 HB1
    by_cases hkn : k < N
    · obtain ⟨x, hx⟩ := getE ib k N HN.out hkn
      have HX := Lib.hid (HT.out _ _ hx)
      have HLk := Lib.hid (show (arriveL l (ib.take k)).length ≤ 300 from HL.out k)
      obtain ⟨bb, off, rfl, hc⟩ := elem_Crs (HU.out.below Hbel.out).at hx
      obtain ⟨d0, d1, d2, d3, d4, d5, d6, d7, d8, d9, d10, d11, d12, d13, d14⟩ := hc
      rw [arr1_fits] at HX
      have HFi := Lib.hid (fun v w1 hv => fits_any v (arriveL l (ib.take k)) x.e w1 hv (by have := HLk.out; omega))
      have HPu := Lib.hid (fun v w1 hv u hu => puts_own v (arriveL l (ib.take k)) u [x.e] w1 hv (by have := HLk.out; omega) hu (by simp))
      simp only [puts_one] at HPu
      have BX := Lib.hid (CrsBox.n1 wr x 50 rfl)
      have HWb := Lib.hid (show Below w.heap.size w (wr.alloc (.cells (crsC x).toArray 50)) from Hbel.out.alloc Hbel.out.size _)
      have HOw := Lib.hid (Hown.out.alloc (.cells (crsC x).toArray 50))
      simp only [crsC] at HWb HOw
      generalize arriveL l (ib.take k) = M at *
      clear hx
      go_upto_region 5 with fail
      generalize hW : World.alloc _ _ = W at *
      generalize hgx : wr.heap.size = gx at *
      clear hW hgx d0 d1 d2 d3 d4 d5 d6 d7 d8 d9 d10 d11 d12 d13 d14 Hown Hbel
      have hgW := BX.out.has
      obtain ⟨x0, x1, x2, x3, x4, x5, x6, x7, x8, x9, x10, x11, x12, x13, x14, -⟩ := BX.out
      obtain ⟨A2, c2, rfl, -⟩ := owned_sl HOw.out
      by_cases hk1 : x.kind = 1
      · have hk1' : (x.kind == 1) = true := by simpa using hk1
        rw [if_pos hk1] at HX
        clear hk1
        go_wp2_with fail
        refine (HFi.out _ _ (owned_sl HOw.out)).mono ?_
        rintro e w5 ⟨rfl, hb5⟩
        replace HWb := Lib.hid (nextW HWb.out hb5)
        replace HOw := Lib.hid (own_below HOw.out hb5)
        replace BX := Lib.hid (BX.out.nx hb5)
        clear hb5 x0 x1 x2 x3 x4 x5 x6 x7 x8 x9 x10 x11 x12 x13 x14 HFi
        obtain ⟨x0, x1, x2, x3, x4, x5, x6, x7, x8, x9, x10, x11, x12, x13, x14, -⟩ := BX.out
        generalize fitsB M x.e = q at *
        cases q with
        | true =>
          rw [if_pos rfl] at HX
          go_wp2_with fail
          refine (HPu.out _ _ (owned_sl (HOw.out.alloc _)) _ (one_Ent _ x.e _ 1 (by first | rfl | simp) (by omega))).mono ?_
          rintro e w6 ⟨v6, rfl, ho6, hb6⟩
          have HO6 := Lib.hid (ho6.mono (show w.heap.size ≤ _ by have := HWb.out.size; simp; omega))
          rw [← HX.out] at HO6
          have HB6 := Lib.hid (nextW HWb.out (unbox hb6))
          clear ho6 hb6
          go_wp2
          go_roundw
          case rel => exact ⟨k + 1, by omega, by go_num, HO6.out, HB6.out⟩
          case measure => simp [intOf]; omega
        | false =>
          rw [if_neg (by simp)] at HX
          go_wp2
          go_roundw
          case rel => exact ⟨k + 1, by omega, by go_num, by rw [HX.out]; exact HOw.out, HWb.out⟩
          case measure => simp [intOf]; omega
      · have hk1' : (x.kind == 1) = false := by simpa using hk1
        rw [if_neg hk1] at HX
        clear hk1
        go_wp2
        go_roundw
        case rel => exact ⟨k + 1, by omega, by go_num, by rw [HX.out]; exact HOw.out, HWb.out⟩
        case measure => simp [intOf]; omega
    · obtain rfl : k = N := by omega
      rw [List.take_of_length_le (Nat.le_of_eq HN.out)] at Hown
      go_wp2
      go_ret
      exact ⟨_, rfl, Hown.out, Hbel.out⟩

theorem arrive_any (a b p n s r f : Int) (v : Value) (l : List Ent) (u : Value) (ib : List Crs) (w : World) (hv : IsSl entC w v l) (hn : l.length ≤ 200) (hu : IsSl crsC w u ib) (hm : ib.length ≤ 100) :
    Calls Tryz.prog 53 #[.agg #[.int .i64 a, .int .i64 b, .int .i64 p, .int .i64 n, .int .u64 s], .int .i64 r, .agg #[.int .i64 f, v], u] w fun z w' => ∃ v', z = .returned v' ∧ w'.ownsRow w.heap.size 45 9 v' (arriveL l ib).length ((arriveL l ib).flatMap entC) ∧ Below w.heap.size w w' :=
  arrive_big a b p n s r f v l u ib w hv hn hu (by omega) fun k => by have := arrive_le l (ib.take k); rw [List.length_take] at this; omega

end Go.Proofs.YtfpofegfbinalaaGreat.Fx
