/- Package snapshot: rightMessages. -/
import Derived.Test.YtlpkaljepaclpaaM12
import Derived.Test.YtlpkaljepaclpaaM21
import Derived.Test.YtlpkaljepaclpaaM16
namespace Go.Proofs.Ytlpkaljepaclpaa.Fx
open Go.ChangeShapes Go.WideShapes Go.ChangeAt Go.RowKit
set_option linter.unusedVariables false
set_option maxRecDepth 100000

theorem wrongM_any (a b p n s : Int) (y : Crs) (g : Nat) (w : World) (hg : CfgBox w g ⟨a, b, p, n, s⟩) :
    Calls Try.prog 39 #[.agg #[.int .i64 y.kind, .int .i64 y.src, .int .i64 y.dst, .int .i64 y.frame, .int .i64 y.e.id, .int .i64 y.e.kind, .int .i64 y.e.x, .int .i64 y.e.y, .int .i64 y.e.vx, .int .i64 y.e.vy, .int .i64 y.e.health, .int .i64 y.e.age, .int .i64 y.e.owner, .int .i64 y.x, .int .i64 y.y], .pointer (some ⟨g, 0, none⟩)] w fun z w' => z = .returned (.bool (!crightB a b p n y)) ∧ Below w.heap.size w w' := by
  have HR := Lib.hid (fun w => cright_any a b p n s y w)
  generalize crightB a b p n y = z at *
  have hlg : g < w.heap.size := hg.has
  have Hg := Lib.hid hg
  clear hg
  go_enter Try.func39, Try.ntmps39
  go_upto_region 1 with fail
  generalize hW : World.alloc _ _ = W at *
  have BX := Lib.hid (show CrsBox W w.heap.size y from by rw [← hW]; exact CrsBox.n1 _ y _ rfl)
  have HB := Lib.hid (show Below w.heap.size w W from by rw [← hW]; exact (Below.refl _ _).alloc (Nat.le_refl _) _)
  clear hW
  have BG := Lib.hid (Hg.out.below HB.out hlg)
  have hgx := BX.out.has
  have hgg := BG.out.has
  obtain ⟨g0, g1, g2, g3, g4, -⟩ := BG.out
  obtain ⟨x0, x1, x2, x3, x4, x5, x6, x7, x8, x9, x10, x11, x12, x13, x14, -⟩ := BX.out
  go_wp2_with fail
  refine (HR.out _).mono ?_
  rintro e w1 ⟨rfl, hb1⟩
  have HB1 := Lib.hid (nextW HB.out hb1)
  clear hb1
  go_wp2
  go_ret
  exact ⟨rfl, HB1.out⟩

/-- Is one wrong? -/
theorem anywrong_any (a b p n s : Int) (v : Value) (l : List Crs) (w : World) (hv : IsSl crsC w v l) (hn : l.length ≤ 1000000) (g : Nat) (hg : CfgBox w g ⟨a, b, p, n, s⟩) :
    Calls Try.prog 30 #[v, .func (.func 39) #[] #[.pointer (some ⟨g, 0, none⟩)]] w
      fun z w' => z = .returned (.bool (!l.all (crightB a b p n))) ∧ Below w.heap.size w w' := by
  obtain ⟨A, c, rfl, -, -, hat⟩ := hv
  have Hat := Lib.hid hat
  obtain ⟨N, hnn⟩ : ∃ N, l.length = N := ⟨_, rfl⟩
  rw [hnn] at hn ⊢
  have Hn := Lib.hid hnn
  clear hat hnn
  obtain ⟨F, hFF⟩ : ∃ F : Crs → Bool, F = (crightB a b p n) := ⟨_, rfl⟩
  rw [← hFF]
  have HF := Lib.hid (show l.all F = (l.drop 0).all F from by simp)
  have HT := Lib.hid (show ∀ (x : Crs) (w1 : World), Below w.heap.size w w1 → Calls Try.prog 39 #[.agg #[.int .i64 x.kind, .int .i64 x.src, .int .i64 x.dst, .int .i64 x.frame, .int .i64 x.e.id, .int .i64 x.e.kind, .int .i64 x.e.x, .int .i64 x.e.y, .int .i64 x.e.vx, .int .i64 x.e.vy, .int .i64 x.e.health, .int .i64 x.e.age, .int .i64 x.e.owner, .int .i64 x.x, .int .i64 x.y], .pointer (some ⟨g, 0, none⟩)] w1 (fun z w' => z = .returned (.bool (!F x)) ∧ Below w1.heap.size w1 w') from fun x w1 hb => by rw [hFF]; exact wrongM_any a b p n s x g w1 (hg.below hb hg.has))
  generalize l.all F = q at *
  clear hFF hg
  go_enter Try.func30, Try.ntmps30
  go_wp2_with (go_at_call 58; go_in)
  go_loopw [8] (fun i wr => ∃ k : Nat, k ≤ N ∧ i = .int .i64 k ∧ q = (l.drop k).all F ∧ Below w.heap.size w wr) (fun i _ => N - (intOf i).toNat)
  case atStart => exact ⟨0, Nat.zero_le _, rfl, HF.out, Below.refl _ _⟩
  case round =>
    obtain ⟨k, hk, rfl, hr, hbel⟩ := hrel
    have Hr := Lib.hid hr
    have Hbel := Lib.hid hbel
    clear hr hbel
    by_cases hlt : k < N
    · obtain ⟨x, hx⟩ := getE l k N Hn.out hlt
      have HX := Lib.hid (drop_at hx)
      obtain ⟨bb, off, rfl, hc⟩ := elem_Crs (Hat.out.below Hbel.out) hx
      obtain ⟨c0, c1, c2, c3, c4, c5, c6, c7, c8, c9, c10, c11, c12, c13, c14⟩ := hc
      clear hx
      go_wp2_with fail
      refine (HT.out x _ Hbel.out).mono ?_
      rintro e w4 ⟨rfl, hb4⟩
      have Hb4 := Lib.hid (nextW Hbel.out hb4)
      clear hb4 c0 c1 c2 c3 c4 c5 c6 c7 c8 c9 c10 c11 c12 c13 c14 HT
      cases hxy : F x with
      | false =>
        have Hxy := Lib.hid hxy
        clear hxy
        go_wp2
        go_ret
        exact ⟨ret_bool (by rw [Hr.out, HX.out, List.all_cons, Hxy.out]; simp), Hb4.out⟩
      | true =>
        have Hxy := Lib.hid hxy
        clear hxy
        go_wp2
        go_roundw
        case rel => exact ⟨k + 1, by omega, by go_num, by rw [Hr.out, HX.out, List.all_cons, Hxy.out, Bool.true_and], Hb4.out⟩
        case measure => simp [intOf]; omega
    · obtain rfl : k = N := by omega
      go_wp2
      go_ret
      exact ⟨ret_bool (by rw [Hr.out, List.drop_eq_nil_of_le (by have := Hn.out; omega)]; simp), Hbel.out⟩

theorem rightm_any (a b p n s : Int) (v : Value) (l : List Crs) (w : World) (hv : IsSl crsC w v l) (hn : l.length ≤ 1000000) :
    Calls Try.prog 18 #[.agg #[.int .i64 a, .int .i64 b, .int .i64 p, .int .i64 n, .int .u64 s], v] w fun z w' => z = .returned (.bool (l.all (crightB a b p n))) ∧ Below w.heap.size w w' := by
  have HA := Lib.hid (fun w1 hv hg => anywrong_any a b p n s v l w1 hv hn w.heap.size hg)
  have HV := Lib.hid hv
  obtain ⟨A, c, rfl, -⟩ := hv
  generalize l.all (crightB a b p n) = q at *
  go_enter Try.func18, Try.ntmps18
  go_wp2_with fail
  refine (HA.out _ (HV.out.below ((Below.refl _ _).alloc (Nat.le_refl _) _)) (CfgBox.n1 _ ⟨a, b, p, n, s⟩ _ rfl)).mono ?_
  rintro e w1 ⟨rfl, hb1⟩
  have HB := Lib.hid (show Below w.heap.size w w1 from unbox hb1)
  clear hb1
  go_wp2
  go_ret
  exact ⟨ret_bool (by simp), HB.out⟩

end Go.Proofs.Ytlpkaljepaclpaa.Fx
