/- joustlaw02.ChanceOrder returns true for every input; no conditions. -/
import Derived.Test.YtaoepjaobekfiaaChLeaf
import Derived.OwnWalk
import Derived.Test.YtaoepjaobekfiaaRows
import Derived.WalkKit
import Derived.ProofKit
import Derived.OpenShut
import Derived.ShutString
import Derived.ChangeOld
import Derived.Below
namespace Go.Proofs.Ytaoepjaobekfiaa.chanceOrder
open Go.ChangeShapes Go.WideShapes Go.ChangeAt Go.RowKit
open Go.ChangeMaps (open_string shut_string)
set_option linter.unusedVariables false

theorem own : ownKnob Try.prog.godebug = none := by kernel_rfl
theorem laidOut : laidOutB Try.prog = true := by kernel_rfl
open Fx (IsRow)
open Fx
theorem nxt_inj (x a b : Int) (ha : -9223372036854775808 ≤ a ∧ a ≤ 9223372036854775807) (hb : -9223372036854775808 ≤ b ∧ b ≤ 9223372036854775807) : nxt x a = nxt x b ↔ a = b := by
  unfold nxt
  rw [mix_inj _ _ (wr_bd _).1 (wr_bd _).2 (wr_bd _).1 (wr_bd _).2]
  simp only [IntKind.wrap_u64]
  omega
theorem atl_end (s : Int) (l : List Int) (a : Int) : atl s (l ++ [a]) = nxt (atl s l) a := by unfold atl; rw [List.foldl_append]; rfl

theorem walk (a0 : Int) (a1 : Option Addr) (len1 cap1 : Nat) (z1 : List Int) (a2 : Int) (a3 : Int) (w : World) (w0 : (Lit.int .u64 a0).wf = true) (w1 : IsRow .i64 w a1 len1 cap1 z1) (w2 : (Lit.int .i64 a2).wf = true) (w3 : (Lit.int .i64 a3).wf = true) :
    Calls Try.prog 5 #[.int .u64 a0, .slice a1 len1 cap1, .int .i64 a2, .int .i64 a3] w fun e w' => e = .returned (.bool true) ∧ Below w.heap.size w w' := by
  have hs := bounds_u64 w0
  have ha := bounds_i64 w2
  have hb := bounds_i64 w3
  have hl := w1.ints
  have hA : a1 = none → len1 = 0 ∧ cap1 = 0 := by
    rcases w1 with ⟨rfl, rfl, rfl, rfl⟩ | ⟨x, rfl, _⟩
    · exact fun _ => ⟨rfl, rfl⟩
    · exact fun h => by cases h
  have Hl := Lib.hid hl
  have HA := Lib.hid hA
  clear w1 hl hA
  by_cases hlen : 100 < len1
  · go_enter Try.func5, Try.ntmps5
    go_wp2_with fail
    refine (awake_any _).mono ?_
    rintro e w1 ⟨rfl, hb⟩
    go_wp2
    go_ret
    exact ⟨rfl, hb⟩
  · have Hinj := Lib.hid (nxt_inj (atl a0 (z1.take len1)) a2 a3 ha hb)
    obtain ⟨i0, hi, hz0, hz1, hz2⟩ := info_parts info_int
    have Hi := Lib.hid hi
    have Hz0 := Lib.hid hz0
    have Hz1 := Lib.hid hz1
    have Hz2 := Lib.hid hz2
    clear hi hz0 hz1 hz2
    go_enter Try.func5, Try.ntmps5
    go_wp2_with (at_builtin; refine append_row _ rfl _ _ 23 rfl w.heap.size 3 i0 (.int .i64 0) 1 8 Try.underlying23 Hi.out Hz0.out Hz1.out Hz2.out rfl (by decide) (.slice none 0 0) 0 [] rfl (World.ownsRow_nil _ _ _ _) a1 len1 cap1 ((z1.take len1).map (Value.int .i64)) rfl (by simpa using Hl.out.1) HA.out Hl.out.cells (ints_oneCell _ _) (by unfold maxLen; omega) (by omega) (Nat.le_refl _) ?_)
    intro v1 w1 hown1 hgrow1
    have Hown1 := Lib.hid hown1
    have Hgrow1 := Lib.hid hgrow1
    clear hown1 hgrow1
    have B1 := Lib.hid ((Below.refl w.heap.size w).grown Hgrow1.out (Nat.le_refl _) (by intro k hk; cases hk))
    go_wp2_with (at_builtin; refine append_row _ rfl _ _ 23 rfl w.heap.size 3 i0 (.int .i64 0) 1 8 Try.underlying23 Hi.out Hz0.out Hz1.out Hz2.out rfl (by decide) v1 _ _ rfl (Hown1.out.alloc _) _ 1 1 ([a2].map (Value.int .i64)) rfl rfl (by intro h; cases h) (ints_new1 _ _ a2 _ (by simp)).cells (ints_oneCell _ _) (by unfold maxLen; omega) (by omega) (by have := B1.out.size; simp; omega) ?_)
    intro v2 w2 hown2 hgrow2
    have B2 := Lib.hid ((B1.out.alloc B1.out.size _).grown hgrow2 (by have := B1.out.size; simp; omega) (own_ge Hown1.out))
    obtain ⟨A2, c2, rfl, hA2⟩ := owned_ints (n := len1 + 1) (l := z1.take len1 ++ [a2]) (by simpa using hown2)
    have HA2 := Lib.hid hA2
    clear hown2 hgrow2 hA2
    go_wp2_with fail
    refine (at_any _ _ _ _ _ _ hs.1 (by omega) HA2.out (by omega)).mono ?_
    rintro e w' ⟨rfl, rfl⟩
    rw [atl_end]
    go_wp2_with (at_builtin; refine append_row _ rfl _ _ 23 rfl w.heap.size 3 i0 (.int .i64 0) 1 8 Try.underlying23 Hi.out Hz0.out Hz1.out Hz2.out rfl (by decide) (.slice none 0 0) 0 [] rfl (World.ownsRow_nil _ _ _ _) a1 len1 cap1 ((z1.take len1).map (Value.int .i64)) rfl (by simpa using Hl.out.1) HA.out (Hl.out.below B2.out).cells (ints_oneCell _ _) (by unfold maxLen; omega) (by omega) B2.out.size ?_)
    intro v3 w3 hown3 hgrow3
    have Hown3 := Lib.hid hown3
    have B3 := Lib.hid (B2.out.grown hgrow3 B2.out.size (by intro k hk; cases hk))
    clear hown3 hgrow3
    go_wp2_with (at_builtin; refine append_row _ rfl _ _ 23 rfl w.heap.size 3 i0 (.int .i64 0) 1 8 Try.underlying23 Hi.out Hz0.out Hz1.out Hz2.out rfl (by decide) v3 _ _ rfl (Hown3.out.alloc _) _ 1 1 ([a3].map (Value.int .i64)) rfl rfl (by intro h; cases h) (ints_new1 _ _ a3 _ (by simp)).cells (ints_oneCell _ _) (by unfold maxLen; omega) (by omega) (by have := B3.out.size; simp; omega) ?_)
    intro v4 w4 hown4 hgrow4
    have B4 := Lib.hid ((B3.out.alloc B3.out.size _).grown hgrow4 (by have := B3.out.size; simp; omega) (own_ge Hown3.out))
    obtain ⟨A4, c4, rfl, hA4⟩ := owned_ints (n := len1 + 1) (l := z1.take len1 ++ [a3]) (by simpa using hown4)
    have HA4 := Lib.hid hA4
    clear hown4 hgrow4 hA4
    go_wp2_with fail
    refine (at_any _ _ _ _ _ _ hs.1 (by omega) HA4.out (by omega)).mono ?_
    rintro e w' ⟨rfl, rfl⟩
    rw [atl_end]
    generalize nxt (atl a0 (z1.take len1)) a2 = y2 at Hinj
    generalize nxt (atl a0 (z1.take len1)) a3 = y3 at Hinj
    go_wp2_with fail
    refine (awake_any _).mono ?_
    rintro e w5 ⟨rfl, hb5⟩
    have B5 := Lib.hid (B4.out.trans (hb5.mono B4.out.size))
    clear hb5
    have hnil : IntsAt w5 none 0 [] := ⟨rfl, fun h => absurd h (by omega)⟩
    have Hnil := Lib.hid hnil
    clear hnil
    have hat0 : atl a0 [] = mix a0 := rfl
    have Hat0 := Lib.hid hat0
    clear hat0
    by_cases heq : a2 = a3
    · have hy : y2 = y3 := Hinj.out.2 heq
      subst heq hy
      go_wp2_with fail
      refine (at_any _ _ _ _ [] _ hs.1 (by omega) Hnil.out (by omega)).mono ?_
      rintro e w' ⟨rfl, rfl⟩
      rw [Hat0.out]
      go_wp2_with fail
      refine (mix_any _ _ hs.1 (by omega)).mono ?_
      rintro e w' ⟨rfl, rfl⟩
      go_wp2
      go_ret
      exact ⟨rfl, B5.out⟩
    · have hy : ¬ y2 = y3 := fun h => heq (Hinj.out.1 h)
      have hy' : (y2 == y3) = false := by simpa using hy
      have heq' : (a2 == a3) = false := by simpa using heq
      go_wp2_with fail
      refine (at_any _ _ _ _ [] _ hs.1 (by omega) Hnil.out (by omega)).mono ?_
      rintro e w' ⟨rfl, rfl⟩
      rw [Hat0.out]
      go_wp2_with fail
      refine (mix_any _ _ hs.1 (by omega)).mono ?_
      rintro e w' ⟨rfl, rfl⟩
      go_wp2
      go_ret
      exact ⟨rfl, B5.out⟩

set_option maxRecDepth 100000 in
theorem lifted (os : Os) (started : os.Started) (H : Type) (enc : TypeId × Value → H) :
    ReturnsInHanded {} Try.checked os 5 .any (Rows.chanceOrderSpec.pre6 enc Try.prog Try.f5 Rows.chanceOrderRow.domain false) (Rows.chanceOrderSpec.post enc Try.prog Try.f5 false true false false) := by
  refine returnsInHanded_of_change (C := Try.checked) own started (by kernel_rfl) Try.func5
    (ChangeSpec.witness6 (enc := enc) (C := Try.checked) false ⟨#[], #[.int .u64 0, .slice none 0 0, .int .i64 0, .int .i64 0], []⟩ 8 (by kernel_rfl) (by kernel_rfl) (by kernel_rfl) (by kernel_rfl)) ?_
  intro W base args ds gs before hval0 hW hcnd _
  have hval : ∀ (j : Nat) t v, Try.f5.params[j]? = some t → args[j]? = some v → Value.okWide Try.prog W .any base t v := hval0
  have hW' := hW
  obtain ⟨p, q, hA0, hV, rfl, hfz, hnd⟩ := hW
  have hA : DataW.TrodAll enc Try.prog W 0 (fun _ => true) true Try.f5.params.toList args.toList ds p := hA0
  rw [Try.params5] at hA hval
  obtain ⟨v0, vs0, d0, ds0, p0, q0, hargs, rfl, rfl, h0, r0⟩ := trodAll_cons hA
  obtain ⟨v1, vs1, d1, ds1, p1, q1, rfl, rfl, rfl, h1, r1⟩ := trodAll_cons r0
  obtain ⟨v2, vs2, d2, ds2, p2, q2, rfl, rfl, rfl, h2, r2⟩ := trodAll_cons r1
  obtain ⟨v3, vs3, d3, ds3, p3, q3, rfl, rfl, rfl, h3, r3⟩ := trodAll_cons r2
  obtain ⟨rfl, rfl, rfl⟩ := trodAll_nil r3
  obtain rfl : args = #[v0, v1, v2, v3] := by cases args; simp_all
  obtain ⟨rfl, rfl⟩ := trodVars_none hV
  obtain ⟨a0, rfl, rfl, rfl, w0⟩ := open_int Try.underlying22 (hval 0 22 v0 rfl rfl) h0
  obtain ⟨a1, len1, cap1, rfl⟩ := okWide_slice Try.underlying23 (hval 1 23 v1 rfl rfl)
  have k1 := h1
  have lt1 : ∀ x ∈ p1, x.block < W.heap.size := by obtain ⟨m, hm⟩ := k1; exact DataW.trod_lt m _ _ _ hm
  obtain ⟨z1, w1⟩ : ∃ zs, IsRow .i64 W a1 len1 cap1 zs := by
    obtain ⟨fuel, hf⟩ := h1
    rcases open_ints Try.underlying23 Try.underlying3 (by kernel_rfl) hf with ⟨hcs, _⟩ | ⟨x, l, c, zs, hcs, _, hl, hm, hz, _, hcell, hwz⟩
    · simp [Value.cells] at hcs
      obtain ⟨rfl, rfl, rfl⟩ := hcs
      exact ⟨[], .inl ⟨rfl, rfl, rfl, rfl⟩⟩
    · simp [Value.cells] at hcs
      obtain ⟨rfl, rfl, rfl⟩ := hcs
      exact ⟨zs, .inr ⟨_, rfl, hl, hm, by simpa using hz, hcell, hwz⟩⟩
  obtain ⟨a2, rfl, rfl, rfl, w2⟩ := open_int Try.underlying3 (hval 2 3 v2 rfl rfl) h2
  obtain ⟨a3, rfl, rfl, rfl, w3⟩ := open_int Try.underlying3 (hval 3 3 v3 rfl rfl) h3
  clear hA0 hval0
  refine (walk a0 a1 len1 cap1 z1 a2 a3 W w0 w1 w2 w3).mono fun e W' ⟨he, bel⟩ => ?_
  subst he
  exact ⟨_, rfl, _, _, _, [], _, [], hW', trodAll_mk1 (shut_bool Try.underlying4 _), (trodAll_cons_mk (shut_int Try.underlying22 w0) (trodAll_cons_mk (Below.trod laidOut (by kernel_rfl) (of_decide_eq_true (by kernel_rfl)) k1 bel lt1) (trodAll_cons_mk (shut_int Try.underlying3 w2) (trodAll_cons_mk (shut_int Try.underlying3 w3) trodAll_mk0)))), rfl, bel.frame _, fun h => by cases h⟩

theorem over : Rows.chanceOrderRow.holds Try.pinned (OpenSpec.ofChange Rows.chanceOrderSpec) :=
  OpenClaim.holds_of_wide 5 Try.f5 rfl rfl rfl rfl rfl rfl rfl ⟨rfl, rfl, rfl, rfl, rfl⟩ rfl rfl rfl rfl rfl (by kernel_rfl) Try.func5 (by kernel_rfl)
    (of_decide_eq_true (by kernel_rfl)) (by unfold Func.isWrapper; first | (rw [if_pos (by decide +kernel)]; kernel_rfl) | (rw [if_neg (by decide +kernel)]; exact ⟨rfl, rfl⟩))
    (fun os started H enc _ => lifted os started H enc)

end Go.Proofs.Ytaoepjaobekfiaa.chanceOrder
namespace Go.Proofs.Ytaoepjaobekfiaa
theorem chanceOrder_proved : Rows.ChanceOrderSaid := chanceOrder.over
end Go.Proofs.Ytaoepjaobekfiaa
