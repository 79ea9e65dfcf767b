/- slices.SortStableFunc's helpers at elements of k cells, over whatever program bears their bodies: what each leaves in the row. slices.symMergeCmpFunc at elements of k cells: two sorted parts, one behind the other, are merged; what is alike stays in order. -/
import Derived.Test.YtfpofegfbinalaaGreatM31
import Derived.Test.YtfpofegfbinalaaGreatProg
import Derived.Deep.LoopGhost
import Derived.Lib.Hide
import Derived.Deep.DeepCutAuto
namespace Go.Proofs.YtfpofegfbinalaaGreat.Fx.Se
open Go.Shelf Go.RowKit Go.Lib Go.Sort
set_option linter.unusedVariables false
set_option maxRecDepth 100000

/-- What is asked of the program: the types that the bodies name, and the bodies. -/
structure StP (P : Program) (k : Nat) : Prop where
  mixed : P.follows .mixedOrders = true
  t0 : P.underlying 0 = some (.tuple #[])
  a0 : ∀ w, (isAgg 0).run P w = .ok false w
  z0 : ∀ w, (Go.sizeOf 0).run P w = .ok 1 w
  v0 : ∀ w, (zeroValue 0).run P w = .ok (.tuple #[]) w
  t3 : P.underlying 3 = some (.int .i64)
  a3 : ∀ w, (isAgg 3).run P w = .ok false w
  z3 : ∀ w, (Go.sizeOf 3).run P w = .ok 1 w
  v3 : ∀ w, (zeroValue 3).run P w = .ok (.int .i64 0) w
  t4 : P.underlying 4 = some .bool
  a4 : ∀ w, (isAgg 4).run P w = .ok false w
  z4 : ∀ w, (Go.sizeOf 4).run P w = .ok 1 w
  v4 : ∀ w, (zeroValue 4).run P w = .ok (.bool false) w
  t5 : P.underlying 57 = some (.int .u64)
  a5 : ∀ w, (isAgg 57).run P w = .ok false w
  z5 : ∀ w, (Go.sizeOf 57).run P w = .ok 1 w
  v5 : ∀ w, (zeroValue 57).run P w = .ok (.int .u64 0) w
  t6 : P.underlying 46 = some (.slice 45)
  a6 : ∀ w, (isAgg 46).run P w = .ok false w
  z6 : ∀ w, (Go.sizeOf 46).run P w = .ok 1 w
  v6 : ∀ w, (zeroValue 46).run P w = .ok (.slice none 0 0) w
  t7 : P.underlying 84 = some (.func #[45, 45] #[3] false)
  a7 : ∀ w, (isAgg 84).run P w = .ok false w
  z7 : ∀ w, (Go.sizeOf 84).run P w = .ok 1 w
  v7 : ∀ w, (zeroValue 84).run P w = .ok .nilFunc w
  aE : ∀ w, (isAgg 45).run P w = .ok true w
  zE : ∀ w, (Go.sizeOf 45).run P w = .ok k w
  swaps : P.funcs[194]? = some Tryz.f194
  ins : P.funcs[114]? = some Tryz.f114
  rot : P.funcs[164]? = some Tryz.f164
  sym : P.funcs[115]? = some Tryz.f115
  stb : P.funcs[65]? = some Tryz.f65
  top : P.funcs[42]? = some Tryz.f42

variable {P : Program} {α : Type}

theorem len_of {d : Array α} {l : List α} (h : d.toList = l) : d.size = l.length := by rw [← h, Array.length_toList]

variable [Inhabited α]

set_option maxHeartbeats 4000000 in
set_option maxRecDepth 1000000 in
/-- Two parts of the same length exchanged. -/
theorem swapRange_any {k : Nat} (L : StP P k) (enc : α → List Value) (g : Nat) (cb : Array Value) (blk off cap a b n : Nat) (d0 d : Array α) (w0 w : World)
    (R : RowK enc k w0 blk off d0) (hs : d0.size = d.size) (S : SWK enc k w0 blk off d w) (hsz : d.size < 4611686018427387904)
    (p X q Y r : List α) (hd : d.toList = p ++ (X ++ (q ++ (Y ++ r)))) (hp : p.length = a) (hX : X.length = n) (hY : Y.length = n) (hb : a + n + q.length = b) :
    Calls P 194 #[.slice (some ⟨blk, off, none⟩) d.size cap, .int .i64 a, .int .i64 b, .int .i64 n, .func (.func g) #[] cb] w fun e w' =>
      e = .returned (.tuple #[]) ∧ ∃ d' : Array α, d'.toList = p ++ (Y ++ (q ++ (X ++ r))) ∧ SWK enc k w0 blk off d' w' := by
  have mixed := L.mixed; have t0 := L.t0; have a0 := L.a0; have z0 := L.z0; have v0 := L.v0; have t3 := L.t3; have a3 := L.a3; have z3 := L.z3; have v3 := L.v3; have t4 := L.t4; have a4 := L.a4; have z4 := L.z4; have v4 := L.v4
  have t6 := L.t6; have a6 := L.a6; have z6 := L.z6; have v6 := L.v6; have t7 := L.t7; have a7 := L.a7; have z7 := L.z7; have v7 := L.v7; have aE := L.aE; have zE := L.zE
  have FG := L.swaps
  have S0 : Aside (SWK enc k w0 blk off d w) := S
  have hlen : d.size = a + n + q.length + n + r.length := by rw [len_of hd]; simp only [List.length_append, hp, hX, hY]; omega
  have HD : Aside (d.toList = p ++ (X ++ (q ++ (Y ++ r)))) := hd
  have HX : Aside (X.length = n) := hX
  have HY : Aside (Y.length = n) := hY
  have HP : Aside (p.length = a) := hp
  clear S hd hX hY hp L
  go_enter FG, Tryz.ntmps194
  go_wp2
  go_loopg [10] n (fun kx s10 wr => ∃ (i : Nat) (dk : Array α), s10 = .int .i64 i ∧ i ≤ n ∧ n - i ≤ kx ∧ dk.size = d.size ∧ Aside (SWK enc k w0 blk off dk wr) ∧ ∃ X1 X2 Y1 Y2, Aside (X = X1 ++ X2 ∧ Y = Y1 ++ Y2 ∧ X1.length = i ∧ Y1.length = i ∧ dk.toList = p ++ (Y1 ++ (X2 ++ (q ++ (X1 ++ (Y2 ++ r)))))))
  case atStart => exact ⟨0, d, rfl, Nat.zero_le _, Nat.le_refl _, rfl, S0, [], X, [], Y, ⟨rfl, rfl, rfl, rfl, HD.out⟩⟩
  case round =>
    clear S0 HD
    obtain ⟨i, dk, rfl, hin, hkx, hds, S1, X1, X2, Y1, Y2, HI⟩ := hrel
    by_cases hlt : i < n
    · have hltz : (i : Int) < (n : Int) := by omega
      go_wp2_with fail
      obtain ⟨ia, hia⟩ : ∃ ia, ia = a + i := ⟨_, rfl⟩
      obtain ⟨ib, hib⟩ : ∃ ib, ib = b + i := ⟨_, rfl⟩
      have ea : (a : Int) + (i : Int) = (ia : Int) := by omega
      have eb : (b : Int) + (i : Int) = (ib : Int) := by omega
      have wa : IntKind.i64.wrap (ia : Int) = (ia : Int) := by rw [IntKind.wrap_i64]; omega
      have wb : IntKind.i64.wrap (ib : Int) = (ib : Int) := by rw [IntKind.wrap_i64]; omega
      have ba : (ia : Int) < (d.size : Int) := by omega
      have bb : (ib : Int) < (d.size : Int) := by omega
      have S2 : Aside (SWK enc k w0 blk off (swp dk ia ib) ((wr.drew.setCells blk (off + ia * k) (enc dk[ib]!)).setCells blk (off + ib * k) (enc dk[ia]!))) := S1.out.swapped R ia ib (by omega) (by omega)
      have la := S1.out.ld1 R (by omega) P ia (by omega)
      have lb := S1.out.ld1 R (by omega) P ib (by omega)
      have sa := S1.out.st1 R (by omega) P ia (by omega) dk[ib]!
      have sb := S1.out.st2 R (by omega) P ia ib (by omega) (by omega) dk[ib]! dk[ia]!
      have na : (enc dk[ia]!).length = k := R.hk _
      have nb : (enc dk[ib]!).length = k := R.hk _
      generalize enc dk[ia]! = cI at S2 la sb na
      generalize enc dk[ib]! = cJ at S2 lb sa sb nb
      have HIA : Aside (ia = a + i) := hia
      have HIB : Aside (ib = b + i) := hib
      clear S1 hia hib
      go_wp2_with fail
      go_big_region_o
      clear la lb sa sb
      generalize (wr.drew.setCells blk (off + ia * k) cJ).setCells blk (off + ib * k) cI = w2 at S2 ⊢
      go_wp2
      go_roundg (n - (i + 1))
      case measure => omega
      case rel =>
        obtain ⟨h1, h2, h3, h4, h5⟩ := HI.out
        have hX2 : X2.length = n - i := by have := HX.out; rw [h1, List.length_append] at this; omega
        have hY2 : Y2.length = n - i := by have := HY.out; rw [h2, List.length_append] at this; omega
        obtain ⟨x, X3, rfl⟩ : ∃ x X3, X2 = x :: X3 := by cases X2 with
          | nil => simp at hX2; omega
          | cons x X3 => exact ⟨x, X3, rfl⟩
        obtain ⟨y, Y3, rfl⟩ : ∃ y Y3, Y2 = y :: Y3 := by cases Y2 with
          | nil => simp at hY2; omega
          | cons y Y3 => exact ⟨y, Y3, rfl⟩
        have hsw := swp_list (d := dk) (p := p ++ Y1) (q := X3 ++ (q ++ X1)) (r := Y3 ++ r) (x := x) (y := y) (by rw [h5]; simp) ia ib (by rw [HIA.out, List.length_append, HP.out, h4]) (by simp at hX2; simp only [List.length_append, HP.out, h4, h3]; rw [HIB.out]; omega)
        refine ⟨i + 1, swp dk ia ib, by go_num, by omega, Nat.le_refl _, by rw [size_swp]; exact hds, S2, X1 ++ [x], X3, Y1 ++ [y], Y3, by rw [h1]; simp, by rw [h2]; simp, by simp [h3], by simp [h4], ?_⟩
        rw [hsw]; simp
    · have hltz : ¬ (i : Int) < (n : Int) := by omega
      go_wp2
      go_end0
      obtain ⟨h1, h2, h3, h4, h5⟩ := HI.out
      have hX2 : X2 = [] := List.eq_nil_of_length_eq_zero (by have := HX.out; rw [h1, List.length_append] at this; omega)
      have hY2 : Y2 = [] := List.eq_nil_of_length_eq_zero (by have := HY.out; rw [h2, List.length_append] at this; omega)
      subst hX2 hY2
      refine ⟨rfl, dk, ?_, S1.out⟩
      rw [h5, h1, h2]; simp

set_option maxHeartbeats 4000000 in
set_option maxRecDepth 1000000 in
/-- Two parts, one behind the other, change places. -/
theorem rotate_any {k : Nat} (L : StP P k) (enc : α → List Value) (g : Nat) (cb : Array Value) (blk off cap a m b : Nat) (d0 d : Array α) (w0 w : World)
    (R : RowK enc k w0 blk off d0) (hs : d0.size = d.size) (S : SWK enc k w0 blk off d w) (hsz : d.size < 4611686018427387904)
    (p U V r : List α) (hd : d.toList = p ++ (U ++ (V ++ r))) (hp : p.length = a) (hU : a + U.length = m) (hV : m + V.length = b) (hU0 : 0 < U.length) (hV0 : 0 < V.length) :
    Calls P 164 #[.slice (some ⟨blk, off, none⟩) d.size cap, .int .i64 a, .int .i64 m, .int .i64 b, .func (.func g) #[] cb] w fun e w' =>
      e = .returned (.tuple #[]) ∧ ∃ d' : Array α, d'.toList = p ++ (V ++ (U ++ r)) ∧ SWK enc k w0 blk off d' w' := by
  have mixed := L.mixed; have t0 := L.t0; have a0 := L.a0; have z0 := L.z0; have v0 := L.v0; have t3 := L.t3; have a3 := L.a3; have z3 := L.z3; have v3 := L.v3; have t4 := L.t4; have a4 := L.a4; have z4 := L.z4; have v4 := L.v4
  have t5 := L.t5; have a5 := L.a5; have z5 := L.z5; have v5 := L.v5; have t6 := L.t6; have a6 := L.a6; have z6 := L.z6; have v6 := L.v6; have t7 := L.t7; have a7 := L.a7; have z7 := L.z7; have v7 := L.v7; have aE := L.aE; have zE := L.zE
  have FG := L.rot
  have e72 : ∀ args w, (callFunc 194 args).run P w = .ok (.enter 194 args) w := enters_of L.swaps (by kernel_rfl) rfl
  have S0 : Aside (SWK enc k w0 blk off d w) := S
  have hlen : b ≤ d.size := by rw [len_of hd]; simp only [List.length_append, hp]; omega
  have HD : Aside (d.toList = p ++ (U ++ (V ++ r))) := hd
  have HP : Aside (p.length = a) := hp
  have HL : Aside (StP P k) := L
  clear S hd hp L
  obtain ⟨i0, hi0⟩ : ∃ i0, i0 = U.length := ⟨_, rfl⟩
  obtain ⟨j0, hj0⟩ : ∃ j0, j0 = V.length := ⟨_, rfl⟩
  rw [← hi0] at hU hU0
  rw [← hj0] at hV hV0
  have HI0 : Aside (i0 = U.length) := hi0
  have HJ0 : Aside (j0 = V.length) := hj0
  clear hi0 hj0
  have em : (m : Int) - (a : Int) = (i0 : Int) := by omega
  have eb : (b : Int) - (m : Int) = (j0 : Int) := by omega
  go_enter FG, Tryz.ntmps164
  go_wp2
  clear em eb
  go_loopg [10, 11] (i0 + j0) (fun kx s10 s11 wr => ∃ (i j : Nat) (dk : Array α), s10 = .int .i64 i ∧ s11 = .int .i64 j ∧ 0 < i ∧ 0 < j ∧ i ≤ m ∧ m + j ≤ b ∧ i + j ≤ kx ∧ dk.size = d.size ∧ Aside (SWK enc k w0 blk off dk wr) ∧ ∃ p' U' V' r', Aside (dk.toList = p' ++ (U' ++ (V' ++ r')) ∧ p'.length = m - i ∧ U'.length = i ∧ V'.length = j ∧ p' ++ (V' ++ (U' ++ r')) = p ++ (V ++ (U ++ r))))
  case atStart => exact ⟨i0, j0, d, rfl, rfl, hU0, hV0, by omega, by omega, Nat.le_refl _, rfl, S0, p, U, V, r, ⟨HD.out, by rw [HP.out]; omega, HI0.out.symm, HJ0.out.symm, rfl⟩⟩
  case round =>
    clear S0 HD
    obtain ⟨i, j, dk, rfl, rfl, hi0, hj0, him, hjb, hkx, hds, S1, p', U', V', r', HI⟩ := hrel
    obtain ⟨mi, hmi⟩ : ∃ mi, mi + i = m := ⟨m - i, by omega⟩
    have emi : (m : Int) - (i : Int) = (mi : Int) := by omega
    have wmi : IntKind.i64.wrap (mi : Int) = (mi : Int) := by rw [IntKind.wrap_i64]; omega
    by_cases hij : i = j
    · subst hij
      have hc := swapRange_any HL.out enc g cb blk off cap mi m i d0 dk w0 wr R (by omega) S1.out (by omega) p' U' [] V' r' (by rw [HI.out.1]; simp) (by rw [HI.out.2.1]; omega) HI.out.2.2.1 HI.out.2.2.2.1 (by simp; omega)
      rw [hds] at hc
      clear S1
      go_wp2_with (go_at_fn 194; refine hc.mono ?_; rintro e w1 ⟨rfl, d1, hd1, hw1⟩)
      go_end0
      exact ⟨rfl, d1, by rw [hd1, ← HI.out.2.2.2.2]; simp, hw1⟩
    · have hijz : ¬ ((i : Int) = (j : Int)) := by omega
      by_cases hgt : j < i
      · have hgtz : (j : Int) < (i : Int) := by omega
        have hU1 : U' = U'.take j ++ U'.drop j := (List.take_append_drop _ _).symm
        have hl1 : (U'.take j).length = j := by rw [List.length_take, HI.out.2.2.1]; omega
        have hl2 : (U'.drop j).length = i - j := by rw [List.length_drop, HI.out.2.2.1]
        have hc := swapRange_any HL.out enc g cb blk off cap mi m j d0 dk w0 wr R (by omega) S1.out (by omega) p' (U'.take j) (U'.drop j) V' r' (by rw [HI.out.1, ← List.append_assoc (U'.take j), ← hU1]) (by rw [HI.out.2.1]; omega) hl1 HI.out.2.2.2.1 (by rw [hl2]; omega)
        rw [hds] at hc
        have H1 := Lib.hid (hU1)
        have H2 := Lib.hid (And.intro hl1 hl2)
        clear S1 hU1 hl1 hl2
        go_wp2_with (go_at_fn 194; refine hc.mono ?_; rintro e w1 ⟨rfl, d1, hd1, hw1⟩)
        have HD1 := Lib.hid (hd1)
        have HW1 := Lib.hid (hw1)
        clear hd1 hw1
        go_wp2
        go_roundg (i - j + j)
        case measure => omega
        case rel =>
          have hd1 := HD1.out
          have hs1 : d1.size = d.size := by
            rw [len_of hd1, ← hds, len_of HI.out.1]
            have := congrArg List.length H1.out
            simp only [List.length_append] at this ⊢
            omega
          refine ⟨i - j, j, d1, by congr 1; omega, rfl, by omega, hj0, by omega, hjb, Nat.le_refl _, hs1, HW1.out, p' ++ V', U'.drop j, U'.take j, r', by rw [hd1]; simp, by rw [List.length_append, HI.out.2.1, HI.out.2.2.2.1]; omega, H2.out.2, H2.out.1, ?_⟩
          rw [← HI.out.2.2.2.2]
          conv => rhs; rw [H1.out]
          simp only [List.append_assoc]
      · have hgtz : ¬ (j : Int) < (i : Int) := by omega
        have hlt : i < j := by omega
        obtain ⟨mj, hmj⟩ : ∃ mj, mj + i = m + j := ⟨m + j - i, by omega⟩
        have emj : (m : Int) + (j : Int) - (i : Int) = (mj : Int) := by omega
        have wmj : IntKind.i64.wrap ((m : Int) + (j : Int)) = (m : Int) + (j : Int) := by rw [IntKind.wrap_i64]; omega
        have hV1 : V' = V'.take (j - i) ++ V'.drop (j - i) := (List.take_append_drop _ _).symm
        have hl1 : (V'.take (j - i)).length = j - i := by rw [List.length_take, HI.out.2.2.2.1]; omega
        have hl2 : (V'.drop (j - i)).length = i := by rw [List.length_drop, HI.out.2.2.2.1]; omega
        have hc := swapRange_any HL.out enc g cb blk off cap mi mj i d0 dk w0 wr R (by omega) S1.out (by omega) p' U' (V'.take (j - i)) (V'.drop (j - i)) r' (by rw [HI.out.1, ← List.append_assoc (V'.take (j - i)), ← hV1]) (by rw [HI.out.2.1]; omega) HI.out.2.2.1 hl2 (by rw [hl1]; omega)
        rw [hds] at hc
        have H1 := Lib.hid (hV1)
        have H2 := Lib.hid (And.intro hl1 hl2)
        clear S1 hV1 hl1 hl2
        go_wp2_with (go_at_fn 194; refine hc.mono ?_; rintro e w1 ⟨rfl, d1, hd1, hw1⟩)
        have HD1 := Lib.hid (hd1)
        have HW1 := Lib.hid (hw1)
        clear hd1 hw1
        go_wp2
        go_roundg (i + (j - i))
        case measure => omega
        case rel =>
          have hd1 := HD1.out
          have hs1 : d1.size = d.size := by
            rw [len_of hd1, ← hds, len_of HI.out.1]
            have := congrArg List.length H1.out
            simp only [List.length_append] at this ⊢
            omega
          refine ⟨i, j - i, d1, rfl, by congr 1; omega, hi0, by omega, him, by omega, Nat.le_refl _, hs1, HW1.out, p', V'.drop (j - i), V'.take (j - i), U' ++ r', by rw [hd1], HI.out.2.1, H2.out.2, H2.out.1, ?_⟩
          rw [← HI.out.2.2.2.2]
          conv => rhs; rw [H1.out]
          simp only [List.append_assoc]

set_option maxHeartbeats 4000000 in
set_option maxRecDepth 1000000 in
/-- The insertion sort of a part. -/
theorem insertion_any {k : Nat} (L : StP P k) (enc : α → List Value) (cf : α → α → Int) (hO : SWO (ltOf cf)) (g : Nat) (cb : Array Value) (blk off cap a b : Nat) (d0 d : Array α) (w0 w : World)
    (eg : ∀ args w, (callFunc g args).run P w = .ok (.enter g args) w) (hcmp : CmpLays P g cb enc k cf blk off d0.size w0) (R : RowK enc k w0 blk off d0) (hs : d0.size = d.size) (S : SWK enc k w0 blk off d w) (hsz : d.size < 4611686018427387904)
    (p U r : List α) (hd : d.toList = p ++ (U ++ r)) (hp : p.length = a) (hU : a + U.length = b) :
    Calls P 114 #[.slice (some ⟨blk, off, none⟩) d.size cap, .int .i64 a, .int .i64 b, .func (.func g) #[] cb] w fun e w' =>
      e = .returned (.tuple #[]) ∧ ∃ d' : Array α, d'.toList = p ++ (st (ltOf cf) U ++ r) ∧ SWK enc k w0 blk off d' w' := by
  have mixed := L.mixed; have t0 := L.t0; have a0 := L.a0; have z0 := L.z0; have v0 := L.v0; have t3 := L.t3; have a3 := L.a3; have z3 := L.z3; have v3 := L.v3; have t4 := L.t4; have a4 := L.a4; have z4 := L.z4; have v4 := L.v4
  have t5 := L.t5; have a5 := L.a5; have z5 := L.z5; have v5 := L.v5; have t6 := L.t6; have a6 := L.a6; have z6 := L.z6; have v6 := L.v6; have t7 := L.t7; have a7 := L.a7; have z7 := L.z7; have v7 := L.v7; have aE := L.aE; have zE := L.zE
  have FG := L.ins
  have S0 : Aside (SWK enc k w0 blk off d w) := S
  have hab : a ≤ b := by omega
  have hb : b ≤ d.size := by rw [len_of hd]; simp only [List.length_append, hp]; omega
  have HF : Aside ((insertionSort (ltOf cf) d a b).toList = p ++ (st (ltOf cf) U ++ r)) := by
    show _ = _
    rw [insertion_list (ltOf cf) hO d p U r a b (by rw [hd]; simp) hp.symm hU.symm]; simp
  have HC := Lib.hid (hcmp)
  clear S hd hp hU L hcmp
  go_enter FG, Tryz.ntmps114
  go_wp2
  go_loopg [8] (b - a) (fun g1 vi wr => ∃ (i : Nat) (dk : Array α), vi = .int .i64 i ∧ a < i ∧ i ≤ b + 1 ∧ b + 1 - i ≤ g1 + 1 ∧ dk.size = d.size ∧ Aside (SWK enc k w0 blk off dk wr) ∧ Aside (insOuter (ltOf cf) a b i dk = insOuter (ltOf cf) a b (a + 1) d))
  case atStart => exact ⟨a + 1, d, by go_num, by omega, by omega, by omega, rfl, S0, rfl⟩
  case round =>
    clear S0
    obtain ⟨i, dk, rfl, hai, hib, hg1, hsk, S1, HO⟩ := hrel
    by_cases hlt : i < b
    · have hltz : (i : Int) < (b : Int) := by omega
      go_wp2
      go_loopg [9] i (fun g2 vj wr => ∃ (j : Nat) (dj : Array α), vj = .int .i64 j ∧ a ≤ j ∧ j ≤ i ∧ j ≤ g2 ∧ dj.size = d.size ∧ Aside (SWK enc k w0 blk off dj wr) ∧ Aside (insInner (ltOf cf) a j dj = insInner (ltOf cf) a i dk))
      case atStart => exact ⟨i, dk, rfl, by omega, Nat.le_refl _, Nat.le_refl _, hsk, S1, rfl⟩
      case round =>
        clear S1
        obtain ⟨j, dj, rfl, haj, hji, hg2, hsj, S1, HI⟩ := hrel
        have OUT : Aside ((j ≤ a ∨ ltOf cf dj[j]! dj[j - 1]! = false) → insOuter (ltOf cf) a b (i + 1) dj = insOuter (ltOf cf) a b (a + 1) d) := fun hs => by
          rw [← HO.out, insOuter_go _ _ _ _ _ hlt, ← HI.out, insInner_stop _ _ _ _ hs]
        by_cases hja : a < j
        · have hjaz : (a : Int) < (j : Int) := by omega
          obtain ⟨jp, rfl⟩ : ∃ jp, j = jp + 1 := ⟨j - 1, by omega⟩
          obtain ⟨xj, hxj⟩ : ∃ x, dj[jp + 1]! = x := ⟨_, rfl⟩
          obtain ⟨xp, hxp⟩ : ∃ x, dj[jp]! = x := ⟨_, rfl⟩
          have hwp : IntKind.i64.wrap (jp : Int) = (jp : Int) := by rw [IntKind.wrap_i64]; omega
          have jz : (jp : Int) + 1 < (d.size : Int) := by omega
          have jz1 : (jp : Int) < (d.size : Int) := by omega
          have hjaz' : (a : Int) < (jp : Int) + 1 := by omega
          have p0 : (0 : Int) ≤ (jp : Int) + 1 := by omega
          have e0 : ((jp : Int) + 1).toNat = jp + 1 := by omega
          have lj := fun n os => S1.out.ld R (by omega) P (jp + 1) (by omega) n os
          have lp := fun n os => S1.out.ld R (by omega) P jp (by omega) n os
          have hcg := fun n os => S1.out.cmp HC.out (by omega) xj xp n os
          simp only [hxj] at lj
          simp only [hxp] at lp
          by_cases hlv : cf xj xp < 0
          · go_wp2_with fail
            go_quiet_grown (first | (go_at_fn g; refine Calls.grown_of (hcg _ _)))
            clear lj lp hcg
            have S2 : Aside (SWK enc k w0 blk off dj (grow (wr.drewN nq) osq)) := S1.out.grown nq osq
            clear S1
            generalize grow (wr.drewN nq) osq = wq at S2 ⊢
            go_wp2_with fail
            have S3 : Aside (SWK enc k w0 blk off (swp dj (jp + 1) jp) ((wq.drew.setCells blk (off + (jp + 1) * k) (enc dj[jp]!)).setCells blk (off + jp * k) (enc dj[jp + 1]!))) := S2.out.swapped R (jp + 1) jp (by omega) (by omega)
            have la := S2.out.ld1 R (by omega) P (jp + 1) (by omega)
            have lb := S2.out.ld1 R (by omega) P jp (by omega)
            have sa := S2.out.st1 R (by omega) P (jp + 1) (by omega) dj[jp]!
            have sb := S2.out.st2 R (by omega) P (jp + 1) jp (by omega) (by omega) dj[jp]! dj[jp + 1]!
            have na : (enc dj[jp + 1]!).length = k := R.hk _
            have nb : (enc dj[jp]!).length = k := R.hk _
            generalize enc dj[jp + 1]! = cI at S3 la sb na
            generalize enc dj[jp]! = cJ at S3 lb sa sb nb
            have HX : Aside (dj[jp + 1]! = xj ∧ dj[jp]! = xp) := ⟨hxj, hxp⟩
            clear S2 hxj hxp
            go_wp2_with fail
            go_big_region_o
            clear la lb sa sb
            generalize (wq.drew.setCells blk (off + (jp + 1) * k) cJ).setCells blk (off + jp * k) cI = w2 at S3 ⊢
            go_wp2
            go_roundg jp
            case measure => omega
            case rel =>
              refine ⟨jp, swp dj (jp + 1) jp, by first | rfl | go_num | (congr 1; omega), by omega, by omega, Nat.le_refl _, by rw [size_swp]; exact hsj, S3, ?_⟩
              show _ = _
              have := insInner_go (ltOf cf) a (jp + 1) dj hja (by simp only [Nat.add_sub_cancel]; rw [HX.out.1, HX.out.2]; exact decide_eq_true hlv)
              simp only [Nat.add_sub_cancel] at this
              rw [← HI.out, this]
          · have HX : Aside (dj[jp + 1]! = xj ∧ dj[jp]! = xp) := ⟨hxj, hxp⟩
            clear hxj hxp
            go_wp2_with fail
            go_quiet_grown (first | (go_at_fn g; refine Calls.grown_of (hcg _ _)))
            clear lj lp hcg
            have S2 : Aside (SWK enc k w0 blk off dj (grow (wr.drewN nq) osq)) := S1.out.grown nq osq
            clear S1
            generalize grow (wr.drewN nq) osq = wq at S2 ⊢
            go_wp2
            go_roundg (b - (i + 1))
            case measure => omega
            case rel => exact ⟨i + 1, dj, by go_num, by omega, by omega, by omega, hsj, S2, OUT.out (Or.inr (by simp only [Nat.add_sub_cancel]; rw [HX.out.1, HX.out.2]; exact decide_eq_false (by omega)))⟩
        · have hjaz : decide ((j : Int) > (a : Int)) = false := decide_eq_false (by omega)
          have hjaz' : ¬ (a : Int) < (j : Int) := by omega
          have S2 : Aside (SWK enc k w0 blk off dj wr.drew) := S1.out.drew
          clear S1
          go_wp2_with fail
          go_big_region_o
          generalize wr.drew = wq at S2 ⊢
          all_goals go_wp2
          go_roundg (b - (i + 1))
          case measure => omega
          case rel => exact ⟨i + 1, dj, by go_num, by omega, by omega, by omega, hsj, S2, OUT.out (Or.inl (by omega))⟩
    · have hltz : ¬ (i : Int) < (b : Int) := by omega
      go_wp2
      go_end0
      refine ⟨rfl, dk, ?_, S1.out⟩
      rw [← HF.out]; unfold Sort.insertionSort; rw [← HO.out, insOuter_stop _ _ _ _ _ hlt]

end Go.Proofs.YtfpofegfbinalaaGreat.Fx.Se
namespace Go.Proofs.YtfpofegfbinalaaGreat.Fx.Se
open Go.Shelf Go.RowKit Go.Lib Go.Sort
set_option linter.unusedVariables false
set_option maxRecDepth 100000
variable {P : Program} {α : Type}

theorem mem_take_get {l : List α} {n : Nat} {y : α} (h : y ∈ l.take n) : ∃ t, t < n ∧ l[t]? = some y := by
  obtain ⟨t, ht⟩ := List.getElem?_of_mem h
  rw [List.getElem?_take] at ht
  split at ht
  · exact ⟨t, by assumption, ht⟩
  · cases ht

theorem mem_drop_get {l : List α} {n : Nat} {y : α} (h : y ∈ l.drop n) : ∃ t, n ≤ t ∧ l[t]? = some y := by
  obtain ⟨t, ht⟩ := List.getElem?_of_mem h
  rw [List.getElem?_drop] at ht
  exact ⟨n + t, by omega, ht⟩

theorem cut_at (B : List α) (n : Nat) (h : n < B.length) : ∃ T z D, B.take n = T ∧ B.drop n = z :: D ∧ B.take (n + 1) = T ++ [z] ∧ B.drop (n + 1) = D ∧ T.length = n :=
  ⟨B.take n, B[n], B.drop (n + 1), rfl, List.drop_eq_getElem_cons h, by simp, rfl, by rw [List.length_take]; omega⟩

theorem get_lt {l : List α} {t : Nat} {y : α} (h : l[t]? = some y) : t < l.length := (List.getElem?_eq_some_iff.1 h).1

theorem srtd_get {lt : α → α → Bool} (hO : SWO lt) {l : List α} (h : Srtd lt l) {s t : Nat} {x y : α} (hx : l[s]? = some x) (hy : l[t]? = some y) (hst : s ≤ t) : lt y x = false := by
  rcases Nat.lt_or_eq_of_le hst with h1 | h1
  · have := List.pairwise_iff_getElem.1 h s t (get_lt hx) (get_lt hy) h1
    rw [List.getElem?_eq_getElem (get_lt hx)] at hx
    rw [List.getElem?_eq_getElem (get_lt hy)] at hy
    simp only [Option.some.injEq] at hx hy
    rw [← hx, ← hy]
    exact this
  · subst h1
    rw [hx] at hy; cases hy
    exact hO.irrefl _

variable [Inhabited α]

/-- A part of an array that is a list. -/
theorem seg_get {d : Array α} {p B r : List α} (h : d.toList = p ++ (B ++ r)) {m t : Nat} {y : α} (hp : p.length = m) (hy : B[t]? = some y) : m + t < d.size ∧ d[m + t]! = y := by
  refine arr_get h (m + t) y ?_
  rw [List.getElem?_append_right (by omega), hp, Nat.add_sub_cancel_left, List.getElem?_append_left (get_lt hy)]
  exact hy

theorem seg_get' {d : Array α} {p B r : List α} (h : d.toList = p ++ (B ++ r)) {m t : Nat} (hp : p.length = m) (h1 : m ≤ t) (h2 : t < m + B.length) : B[t - m]? = some d[t]! := by
  obtain ⟨y, hy⟩ : ∃ y, B[t - m]? = some y := ⟨_, List.getElem?_eq_getElem (by omega)⟩
  have := (seg_get h hp hy).2
  rw [show m + (t - m) = t by omega] at this
  rw [hy, this]

/-- One ahead of a sorted part: where it goes. -/
theorem left_one {lt : α → α → Bool} {d : Array α} {p B r : List α} {x : α} (hd : d.toList = p ++ (B ++ r)) {m i : Nat} (hp : p.length = m) (hi : m ≤ i) (hib : i ≤ m + B.length)
    (h1 : ∀ t, m ≤ t → t < i → lt d[t]! x = true) (h2 : ∀ t, i ≤ t → t < m + B.length → lt d[t]! x = false) : mrg lt [x] B = B.take (i - m) ++ x :: B.drop (i - m) := by
  have := mrg_in' lt (a := B.take (i - m)) (b := B.drop (i - m)) x (fun y hy => ?_) (fun y hy => ?_)
  · rw [List.take_append_drop] at this; exact this
  · obtain ⟨t, ht, hg⟩ := mem_take_get hy
    have := seg_get hd hp hg
    rw [← this.2]; exact h1 _ (by omega) (by omega)
  · obtain ⟨t, ht, hg⟩ := mem_drop_get hy
    have := seg_get hd hp hg
    have := get_lt hg
    rw [← (seg_get hd hp hg).2]; exact h2 _ (by omega) (by omega)

theorem right_one {lt : α → α → Bool} {d : Array α} {p B r : List α} {x : α} (hd : d.toList = p ++ (B ++ r)) {m i : Nat} (hp : p.length = m) (hi : m ≤ i) (hib : i ≤ m + B.length)
    (h1 : ∀ t, m ≤ t → t < i → lt x d[t]! = false) (h2 : ∀ t, i ≤ t → t < m + B.length → lt x d[t]! = true) : mrg lt B [x] = B.take (i - m) ++ x :: B.drop (i - m) := by
  have := mrg_in lt (a := B.take (i - m)) (b := B.drop (i - m)) x (fun y hy => ?_) (fun y hy => ?_)
  · rw [List.take_append_drop] at this; exact this
  · obtain ⟨t, ht, hg⟩ := mem_take_get hy
    rw [← (seg_get hd hp hg).2]; exact h1 _ (by omega) (by omega)
  · obtain ⟨t, ht, hg⟩ := mem_drop_get hy
    have := get_lt hg
    rw [← (seg_get hd hp hg).2]; exact h2 _ (by omega) (by omega)

/-- Where two sorted parts are parted. -/
theorem sym_split {lt : α → α → Bool} (hO : SWO lt) {d : Array α} {p A B r : List α} (hd : d.toList = p ++ (A ++ (B ++ r))) {a m b mid s s0 r0 : Nat} (hp : p.length = a) (hA : a + A.length = m) (hB : m + B.length = b) (hsA : Srtd lt A) (hsB : Srtd lt B) (hA0 : a < m) (hB0 : m < b)
    (hmid : 2 * mid ≤ a + b) (hmid' : a + b ≤ 2 * mid + 1) (h0 : (mid < m ∧ s0 = mid + m - b ∧ r0 = mid) ∨ (m ≤ mid ∧ s0 = a ∧ r0 = m)) (hs0 : s0 ≤ s) (hs1 : s ≤ r0)
    (h1 : ∀ t, s0 ≤ t → t < s → lt d[mid + m - 1 - t]! d[t]! = false) (h2 : ∀ t, s ≤ t → t < r0 → lt d[mid + m - 1 - t]! d[t]! = true) :
    a ≤ s ∧ s ≤ m ∧ m ≤ mid + m - s ∧ mid + m - s ≤ b ∧ mrg lt A B = mrg lt (A.take (s - a)) (B.take (mid + m - s - m)) ++ mrg lt (A.drop (s - a)) (B.drop (mid + m - s - m)) := by
  have b1 : a ≤ s ∧ s ≤ m ∧ m ≤ mid + m - s ∧ mid + m - s ≤ b := by omega
  refine ⟨b1.1, b1.2.1, b1.2.2.1, b1.2.2.2, ?_⟩
  have hdB : d.toList = (p ++ A) ++ (B ++ r) := by rw [hd]; simp
  have hpB : (p ++ A).length = m := by rw [List.length_append]; omega
  have e := mrg_split lt (a1 := A.take (s - a)) (a2 := A.drop (s - a)) (b1 := B.take (mid + m - s - m)) (b2 := B.drop (mid + m - s - m)) (fun y hy x hx => ?_) (fun x hx y hy => ?_)
  · rw [List.take_append_drop, List.take_append_drop] at e; exact e
  · obtain ⟨u, hu, hgu⟩ := mem_take_get hy
    obtain ⟨v, hv, hgv⟩ := mem_drop_get hx
    have lu := get_lt hgu
    have lv := get_lt hgv
    have h3 := h2 s (Nat.le_refl _) (by omega)
    have gs := seg_get' hd hp (t := s) b1.1 (by omega)
    have ge := seg_get' hdB hpB (t := mid + m - 1 - s) (by omega) (by omega)
    have k1 := srtd_get hO hsB hgu ge (by omega)
    have k2 := srtd_get hO hsA gs hgv (by omega)
    exact swo_lt_le hO (swo_le_lt hO k1 h3) k2
  · obtain ⟨u, hu, hgu⟩ := mem_drop_get hy
    obtain ⟨v, hv, hgv⟩ := mem_take_get hx
    have lu := get_lt hgu
    have lv := get_lt hgv
    have h3 := h1 (s - 1) (by omega) (by omega)
    have gs := seg_get' hd hp (t := s - 1) (by omega) (by omega)
    have ge := seg_get' hdB hpB (t := mid + m - 1 - (s - 1)) (by omega) (by omega)
    have k1 := srtd_get hO hsB ge hgu (by omega)
    have k2 := srtd_get hO hsA hgv gs (by omega)
    exact hO.ntrans _ _ _ (hO.ntrans _ _ _ k1 h3) k2

set_option maxHeartbeats 4000000 in
set_option maxRecDepth 1000000 in
/-- One ahead of a sorted part. -/
theorem sym_left {k : Nat} (L : StP P k) (enc : α → List Value) (cf : α → α → Int) (hO : SWO (ltOf cf)) (g : Nat) (cb : Array Value) (blk off cap a m b : Nat) (d0 d : Array α) (w0 w : World)
    (eg : ∀ args w, (callFunc g args).run P w = .ok (.enter g args) w) (hcmp : CmpLays P g cb enc k cf blk off d0.size w0) (R : RowK enc k w0 blk off d0) (hs : d0.size = d.size) (S : SWK enc k w0 blk off d w) (hsz : d.size < 4611686018427387904)
    (p B r : List α) (x : α) (hd : d.toList = p ++ x :: (B ++ r)) (hp : p.length = a) (hA : m = a + 1) (hB : m + B.length = b) (hsB : Srtd (ltOf cf) B) :
    Calls P 115 #[.slice (some ⟨blk, off, none⟩) d.size cap, .int .i64 a, .int .i64 m, .int .i64 b, .func (.func g) #[] cb] w fun e w' =>
      e = .returned (.tuple #[]) ∧ ∃ d' : Array α, d'.toList = p ++ (mrg (ltOf cf) [x] B ++ r) ∧ SWK enc k w0 blk off d' w' := by
  have mixed := L.mixed; have t0 := L.t0; have a0 := L.a0; have z0 := L.z0; have v0 := L.v0; have t3 := L.t3; have a3 := L.a3; have z3 := L.z3; have v3 := L.v3; have t4 := L.t4; have a4 := L.a4; have z4 := L.z4; have v4 := L.v4
  have t5 := L.t5; have a5 := L.a5; have z5 := L.z5; have v5 := L.v5; have t6 := L.t6; have a6 := L.a6; have z6 := L.z6; have v6 := L.v6; have t7 := L.t7; have a7 := L.a7; have z7 := L.z7; have v7 := L.v7; have aE := L.aE; have zE := L.zE
  have FG := L.sym
  have S0 : Aside (SWK enc k w0 blk off d w) := S
  have hbs : b ≤ d.size := by rw [len_of hd]; simp only [List.length_append, List.length_cons, hp]; omega
  have hm1 : m - a = 1 := by omega
  have hma : a + 1 ≤ m ∧ m ≤ a + 1 := by omega
  have hmb : m ≤ b := by omega
  have hxa : d[a]! = x := (arr_get hd a x (get_at rfl a hp.symm)).2
  have hdB : d.toList = (p ++ [x]) ++ (B ++ r) := by rw [hd]; simp
  have hpB : (p ++ [x]).length = m := by simp; omega
  have hso : ∀ s t, m ≤ s → s ≤ t → t < b → ltOf cf d[t]! d[s]! = false := fun s t h1 h2 h3 => srtd_get hO hsB (seg_get' hdB hpB (t := s) h1 (by omega)) (seg_get' hdB hpB (t := t) (by omega) (by omega)) (by omega)
  have HSo := Lib.hid hso
  have HLeft := Lib.hid (fun i (h0 : m ≤ i) (h1 : i ≤ b) => left_one (lt := ltOf cf) (x := x) hdB hpB h0 (by omega) (i := i))
  have HXa := Lib.hid hxa
  have HD := Lib.hid hd
  have HP := Lib.hid hp
  have HB := Lib.hid hB
  have HC := Lib.hid hcmp
  clear S hd hp hB L hcmp hxa hdB hpB hso hsB hm1 hA
  have hmaz : (m : Int) - (a : Int) = 1 := by omega
  go_enter FG, Tryz.ntmps115
  go_wp2
  go_loopg [10, 11] (b - m) (fun kx s10 s11 wr => ∃ (i j : Nat), s10 = .int .i64 i ∧ s11 = .int .i64 j ∧ m ≤ i ∧ i ≤ j ∧ j ≤ b ∧ j - i ≤ kx ∧ Aside (SWK enc k w0 blk off d wr) ∧ Aside ((∀ t, m ≤ t → t < i → ltOf cf d[t]! x = true) ∧ (∀ t, j ≤ t → t < b → ltOf cf d[t]! x = false)))
  case atStart => exact ⟨m, b, rfl, rfl, Nat.le_refl _, hmb, Nat.le_refl _, Nat.le_refl _, S0, fun t h1 h2 => by omega, fun t h1 h2 => by omega⟩
  case round =>
    clear S0
    obtain ⟨i, j, rfl, rfl, hmi, hij, hjb, hkx, S1, HI⟩ := hrel
    by_cases hlt : i < j
    · have hltz : (i : Int) < (j : Int) := by omega
      obtain ⟨h, hh1, hh2⟩ : ∃ h, 2 * h ≤ i + j ∧ i + j ≤ 2 * h + 1 := ⟨(i + j) / 2, by omega, by omega⟩
      have eh : ((i : Int) + (j : Int)) / 2 = (h : Int) := by omega
      have eh1 : IntKind.u64.wrap ((i : Int) + (j : Int)) = (i : Int) + (j : Int) := by rw [IntKind.wrap_u64]; omega
      have eh2 : IntKind.i64.wrap (h : Int) = (h : Int) := by rw [IntKind.wrap_i64]; omega
      have hhb : (h : Int) < (d.size : Int) := by omega
      have hab : (a : Int) < (d.size : Int) := by omega
      obtain ⟨y, hy⟩ : ∃ y, d[h]! = y := ⟨_, rfl⟩
      have lh := fun n os => S1.out.ld R (by omega) P h (by omega) n os
      have la := fun n os => S1.out.ld R (by omega) P a (by omega) n os
      have hcg := fun n os => S1.out.cmp HC.out (by omega) y x n os
      simp only [hy] at lh
      simp only [HXa.out] at la
      have HY := Lib.hid hy
      clear hy
      go_wp2_with fail
      go_quiet_grown (first | (go_at_fn g; refine Calls.grown_of (hcg _ _)))
      clear lh la hcg
      have S2 : Aside (SWK enc k w0 blk off d (grow (wr.drewN nq) osq)) := S1.out.grown nq osq
      clear S1
      generalize grow (wr.drewN nq) osq = wq at S2 ⊢
      by_cases hlv : cf y x < 0
      · go_wp2
        go_roundg (j - (h + 1))
        case measure => omega
        case rel =>
          refine ⟨h + 1, j, by go_num, rfl, by omega, by omega, hjb, Nat.le_refl _, S2, fun t h1 h2 => ?_, HI.out.2⟩
          have e1 := HSo.out t h h1 (by omega) (by omega)
          exact swo_le_lt hO e1 (by rw [HY.out]; exact decide_eq_true hlv)
      · go_wp2
        go_roundg (h - i)
        case measure => omega
        case rel =>
          refine ⟨i, h, rfl, rfl, hmi, by omega, by omega, Nat.le_refl _, S2, HI.out.1, fun t h1 h2 => ?_⟩
          have e1 := HSo.out h t (by omega) h1 h2
          exact hO.ntrans _ _ _ e1 (by rw [HY.out]; exact decide_eq_false (by omega))
    · have hltz : ¬ (i : Int) < (j : Int) := by omega
      have HM := Lib.hid (HLeft.out i hmi (by omega) HI.out.1 (fun t h1 h2 => HI.out.2 t (by omega) (by have := HB.out; omega)))
      have hi1 : i ≤ b := by omega
      have S2 : Aside (SWK enc k w0 blk off d wr) := S1
      clear HI S1 HLeft HSo HXa hij hjb hkx
      go_wp2
      clear hlt hltz
      go_loopg [13] (i - m) (fun kx s13 wr => ∃ (c : Nat) (dk : Array α), s13 = .int .i64 c ∧ a ≤ c ∧ c + 1 ≤ i ∧ i - 1 - c ≤ kx ∧ dk.size = d.size ∧ Aside (SWK enc k w0 blk off dk wr) ∧ Aside (dk.toList = p ++ (B.take (c - a) ++ x :: (B.drop (c - a) ++ r))))
      case atStart => exact ⟨a, d, rfl, Nat.le_refl _, by omega, by omega, rfl, S2, by show _ = _; rw [Nat.sub_self]; simpa using HD.out⟩
      case round =>
        clear S2
        obtain ⟨c, dk, rfl, hac, hci, hkx, hds, S1, HI⟩ := hrel
        by_cases hlt : c + 1 < i
        · have hltz : (c : Int) < (i : Int) - 1 := by omega
          have hcl : (c : Int) < (d.size : Int) := by omega
          have hcl1 : (c : Int) + 1 < (d.size : Int) := by omega
          have p0 : (0 : Int) ≤ (c : Int) + 1 := by omega
          have e0 : ((c : Int) + 1).toNat = c + 1 := by omega
          have wc : IntKind.i64.wrap ((c : Int) + 1) = (c : Int) + 1 := by rw [IntKind.wrap_i64]; omega
          go_wp2_with fail
          have S2 : Aside (SWK enc k w0 blk off (swp dk c (c + 1)) ((wr.drew.setCells blk (off + c * k) (enc dk[c + 1]!)).setCells blk (off + (c + 1) * k) (enc dk[c]!))) := S1.out.swapped R c (c + 1) (by omega) (by omega)
          have la := S1.out.ld1 R (by omega) P c (by omega)
          have lb := S1.out.ld1 R (by omega) P (c + 1) (by omega)
          have sa := S1.out.st1 R (by omega) P c (by omega) dk[c + 1]!
          have sb := S1.out.st2 R (by omega) P c (c + 1) (by omega) (by omega) dk[c + 1]! dk[c]!
          have na : (enc dk[c]!).length = k := R.hk _
          have nb : (enc dk[c + 1]!).length = k := R.hk _
          generalize enc dk[c]! = cI at S2 la sb na
          generalize enc dk[c + 1]! = cJ at S2 lb sa sb nb
          clear S1
          go_wp2_with fail
          go_big_region_o
          clear la lb sa sb
          generalize (wr.drew.setCells blk (off + c * k) cJ).setCells blk (off + (c + 1) * k) cI = w2 at S2 ⊢
          go_wp2
          go_roundg (i - 1 - (c + 1))
          case measure => omega
          case rel =>
            have hcB : c - a < B.length := by have := HB.out; omega
            obtain ⟨T, z, D, e1, e2, e3, e4, hl⟩ := cut_at B (c - a) hcB
            have hdk := HI.out
            rw [e1, e2] at hdk
            have hsw := swp_list (d := dk) (p := p ++ T) (q := []) (r := D ++ r) (x := x) (y := z) (by rw [hdk]; simp) c (c + 1) (by rw [List.length_append, HP.out, hl]; omega) (by rw [List.length_append, HP.out, hl]; simp; omega)
            refine ⟨c + 1, swp dk c (c + 1), by go_num, by omega, by omega, Nat.le_refl _, by rw [size_swp]; exact hds, S2, ?_⟩
            show _ = _
            rw [hsw, show c + 1 - a = c - a + 1 by omega, e3, e4]; simp
        · have hltz : ¬ (c : Int) < (i : Int) - 1 := by omega
          go_wp2
          (try simp only [Exit.inBlock, Exit.then]); refine bodyPost_ret (results_none rfl _ _ _) rfl ?_
          refine ⟨rfl, dk, ?_, S1.out⟩
          rw [HI.out, HM.out, show c - a = i - m by omega]; simp

set_option maxHeartbeats 4000000 in
set_option maxRecDepth 1000000 in
/-- One behind a sorted part. -/
theorem sym_right {k : Nat} (L : StP P k) (enc : α → List Value) (cf : α → α → Int) (hO : SWO (ltOf cf)) (g : Nat) (cb : Array Value) (blk off cap a m b : Nat) (d0 d : Array α) (w0 w : World)
    (eg : ∀ args w, (callFunc g args).run P w = .ok (.enter g args) w) (hcmp : CmpLays P g cb enc k cf blk off d0.size w0) (R : RowK enc k w0 blk off d0) (hs : d0.size = d.size) (S : SWK enc k w0 blk off d w) (hsz : d.size < 4611686018427387904)
    (p B r : List α) (x : α) (hd : d.toList = p ++ (B ++ x :: r)) (hp : p.length = a) (hB : a + B.length = m) (hA : b = m + 1) (hne : ¬ m = a + 1) (hsB : Srtd (ltOf cf) B) :
    Calls P 115 #[.slice (some ⟨blk, off, none⟩) d.size cap, .int .i64 a, .int .i64 m, .int .i64 b, .func (.func g) #[] cb] w fun e w' =>
      e = .returned (.tuple #[]) ∧ ∃ d' : Array α, d'.toList = p ++ (mrg (ltOf cf) B [x] ++ r) ∧ SWK enc k w0 blk off d' w' := by
  have mixed := L.mixed; have t0 := L.t0; have a0 := L.a0; have z0 := L.z0; have v0 := L.v0; have t3 := L.t3; have a3 := L.a3; have z3 := L.z3; have v3 := L.v3; have t4 := L.t4; have a4 := L.a4; have z4 := L.z4; have v4 := L.v4
  have t5 := L.t5; have a5 := L.a5; have z5 := L.z5; have v5 := L.v5; have t6 := L.t6; have a6 := L.a6; have z6 := L.z6; have v6 := L.v6; have t7 := L.t7; have a7 := L.a7; have z7 := L.z7; have v7 := L.v7; have aE := L.aE; have zE := L.zE
  have FG := L.sym
  have S0 : Aside (SWK enc k w0 blk off d w) := S
  have hbs : b ≤ d.size := by rw [len_of hd]; simp only [List.length_append, List.length_cons, hp]; omega
  have hma : m + 1 ≤ b ∧ b ≤ m + 1 := by omega
  have ham : a ≤ m := by omega
  have hxa : d[m]! = x := (arr_get hd m x (get_at (a := p ++ B) (b := r) (by simp) m (by rw [List.length_append]; omega))).2
  have hso : ∀ s t, a ≤ s → s ≤ t → t < m → ltOf cf d[t]! d[s]! = false := fun s t h1 h2 h3 => srtd_get hO hsB (seg_get' hd hp (t := s) h1 (by omega)) (seg_get' hd hp (t := t) (by omega) (by omega)) (by omega)
  have HSo := Lib.hid hso
  have HRight := Lib.hid (fun i (h0 : a ≤ i) (h1 : i ≤ m) => right_one (lt := ltOf cf) (x := x) hd hp h0 (by omega) (i := i))
  have HXa := Lib.hid hxa
  have HD := Lib.hid hd
  have HP := Lib.hid hp
  have HB := Lib.hid hB
  have HC := Lib.hid hcmp
  have hnez : ¬ ((m : Int) - (a : Int) = 1) := by omega
  have hbe : ((m : Int) - (a : Int) == 1) = false := by simpa using hnez
  have hmaz : (b : Int) - (m : Int) = 1 := by omega
  clear S hd hp hB L hcmp hxa hso hsB hA hne
  go_enter FG, Tryz.ntmps115
  go_wp2
  go_loopg [14, 15] (m - a) (fun kx s10 s11 wr => ∃ (i j : Nat), s10 = .int .i64 i ∧ s11 = .int .i64 j ∧ a ≤ i ∧ i ≤ j ∧ j ≤ m ∧ j - i ≤ kx ∧ Aside (SWK enc k w0 blk off d wr) ∧ Aside ((∀ t, a ≤ t → t < i → ltOf cf x d[t]! = false) ∧ (∀ t, j ≤ t → t < m → ltOf cf x d[t]! = true)))
  case atStart => exact ⟨a, m, rfl, rfl, Nat.le_refl _, ham, Nat.le_refl _, Nat.le_refl _, S0, fun t h1 h2 => by omega, fun t h1 h2 => by omega⟩
  case round =>
    clear S0
    obtain ⟨i, j, rfl, rfl, hmi, hij, hjb, hkx, S1, HI⟩ := hrel
    by_cases hlt : i < j
    · have hltz : (i : Int) < (j : Int) := by omega
      obtain ⟨h, hh1, hh2⟩ : ∃ h, 2 * h ≤ i + j ∧ i + j ≤ 2 * h + 1 := ⟨(i + j) / 2, by omega, by omega⟩
      have eh : ((i : Int) + (j : Int)) / 2 = (h : Int) := by omega
      have eh1 : IntKind.u64.wrap ((i : Int) + (j : Int)) = (i : Int) + (j : Int) := by rw [IntKind.wrap_u64]; omega
      have eh2 : IntKind.i64.wrap (h : Int) = (h : Int) := by rw [IntKind.wrap_i64]; omega
      have hhb : (h : Int) < (d.size : Int) := by omega
      have hab : (m : Int) < (d.size : Int) := by omega
      obtain ⟨y, hy⟩ : ∃ y, d[h]! = y := ⟨_, rfl⟩
      have lh := fun n os => S1.out.ld R (by omega) P h (by omega) n os
      have la := fun n os => S1.out.ld R (by omega) P m (by omega) n os
      have hcg := fun n os => S1.out.cmp HC.out (by omega) x y n os
      simp only [hy] at lh
      simp only [HXa.out] at la
      have HY := Lib.hid hy
      clear hy
      by_cases hlv : cf x y < 0
      · have hlb : decide (cf x y < 0) = true := decide_eq_true hlv
        have hlc : decide (0 ≤ cf x y) = false := decide_eq_false (by omega)
        go_wp2_with fail
        go_quiet_grown (first | (go_at_fn g; refine Calls.grown_of (hcg _ _)))
        clear lh la hcg
        have S2 : Aside (SWK enc k w0 blk off d (grow (wr.drewN nq) osq)) := S1.out.grown nq osq
        clear S1
        generalize grow (wr.drewN nq) osq = wq at S2 ⊢
        go_wp2
        go_roundg (h - i)
        case measure => omega
        case rel =>
          refine ⟨i, h, rfl, rfl, hmi, by omega, by omega, Nat.le_refl _, S2, HI.out.1, fun t h1 h2 => ?_⟩
          have e1 := HSo.out h t (by omega) h1 h2
          exact swo_lt_le hO (by rw [HY.out]; exact decide_eq_true hlv) e1
      · have hlb : decide (cf x y < 0) = false := decide_eq_false hlv
        have hlc : decide (0 ≤ cf x y) = true := decide_eq_true (by omega)
        go_wp2_with fail
        go_quiet_grown (first | (go_at_fn g; refine Calls.grown_of (hcg _ _)))
        clear lh la hcg
        have S2 : Aside (SWK enc k w0 blk off d (grow (wr.drewN nq) osq)) := S1.out.grown nq osq
        clear S1
        generalize grow (wr.drewN nq) osq = wq at S2 ⊢
        go_wp2
        go_roundg (j - (h + 1))
        case measure => omega
        case rel =>
          refine ⟨h + 1, j, by go_num, rfl, by omega, by omega, hjb, Nat.le_refl _, S2, fun t h1 h2 => ?_, HI.out.2⟩
          have e1 := HSo.out t h h1 (by omega) (by omega)
          exact hO.ntrans _ _ _ (by rw [HY.out]; exact decide_eq_false (by omega)) e1
    · have hltz : ¬ (i : Int) < (j : Int) := by omega
      have HM := Lib.hid (HRight.out i hmi (by omega) HI.out.1 (fun t h1 h2 => HI.out.2 t (by omega) (by have := HB.out; omega)))
      have hi1 : i ≤ m := by omega
      have S2 : Aside (SWK enc k w0 blk off d wr) := S1
      clear HI S1 HRight HSo HXa hij hjb hkx
      go_wp2
      clear hlt hltz
      go_loopg [17] (m - i) (fun kx s13 wr => ∃ (c : Nat) (dk : Array α), s13 = .int .i64 c ∧ i ≤ c ∧ c ≤ m ∧ c - i ≤ kx ∧ dk.size = d.size ∧ Aside (SWK enc k w0 blk off dk wr) ∧ Aside (dk.toList = p ++ (B.take (c - a) ++ x :: (B.drop (c - a) ++ r))))
      case atStart => exact ⟨m, d, rfl, hi1, Nat.le_refl _, Nat.le_refl _, rfl, S2, by show _ = _; have := HB.out; rw [List.take_of_length_le (by omega), List.drop_eq_nil_of_le (by omega)]; simpa using HD.out⟩
      case round =>
        clear S2
        obtain ⟨c', dk, rfl, hac, hci, hkx, hds, S1, HI⟩ := hrel
        by_cases hlt : i < c'
        · obtain ⟨c, rfl⟩ : ∃ c, c' = c + 1 := ⟨c' - 1, by omega⟩
          have hltz : (i : Int) < (c : Int) + 1 := by omega
          have hcl : (c : Int) < (d.size : Int) := by omega
          have hcl1 : (c : Int) + 1 < (d.size : Int) := by omega
          have p0 : (0 : Int) ≤ (c : Int) + 1 := by omega
          have e0 : ((c : Int) + 1).toNat = c + 1 := by omega
          have wc : IntKind.i64.wrap (c : Int) = (c : Int) := by rw [IntKind.wrap_i64]; omega
          go_wp2_with fail
          have S2 : Aside (SWK enc k w0 blk off (swp dk (c + 1) c) ((wr.drew.setCells blk (off + (c + 1) * k) (enc dk[c]!)).setCells blk (off + c * k) (enc dk[c + 1]!))) := S1.out.swapped R (c + 1) c (by omega) (by omega)
          have la := S1.out.ld1 R (by omega) P (c + 1) (by omega)
          have lb := S1.out.ld1 R (by omega) P c (by omega)
          have sa := S1.out.st1 R (by omega) P (c + 1) (by omega) dk[c]!
          have sb := S1.out.st2 R (by omega) P (c + 1) c (by omega) (by omega) dk[c]! dk[c + 1]!
          have na : (enc dk[c + 1]!).length = k := R.hk _
          have nb : (enc dk[c]!).length = k := R.hk _
          generalize enc dk[c + 1]! = cI at S2 la sb na
          generalize enc dk[c]! = cJ at S2 lb sa sb nb
          clear S1
          go_wp2_with fail
          go_big_region_o
          clear la lb sa sb
          generalize (wr.drew.setCells blk (off + (c + 1) * k) cJ).setCells blk (off + c * k) cI = w2 at S2 ⊢
          go_wp2
          go_roundg (c - i)
          case measure => omega
          case rel =>
            have hcB : c - a < B.length := by have := HB.out; omega
            obtain ⟨T, z, D, e1, e2, e3, e4, hl⟩ := cut_at B (c - a) hcB
            have hdk := HI.out
            rw [show c + 1 - a = c - a + 1 by omega, e3, e4] at hdk
            have hsw := swp_list' (d := dk) (p := p ++ T) (q := []) (r := D ++ r) (x := z) (y := x) (by rw [hdk]; simp) c (c + 1) (by rw [List.length_append, HP.out, hl]; omega) (by rw [List.length_append, HP.out, hl]; simp; omega)
            refine ⟨c, swp dk (c + 1) c, by first | rfl | go_num | (congr 1; omega), by omega, by omega, Nat.le_refl _, by rw [size_swp]; exact hds, S2, ?_⟩
            show _ = _
            rw [hsw, e1, e2]; simp
        · have hltz : ¬ (i : Int) < (c' : Int) := by omega
          go_wp2
          (try simp only [Exit.inBlock, Exit.then]); refine bodyPost_ret (results_none rfl _ _ _) rfl ?_
          refine ⟨rfl, dk, ?_, S1.out⟩
          rw [HI.out, HM.out, show c' - a = i - a by omega]; simp

end Go.Proofs.YtfpofegfbinalaaGreat.Fx.Se
