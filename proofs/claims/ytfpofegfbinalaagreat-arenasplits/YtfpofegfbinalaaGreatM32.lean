/- slices.symMergeCmpFunc at elements of k cells: two sorted parts, one behind the other, are merged; what is alike stays in order. -/
import Derived.Test.YtfpofegfbinalaaGreatM31
import Derived.Deep.DeepCutAuto
namespace Go.Proofs.YtfpofegfbinalaaGreat.Fx
open Go.Shelf Go.RowKit Go.Lib Go.Sort
set_option linter.unusedVariables false
set_option maxRecDepth 100000
variable {P : Program} {α : Type}

theorem mem_take_get {l : List α} {n : Nat} {y : α} (h : y ∈ l.take n) : ∃ t, t < n ∧ l[t]? = some y := by
  obtain ⟨t, ht⟩ := List.getElem?_of_mem h
  rw [List.getElem?_take] at ht
  split at ht
  · exact ⟨t, by assumption, ht⟩
  · cases ht

theorem mem_drop_get {l : List α} {n : Nat} {y : α} (h : y ∈ l.drop n) : ∃ t, n ≤ t ∧ l[t]? = some y := by
  obtain ⟨t, ht⟩ := List.getElem?_of_mem h
  rw [List.getElem?_drop] at ht
  exact ⟨n + t, by omega, ht⟩

theorem cut_at (B : List α) (n : Nat) (h : n < B.length) : ∃ T z D, B.take n = T ∧ B.drop n = z :: D ∧ B.take (n + 1) = T ++ [z] ∧ B.drop (n + 1) = D ∧ T.length = n :=
  ⟨B.take n, B[n], B.drop (n + 1), rfl, List.drop_eq_getElem_cons h, by simp, rfl, by rw [List.length_take]; omega⟩

theorem get_lt {l : List α} {t : Nat} {y : α} (h : l[t]? = some y) : t < l.length := (List.getElem?_eq_some_iff.1 h).1

theorem srtd_get {lt : α → α → Bool} (hO : SWO lt) {l : List α} (h : Srtd lt l) {s t : Nat} {x y : α} (hx : l[s]? = some x) (hy : l[t]? = some y) (hst : s ≤ t) : lt y x = false := by
  rcases Nat.lt_or_eq_of_le hst with h1 | h1
  · have := List.pairwise_iff_getElem.1 h s t (get_lt hx) (get_lt hy) h1
    rw [List.getElem?_eq_getElem (get_lt hx)] at hx
    rw [List.getElem?_eq_getElem (get_lt hy)] at hy
    simp only [Option.some.injEq] at hx hy
    rw [← hx, ← hy]
    exact this
  · subst h1
    rw [hx] at hy; cases hy
    exact hO.irrefl _

variable [Inhabited α]

/-- A part of an array that is a list. -/
theorem seg_get {d : Array α} {p B r : List α} (h : d.toList = p ++ (B ++ r)) {m t : Nat} {y : α} (hp : p.length = m) (hy : B[t]? = some y) : m + t < d.size ∧ d[m + t]! = y := by
  refine arr_get h (m + t) y ?_
  rw [List.getElem?_append_right (by omega), hp, Nat.add_sub_cancel_left, List.getElem?_append_left (get_lt hy)]
  exact hy

theorem seg_get' {d : Array α} {p B r : List α} (h : d.toList = p ++ (B ++ r)) {m t : Nat} (hp : p.length = m) (h1 : m ≤ t) (h2 : t < m + B.length) : B[t - m]? = some d[t]! := by
  obtain ⟨y, hy⟩ : ∃ y, B[t - m]? = some y := ⟨_, List.getElem?_eq_getElem (by omega)⟩
  have := (seg_get h hp hy).2
  rw [show m + (t - m) = t by omega] at this
  rw [hy, this]

/-- One ahead of a sorted part: where it goes. -/
theorem left_one {lt : α → α → Bool} {d : Array α} {p B r : List α} {x : α} (hd : d.toList = p ++ (B ++ r)) {m i : Nat} (hp : p.length = m) (hi : m ≤ i) (hib : i ≤ m + B.length)
    (h1 : ∀ t, m ≤ t → t < i → lt d[t]! x = true) (h2 : ∀ t, i ≤ t → t < m + B.length → lt d[t]! x = false) : mrg lt [x] B = B.take (i - m) ++ x :: B.drop (i - m) := by
  have := mrg_in' lt (a := B.take (i - m)) (b := B.drop (i - m)) x (fun y hy => ?_) (fun y hy => ?_)
  · rw [List.take_append_drop] at this; exact this
  · obtain ⟨t, ht, hg⟩ := mem_take_get hy
    have := seg_get hd hp hg
    rw [← this.2]; exact h1 _ (by omega) (by omega)
  · obtain ⟨t, ht, hg⟩ := mem_drop_get hy
    have := seg_get hd hp hg
    have := get_lt hg
    rw [← (seg_get hd hp hg).2]; exact h2 _ (by omega) (by omega)

theorem right_one {lt : α → α → Bool} {d : Array α} {p B r : List α} {x : α} (hd : d.toList = p ++ (B ++ r)) {m i : Nat} (hp : p.length = m) (hi : m ≤ i) (hib : i ≤ m + B.length)
    (h1 : ∀ t, m ≤ t → t < i → lt x d[t]! = false) (h2 : ∀ t, i ≤ t → t < m + B.length → lt x d[t]! = true) : mrg lt B [x] = B.take (i - m) ++ x :: B.drop (i - m) := by
  have := mrg_in lt (a := B.take (i - m)) (b := B.drop (i - m)) x (fun y hy => ?_) (fun y hy => ?_)
  · rw [List.take_append_drop] at this; exact this
  · obtain ⟨t, ht, hg⟩ := mem_take_get hy
    rw [← (seg_get hd hp hg).2]; exact h1 _ (by omega) (by omega)
  · obtain ⟨t, ht, hg⟩ := mem_drop_get hy
    have := get_lt hg
    rw [← (seg_get hd hp hg).2]; exact h2 _ (by omega) (by omega)

/-- Where two sorted parts are parted. -/
theorem sym_split {lt : α → α → Bool} (hO : SWO lt) {d : Array α} {p A B r : List α} (hd : d.toList = p ++ (A ++ (B ++ r))) {a m b mid s s0 r0 : Nat} (hp : p.length = a) (hA : a + A.length = m) (hB : m + B.length = b) (hsA : Srtd lt A) (hsB : Srtd lt B) (hA0 : a < m) (hB0 : m < b)
    (hmid : 2 * mid ≤ a + b) (hmid' : a + b ≤ 2 * mid + 1) (h0 : (mid < m ∧ s0 = mid + m - b ∧ r0 = mid) ∨ (m ≤ mid ∧ s0 = a ∧ r0 = m)) (hs0 : s0 ≤ s) (hs1 : s ≤ r0)
    (h1 : ∀ t, s0 ≤ t → t < s → lt d[mid + m - 1 - t]! d[t]! = false) (h2 : ∀ t, s ≤ t → t < r0 → lt d[mid + m - 1 - t]! d[t]! = true) :
    a ≤ s ∧ s ≤ m ∧ m ≤ mid + m - s ∧ mid + m - s ≤ b ∧ mrg lt A B = mrg lt (A.take (s - a)) (B.take (mid + m - s - m)) ++ mrg lt (A.drop (s - a)) (B.drop (mid + m - s - m)) := by
  have b1 : a ≤ s ∧ s ≤ m ∧ m ≤ mid + m - s ∧ mid + m - s ≤ b := by omega
  refine ⟨b1.1, b1.2.1, b1.2.2.1, b1.2.2.2, ?_⟩
  have hdB : d.toList = (p ++ A) ++ (B ++ r) := by rw [hd]; simp
  have hpB : (p ++ A).length = m := by rw [List.length_append]; omega
  have e := mrg_split lt (a1 := A.take (s - a)) (a2 := A.drop (s - a)) (b1 := B.take (mid + m - s - m)) (b2 := B.drop (mid + m - s - m)) (fun y hy x hx => ?_) (fun x hx y hy => ?_)
  · rw [List.take_append_drop, List.take_append_drop] at e; exact e
  · obtain ⟨u, hu, hgu⟩ := mem_take_get hy
    obtain ⟨v, hv, hgv⟩ := mem_drop_get hx
    have lu := get_lt hgu
    have lv := get_lt hgv
    have h3 := h2 s (Nat.le_refl _) (by omega)
    have gs := seg_get' hd hp (t := s) b1.1 (by omega)
    have ge := seg_get' hdB hpB (t := mid + m - 1 - s) (by omega) (by omega)
    have k1 := srtd_get hO hsB hgu ge (by omega)
    have k2 := srtd_get hO hsA gs hgv (by omega)
    exact swo_lt_le hO (swo_le_lt hO k1 h3) k2
  · obtain ⟨u, hu, hgu⟩ := mem_drop_get hy
    obtain ⟨v, hv, hgv⟩ := mem_take_get hx
    have lu := get_lt hgu
    have lv := get_lt hgv
    have h3 := h1 (s - 1) (by omega) (by omega)
    have gs := seg_get' hd hp (t := s - 1) (by omega) (by omega)
    have ge := seg_get' hdB hpB (t := mid + m - 1 - (s - 1)) (by omega) (by omega)
    have k1 := srtd_get hO hsB ge hgu (by omega)
    have k2 := srtd_get hO hsA hgv gs (by omega)
    exact hO.ntrans _ _ _ (hO.ntrans _ _ _ k1 h3) k2

set_option maxHeartbeats 4000000 in
set_option maxRecDepth 1000000 in
/-- One ahead of a sorted part. -/
theorem sym_left {k : Nat} (L : StP P k) (enc : α → List Value) (cf : α → α → Int) (hO : SWO (ltOf cf)) (g : Nat) (cb : Array Value) (blk off cap a m b : Nat) (d0 d : Array α) (w0 w : World)
    (eg : ∀ args w, (callFunc g args).run P w = .ok (.enter g args) w) (hcmp : CmpLays P g cb enc k cf blk off d0.size w0) (R : RowK enc k w0 blk off d0) (hs : d0.size = d.size) (S : SWK enc k w0 blk off d w) (hsz : d.size < 4611686018427387904)
    (p B r : List α) (x : α) (hd : d.toList = p ++ x :: (B ++ r)) (hp : p.length = a) (hA : m = a + 1) (hB : m + B.length = b) (hsB : Srtd (ltOf cf) B) :
    Calls P 193 #[.slice (some ⟨blk, off, none⟩) d.size cap, .int .i64 a, .int .i64 m, .int .i64 b, .func (.func g) #[] cb] w fun e w' =>
      e = .returned (.tuple #[]) ∧ ∃ d' : Array α, d'.toList = p ++ (mrg (ltOf cf) [x] B ++ r) ∧ SWK enc k w0 blk off d' w' := by
  have mixed := L.mixed; have t0 := L.t0; have a0 := L.a0; have z0 := L.z0; have v0 := L.v0; have t3 := L.t3; have a3 := L.a3; have z3 := L.z3; have v3 := L.v3; have t4 := L.t4; have a4 := L.a4; have z4 := L.z4; have v4 := L.v4
  have t5 := L.t5; have a5 := L.a5; have z5 := L.z5; have v5 := L.v5; have t6 := L.t6; have a6 := L.a6; have z6 := L.z6; have v6 := L.v6; have t7 := L.t7; have a7 := L.a7; have z7 := L.z7; have v7 := L.v7; have aE := L.aE; have zE := L.zE
  have FG := L.sym
  have S0 : Aside (SWK enc k w0 blk off d w) := S
  have hbs : b ≤ d.size := by rw [len_of hd]; simp only [List.length_append, List.length_cons, hp]; omega
  have hm1 : m - a = 1 := by omega
  have hma : a + 1 ≤ m ∧ m ≤ a + 1 := by omega
  have hmb : m ≤ b := by omega
  have hxa : d[a]! = x := (arr_get hd a x (get_at rfl a hp.symm)).2
  have hdB : d.toList = (p ++ [x]) ++ (B ++ r) := by rw [hd]; simp
  have hpB : (p ++ [x]).length = m := by simp; omega
  have hso : ∀ s t, m ≤ s → s ≤ t → t < b → ltOf cf d[t]! d[s]! = false := fun s t h1 h2 h3 => srtd_get hO hsB (seg_get' hdB hpB (t := s) h1 (by omega)) (seg_get' hdB hpB (t := t) (by omega) (by omega)) (by omega)
  have HSo := Lib.hid hso
  have HLeft := Lib.hid (fun i (h0 : m ≤ i) (h1 : i ≤ b) => left_one (lt := ltOf cf) (x := x) hdB hpB h0 (by omega) (i := i))
  have HXa := Lib.hid hxa
  have HD := Lib.hid hd
  have HP := Lib.hid hp
  have HB := Lib.hid hB
  have HC := Lib.hid hcmp
  clear S hd hp hB L hcmp hxa hdB hpB hso hsB hm1 hA
  have hmaz : (m : Int) - (a : Int) = 1 := by omega
  go_enter FG, Tryz.ntmps193
  go_wp2
  go_loopg [10, 11] (b - m) (fun kx s10 s11 wr => ∃ (i j : Nat), s10 = .int .i64 i ∧ s11 = .int .i64 j ∧ m ≤ i ∧ i ≤ j ∧ j ≤ b ∧ j - i ≤ kx ∧ Aside (SWK enc k w0 blk off d wr) ∧ Aside ((∀ t, m ≤ t → t < i → ltOf cf d[t]! x = true) ∧ (∀ t, j ≤ t → t < b → ltOf cf d[t]! x = false)))
  case atStart => exact ⟨m, b, rfl, rfl, Nat.le_refl _, hmb, Nat.le_refl _, Nat.le_refl _, S0, fun t h1 h2 => by omega, fun t h1 h2 => by omega⟩
  case round =>
    clear S0
    obtain ⟨i, j, rfl, rfl, hmi, hij, hjb, hkx, S1, HI⟩ := hrel
    by_cases hlt : i < j
    · have hltz : (i : Int) < (j : Int) := by omega
      obtain ⟨h, hh1, hh2⟩ : ∃ h, 2 * h ≤ i + j ∧ i + j ≤ 2 * h + 1 := ⟨(i + j) / 2, by omega, by omega⟩
      have eh : ((i : Int) + (j : Int)) / 2 = (h : Int) := by omega
      have eh1 : IntKind.u64.wrap ((i : Int) + (j : Int)) = (i : Int) + (j : Int) := by rw [IntKind.wrap_u64]; omega
      have eh2 : IntKind.i64.wrap (h : Int) = (h : Int) := by rw [IntKind.wrap_i64]; omega
      have hhb : (h : Int) < (d.size : Int) := by omega
      have hab : (a : Int) < (d.size : Int) := by omega
      obtain ⟨y, hy⟩ : ∃ y, d[h]! = y := ⟨_, rfl⟩
      have lh := fun n os => S1.out.ld R (by omega) P h (by omega) n os
      have la := fun n os => S1.out.ld R (by omega) P a (by omega) n os
      have hcg := fun n os => S1.out.cmp HC.out (by omega) y x n os
      simp only [hy] at lh
      simp only [HXa.out] at la
      have HY := Lib.hid hy
      clear hy
      go_wp2_with fail
      go_quiet_grown (first | (go_at_fn g; refine Calls.grown_of (hcg _ _)))
      clear lh la hcg
      have S2 : Aside (SWK enc k w0 blk off d (grow (wr.drewN nq) osq)) := S1.out.grown nq osq
      clear S1
      generalize grow (wr.drewN nq) osq = wq at S2 ⊢
      by_cases hlv : cf y x < 0
      · go_wp2
        go_roundg (j - (h + 1))
        case measure => omega
        case rel =>
          refine ⟨h + 1, j, by go_num, rfl, by omega, by omega, hjb, Nat.le_refl _, S2, fun t h1 h2 => ?_, HI.out.2⟩
          have e1 := HSo.out t h h1 (by omega) (by omega)
          exact swo_le_lt hO e1 (by rw [HY.out]; exact decide_eq_true hlv)
      · go_wp2
        go_roundg (h - i)
        case measure => omega
        case rel =>
          refine ⟨i, h, rfl, rfl, hmi, by omega, by omega, Nat.le_refl _, S2, HI.out.1, fun t h1 h2 => ?_⟩
          have e1 := HSo.out h t (by omega) h1 h2
          exact hO.ntrans _ _ _ e1 (by rw [HY.out]; exact decide_eq_false (by omega))
    · have hltz : ¬ (i : Int) < (j : Int) := by omega
      have HM := Lib.hid (HLeft.out i hmi (by omega) HI.out.1 (fun t h1 h2 => HI.out.2 t (by omega) (by have := HB.out; omega)))
      have hi1 : i ≤ b := by omega
      have S2 : Aside (SWK enc k w0 blk off d wr) := S1
      clear HI S1 HLeft HSo HXa hij hjb hkx
      go_wp2
      clear hlt hltz
      go_loopg [13] (i - m) (fun kx s13 wr => ∃ (c : Nat) (dk : Array α), s13 = .int .i64 c ∧ a ≤ c ∧ c + 1 ≤ i ∧ i - 1 - c ≤ kx ∧ dk.size = d.size ∧ Aside (SWK enc k w0 blk off dk wr) ∧ Aside (dk.toList = p ++ (B.take (c - a) ++ x :: (B.drop (c - a) ++ r))))
      case atStart => exact ⟨a, d, rfl, Nat.le_refl _, by omega, by omega, rfl, S2, by show _ = _; rw [Nat.sub_self]; simpa using HD.out⟩
      case round =>
        clear S2
        obtain ⟨c, dk, rfl, hac, hci, hkx, hds, S1, HI⟩ := hrel
        by_cases hlt : c + 1 < i
        · have hltz : (c : Int) < (i : Int) - 1 := by omega
          have hcl : (c : Int) < (d.size : Int) := by omega
          have hcl1 : (c : Int) + 1 < (d.size : Int) := by omega
          have p0 : (0 : Int) ≤ (c : Int) + 1 := by omega
          have e0 : ((c : Int) + 1).toNat = c + 1 := by omega
          have wc : IntKind.i64.wrap ((c : Int) + 1) = (c : Int) + 1 := by rw [IntKind.wrap_i64]; omega
          go_wp2_with fail
          have S2 : Aside (SWK enc k w0 blk off (swp dk c (c + 1)) ((wr.drew.setCells blk (off + c * k) (enc dk[c + 1]!)).setCells blk (off + (c + 1) * k) (enc dk[c]!))) := S1.out.swapped R c (c + 1) (by omega) (by omega)
          have la := S1.out.ld1 R (by omega) P c (by omega)
          have lb := S1.out.ld1 R (by omega) P (c + 1) (by omega)
          have sa := S1.out.st1 R (by omega) P c (by omega) dk[c + 1]!
          have sb := S1.out.st2 R (by omega) P c (c + 1) (by omega) (by omega) dk[c + 1]! dk[c]!
          have na : (enc dk[c]!).length = k := R.hk _
          have nb : (enc dk[c + 1]!).length = k := R.hk _
          generalize enc dk[c]! = cI at S2 la sb na
          generalize enc dk[c + 1]! = cJ at S2 lb sa sb nb
          clear S1
          go_wp2_with fail
          go_big_region_o
          clear la lb sa sb
          generalize (wr.drew.setCells blk (off + c * k) cJ).setCells blk (off + (c + 1) * k) cI = w2 at S2 ⊢
          go_wp2
          go_roundg (i - 1 - (c + 1))
          case measure => omega
          case rel =>
            have hcB : c - a < B.length := by have := HB.out; omega
            obtain ⟨T, z, D, e1, e2, e3, e4, hl⟩ := cut_at B (c - a) hcB
            have hdk := HI.out
            rw [e1, e2] at hdk
            have hsw := swp_list (d := dk) (p := p ++ T) (q := []) (r := D ++ r) (x := x) (y := z) (by rw [hdk]; simp) c (c + 1) (by rw [List.length_append, HP.out, hl]; omega) (by rw [List.length_append, HP.out, hl]; simp; omega)
            refine ⟨c + 1, swp dk c (c + 1), by go_num, by omega, by omega, Nat.le_refl _, by rw [size_swp]; exact hds, S2, ?_⟩
            show _ = _
            rw [hsw, show c + 1 - a = c - a + 1 by omega, e3, e4]; simp
        · have hltz : ¬ (c : Int) < (i : Int) - 1 := by omega
          go_wp2
          (try simp only [Exit.inBlock, Exit.then]); refine bodyPost_ret (results_none rfl _ _ _) rfl ?_
          refine ⟨rfl, dk, ?_, S1.out⟩
          rw [HI.out, HM.out, show c - a = i - m by omega]; simp

set_option maxHeartbeats 4000000 in
set_option maxRecDepth 1000000 in
/-- One behind a sorted part. -/
theorem sym_right {k : Nat} (L : StP P k) (enc : α → List Value) (cf : α → α → Int) (hO : SWO (ltOf cf)) (g : Nat) (cb : Array Value) (blk off cap a m b : Nat) (d0 d : Array α) (w0 w : World)
    (eg : ∀ args w, (callFunc g args).run P w = .ok (.enter g args) w) (hcmp : CmpLays P g cb enc k cf blk off d0.size w0) (R : RowK enc k w0 blk off d0) (hs : d0.size = d.size) (S : SWK enc k w0 blk off d w) (hsz : d.size < 4611686018427387904)
    (p B r : List α) (x : α) (hd : d.toList = p ++ (B ++ x :: r)) (hp : p.length = a) (hB : a + B.length = m) (hA : b = m + 1) (hne : ¬ m = a + 1) (hsB : Srtd (ltOf cf) B) :
    Calls P 193 #[.slice (some ⟨blk, off, none⟩) d.size cap, .int .i64 a, .int .i64 m, .int .i64 b, .func (.func g) #[] cb] w fun e w' =>
      e = .returned (.tuple #[]) ∧ ∃ d' : Array α, d'.toList = p ++ (mrg (ltOf cf) B [x] ++ r) ∧ SWK enc k w0 blk off d' w' := by
  have mixed := L.mixed; have t0 := L.t0; have a0 := L.a0; have z0 := L.z0; have v0 := L.v0; have t3 := L.t3; have a3 := L.a3; have z3 := L.z3; have v3 := L.v3; have t4 := L.t4; have a4 := L.a4; have z4 := L.z4; have v4 := L.v4
  have t5 := L.t5; have a5 := L.a5; have z5 := L.z5; have v5 := L.v5; have t6 := L.t6; have a6 := L.a6; have z6 := L.z6; have v6 := L.v6; have t7 := L.t7; have a7 := L.a7; have z7 := L.z7; have v7 := L.v7; have aE := L.aE; have zE := L.zE
  have FG := L.sym
  have S0 : Aside (SWK enc k w0 blk off d w) := S
  have hbs : b ≤ d.size := by rw [len_of hd]; simp only [List.length_append, List.length_cons, hp]; omega
  have hma : m + 1 ≤ b ∧ b ≤ m + 1 := by omega
  have ham : a ≤ m := by omega
  have hxa : d[m]! = x := (arr_get hd m x (get_at (a := p ++ B) (b := r) (by simp) m (by rw [List.length_append]; omega))).2
  have hso : ∀ s t, a ≤ s → s ≤ t → t < m → ltOf cf d[t]! d[s]! = false := fun s t h1 h2 h3 => srtd_get hO hsB (seg_get' hd hp (t := s) h1 (by omega)) (seg_get' hd hp (t := t) (by omega) (by omega)) (by omega)
  have HSo := Lib.hid hso
  have HRight := Lib.hid (fun i (h0 : a ≤ i) (h1 : i ≤ m) => right_one (lt := ltOf cf) (x := x) hd hp h0 (by omega) (i := i))
  have HXa := Lib.hid hxa
  have HD := Lib.hid hd
  have HP := Lib.hid hp
  have HB := Lib.hid hB
  have HC := Lib.hid hcmp
  have hnez : ¬ ((m : Int) - (a : Int) = 1) := by omega
  have hbe : ((m : Int) - (a : Int) == 1) = false := by simpa using hnez
  have hmaz : (b : Int) - (m : Int) = 1 := by omega
  clear S hd hp hB L hcmp hxa hso hsB hA hne
  go_enter FG, Tryz.ntmps193
  go_wp2
  go_loopg [14, 15] (m - a) (fun kx s10 s11 wr => ∃ (i j : Nat), s10 = .int .i64 i ∧ s11 = .int .i64 j ∧ a ≤ i ∧ i ≤ j ∧ j ≤ m ∧ j - i ≤ kx ∧ Aside (SWK enc k w0 blk off d wr) ∧ Aside ((∀ t, a ≤ t → t < i → ltOf cf x d[t]! = false) ∧ (∀ t, j ≤ t → t < m → ltOf cf x d[t]! = true)))
  case atStart => exact ⟨a, m, rfl, rfl, Nat.le_refl _, ham, Nat.le_refl _, Nat.le_refl _, S0, fun t h1 h2 => by omega, fun t h1 h2 => by omega⟩
  case round =>
    clear S0
    obtain ⟨i, j, rfl, rfl, hmi, hij, hjb, hkx, S1, HI⟩ := hrel
    by_cases hlt : i < j
    · have hltz : (i : Int) < (j : Int) := by omega
      obtain ⟨h, hh1, hh2⟩ : ∃ h, 2 * h ≤ i + j ∧ i + j ≤ 2 * h + 1 := ⟨(i + j) / 2, by omega, by omega⟩
      have eh : ((i : Int) + (j : Int)) / 2 = (h : Int) := by omega
      have eh1 : IntKind.u64.wrap ((i : Int) + (j : Int)) = (i : Int) + (j : Int) := by rw [IntKind.wrap_u64]; omega
      have eh2 : IntKind.i64.wrap (h : Int) = (h : Int) := by rw [IntKind.wrap_i64]; omega
      have hhb : (h : Int) < (d.size : Int) := by omega
      have hab : (m : Int) < (d.size : Int) := by omega
      obtain ⟨y, hy⟩ : ∃ y, d[h]! = y := ⟨_, rfl⟩
      have lh := fun n os => S1.out.ld R (by omega) P h (by omega) n os
      have la := fun n os => S1.out.ld R (by omega) P m (by omega) n os
      have hcg := fun n os => S1.out.cmp HC.out (by omega) x y n os
      simp only [hy] at lh
      simp only [HXa.out] at la
      have HY := Lib.hid hy
      clear hy
      by_cases hlv : cf x y < 0
      · have hlb : decide (cf x y < 0) = true := decide_eq_true hlv
        have hlc : decide (0 ≤ cf x y) = false := decide_eq_false (by omega)
        go_wp2_with fail
        go_quiet_grown (first | (go_at_fn g; refine Calls.grown_of (hcg _ _)))
        clear lh la hcg
        have S2 : Aside (SWK enc k w0 blk off d (grow (wr.drewN nq) osq)) := S1.out.grown nq osq
        clear S1
        generalize grow (wr.drewN nq) osq = wq at S2 ⊢
        go_wp2
        go_roundg (h - i)
        case measure => omega
        case rel =>
          refine ⟨i, h, rfl, rfl, hmi, by omega, by omega, Nat.le_refl _, S2, HI.out.1, fun t h1 h2 => ?_⟩
          have e1 := HSo.out h t (by omega) h1 h2
          exact swo_lt_le hO (by rw [HY.out]; exact decide_eq_true hlv) e1
      · have hlb : decide (cf x y < 0) = false := decide_eq_false hlv
        have hlc : decide (0 ≤ cf x y) = true := decide_eq_true (by omega)
        go_wp2_with fail
        go_quiet_grown (first | (go_at_fn g; refine Calls.grown_of (hcg _ _)))
        clear lh la hcg
        have S2 : Aside (SWK enc k w0 blk off d (grow (wr.drewN nq) osq)) := S1.out.grown nq osq
        clear S1
        generalize grow (wr.drewN nq) osq = wq at S2 ⊢
        go_wp2
        go_roundg (j - (h + 1))
        case measure => omega
        case rel =>
          refine ⟨h + 1, j, by go_num, rfl, by omega, by omega, hjb, Nat.le_refl _, S2, fun t h1 h2 => ?_, HI.out.2⟩
          have e1 := HSo.out t h h1 (by omega) (by omega)
          exact hO.ntrans _ _ _ (by rw [HY.out]; exact decide_eq_false (by omega)) e1
    · have hltz : ¬ (i : Int) < (j : Int) := by omega
      have HM := Lib.hid (HRight.out i hmi (by omega) HI.out.1 (fun t h1 h2 => HI.out.2 t (by omega) (by have := HB.out; omega)))
      have hi1 : i ≤ m := by omega
      have S2 : Aside (SWK enc k w0 blk off d wr) := S1
      clear HI S1 HRight HSo HXa hij hjb hkx
      go_wp2
      clear hlt hltz
      go_loopg [17] (m - i) (fun kx s13 wr => ∃ (c : Nat) (dk : Array α), s13 = .int .i64 c ∧ i ≤ c ∧ c ≤ m ∧ c - i ≤ kx ∧ dk.size = d.size ∧ Aside (SWK enc k w0 blk off dk wr) ∧ Aside (dk.toList = p ++ (B.take (c - a) ++ x :: (B.drop (c - a) ++ r))))
      case atStart => exact ⟨m, d, rfl, hi1, Nat.le_refl _, Nat.le_refl _, rfl, S2, by show _ = _; have := HB.out; rw [List.take_of_length_le (by omega), List.drop_eq_nil_of_le (by omega)]; simpa using HD.out⟩
      case round =>
        clear S2
        obtain ⟨c', dk, rfl, hac, hci, hkx, hds, S1, HI⟩ := hrel
        by_cases hlt : i < c'
        · obtain ⟨c, rfl⟩ : ∃ c, c' = c + 1 := ⟨c' - 1, by omega⟩
          have hltz : (i : Int) < (c : Int) + 1 := by omega
          have hcl : (c : Int) < (d.size : Int) := by omega
          have hcl1 : (c : Int) + 1 < (d.size : Int) := by omega
          have p0 : (0 : Int) ≤ (c : Int) + 1 := by omega
          have e0 : ((c : Int) + 1).toNat = c + 1 := by omega
          have wc : IntKind.i64.wrap (c : Int) = (c : Int) := by rw [IntKind.wrap_i64]; omega
          go_wp2_with fail
          have S2 : Aside (SWK enc k w0 blk off (swp dk (c + 1) c) ((wr.drew.setCells blk (off + (c + 1) * k) (enc dk[c]!)).setCells blk (off + c * k) (enc dk[c + 1]!))) := S1.out.swapped R (c + 1) c (by omega) (by omega)
          have la := S1.out.ld1 R (by omega) P (c + 1) (by omega)
          have lb := S1.out.ld1 R (by omega) P c (by omega)
          have sa := S1.out.st1 R (by omega) P (c + 1) (by omega) dk[c]!
          have sb := S1.out.st2 R (by omega) P (c + 1) c (by omega) (by omega) dk[c]! dk[c + 1]!
          have na : (enc dk[c + 1]!).length = k := R.hk _
          have nb : (enc dk[c]!).length = k := R.hk _
          generalize enc dk[c + 1]! = cI at S2 la sb na
          generalize enc dk[c]! = cJ at S2 lb sa sb nb
          clear S1
          go_wp2_with fail
          go_big_region_o
          clear la lb sa sb
          generalize (wr.drew.setCells blk (off + (c + 1) * k) cJ).setCells blk (off + c * k) cI = w2 at S2 ⊢
          go_wp2
          go_roundg (c - i)
          case measure => omega
          case rel =>
            have hcB : c - a < B.length := by have := HB.out; omega
            obtain ⟨T, z, D, e1, e2, e3, e4, hl⟩ := cut_at B (c - a) hcB
            have hdk := HI.out
            rw [show c + 1 - a = c - a + 1 by omega, e3, e4] at hdk
            have hsw := swp_list' (d := dk) (p := p ++ T) (q := []) (r := D ++ r) (x := z) (y := x) (by rw [hdk]; simp) c (c + 1) (by rw [List.length_append, HP.out, hl]; omega) (by rw [List.length_append, HP.out, hl]; simp; omega)
            refine ⟨c, swp dk (c + 1) c, by first | rfl | go_num | (congr 1; omega), by omega, by omega, Nat.le_refl _, by rw [size_swp]; exact hds, S2, ?_⟩
            show _ = _
            rw [hsw, e1, e2]; simp
        · have hltz : ¬ (i : Int) < (c' : Int) := by omega
          go_wp2
          (try simp only [Exit.inBlock, Exit.then]); refine bodyPost_ret (results_none rfl _ _ _) rfl ?_
          refine ⟨rfl, dk, ?_, S1.out⟩
          rw [HI.out, HM.out, show c' - a = i - a by omega]; simp

end Go.Proofs.YtfpofegfbinalaaGreat.Fx
