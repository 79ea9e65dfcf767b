/- slices.symMergeCmpFunc, stableCmpFunc and SortStableFunc at elements of k cells: the row is sorted, and what is alike stays in order. -/
import Derived.Test.YtfpofegfbinalaaGreatM32
namespace Go.Proofs.YtfpofegfbinalaaGreat.Fx
open Go.Shelf Go.RowKit Go.Lib Go.Sort
set_option linter.unusedVariables false
set_option maxRecDepth 100000
variable {P : Program} {α : Type} [Inhabited α]

theorem sym_parts {lt : α → α → Bool} (hO : SWO lt) {d : Array α} {p A B r : List α} (hd : d.toList = p ++ (A ++ (B ++ r))) {a m b mid s s0 r0 en : Nat} (hp : p.length = a) (hA : a + A.length = m) (hB : m + B.length = b) (hsA : Srtd lt A) (hsB : Srtd lt B) (hA0 : a < m) (hB0 : m < b)
    (hmid : 2 * mid ≤ a + b) (hmid' : a + b ≤ 2 * mid + 1) (h0 : (mid < m ∧ s0 = mid + m - b ∧ r0 = mid) ∨ (m ≤ mid ∧ s0 = a ∧ r0 = m)) (hs0 : s0 ≤ s) (hs1 : s ≤ r0) (hen : en + s = mid + m)
    (h1 : ∀ t, s0 ≤ t → t < s → lt d[mid + m - 1 - t]! d[t]! = false) (h2 : ∀ t, s ≤ t → t < r0 → lt d[mid + m - 1 - t]! d[t]! = true) :
    ∃ A1 A2 B1 B2, A = A1 ++ A2 ∧ B = B1 ++ B2 ∧ a + A1.length = s ∧ s + A2.length = m ∧ m + B1.length = en ∧ en + B2.length = b ∧ s + B1.length = mid ∧ mid + A2.length = en ∧ mrg lt A B = mrg lt A1 B1 ++ mrg lt A2 B2 ∧ Srtd lt A1 ∧ Srtd lt A2 ∧ Srtd lt B1 ∧ Srtd lt B2 := by
  obtain ⟨c1, c2, c3, c4, c5⟩ := sym_split hO hd hp hA hB hsA hsB hA0 hB0 hmid hmid' h0 hs0 hs1 h1 h2
  have e1 : A = A.take (s - a) ++ A.drop (s - a) := (List.take_append_drop _ _).symm
  have e2 : B = B.take (mid + m - s - m) ++ B.drop (mid + m - s - m) := (List.take_append_drop _ _).symm
  rw [e1] at hsA
  rw [e2] at hsB
  refine ⟨_, _, _, _, e1, e2, ?_, ?_, ?_, ?_, ?_, ?_, c5, hsA.parts.1, hsA.parts.2, hsB.parts.1, hsB.parts.2⟩
  all_goals (simp only [List.length_take, List.length_drop]; omega)

set_option maxHeartbeats 8000000 in
set_option maxRecDepth 1000000 in
/-- Two sorted parts are merged. -/
theorem sym_any {k : Nat} (L : StP P k) (enc : α → List Value) (cf : α → α → Int) (hO : SWO (ltOf cf)) (g : Nat) (cb : Array Value) (blk off cap : Nat) (d0 : Array α) (w0 : World)
    (eg : ∀ args w, (callFunc g args).run P w = .ok (.enter g args) w) (hcmp : CmpLays P g cb enc k cf blk off d0.size w0) (R : RowK enc k w0 blk off d0) (hsz : d0.size < 4611686018427387904) : ∀ (N a m b : Nat) (d : Array α) (w : World), b - a ≤ N → d0.size = d.size → SWK enc k w0 blk off d w →
    ∀ (p A B r : List α), d.toList = p ++ (A ++ (B ++ r)) → p.length = a → a + A.length = m → m + B.length = b → a < m → m < b → Srtd (ltOf cf) A → Srtd (ltOf cf) B →
    Calls P 193 #[.slice (some ⟨blk, off, none⟩) d.size cap, .int .i64 a, .int .i64 m, .int .i64 b, .func (.func g) #[] cb] w fun e w' =>
      e = .returned (.tuple #[]) ∧ ∃ d' : Array α, d'.toList = p ++ (mrg (ltOf cf) A B ++ r) ∧ SWK enc k w0 blk off d' w' := by
  intro N
  induction N with
  | zero => intro a m b d w h1 h2 S p A B r hd hp hA hB ham hmb; omega
  | succ N ih =>
  intro a m b d w hN hs S p A B r hd hp hA hB ham hmb hsA hsB
  by_cases c1 : m = a + 1
  · obtain ⟨x, rfl⟩ : ∃ x, A = [x] := List.length_eq_one_iff.1 (by omega)
    exact sym_left L enc cf hO g cb blk off cap a m b d0 d w0 w eg hcmp R hs S (by omega) p B r x (by rw [hd]; simp) hp c1 hB hsB
  by_cases c2 : b = m + 1
  · obtain ⟨x, rfl⟩ : ∃ x, B = [x] := List.length_eq_one_iff.1 (by omega)
    exact sym_right L enc cf hO g cb blk off cap a m b d0 d w0 w eg hcmp R hs S (by omega) p A r x (by rw [hd]; simp) hp hA c2 c1 hsA
  have mixed := L.mixed; have t0 := L.t0; have a0 := L.a0; have z0 := L.z0; have v0 := L.v0; have t3 := L.t3; have a3 := L.a3; have z3 := L.z3; have v3 := L.v3; have t4 := L.t4; have a4 := L.a4; have z4 := L.z4; have v4 := L.v4
  have t5 := L.t5; have a5 := L.a5; have z5 := L.z5; have v5 := L.v5; have t6 := L.t6; have a6 := L.a6; have z6 := L.z6; have v6 := L.v6; have t7 := L.t7; have a7 := L.a7; have z7 := L.z7; have v7 := L.v7; have aE := L.aE; have zE := L.zE
  have FG := L.sym
  have eS : ∀ args w, (callFunc 193 args).run P w = .ok (.enter 193 args) w := enters_of L.sym (by kernel_rfl) rfl
  have eR : ∀ args w, (callFunc 202 args).run P w = .ok (.enter 202 args) w := enters_of L.rot (by kernel_rfl) rfl
  have S0 : Aside (SWK enc k w0 blk off d w) := S
  have hbs : b ≤ d.size := by rw [len_of hd]; simp only [List.length_append, hp]; omega
  obtain ⟨mid, hm1, hm2⟩ : ∃ mid, 2 * mid ≤ a + b ∧ a + b ≤ 2 * mid + 1 := ⟨(a + b) / 2, by omega, by omega⟩
  obtain ⟨nn, hnn⟩ : ∃ nn, mid + m = nn := ⟨_, rfl⟩
  obtain ⟨pp, hpp⟩ : ∃ pp, pp + 1 = nn := ⟨nn - 1, by omega⟩
  obtain ⟨s0, r0, hsr⟩ : ∃ s0 r0, (mid < m ∧ s0 + b = mid + m ∧ r0 = mid) ∨ (m ≤ mid ∧ s0 = a ∧ r0 = m) := by
    by_cases h : mid < m
    · exact ⟨mid + m - b, mid, Or.inl ⟨h, by omega, rfl⟩⟩
    · exact ⟨a, m, Or.inr ⟨by omega, rfl, rfl⟩⟩
  have hs0a : a ≤ s0 ∧ s0 ≤ r0 ∧ r0 ≤ m ∧ r0 ≤ mid ∧ m ≤ pp + 1 - r0 ∧ nn ≤ b + s0 := by omega
  have HSplit := Lib.hid (fun s en (h1 : s0 ≤ s) (h2 : s ≤ r0) (h3 : en + s = mid + m) => sym_parts hO hd hp hA hB hsA hsB ham hmb hm1 hm2 (h0 := show (mid < m ∧ s0 = mid + m - b ∧ r0 = mid) ∨ (m ≤ mid ∧ s0 = a ∧ r0 = m) by omega) h1 h2 h3)
  have hlo : ∀ s t, a ≤ s → s ≤ t → t < m → ltOf cf d[t]! d[s]! = false := fun s t h1 h2 h3 => srtd_get hO hsA (seg_get' hd hp (t := s) h1 (by omega)) (seg_get' hd hp (t := t) (by omega) (by omega)) (by omega)
  have hdB : d.toList = (p ++ A) ++ (B ++ r) := by rw [hd]; simp
  have hpB : (p ++ A).length = m := by rw [List.length_append]; omega
  have hhi : ∀ s t, m ≤ s → s ≤ t → t < b → ltOf cf d[t]! d[s]! = false := fun s t h1 h2 h3 => srtd_get hO hsB (seg_get' hdB hpB (t := s) h1 (by omega)) (seg_get' hdB hpB (t := t) (by omega) (by omega)) (by omega)
  have HLo := Lib.hid hlo
  have HHi := Lib.hid hhi
  have HD := Lib.hid hd
  have HP := Lib.hid hp
  have HC := Lib.hid hcmp
  have HL := Lib.hid L
  have HIH := Lib.hid ih
  clear S hd hp L hcmp hlo hhi hdB hpB hsA hsB hA hB ih
  have hc1 : ¬ ((m : Int) - (a : Int) = 1) := by omega
  have hc1b : ((m : Int) - (a : Int) == 1) = false := by simpa using hc1
  have hc2 : ¬ ((b : Int) - (m : Int) = 1) := by omega
  have hc2b : ((b : Int) - (m : Int) == 1) = false := by simpa using hc2
  have em : ((a : Int) + (b : Int)) / 2 = (mid : Int) := by omega
  have em1 : IntKind.u64.wrap ((a : Int) + (b : Int)) = (a : Int) + (b : Int) := by rw [IntKind.wrap_u64]; omega
  have em2 : IntKind.i64.wrap (mid : Int) = (mid : Int) := by rw [IntKind.wrap_i64]; omega
  have en0 : (mid : Int) + (m : Int) = (nn : Int) := by omega
  have ep0 : (nn : Int) - 1 = (pp : Int) := by omega
  go_enter FG, Tryz.ntmps193
  go_upto_if 140 with fail
  go_cut [20, 21] (fun s20 s21 wx => s20 = .int .i64 s0 ∧ s21 = .int .i64 r0 ∧ wx = w)
  case first => as_aux_lemma =>
    rcases hsr with ⟨h1, h2, h3⟩ | ⟨h1, h2, h3⟩
    · subst h3
      have h1z : (r0 : Int) < (m : Int) := by omega
      have h2z : (nn : Int) - (b : Int) = (s0 : Int) := by omega
      go_wp2_with fail
      go_meet
      exact ⟨rfl, rfl, rfl⟩
    · subst h2 h3
      have h1z : ¬ (mid : Int) < (r0 : Int) := by omega
      go_wp2_with fail
      go_meet
      exact ⟨rfl, rfl, rfl⟩
  case rest =>
    obtain ⟨rfl, rfl, rfl⟩ := hcut
    clear hsr
    go_wp2
    go_loopg [20, 21] (r0 - s0) (fun kx s20 s21 wr => ∃ (i j : Nat), s20 = .int .i64 i ∧ s21 = .int .i64 j ∧ s0 ≤ i ∧ i ≤ j ∧ j ≤ r0 ∧ j - i ≤ kx ∧ Aside (SWK enc k w0 blk off d wr) ∧ Aside ((∀ t, s0 ≤ t → t < i → ltOf cf d[pp - t]! d[t]! = false) ∧ (∀ t, j ≤ t → t < r0 → ltOf cf d[pp - t]! d[t]! = true)))
    case atStart => exact ⟨s0, r0, rfl, rfl, Nat.le_refl _, hs0a.2.1, Nat.le_refl _, Nat.le_refl _, S0, fun t h1 h2 => by omega, fun t h1 h2 => by omega⟩
    case round =>
      clear S0
      obtain ⟨i, j, rfl, rfl, hmi, hij, hjb, hkx, S1, HI⟩ := hrel
      by_cases hlt : i < j
      · have hltz : (i : Int) < (j : Int) := by omega
        obtain ⟨c, hh1, hh2⟩ : ∃ c, 2 * c ≤ i + j ∧ i + j ≤ 2 * c + 1 := ⟨(i + j) / 2, by omega, by omega⟩
        obtain ⟨q, hq⟩ : ∃ q, q + c = pp := ⟨pp - c, by omega⟩
        have hqm : m ≤ q ∧ q < b := by omega
        have eh : ((i : Int) + (j : Int)) / 2 = (c : Int) := by omega
        have eh1 : IntKind.u64.wrap ((i : Int) + (j : Int)) = (i : Int) + (j : Int) := by rw [IntKind.wrap_u64]; omega
        have eh2 : IntKind.i64.wrap (c : Int) = (c : Int) := by rw [IntKind.wrap_i64]; omega
        have eq0 : (pp : Int) - (c : Int) = (q : Int) := by omega
        have eq1 : IntKind.i64.wrap (q : Int) = (q : Int) := by rw [IntKind.wrap_i64]; omega
        have hhb : (c : Int) < (d.size : Int) := by omega
        have hqb : (q : Int) < (d.size : Int) := by omega
        obtain ⟨x, hx⟩ : ∃ x, d[q]! = x := ⟨_, rfl⟩
        obtain ⟨y, hy⟩ : ∃ y, d[c]! = y := ⟨_, rfl⟩
        have lh := fun n os => S1.out.ld R (by omega) P c (by omega) n os
        have la := fun n os => S1.out.ld R (by omega) P q (by omega) n os
        have hcg := fun n os => S1.out.cmp HC.out (by omega) x y n os
        simp only [hy] at lh
        simp only [hx] at la
        have HX := Lib.hid hx
        have HY := Lib.hid hy
        clear hx hy
        by_cases hlv : cf x y < 0
        · as_aux_lemma =>
          have hlb : decide (cf x y < 0) = true := decide_eq_true hlv
          have hlc : decide (0 ≤ cf x y) = false := decide_eq_false (by omega)
          go_wp2_with fail
          go_quiet_grown (first | (go_at_fn g; refine Calls.grown_of (hcg _ _)))
          clear lh la hcg
          have S2 : Aside (SWK enc k w0 blk off d (grow (wr.drewN nq) osq)) := S1.out.grown nq osq
          clear S1
          generalize grow (wr.drewN nq) osq = wq at S2 ⊢
          go_wp2
          go_roundg (c - i)
          case measure => omega
          case rel =>
            refine ⟨i, c, rfl, rfl, hmi, by omega, by omega, Nat.le_refl _, S2, HI.out.1, fun t h1 h2 => ?_⟩
            have e1 := HLo.out c t (by omega) h1 (by omega)
            have e2 := HHi.out (pp - t) q (by omega) (by omega) (by omega)
            have e3 : ltOf cf d[q]! d[c]! = true := by rw [HX.out, HY.out]; exact decide_eq_true hlv
            exact swo_lt_le hO (swo_le_lt hO e2 e3) e1
        · as_aux_lemma =>
          have hlb : decide (cf x y < 0) = false := decide_eq_false hlv
          have hlc : decide (0 ≤ cf x y) = true := decide_eq_true (by omega)
          go_wp2_with fail
          go_quiet_grown (first | (go_at_fn g; refine Calls.grown_of (hcg _ _)))
          clear lh la hcg
          have S2 : Aside (SWK enc k w0 blk off d (grow (wr.drewN nq) osq)) := S1.out.grown nq osq
          clear S1
          generalize grow (wr.drewN nq) osq = wq at S2 ⊢
          go_wp2
          go_roundg (j - (c + 1))
          case measure => omega
          case rel =>
            refine ⟨c + 1, j, by go_num, rfl, by omega, by omega, hjb, Nat.le_refl _, S2, fun t h1 h2 => ?_, HI.out.2⟩
            have e1 := HLo.out t c (by omega) (by omega) (by omega)
            have e2 := HHi.out q (pp - t) (by omega) (by omega) (by omega)
            have e3 : ltOf cf d[q]! d[c]! = false := by rw [HX.out, HY.out]; exact decide_eq_false (by omega)
            exact hO.ntrans _ _ _ (hO.ntrans _ _ _ e2 e3) e1
      · as_aux_lemma =>
        have hltz : ¬ (i : Int) < (j : Int) := by omega
        obtain ⟨en, hen⟩ : ∃ en, en + i = nn := ⟨nn - i, by omega⟩
        have hpe : mid + m - 1 = pp := by omega
        obtain ⟨A1, A2, B1, B2, rfl, rfl, l1, l2, l3, l4, l5, l6, hmrg, q1, q2, q3, q4⟩ := HSplit.out i en hmi (by omega) (by omega) (by rw [hpe]; exact HI.out.1) (by rw [hpe]; exact fun t h1 h2 => HI.out.2 t (by omega) h2)
        have een : (nn : Int) - (i : Int) = (en : Int) := by omega
        have een2 : IntKind.i64.wrap (en : Int) = (en : Int) := by rw [IntKind.wrap_i64]; omega
        have hb1 : a ≤ i ∧ i ≤ m ∧ m ≤ en ∧ en ≤ b ∧ i ≤ mid ∧ mid ≤ en := by omega
        have HM := Lib.hid hmrg
        have HLen := Lib.hid (And.intro l1 (And.intro l2 (And.intro l3 (And.intro l4 (And.intro l5 l6)))))
        have HQ := Lib.hid (And.intro q1 (And.intro q2 (And.intro q3 q4)))
        clear HI HSplit HLo HHi l1 l2 l3 l4 l5 l6 hmrg q1 q2 q3 q4 hpe
        go_upto_region 39 with fail
        go_cut [185] (fun sx wx => sx = .bool (decide (i < m ∧ m < en)) ∧ wx = wr)
        case first => as_aux_lemma =>
          by_cases u1 : i < m
          · have u1z : (i : Int) < (m : Int) := by omega
            by_cases u2 : m < en
            · have u2z : (m : Int) < (en : Int) := by omega
              have ub : decide (i < m ∧ m < en) = true := by simp [u1, u2]
              go_wp2_with fail
              go_meet
              exact ⟨by rw [ub], rfl⟩
            · have u2z : ¬ (m : Int) < (en : Int) := by omega
              have ub : decide (i < m ∧ m < en) = false := by simp [u2]
              go_wp2_with fail
              go_meet
              exact ⟨by rw [ub], rfl⟩
          · have u1z : ¬ (i : Int) < (m : Int) := by omega
            have ub : decide (i < m ∧ m < en) = false := by simp [u1]
            go_wp2_with fail
            go_meet
            exact ⟨by rw [ub], rfl⟩
        case rest =>
          obtain ⟨rfl, rfl⟩ := hcut
          go_upto_if 185 with fail
          go_cut [] (fun wx => ∃ d1 : Array α, Aside (d1.size = d.size ∧ d1.toList = p ++ (A1 ++ (B1 ++ (A2 ++ (B2 ++ r)))) ∧ SWK enc k w0 blk off d1 wx))
          case first => as_aux_lemma =>
            by_cases u : i < m ∧ m < en
            · have ub : decide (i < m ∧ m < en) = true := decide_eq_true u
              have hc := rotate_any HL.out enc g cb blk off cap i m en d0 d w0 _ R hs S1.out (by omega) (p ++ A1) A2 B1 (B2 ++ r) (by rw [HD.out]; simp) (by rw [List.length_append, HP.out]; exact HLen.out.1) HLen.out.2.1 HLen.out.2.2.1 (by have := HLen.out; omega) (by have := HLen.out; omega)
              simp only [ub]
              clear u
              go_wp2_with (go_at_fn 202; refine hc.mono ?_; rintro e w1 ⟨rfl, d1, hd1, hw1⟩)
              have hx : d1.toList = p ++ (A1 ++ (B1 ++ (A2 ++ (B2 ++ r)))) := by rw [hd1]; simp
              have hy : d1.size = d.size := by rw [len_of hx, len_of HD.out]; simp only [List.length_append]; omega
              have HX := Lib.hid hx
              have HY := Lib.hid hy
              have HW := Lib.hid hw1
              clear hx hy hd1 hw1
              go_meet
              exact ⟨d1, HY.out, HX.out, HW.out⟩
            · have ub : decide (i < m ∧ m < en) = false := decide_eq_false u
              have HN := Lib.hid (show A2 = [] ∨ B1 = [] from by
                by_cases u1 : i < m
                · exact Or.inr (List.eq_nil_of_length_eq_zero (by have := HLen.out; omega))
                · exact Or.inl (List.eq_nil_of_length_eq_zero (by have := HLen.out; omega)))
              simp only [ub]
              clear u
              go_wp2_with fail
              go_meet
              refine ⟨d, rfl, ?_, S1.out⟩
              rw [HD.out]
              rcases HN.out with h | h <;> rw [h] <;> simp
          case rest =>
            clear S1
            obtain ⟨d1, HE⟩ := hcut
            go_upto_region 41 with fail
            go_cut [199] (fun sx wx => sx = .bool (decide (a < i ∧ i < mid)) ∧ wx = wc)
            case first => as_aux_lemma =>
              by_cases u1 : a < i
              · have u1z : (a : Int) < (i : Int) := by omega
                by_cases u2 : i < mid
                · have u2z : (i : Int) < (mid : Int) := by omega
                  have ub : decide (a < i ∧ i < mid) = true := by simp [u1, u2]
                  go_wp2_with fail
                  go_meet
                  exact ⟨by rw [ub], rfl⟩
                · have u2z : ¬ (i : Int) < (mid : Int) := by omega
                  have ub : decide (a < i ∧ i < mid) = false := by simp [u2]
                  go_wp2_with fail
                  go_meet
                  exact ⟨by rw [ub], rfl⟩
              · have u1z : ¬ (a : Int) < (i : Int) := by omega
                have ub : decide (a < i ∧ i < mid) = false := by simp [u1]
                go_wp2_with fail
                go_meet
                exact ⟨by rw [ub], rfl⟩
            case rest =>
              obtain ⟨rfl, rfl⟩ := hcut
              go_upto_if 199 with fail
              go_cut [] (fun wx => ∃ d2 : Array α, Aside (d2.size = d.size ∧ d2.toList = p ++ (mrg (ltOf cf) A1 B1 ++ (A2 ++ (B2 ++ r))) ∧ SWK enc k w0 blk off d2 wx))
              case first => as_aux_lemma =>
                by_cases u : a < i ∧ i < mid
                · have ub : decide (a < i ∧ i < mid) = true := decide_eq_true u
                  have hc := HIH.out a i mid d1 _ (by omega) (by have := HE.out.1; omega) HE.out.2.2 p A1 B1 (A2 ++ (B2 ++ r)) HE.out.2.1 HP.out HLen.out.1 HLen.out.2.2.2.2.1 u.1 u.2 HQ.out.1 HQ.out.2.2.1
                  rw [HE.out.1] at hc
                  simp only [ub]
                  clear u
                  go_wp2_with (go_at_fn 193; refine hc.mono ?_; rintro e w1 ⟨rfl, d2, hd2, hw1⟩)
                  have hy : d2.size = d.size := by rw [len_of hd2, len_of HD.out]; simp only [List.length_append, mrg_length]; omega
                  have HX := Lib.hid hd2
                  have HY := Lib.hid hy
                  have HW := Lib.hid hw1
                  clear hy hd2 hw1
                  go_meet
                  exact ⟨d2, HY.out, HX.out, HW.out⟩
                · have ub : decide (a < i ∧ i < mid) = false := decide_eq_false u
                  have HN := Lib.hid (show A1 = [] ∨ B1 = [] from by
                    by_cases u1 : a < i
                    · exact Or.inr (List.eq_nil_of_length_eq_zero (by have := HLen.out; omega))
                    · exact Or.inl (List.eq_nil_of_length_eq_zero (by have := HLen.out; omega)))
                  simp only [ub]
                  clear u
                  go_wp2_with fail
                  go_meet
                  refine ⟨d1, HE.out.1, ?_, HE.out.2.2⟩
                  rw [HE.out.2.1]
                  rcases HN.out with h | h <;> rw [h] <;> simp [mrg_nil, mrg_nil']
              case rest =>
                clear HE
                obtain ⟨d2, HE⟩ := hcut
                by_cases u1 : mid < en
                · have u1z : (mid : Int) < (en : Int) := by omega
                  by_cases u2 : en < b
                  · have u2z : (en : Int) < (b : Int) := by omega
                    have hc := HIH.out mid en b d2 _ (by omega) (by have := HE.out.1; omega) HE.out.2.2 (p ++ mrg (ltOf cf) A1 B1) A2 B2 r (by rw [HE.out.2.1]; simp) (by rw [List.length_append, mrg_length, HP.out]; have := HLen.out; omega) HLen.out.2.2.2.2.2 HLen.out.2.2.2.1 u1 u2 HQ.out.2.1 HQ.out.2.2.2
                    rw [HE.out.1] at hc
                    go_wp2_with (go_at_fn 193; refine hc.mono ?_; rintro e w1 ⟨rfl, d3, hd3, hw1⟩)
                    go_end0
                    exact ⟨rfl, d3, by rw [hd3, HM.out]; simp, hw1⟩
                  · have u2z : ¬ (en : Int) < (b : Int) := by omega
                    have HN := Lib.hid (show B2 = [] from List.eq_nil_of_length_eq_zero (by have := HLen.out; omega))
                    go_wp2
                    go_end0
                    exact ⟨rfl, d2, by rw [HE.out.2.1, HM.out, HN.out, mrg_nil]; simp, HE.out.2.2⟩
                · have u1z : ¬ (mid : Int) < (en : Int) := by omega
                  have HN := Lib.hid (show A2 = [] from List.eq_nil_of_length_eq_zero (by have := HLen.out; omega))
                  go_wp2
                  go_end0
                  exact ⟨rfl, d2, by rw [HE.out.2.1, HM.out, HN.out, mrg_nil']; simp, HE.out.2.2⟩

end Go.Proofs.YtfpofegfbinalaaGreat.Fx
