/- slices.symMergeCmpFunc, stableCmpFunc and SortStableFunc at elements of k cells: the row is sorted, and what is alike stays in order. slices.stableCmpFunc and SortStableFunc at elements of k cells: the row is sorted, and what is alike stays in order. Package arena's order of entities, and its sort of a row of its own: what is alike stays in its order. -/
import Derived.Test.YtfpofegfbinalaaGreatM50
import Derived.Test.YtfpofegfbinalaaGreatM02
import Derived.Test.YtfpofegfbinalaaGreatM35
namespace Go.Proofs.YtfpofegfbinalaaGreat.Fx.Se
open Go.Shelf Go.RowKit Go.Lib Go.Sort
set_option linter.unusedVariables false
set_option maxRecDepth 100000
variable {P : Program} {α : Type} [Inhabited α]

theorem sym_parts {lt : α → α → Bool} (hO : SWO lt) {d : Array α} {p A B r : List α} (hd : d.toList = p ++ (A ++ (B ++ r))) {a m b mid s s0 r0 en : Nat} (hp : p.length = a) (hA : a + A.length = m) (hB : m + B.length = b) (hsA : Srtd lt A) (hsB : Srtd lt B) (hA0 : a < m) (hB0 : m < b)
    (hmid : 2 * mid ≤ a + b) (hmid' : a + b ≤ 2 * mid + 1) (h0 : (mid < m ∧ s0 = mid + m - b ∧ r0 = mid) ∨ (m ≤ mid ∧ s0 = a ∧ r0 = m)) (hs0 : s0 ≤ s) (hs1 : s ≤ r0) (hen : en + s = mid + m)
    (h1 : ∀ t, s0 ≤ t → t < s → lt d[mid + m - 1 - t]! d[t]! = false) (h2 : ∀ t, s ≤ t → t < r0 → lt d[mid + m - 1 - t]! d[t]! = true) :
    ∃ A1 A2 B1 B2, A = A1 ++ A2 ∧ B = B1 ++ B2 ∧ a + A1.length = s ∧ s + A2.length = m ∧ m + B1.length = en ∧ en + B2.length = b ∧ s + B1.length = mid ∧ mid + A2.length = en ∧ mrg lt A B = mrg lt A1 B1 ++ mrg lt A2 B2 ∧ Srtd lt A1 ∧ Srtd lt A2 ∧ Srtd lt B1 ∧ Srtd lt B2 := by
  obtain ⟨c1, c2, c3, c4, c5⟩ := sym_split hO hd hp hA hB hsA hsB hA0 hB0 hmid hmid' h0 hs0 hs1 h1 h2
  have e1 : A = A.take (s - a) ++ A.drop (s - a) := (List.take_append_drop _ _).symm
  have e2 : B = B.take (mid + m - s - m) ++ B.drop (mid + m - s - m) := (List.take_append_drop _ _).symm
  rw [e1] at hsA
  rw [e2] at hsB
  refine ⟨_, _, _, _, e1, e2, ?_, ?_, ?_, ?_, ?_, ?_, c5, hsA.parts.1, hsA.parts.2, hsB.parts.1, hsB.parts.2⟩
  all_goals (simp only [List.length_take, List.length_drop]; omega)

set_option maxHeartbeats 8000000 in
set_option maxRecDepth 1000000 in
/-- Two sorted parts are merged. -/
theorem sym_any {k : Nat} (L : StP P k) (enc : α → List Value) (cf : α → α → Int) (hO : SWO (ltOf cf)) (g : Nat) (cb : Array Value) (blk off cap : Nat) (d0 : Array α) (w0 : World)
    (eg : ∀ args w, (callFunc g args).run P w = .ok (.enter g args) w) (hcmp : CmpLays P g cb enc k cf blk off d0.size w0) (R : RowK enc k w0 blk off d0) (hsz : d0.size < 4611686018427387904) : ∀ (N a m b : Nat) (d : Array α) (w : World), b - a ≤ N → d0.size = d.size → SWK enc k w0 blk off d w →
    ∀ (p A B r : List α), d.toList = p ++ (A ++ (B ++ r)) → p.length = a → a + A.length = m → m + B.length = b → a < m → m < b → Srtd (ltOf cf) A → Srtd (ltOf cf) B →
    Calls P 115 #[.slice (some ⟨blk, off, none⟩) d.size cap, .int .i64 a, .int .i64 m, .int .i64 b, .func (.func g) #[] cb] w fun e w' =>
      e = .returned (.tuple #[]) ∧ ∃ d' : Array α, d'.toList = p ++ (mrg (ltOf cf) A B ++ r) ∧ SWK enc k w0 blk off d' w' := by
  intro N
  induction N with
  | zero => intro a m b d w h1 h2 S p A B r hd hp hA hB ham hmb; omega
  | succ N ih =>
  intro a m b d w hN hs S p A B r hd hp hA hB ham hmb hsA hsB
  by_cases c1 : m = a + 1
  · obtain ⟨x, rfl⟩ : ∃ x, A = [x] := List.length_eq_one_iff.1 (by omega)
    exact sym_left L enc cf hO g cb blk off cap a m b d0 d w0 w eg hcmp R hs S (by omega) p B r x (by rw [hd]; simp) hp c1 hB hsB
  by_cases c2 : b = m + 1
  · obtain ⟨x, rfl⟩ : ∃ x, B = [x] := List.length_eq_one_iff.1 (by omega)
    exact sym_right L enc cf hO g cb blk off cap a m b d0 d w0 w eg hcmp R hs S (by omega) p A r x (by rw [hd]; simp) hp hA c2 c1 hsA
  have mixed := L.mixed; have t0 := L.t0; have a0 := L.a0; have z0 := L.z0; have v0 := L.v0; have t3 := L.t3; have a3 := L.a3; have z3 := L.z3; have v3 := L.v3; have t4 := L.t4; have a4 := L.a4; have z4 := L.z4; have v4 := L.v4
  have t5 := L.t5; have a5 := L.a5; have z5 := L.z5; have v5 := L.v5; have t6 := L.t6; have a6 := L.a6; have z6 := L.z6; have v6 := L.v6; have t7 := L.t7; have a7 := L.a7; have z7 := L.z7; have v7 := L.v7; have aE := L.aE; have zE := L.zE
  have FG := L.sym
  have eS : ∀ args w, (callFunc 115 args).run P w = .ok (.enter 115 args) w := enters_of L.sym (by kernel_rfl) rfl
  have eR : ∀ args w, (callFunc 164 args).run P w = .ok (.enter 164 args) w := enters_of L.rot (by kernel_rfl) rfl
  have S0 : Aside (SWK enc k w0 blk off d w) := S
  have hbs : b ≤ d.size := by rw [len_of hd]; simp only [List.length_append, hp]; omega
  obtain ⟨mid, hm1, hm2⟩ : ∃ mid, 2 * mid ≤ a + b ∧ a + b ≤ 2 * mid + 1 := ⟨(a + b) / 2, by omega, by omega⟩
  obtain ⟨nn, hnn⟩ : ∃ nn, mid + m = nn := ⟨_, rfl⟩
  obtain ⟨pp, hpp⟩ : ∃ pp, pp + 1 = nn := ⟨nn - 1, by omega⟩
  obtain ⟨s0, r0, hsr⟩ : ∃ s0 r0, (mid < m ∧ s0 + b = mid + m ∧ r0 = mid) ∨ (m ≤ mid ∧ s0 = a ∧ r0 = m) := by
    by_cases h : mid < m
    · exact ⟨mid + m - b, mid, Or.inl ⟨h, by omega, rfl⟩⟩
    · exact ⟨a, m, Or.inr ⟨by omega, rfl, rfl⟩⟩
  have hs0a : a ≤ s0 ∧ s0 ≤ r0 ∧ r0 ≤ m ∧ r0 ≤ mid ∧ m ≤ pp + 1 - r0 ∧ nn ≤ b + s0 := by omega
  have HSplit := Lib.hid (fun s en (h1 : s0 ≤ s) (h2 : s ≤ r0) (h3 : en + s = mid + m) => sym_parts hO hd hp hA hB hsA hsB ham hmb hm1 hm2 (h0 := show (mid < m ∧ s0 = mid + m - b ∧ r0 = mid) ∨ (m ≤ mid ∧ s0 = a ∧ r0 = m) by omega) h1 h2 h3)
  have hlo : ∀ s t, a ≤ s → s ≤ t → t < m → ltOf cf d[t]! d[s]! = false := fun s t h1 h2 h3 => srtd_get hO hsA (seg_get' hd hp (t := s) h1 (by omega)) (seg_get' hd hp (t := t) (by omega) (by omega)) (by omega)
  have hdB : d.toList = (p ++ A) ++ (B ++ r) := by rw [hd]; simp
  have hpB : (p ++ A).length = m := by rw [List.length_append]; omega
  have hhi : ∀ s t, m ≤ s → s ≤ t → t < b → ltOf cf d[t]! d[s]! = false := fun s t h1 h2 h3 => srtd_get hO hsB (seg_get' hdB hpB (t := s) h1 (by omega)) (seg_get' hdB hpB (t := t) (by omega) (by omega)) (by omega)
  have HLo := Lib.hid hlo
  have HHi := Lib.hid hhi
  have HD := Lib.hid hd
  have HP := Lib.hid hp
  have HC := Lib.hid hcmp
  have HL := Lib.hid L
  have HIH := Lib.hid ih
  clear S hd hp L hcmp hlo hhi hdB hpB hsA hsB hA hB ih
  have hc1 : ¬ ((m : Int) - (a : Int) = 1) := by omega
  have hc1b : ((m : Int) - (a : Int) == 1) = false := by simpa using hc1
  have hc2 : ¬ ((b : Int) - (m : Int) = 1) := by omega
  have hc2b : ((b : Int) - (m : Int) == 1) = false := by simpa using hc2
  have em : ((a : Int) + (b : Int)) / 2 = (mid : Int) := by omega
  have em1 : IntKind.u64.wrap ((a : Int) + (b : Int)) = (a : Int) + (b : Int) := by rw [IntKind.wrap_u64]; omega
  have em2 : IntKind.i64.wrap (mid : Int) = (mid : Int) := by rw [IntKind.wrap_i64]; omega
  have en0 : (mid : Int) + (m : Int) = (nn : Int) := by omega
  have ep0 : (nn : Int) - 1 = (pp : Int) := by omega
  go_enter FG, Tryz.ntmps115
  go_upto_if 140 with fail
  go_cut [20, 21] (fun s20 s21 wx => s20 = .int .i64 s0 ∧ s21 = .int .i64 r0 ∧ wx = w)
  case first => as_aux_lemma =>
    rcases hsr with ⟨h1, h2, h3⟩ | ⟨h1, h2, h3⟩
    · subst h3
      have h1z : (r0 : Int) < (m : Int) := by omega
      have h2z : (nn : Int) - (b : Int) = (s0 : Int) := by omega
      go_wp2_with fail
      go_meet
      exact ⟨rfl, rfl, rfl⟩
    · subst h2 h3
      have h1z : ¬ (mid : Int) < (r0 : Int) := by omega
      go_wp2_with fail
      go_meet
      exact ⟨rfl, rfl, rfl⟩
  case rest =>
    obtain ⟨rfl, rfl, rfl⟩ := hcut
    clear hsr
    go_wp2
    go_loopg [20, 21] (r0 - s0) (fun kx s20 s21 wr => ∃ (i j : Nat), s20 = .int .i64 i ∧ s21 = .int .i64 j ∧ s0 ≤ i ∧ i ≤ j ∧ j ≤ r0 ∧ j - i ≤ kx ∧ Aside (SWK enc k w0 blk off d wr) ∧ Aside ((∀ t, s0 ≤ t → t < i → ltOf cf d[pp - t]! d[t]! = false) ∧ (∀ t, j ≤ t → t < r0 → ltOf cf d[pp - t]! d[t]! = true)))
    case atStart => exact ⟨s0, r0, rfl, rfl, Nat.le_refl _, hs0a.2.1, Nat.le_refl _, Nat.le_refl _, S0, fun t h1 h2 => by omega, fun t h1 h2 => by omega⟩
    case round =>
      clear S0
      obtain ⟨i, j, rfl, rfl, hmi, hij, hjb, hkx, S1, HI⟩ := hrel
      by_cases hlt : i < j
      · have hltz : (i : Int) < (j : Int) := by omega
        obtain ⟨c, hh1, hh2⟩ : ∃ c, 2 * c ≤ i + j ∧ i + j ≤ 2 * c + 1 := ⟨(i + j) / 2, by omega, by omega⟩
        obtain ⟨q, hq⟩ : ∃ q, q + c = pp := ⟨pp - c, by omega⟩
        have hqm : m ≤ q ∧ q < b := by omega
        have eh : ((i : Int) + (j : Int)) / 2 = (c : Int) := by omega
        have eh1 : IntKind.u64.wrap ((i : Int) + (j : Int)) = (i : Int) + (j : Int) := by rw [IntKind.wrap_u64]; omega
        have eh2 : IntKind.i64.wrap (c : Int) = (c : Int) := by rw [IntKind.wrap_i64]; omega
        have eq0 : (pp : Int) - (c : Int) = (q : Int) := by omega
        have eq1 : IntKind.i64.wrap (q : Int) = (q : Int) := by rw [IntKind.wrap_i64]; omega
        have hhb : (c : Int) < (d.size : Int) := by omega
        have hqb : (q : Int) < (d.size : Int) := by omega
        obtain ⟨x, hx⟩ : ∃ x, d[q]! = x := ⟨_, rfl⟩
        obtain ⟨y, hy⟩ : ∃ y, d[c]! = y := ⟨_, rfl⟩
        have lh := fun n os => S1.out.ld R (by omega) P c (by omega) n os
        have la := fun n os => S1.out.ld R (by omega) P q (by omega) n os
        have hcg := fun n os => S1.out.cmp HC.out (by omega) x y n os
        simp only [hy] at lh
        simp only [hx] at la
        have HX := Lib.hid hx
        have HY := Lib.hid hy
        clear hx hy
        by_cases hlv : cf x y < 0
        · as_aux_lemma =>
          have hlb : decide (cf x y < 0) = true := decide_eq_true hlv
          have hlc : decide (0 ≤ cf x y) = false := decide_eq_false (by omega)
          go_wp2_with fail
          go_quiet_grown (first | (go_at_fn g; refine Calls.grown_of (hcg _ _)))
          clear lh la hcg
          have S2 : Aside (SWK enc k w0 blk off d (grow (wr.drewN nq) osq)) := S1.out.grown nq osq
          clear S1
          generalize grow (wr.drewN nq) osq = wq at S2 ⊢
          go_wp2
          go_roundg (c - i)
          case measure => omega
          case rel =>
            refine ⟨i, c, rfl, rfl, hmi, by omega, by omega, Nat.le_refl _, S2, HI.out.1, fun t h1 h2 => ?_⟩
            have e1 := HLo.out c t (by omega) h1 (by omega)
            have e2 := HHi.out (pp - t) q (by omega) (by omega) (by omega)
            have e3 : ltOf cf d[q]! d[c]! = true := by rw [HX.out, HY.out]; exact decide_eq_true hlv
            exact swo_lt_le hO (swo_le_lt hO e2 e3) e1
        · as_aux_lemma =>
          have hlb : decide (cf x y < 0) = false := decide_eq_false hlv
          have hlc : decide (0 ≤ cf x y) = true := decide_eq_true (by omega)
          go_wp2_with fail
          go_quiet_grown (first | (go_at_fn g; refine Calls.grown_of (hcg _ _)))
          clear lh la hcg
          have S2 : Aside (SWK enc k w0 blk off d (grow (wr.drewN nq) osq)) := S1.out.grown nq osq
          clear S1
          generalize grow (wr.drewN nq) osq = wq at S2 ⊢
          go_wp2
          go_roundg (j - (c + 1))
          case measure => omega
          case rel =>
            refine ⟨c + 1, j, by go_num, rfl, by omega, by omega, hjb, Nat.le_refl _, S2, fun t h1 h2 => ?_, HI.out.2⟩
            have e1 := HLo.out t c (by omega) (by omega) (by omega)
            have e2 := HHi.out q (pp - t) (by omega) (by omega) (by omega)
            have e3 : ltOf cf d[q]! d[c]! = false := by rw [HX.out, HY.out]; exact decide_eq_false (by omega)
            exact hO.ntrans _ _ _ (hO.ntrans _ _ _ e2 e3) e1
      · as_aux_lemma =>
        have hltz : ¬ (i : Int) < (j : Int) := by omega
        obtain ⟨en, hen⟩ : ∃ en, en + i = nn := ⟨nn - i, by omega⟩
        have hpe : mid + m - 1 = pp := by omega
        obtain ⟨A1, A2, B1, B2, rfl, rfl, l1, l2, l3, l4, l5, l6, hmrg, q1, q2, q3, q4⟩ := HSplit.out i en hmi (by omega) (by omega) (by rw [hpe]; exact HI.out.1) (by rw [hpe]; exact fun t h1 h2 => HI.out.2 t (by omega) h2)
        have een : (nn : Int) - (i : Int) = (en : Int) := by omega
        have een2 : IntKind.i64.wrap (en : Int) = (en : Int) := by rw [IntKind.wrap_i64]; omega
        have hb1 : a ≤ i ∧ i ≤ m ∧ m ≤ en ∧ en ≤ b ∧ i ≤ mid ∧ mid ≤ en := by omega
        have HM := Lib.hid hmrg
        have HLen := Lib.hid (And.intro l1 (And.intro l2 (And.intro l3 (And.intro l4 (And.intro l5 l6)))))
        have HQ := Lib.hid (And.intro q1 (And.intro q2 (And.intro q3 q4)))
        clear HI HSplit HLo HHi l1 l2 l3 l4 l5 l6 hmrg q1 q2 q3 q4 hpe
        go_upto_region 39 with fail
        go_cut [185] (fun sx wx => sx = .bool (decide (i < m ∧ m < en)) ∧ wx = wr)
        case first => as_aux_lemma =>
          by_cases u1 : i < m
          · have u1z : (i : Int) < (m : Int) := by omega
            by_cases u2 : m < en
            · have u2z : (m : Int) < (en : Int) := by omega
              have ub : decide (i < m ∧ m < en) = true := by simp [u1, u2]
              go_wp2_with fail
              go_meet
              exact ⟨by rw [ub], rfl⟩
            · have u2z : ¬ (m : Int) < (en : Int) := by omega
              have ub : decide (i < m ∧ m < en) = false := by simp [u2]
              go_wp2_with fail
              go_meet
              exact ⟨by rw [ub], rfl⟩
          · have u1z : ¬ (i : Int) < (m : Int) := by omega
            have ub : decide (i < m ∧ m < en) = false := by simp [u1]
            go_wp2_with fail
            go_meet
            exact ⟨by rw [ub], rfl⟩
        case rest =>
          obtain ⟨rfl, rfl⟩ := hcut
          go_upto_if 185 with fail
          go_cut [] (fun wx => ∃ d1 : Array α, Aside (d1.size = d.size ∧ d1.toList = p ++ (A1 ++ (B1 ++ (A2 ++ (B2 ++ r)))) ∧ SWK enc k w0 blk off d1 wx))
          case first => as_aux_lemma =>
            by_cases u : i < m ∧ m < en
            · have ub : decide (i < m ∧ m < en) = true := decide_eq_true u
              have hc := rotate_any HL.out enc g cb blk off cap i m en d0 d w0 _ R hs S1.out (by omega) (p ++ A1) A2 B1 (B2 ++ r) (by rw [HD.out]; simp) (by rw [List.length_append, HP.out]; exact HLen.out.1) HLen.out.2.1 HLen.out.2.2.1 (by have := HLen.out; omega) (by have := HLen.out; omega)
              simp only [ub]
              clear u
              go_wp2_with (go_at_fn 164; refine hc.mono ?_; rintro e w1 ⟨rfl, d1, hd1, hw1⟩)
              have hx : d1.toList = p ++ (A1 ++ (B1 ++ (A2 ++ (B2 ++ r)))) := by rw [hd1]; simp
              have hy : d1.size = d.size := by rw [len_of hx, len_of HD.out]; simp only [List.length_append]; omega
              have HX := Lib.hid hx
              have HY := Lib.hid hy
              have HW := Lib.hid hw1
              clear hx hy hd1 hw1
              go_meet
              exact ⟨d1, HY.out, HX.out, HW.out⟩
            · have ub : decide (i < m ∧ m < en) = false := decide_eq_false u
              have HN := Lib.hid (show A2 = [] ∨ B1 = [] from by
                by_cases u1 : i < m
                · exact Or.inr (List.eq_nil_of_length_eq_zero (by have := HLen.out; omega))
                · exact Or.inl (List.eq_nil_of_length_eq_zero (by have := HLen.out; omega)))
              simp only [ub]
              clear u
              go_wp2_with fail
              go_meet
              refine ⟨d, rfl, ?_, S1.out⟩
              rw [HD.out]
              rcases HN.out with h | h <;> rw [h] <;> simp
          case rest =>
            clear S1
            obtain ⟨d1, HE⟩ := hcut
            go_upto_region 41 with fail
            go_cut [199] (fun sx wx => sx = .bool (decide (a < i ∧ i < mid)) ∧ wx = wc)
            case first => as_aux_lemma =>
              by_cases u1 : a < i
              · have u1z : (a : Int) < (i : Int) := by omega
                by_cases u2 : i < mid
                · have u2z : (i : Int) < (mid : Int) := by omega
                  have ub : decide (a < i ∧ i < mid) = true := by simp [u1, u2]
                  go_wp2_with fail
                  go_meet
                  exact ⟨by rw [ub], rfl⟩
                · have u2z : ¬ (i : Int) < (mid : Int) := by omega
                  have ub : decide (a < i ∧ i < mid) = false := by simp [u2]
                  go_wp2_with fail
                  go_meet
                  exact ⟨by rw [ub], rfl⟩
              · have u1z : ¬ (a : Int) < (i : Int) := by omega
                have ub : decide (a < i ∧ i < mid) = false := by simp [u1]
                go_wp2_with fail
                go_meet
                exact ⟨by rw [ub], rfl⟩
            case rest =>
              obtain ⟨rfl, rfl⟩ := hcut
              go_upto_if 199 with fail
              go_cut [] (fun wx => ∃ d2 : Array α, Aside (d2.size = d.size ∧ d2.toList = p ++ (mrg (ltOf cf) A1 B1 ++ (A2 ++ (B2 ++ r))) ∧ SWK enc k w0 blk off d2 wx))
              case first => as_aux_lemma =>
                by_cases u : a < i ∧ i < mid
                · have ub : decide (a < i ∧ i < mid) = true := decide_eq_true u
                  have hc := HIH.out a i mid d1 _ (by omega) (by have := HE.out.1; omega) HE.out.2.2 p A1 B1 (A2 ++ (B2 ++ r)) HE.out.2.1 HP.out HLen.out.1 HLen.out.2.2.2.2.1 u.1 u.2 HQ.out.1 HQ.out.2.2.1
                  rw [HE.out.1] at hc
                  simp only [ub]
                  clear u
                  go_wp2_with (go_at_fn 115; refine hc.mono ?_; rintro e w1 ⟨rfl, d2, hd2, hw1⟩)
                  have hy : d2.size = d.size := by rw [len_of hd2, len_of HD.out]; simp only [List.length_append, mrg_length]; omega
                  have HX := Lib.hid hd2
                  have HY := Lib.hid hy
                  have HW := Lib.hid hw1
                  clear hy hd2 hw1
                  go_meet
                  exact ⟨d2, HY.out, HX.out, HW.out⟩
                · have ub : decide (a < i ∧ i < mid) = false := decide_eq_false u
                  have HN := Lib.hid (show A1 = [] ∨ B1 = [] from by
                    by_cases u1 : a < i
                    · exact Or.inr (List.eq_nil_of_length_eq_zero (by have := HLen.out; omega))
                    · exact Or.inl (List.eq_nil_of_length_eq_zero (by have := HLen.out; omega)))
                  simp only [ub]
                  clear u
                  go_wp2_with fail
                  go_meet
                  refine ⟨d1, HE.out.1, ?_, HE.out.2.2⟩
                  rw [HE.out.2.1]
                  rcases HN.out with h | h <;> rw [h] <;> simp [mrg_nil, mrg_nil']
              case rest =>
                clear HE
                obtain ⟨d2, HE⟩ := hcut
                by_cases u1 : mid < en
                · have u1z : (mid : Int) < (en : Int) := by omega
                  by_cases u2 : en < b
                  · have u2z : (en : Int) < (b : Int) := by omega
                    have hc := HIH.out mid en b d2 _ (by omega) (by have := HE.out.1; omega) HE.out.2.2 (p ++ mrg (ltOf cf) A1 B1) A2 B2 r (by rw [HE.out.2.1]; simp) (by rw [List.length_append, mrg_length, HP.out]; have := HLen.out; omega) HLen.out.2.2.2.2.2 HLen.out.2.2.2.1 u1 u2 HQ.out.2.1 HQ.out.2.2.2
                    rw [HE.out.1] at hc
                    go_wp2_with (go_at_fn 115; refine hc.mono ?_; rintro e w1 ⟨rfl, d3, hd3, hw1⟩)
                    go_end0
                    exact ⟨rfl, d3, by rw [hd3, HM.out]; simp, hw1⟩
                  · have u2z : ¬ (en : Int) < (b : Int) := by omega
                    have HN := Lib.hid (show B2 = [] from List.eq_nil_of_length_eq_zero (by have := HLen.out; omega))
                    go_wp2
                    go_end0
                    exact ⟨rfl, d2, by rw [HE.out.2.1, HM.out, HN.out, mrg_nil]; simp, HE.out.2.2⟩
                · have u1z : ¬ (mid : Int) < (en : Int) := by omega
                  have HN := Lib.hid (show A2 = [] from List.eq_nil_of_length_eq_zero (by have := HLen.out; omega))
                  go_wp2
                  go_end0
                  exact ⟨rfl, d2, by rw [HE.out.2.1, HM.out, HN.out, mrg_nil']; simp, HE.out.2.2⟩

end Go.Proofs.YtfpofegfbinalaaGreat.Fx.Se
namespace Go.Proofs.YtfpofegfbinalaaGreat.Fx.Se
open Go.Shelf Go.RowKit Go.Lib Go.Sort
set_option linter.unusedVariables false
set_option maxRecDepth 100000
variable {P : Program} {α : Type}

/-- Each part of so many sorted by itself. -/
def bsort (lt : α → α → Bool) (bs : Nat) (l : List α) : List α :=
  if h : bs = 0 ∨ l = [] then l else st lt (l.take bs) ++ bsort lt bs (l.drop bs)
termination_by l.length
decreasing_by
  rw [List.length_drop]
  have := List.length_pos_iff.2 (fun h' => h (Or.inr h'))
  omega

theorem bsort_nil (lt : α → α → Bool) (bs : Nat) : bsort lt bs [] = [] := by rw [bsort, dif_pos (Or.inr rfl)]

theorem bsort_cons (lt : α → α → Bool) (bs : Nat) (hb : 0 < bs) (l : List α) (hl : 0 < l.length) : bsort lt bs l = st lt (l.take bs) ++ bsort lt bs (l.drop bs) := by
  rw [bsort, dif_neg]
  rintro (h | h)
  · omega
  · rw [h] at hl; simp at hl

theorem bsort_small (lt : α → α → Bool) (bs : Nat) (hb : 0 < bs) (l : List α) (hl : l.length ≤ bs) : bsort lt bs l = st lt l := by
  rcases Nat.eq_zero_or_pos l.length with h | h
  · obtain rfl := List.eq_nil_of_length_eq_zero h
    rw [bsort_nil]; rfl
  · rw [bsort_cons lt bs hb l h, List.take_of_length_le hl, List.drop_eq_nil_of_le hl, bsort_nil, List.append_nil]

theorem bsort_len (lt : α → α → Bool) (bs : Nat) : ∀ (n : Nat) (l : List α), l.length ≤ n → (bsort lt bs l).length = l.length
  | 0, l, h => by obtain rfl := List.eq_nil_of_length_eq_zero (Nat.le_zero.1 h); rw [bsort_nil]
  | n + 1, l, h => by
    rcases Nat.eq_zero_or_pos bs with hb | hb
    · rw [bsort, dif_pos (Or.inl hb)]
    · rcases Nat.eq_zero_or_pos l.length with h0 | h0
      · obtain rfl := List.eq_nil_of_length_eq_zero h0
        rw [bsort_nil]
      · rw [bsort_cons lt bs hb l h0, List.length_append, st_length, bsort_len lt bs n (l.drop bs) (by rw [List.length_drop]; omega), List.length_take, List.length_drop]
        omega

theorem bsort_length (lt : α → α → Bool) (bs : Nat) (l : List α) : (bsort lt bs l).length = l.length := bsort_len lt bs _ l (Nat.le_refl _)

variable [Inhabited α]

/-- Two parts of so many that stand ahead. -/
theorem bsort_two (lt : α → α → Bool) (hO : SWO lt) (bs : Nat) (hb : 0 < bs) (l : List α) (hl : 2 * bs ≤ l.length) :
    ∃ T1 T2, T1.length = bs ∧ T2.length = bs ∧ bsort lt bs l = st lt T1 ++ (st lt T2 ++ bsort lt bs (l.drop (2 * bs))) ∧ bsort lt (2 * bs) l = mrg lt (st lt T1) (st lt T2) ++ bsort lt (2 * bs) (l.drop (2 * bs)) := by
  refine ⟨l.take bs, (l.drop bs).take bs, by rw [List.length_take]; omega, by rw [List.length_take, List.length_drop]; omega, ?_, ?_⟩
  · rw [bsort_cons lt bs hb l (by omega), bsort_cons lt bs hb (l.drop bs) (by rw [List.length_drop]; omega), List.drop_drop, show bs + bs = 2 * bs by omega]
  · rw [bsort_cons lt (2 * bs) (by omega) l (by omega), ← st_append lt hO]
    congr 2
    rw [show 2 * bs = bs + bs by omega, List.take_add]

/-- What is left: more than one part. -/
theorem bsort_rest (lt : α → α → Bool) (hO : SWO lt) (bs : Nat) (hb : 0 < bs) (l : List α) (h1 : bs < l.length) (h2 : l.length ≤ 2 * bs) :
    ∃ T1 T2, T1.length = bs ∧ bs + T2.length = l.length ∧ bsort lt bs l = st lt T1 ++ st lt T2 ∧ bsort lt (2 * bs) l = mrg lt (st lt T1) (st lt T2) := by
  refine ⟨l.take bs, l.drop bs, by rw [List.length_take]; omega, by rw [List.length_drop]; omega, ?_, ?_⟩
  · rw [bsort_cons lt bs hb l (by omega), bsort_small lt bs hb (l.drop bs) (by rw [List.length_drop]; omega)]
  · rw [bsort_small lt (2 * bs) (by omega) l h2, ← st_append lt hO, List.take_append_drop]

set_option maxHeartbeats 8000000 in
set_option maxRecDepth 1000000 in
theorem stable_any {k : Nat} (L : StP P k) (enc : α → List Value) (cf : α → α → Int) (hO : SWO (ltOf cf)) (g : Nat) (cb : Array Value) (blk off cap : Nat) (d : Array α) (w : World)
    (eg : ∀ args w, (callFunc g args).run P w = .ok (.enter g args) w) (hcmp : CmpLays P g cb enc k cf blk off d.size w) (R : RowK enc k w blk off d) (hsz : d.size < 1152921504606846976) :
    Calls P 65 #[.slice (some ⟨blk, off, none⟩) d.size cap, .int .i64 d.size, .func (.func g) #[] cb] w fun e w' =>
      e = .returned (.tuple #[]) ∧ ∃ d' : Array α, d'.toList = st (ltOf cf) d.toList ∧ SWK enc k w blk off d' w' := by
  have mixed := L.mixed; have t0 := L.t0; have a0 := L.a0; have z0 := L.z0; have v0 := L.v0; have t3 := L.t3; have a3 := L.a3; have z3 := L.z3; have v3 := L.v3; have t4 := L.t4; have a4 := L.a4; have z4 := L.z4; have v4 := L.v4
  have t6 := L.t6; have a6 := L.a6; have z6 := L.z6; have v6 := L.v6; have t7 := L.t7; have a7 := L.a7; have z7 := L.z7; have v7 := L.v7; have aE := L.aE; have zE := L.zE
  have FG := L.stb
  have eI : ∀ args w, (callFunc 114 args).run P w = .ok (.enter 114 args) w := enters_of L.ins (by kernel_rfl) rfl
  have eS : ∀ args w, (callFunc 115 args).run P w = .ok (.enter 115 args) w := enters_of L.sym (by kernel_rfl) rfl
  have S0 : Aside (SWK enc k w blk off d w) := SWK.start R.hH
  obtain ⟨l, hl⟩ : ∃ l, d.toList = l := ⟨_, rfl⟩
  have HIns := Lib.hid (fun a b (d1 : Array α) (w1 : World) hs S p U r hd hp hU => insertion_any L enc cf hO g cb blk off cap a b d d1 w w1 eg hcmp R hs S (by omega) p U r hd hp hU)
  have HSym := Lib.hid (fun a m b (d1 : Array α) (w1 : World) => sym_any L enc cf hO g cb blk off cap d w eg hcmp R (by omega) (b - a) a m b d1 w1 (Nat.le_refl _))
  obtain ⟨n, hn⟩ : ∃ n, d.size = n := ⟨_, rfl⟩
  have hln : l.length = n := by rw [← hl, ← hn, Array.length_toList]
  rw [hl]
  rw [hn] at hsz HIns HSym ⊢
  have HL := Lib.hid hl
  have HN := Lib.hid hn
  have HLN := Lib.hid hln
  have HO := Lib.hid hO
  clear L hcmp R hl hln hO hn
  go_enter FG, Tryz.ntmps65
  go_wp2
  go_loopg [7, 8] n (fun kx s7 s8 wr => ∃ (a b : Nat) (dk : Array α), s7 = .int .i64 a ∧ s8 = .int .i64 b ∧ b = a + 20 ∧ a ≤ n ∧ n - a ≤ kx ∧ Aside (dk.size = n) ∧ Aside (SWK enc k w blk off dk wr) ∧ ∃ X, Aside (X.length = a ∧ dk.toList = X ++ l.drop a ∧ X ++ bsort (ltOf cf) 20 (l.drop a) = bsort (ltOf cf) 20 l))
  case atStart => exact ⟨0, 20, d, rfl, rfl, rfl, Nat.zero_le _, Nat.le_refl _, HN.out, S0, [], rfl, by simpa using HL.out, by simp⟩
  case round =>
    clear S0
    obtain ⟨a, b, dk, rfl, rfl, hab, han, hkx, HS, S1, X, HI⟩ := hrel
    have hab1 : a + 20 ≤ b ∧ b ≤ a + 20 := by omega
    clear hab
    by_cases hlt : b ≤ n
    · have hltz : (b : Int) ≤ (n : Int) := by omega
      have hdl : (l.drop a).length = n - a := by rw [List.length_drop, HLN.out]
      have hc := HIns.out a b dk wr HS.out.symm S1.out X ((l.drop a).take 20) ((l.drop a).drop 20) (by rw [List.take_append_drop]; exact HI.out.2.1) HI.out.1 (by rw [List.length_take, hdl]; omega)
      rw [HS.out] at hc
      clear hdl
      go_wp2_with (go_at_fn 114; refine hc.mono ?_; rintro e w1 ⟨rfl, d1, hd1, hw1⟩)
      have HD1 := Lib.hid hd1
      have HW1 := Lib.hid hw1
      clear hd1 hw1
      go_wp2
      go_roundg (n - b)
      case measure => omega
      case rel =>
        have hdl : (l.drop a).length = n - a := by rw [List.length_drop, HLN.out]
        have hd20 : (l.drop a).drop 20 = l.drop b := by rw [List.drop_drop]; congr 1; omega
        have hlen : (st (ltOf cf) ((l.drop a).take 20)).length = 20 := by rw [st_length, List.length_take, hdl]; omega
        refine ⟨b, b + 20, d1, rfl, by go_num, rfl, hlt, Nat.le_refl _, ?_, HW1.out, X ++ st (ltOf cf) ((l.drop a).take 20), ?_, ?_, ?_⟩
        · show d1.size = n
          have := HI.out.1
          rw [len_of HD1.out, hd20, List.length_append, List.length_append, hlen, List.length_drop, HLN.out]
          omega
        · rw [List.length_append, hlen, HI.out.1]; omega
        · rw [HD1.out, hd20]; simp
        · rw [← HI.out.2.2, bsort_cons _ 20 (by omega) (l.drop a) (by omega), hd20]; simp
    · have hltz : ¬ (b : Int) ≤ (n : Int) := by omega
      have hdl : (l.drop a).length = n - a := by rw [List.length_drop, HLN.out]
      have hc := HIns.out a n dk wr HS.out.symm S1.out X (l.drop a) [] (by simpa using HI.out.2.1) HI.out.1 (by rw [hdl]; omega)
      rw [HS.out] at hc
      have HB := Lib.hid (show X ++ st (ltOf cf) (l.drop a) = bsort (ltOf cf) 20 l from by rw [← HI.out.2.2, bsort_small _ 20 (by omega) (l.drop a) (by omega)])
      clear hdl S1 HI
      go_wp2_with (go_at_fn 114; refine hc.mono ?_; rintro e w1 ⟨rfl, d1, hd1, hw1⟩)
      have HD1 : Aside (d1.toList = bsort (ltOf cf) 20 l) := by show _ = _; rw [hd1, List.append_nil, HB.out]
      have HW1 : Aside (SWK enc k w blk off d1 w1) := hw1
      clear hd1 hw1 HS HB HIns hkx
      go_wp2
      go_loopg [6] n (fun kx s6 wr => ∃ (bs : Nat) (dk : Array α), s6 = .int .i64 bs ∧ 20 ≤ bs ∧ bs ≤ 2 * n + 20 ∧ n - bs ≤ kx ∧ Aside (SWK enc k w blk off dk wr) ∧ Aside (dk.toList = bsort (ltOf cf) bs l))
      case atStart => exact ⟨20, d1, rfl, Nat.le_refl _, by omega, by omega, HW1, HD1⟩
      case round =>
        clear HD1 HW1
        obtain ⟨bs, dk, rfl, hbs, hbn, hkx, S1, HI⟩ := hrel
        by_cases hlb : bs < n
        · have hlbz : (bs : Int) < (n : Int) := by omega
          go_wp2
          go_loopg [7, 8] n (fun kx s7 s8 wr => ∃ (a b : Nat) (dk : Array α), s7 = .int .i64 a ∧ s8 = .int .i64 b ∧ b = a + 2 * bs ∧ a ≤ n ∧ n - a ≤ kx ∧ Aside (dk.size = n) ∧ Aside (SWK enc k w blk off dk wr) ∧ ∃ X, Aside (X.length = a ∧ dk.toList = X ++ bsort (ltOf cf) bs (l.drop a) ∧ X ++ bsort (ltOf cf) (2 * bs) (l.drop a) = bsort (ltOf cf) (2 * bs) l))
          case atStart => exact ⟨0, 2 * bs, dk, rfl, by go_num, by omega, Nat.zero_le _, Nat.le_refl _, by show _ = _; rw [len_of HI.out, bsort_length]; exact HLN.out, S1, [], rfl, by simpa using HI.out, by simp⟩
          case round =>
            clear S1 HI
            obtain ⟨a, b, dk, rfl, rfl, hab, han, hkx, HS, S1, X, HI⟩ := hrel
            have hab1 : a + 2 * bs ≤ b ∧ b ≤ a + 2 * bs := by omega
            have HAB := Lib.hid hab
            clear hab
            obtain ⟨m, hm1, hm2⟩ : ∃ m, a + bs ≤ m ∧ m ≤ a + bs := ⟨a + bs, by omega, by omega⟩
            have em : (a : Int) + (bs : Int) = (m : Int) := by omega
            have hdl : (l.drop a).length = n - a := by rw [List.length_drop, HLN.out]
            by_cases hlt : b ≤ n
            · have hltz : (b : Int) ≤ (n : Int) := by omega
              obtain ⟨T1, T2, h1, h2, h3, h4⟩ := bsort_two (ltOf cf) HO.out bs (by omega) (l.drop a) (by omega)
              have hdb : (l.drop a).drop (2 * bs) = l.drop b := by rw [List.drop_drop]; congr 1; omega
              rw [hdb] at h3 h4
              have hc := HSym.out a m b dk wr HS.out.symm S1.out X (st (ltOf cf) T1) (st (ltOf cf) T2) (bsort (ltOf cf) bs (l.drop b)) (by rw [HI.out.2.1, h3]) HI.out.1 (by rw [st_length]; omega) (by rw [st_length]; omega) (by omega) (by omega) (st_srtd HO.out T1) (st_srtd HO.out T2)
              rw [HS.out] at hc
              have HT := Lib.hid (And.intro h1 (And.intro h2 h4))
              clear hdl h1 h2 h3 h4 hdb
              go_wp2_with (go_at_fn 115; refine hc.mono ?_; rintro e w1 ⟨rfl, d1, hd1, hw1⟩)
              have HD1 := Lib.hid hd1
              have HW1 := Lib.hid hw1
              clear hd1 hw1
              go_wp2
              go_roundg (n - b)
              case measure => omega
              case rel =>
                have hlen : (mrg (ltOf cf) (st (ltOf cf) T1) (st (ltOf cf) T2)).length = 2 * bs := by rw [mrg_length, st_length, st_length, HT.out.1, HT.out.2.1]; omega
                refine ⟨b, b + 2 * bs, d1, rfl, by first | rfl | go_num | (congr 1; omega), by omega, hlt, Nat.le_refl _, ?_, HW1.out, X ++ mrg (ltOf cf) (st (ltOf cf) T1) (st (ltOf cf) T2), ?_, ?_, ?_⟩
                · show d1.size = n
                  have := HI.out.1
                  rw [len_of HD1.out, List.length_append, List.length_append, hlen, bsort_length, List.length_drop, HLN.out]
                  omega
                · rw [List.length_append, hlen, HI.out.1]; omega
                · rw [HD1.out]; simp
                · rw [← HI.out.2.2, HT.out.2.2]; simp
            · have hltz : ¬ (b : Int) ≤ (n : Int) := by omega
              by_cases hmn : m < n
              · have hmnz : (m : Int) < (n : Int) := by omega
                obtain ⟨T1, T2, h1, h2, h3, h4⟩ := bsort_rest (ltOf cf) HO.out bs (by omega) (l.drop a) (by omega) (by omega)
                have hc := HSym.out a m n dk wr HS.out.symm S1.out X (st (ltOf cf) T1) (st (ltOf cf) T2) [] (by rw [HI.out.2.1, h3]; simp) HI.out.1 (by rw [st_length]; omega) (by rw [st_length]; omega) (by omega) (by omega) (st_srtd HO.out T1) (st_srtd HO.out T2)
                rw [HS.out] at hc
                have HT := Lib.hid h4
                clear hdl h1 h2 h3 h4
                go_wp2_with (go_at_fn 115; refine hc.mono ?_; rintro e w1 ⟨rfl, d1, hd1, hw1⟩)
                have HD1 := Lib.hid hd1
                have HW1 := Lib.hid hw1
                clear hd1 hw1
                go_wp2
                go_roundg (n - 2 * bs)
                case measure => omega
                case rel =>
                  refine ⟨2 * bs, d1, by first | rfl | go_num | (congr 1; omega), by omega, by omega, Nat.le_refl _, HW1.out, ?_⟩
                  show _ = _
                  rw [HD1.out, ← HI.out.2.2, HT.out]; simp
              · have hmnz : ¬ (m : Int) < (n : Int) := by omega
                have HT := Lib.hid (show bsort (ltOf cf) bs (l.drop a) = bsort (ltOf cf) (2 * bs) (l.drop a) from by rw [bsort_small _ bs (by omega) _ (by omega), bsort_small _ (2 * bs) (by omega) _ (by omega)])
                clear hdl
                go_wp2
                go_roundg (n - 2 * bs)
                case measure => omega
                case rel =>
                  refine ⟨2 * bs, dk, by first | rfl | go_num | (congr 1; omega), by omega, by omega, Nat.le_refl _, S1, ?_⟩
                  show _ = _
                  rw [HI.out.2.1, HT.out, HI.out.2.2]
        · have hlbz : ¬ (bs : Int) < (n : Int) := by omega
          go_wp2
          go_end0
          exact ⟨rfl, dk, by rw [HI.out, bsort_small _ bs (by omega) l (by have := HLN.out; omega)], S1.out⟩

set_option maxHeartbeats 1000000 in
/-- slices.SortStableFunc. -/
theorem sortStable_any {k : Nat} (L : StP P k) (enc : α → List Value) (cf : α → α → Int) (hO : SWO (ltOf cf)) (g : Nat) (cb : Array Value) (blk off cap : Nat) (d : Array α) (w : World)
    (eg : ∀ args w, (callFunc g args).run P w = .ok (.enter g args) w) (hcmp : CmpLays P g cb enc k cf blk off d.size w) (R : RowK enc k w blk off d) (hsz : d.size < 1152921504606846976) :
    Calls P 42 #[.slice (some ⟨blk, off, none⟩) d.size cap, .func (.func g) #[] cb] w fun e w' =>
      e = .returned (.tuple #[]) ∧ ∃ d' : Array α, d'.toList = st (ltOf cf) d.toList ∧ SWK enc k w blk off d' w' := by
  have mixed := L.mixed; have t0 := L.t0; have a0 := L.a0; have z0 := L.z0; have v0 := L.v0; have t3 := L.t3; have a3 := L.a3; have z3 := L.z3; have v3 := L.v3
  have t6 := L.t6; have a6 := L.a6; have z6 := L.z6; have v6 := L.v6; have t7 := L.t7; have a7 := L.a7; have z7 := L.z7; have v7 := L.v7
  have FG := L.top
  have eT : ∀ args w, (callFunc 65 args).run P w = .ok (.enter 65 args) w := enters_of L.stb (by kernel_rfl) rfl
  have hc := stable_any L enc cf hO g cb blk off cap d w eg hcmp R hsz
  clear hcmp R L
  go_enter FG, Tryz.ntmps42
  go_wp2_with (go_at_fn 65; refine hc.mono ?_; rintro e w1 ⟨rfl, d1, hd1, hw1⟩)
  go_end0
  exact ⟨rfl, d1, hd1, hw1⟩

end Go.Proofs.YtfpofegfbinalaaGreat.Fx.Se
namespace Go.Proofs.YtfpofegfbinalaaGreat.Fx.Se
open Go.ChangeShapes Go.WideShapes Go.ChangeAt Go.RowKit Go.Sort
set_option linter.unusedVariables false
set_option maxRecDepth 100000

/-- Does a stand ahead of b? -/
def idB (a b : Ent) : Bool := decide (a.id < b.id)

theorem idB_swo : SWO idB where
  irrefl x := by simp [idB]
  trans x y z h1 h2 := by simp only [idB, decide_eq_true_eq] at *; omega
  ntrans x y z h1 h2 := by simp only [idB, decide_eq_false_iff_not] at *; omega

def cmpE (a b : Ent) : Int := if a.id < b.id then -1 else if b.id < a.id then 1 else 0

theorem ltOf_cmpE : ltOf cmpE = idB := by
  funext a b
  unfold ltOf cmpE idB
  by_cases h : a.id < b.id
  · simp [h]
  · by_cases h2 : b.id < a.id <;> simp [h, h2]

theorem nan_no (a : Int) (w : World) : Calls Tryz.prog 66 #[.int .i64 a] w fun e w' => e = .returned (.bool false) ∧ w = w' := by
  go_enter Tryz.func66, Tryz.ntmps66
  go_wp2
  go_ret
  exact ⟨by simp, rfl⟩

theorem compare_any (a b : Int) (w : World) : Calls Tryz.prog 44 #[.int .i64 a, .int .i64 b] w fun e w' => e = .returned (.int .i64 (if a < b then -1 else if b < a then 1 else 0)) ∧ w = w' := by
  have HN := Lib.hid nan_no
  by_cases h1 : a < b
  · have hd1 : decide (a < b) = true := decide_eq_true h1
    rw [if_pos h1]
    go_enter Tryz.func44, Tryz.ntmps44
    iterate 2
     go_wp2_with fail
     refine (HN.out _ _).mono ?_
     rintro e w' ⟨rfl, rfl⟩
    go_wp2
    go_ret
    exact ⟨rfl, rfl⟩
  · have hd1 : decide (a < b) = false := decide_eq_false h1
    rw [if_neg h1]
    by_cases h2 : b < a
    · have hd2 : decide (b < a) = true := decide_eq_true h2
      rw [if_pos h2]
      go_enter Tryz.func44, Tryz.ntmps44
      iterate 2
       go_wp2_with fail
       refine (HN.out _ _).mono ?_
       rintro e w' ⟨rfl, rfl⟩
      go_wp2
      go_ret
      exact ⟨rfl, rfl⟩
    · have hd2 : decide (b < a) = false := decide_eq_false h2
      rw [if_neg h2]
      go_enter Tryz.func44, Tryz.ntmps44
      iterate 2
       go_wp2_with fail
       refine (HN.out _ _).mono ?_
       rintro e w' ⟨rfl, rfl⟩
      go_wp2
      go_ret
      exact ⟨rfl, rfl⟩

set_option maxHeartbeats 1000000 in
theorem order_any (a b : Ent) (w : World) :
    Calls Tryz.prog 43 #[.agg #[.int .i64 a.id, .int .i64 a.kind, .int .i64 a.x, .int .i64 a.y, .int .i64 a.vx, .int .i64 a.vy, .int .i64 a.health, .int .i64 a.age, .int .i64 a.owner], .agg #[.int .i64 b.id, .int .i64 b.kind, .int .i64 b.x, .int .i64 b.y, .int .i64 b.vx, .int .i64 b.vy, .int .i64 b.health, .int .i64 b.age, .int .i64 b.owner]] w fun e w' => e = .returned (.int .i64 (cmpE a b)) ∧ ∃ os, w' = grow w os := by
  have HC := Lib.hid (fun w => compare_any a.id b.id w)
  have HE := Lib.hid (show cmpE a b = if a.id < b.id then -1 else if b.id < a.id then 1 else 0 from rfl)
  generalize cmpE a b = z at *
  go_enter Tryz.func43, Tryz.ntmps43
  go_wp2_with fail
  refine (HC.out _).mono ?_
  rintro e w1 ⟨rfl, rfl⟩
  rw [← HE.out]
  go_wp2
  go_ret
  exact ⟨rfl, _, grown2 _ _ _⟩

/-- The program bears the sort's bodies. -/
theorem stP : StP Tryz.prog 9 where
  mixed := by kernel_rfl
  t0 := Tryz.underlying0
  a0 := Tryz.isAgg0
  z0 := Tryz.sizeOf0
  v0 := Tryz.zeroValue0
  t3 := Tryz.underlying3
  a3 := Tryz.isAgg3
  z3 := Tryz.sizeOf3
  v3 := Tryz.zeroValue3
  t4 := Tryz.underlying4
  a4 := Tryz.isAgg4
  z4 := Tryz.sizeOf4
  v4 := Tryz.zeroValue4
  t5 := Tryz.underlying57
  a5 := Tryz.isAgg57
  z5 := Tryz.sizeOf57
  v5 := Tryz.zeroValue57
  t6 := Tryz.underlying46
  a6 := Tryz.isAgg46
  z6 := Tryz.sizeOf46
  v6 := Tryz.zeroValue46
  t7 := Tryz.underlying84
  a7 := Tryz.isAgg84
  z7 := Tryz.sizeOf84
  v7 := Tryz.zeroValue84
  aE := Tryz.isAgg45
  zE := Tryz.sizeOf45
  swaps := Tryz.func194
  ins := Tryz.func114
  rot := Tryz.func164
  sym := Tryz.func115
  stb := Tryz.func65
  top := Tryz.func42

theorem order_lays (blk off size : Nat) (w : World) : CmpLays Tryz.prog 43 #[] entC 9 cmpE blk off size w :=
  fun m os dk _ x y => (order_any x y _).mono fun _ _ ⟨he, os', hw⟩ => ⟨he, 0, os', hw⟩

/-- A row of the call's own, as the sort wants it. -/
theorem own_row {w : World} {base t g cap : Nat} {l : List Ent} (h : w.ownsRow base t 9 (.slice (some ⟨g, 0, none⟩) l.length cap) l.length (l.flatMap entC)) : RowK entC 9 w g 0 l.toArray := by
  obtain ⟨cur, hb, hs, -, hc⟩ := Blk.of_own h
  refine ⟨entC_len, entC_one, ?_, hb.lt⟩
  unfold HoldsK
  rw [flat_row entC 9 entC_len]
  intro j hj
  have hj' : j < (l.flatMap entC).length := by simpa using hj
  refine ⟨?_, ?_⟩
  · rw [Nat.zero_add, hb.cell]
    have := hc j _ (List.getElem?_eq_getElem hj')
    rw [this, getElem!_pos _ _ (by simpa using hj')]
    simp
  · rw [Nat.zero_add]; exact hb.frozen j

/-- What the sort leaves: the row sorted; all else as it was. -/
theorem own_sorted {w w' : World} {base t g cap : Nat} {l l' : List Ent} {d' : Array Ent} (h : w.ownsRow base t 9 (.slice (some ⟨g, 0, none⟩) l.length cap) l.length (l.flatMap entC)) (hd : d'.toList = l') (hl : l'.length = l.length)
    (hS : SWK entC 9 w g 0 d' w') : w'.ownsRow base t 9 (.slice (some ⟨g, 0, none⟩) l'.length cap) l'.length (l'.flatMap entC) ∧ w.grownBy w' (some g) := by
  have R := own_row h
  have hds : d'.size = l.toArray.size := by rw [len_of hd]; simpa using hl
  have hH := hS.holds R.hblk R.hH hds
  obtain ⟨m, os, rfl⟩ := hS
  constructor
  · obtain ⟨cur, hb, hs, hbase, hc⟩ := Blk.of_own h
    obtain ⟨cur', hb', hs'⟩ := heap_putRow w m g (flatK entC 9 d') os t cur hb
    refine ⟨entC_length l', Or.inr ⟨g, cap, cur', rfl, hbase, hb', ?_, ?_, by rw [hs', hs], ?_⟩⟩
    · rcases h.2 with ⟨hv, _⟩ | ⟨g', cap', cur2, hv, _, _, hn, _⟩
      · cases hv
      · simp at hv; omega
    · rcases h.2 with ⟨hv, _⟩ | ⟨g', cap', cur2, hv, _, _, hn, hm, _⟩
      · cases hv
      · simp at hv; rw [hv.2]; exact hm
    · have hcap : l.length ≤ cap := by
        rcases h.2 with ⟨hv, _⟩ | ⟨g', cap', cur2, hv, _, _, hn, _⟩
        · cases hv
        · simp at hv; omega
      have hfl : flatK entC 9 d' = (l'.flatMap entC).toArray := by
        rw [← flat_row entC 9 entC_len, ← hd]
      apply List.ext_getElem?
      intro j
      rw [List.getElem?_take]
      have hlen := entC_length l'
      split
      · have hj : j < (flatK entC 9 d').size := by rw [hfl, List.size_toArray, hlen]; assumption
        have := (hH j hj).1
        have hc2 : (sortWorldK entC 9 w g 0 m d' os).cell? ⟨g, j, none⟩ = cur'[j]? := hb'.cell j
        rw [Nat.zero_add, hc2, hfl] at this
        rw [Array.getElem?_toList, this]
        have hj2 : j < (l'.flatMap entC).length := by omega
        rw [List.getElem?_eq_getElem hj2, getElem!_pos _ _ (by simpa using hj2)]
        simp
      · rw [List.getElem?_eq_none (by omega)]
  · refine ⟨rfl, rfl, rfl, ?_, fun k hk hne => ?_⟩
    · unfold sortWorldK putRowK
      rw [size_grow, size_putRow]; show w.heap.size ≤ w.heap.size + _; omega
    · unfold sortWorldK putRowK
      rw [heap_grow_old _ _ (by rw [size_putRow]; exact hk)]
      unfold putRow mapBlock
      simp only [heap_ahead]
      rw [Array.getElem?_modify, if_neg (fun h => hne (by rw [h]))]

theorem sort_nil (w : World) :
    Calls Tryz.prog 42 #[.slice none 0 0, .func (.func 43) #[] #[]] w fun e w' => e = .returned (.tuple #[]) ∧ w = w' := by
  have HI : ∀ W, Calls Tryz.prog 114 #[.slice none 0 0, .int .i64 0, .int .i64 0, .func (.func 43) #[] #[]] W fun e w' => e = .returned (.tuple #[]) ∧ W = w' := by
    intro W
    go_enter Tryz.func114, Tryz.ntmps114
    go_wp2
    refine wp_loop_rounds 1 ?_
    rw [rounds_succ]
    go_wp2
    go_end0
    exact ⟨rfl, rfl⟩
  have HS : ∀ W, Calls Tryz.prog 65 #[.slice none 0 0, .int .i64 0, .func (.func 43) #[] #[]] W fun e w' => e = .returned (.tuple #[]) ∧ W = w' := by
    intro W
    go_enter Tryz.func65, Tryz.ntmps65
    go_wp2
    refine wp_loop_rounds 1 ?_
    rw [rounds_succ]
    go_wp2_with (go_at_call 114; refine (HI _).mono ?_; rintro e w1 ⟨rfl, rfl⟩)
    refine wp_loop_rounds 1 ?_
    rw [rounds_succ]
    go_wp2
    go_end0
    exact ⟨rfl, rfl⟩
  go_enter Tryz.func42, Tryz.ntmps42
  go_wp2_with (go_at_call 65; refine (HS _).mono ?_; rintro e w1 ⟨rfl, rfl⟩)
  go_end0
  exact ⟨rfl, rfl⟩

/-- The sort of a row of the call's own. -/
theorem sort_own (v : Value) (l : List Ent) (base : Nat) (w : World) (hb : base ≤ w.heap.size) (ho : w.ownsRow base 45 9 v l.length (l.flatMap entC)) (hn : l.length ≤ 1000000) :
    Calls Tryz.prog 42 #[v, .func (.func 43) #[] #[]] w fun e w' => e = .returned (.tuple #[]) ∧ w'.ownsRow base 45 9 v (st idB l).length ((st idB l).flatMap entC) ∧ RowKit.Below base w w' := by
  rcases ho.2 with ⟨rfl, h0⟩ | ⟨g, cap, cur, rfl, hg, -⟩
  · refine (sort_nil w).mono ?_
    rintro e w' ⟨rfl, rfl⟩
    obtain rfl : l = [] := List.eq_nil_of_length_eq_zero h0
    exact ⟨rfl, ho, RowKit.Below.refl _ _⟩
  · have hS := sortStable_any stP entC cmpE (by rw [ltOf_cmpE]; exact idB_swo) 43 #[] g 0 cap l.toArray w (enters_of Tryz.func43 (by kernel_rfl) rfl) (order_lays _ _ _ _) (own_row ho) (by simp; omega)
    rw [ltOf_cmpE] at hS
    refine Calls.mono (by simpa using hS) ?_
    rintro e w' ⟨rfl, d', hd', hw'⟩
    have := own_sorted ho hd' (st_length _ _) hw'
    rw [st_length] at this ⊢
    exact ⟨rfl, this.1, (RowKit.Below.refl _ _).grown this.2 hb (fun k hk => by cases hk; exact hg)⟩

end Go.Proofs.YtfpofegfbinalaaGreat.Fx.Se
