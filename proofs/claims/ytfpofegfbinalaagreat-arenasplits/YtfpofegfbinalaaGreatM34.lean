/- slices.stableCmpFunc and SortStableFunc at elements of k cells: the row is sorted, and what is alike stays in order. -/
import Derived.Test.YtfpofegfbinalaaGreatM33
namespace Go.Proofs.YtfpofegfbinalaaGreat.Fx
open Go.Shelf Go.RowKit Go.Lib Go.Sort
set_option linter.unusedVariables false
set_option maxRecDepth 100000
variable {P : Program} {α : Type}

/-- Each part of so many sorted by itself. -/
def bsort (lt : α → α → Bool) (bs : Nat) (l : List α) : List α :=
  if h : bs = 0 ∨ l = [] then l else st lt (l.take bs) ++ bsort lt bs (l.drop bs)
termination_by l.length
decreasing_by
  rw [List.length_drop]
  have := List.length_pos_iff.2 (fun h' => h (Or.inr h'))
  omega

theorem bsort_nil (lt : α → α → Bool) (bs : Nat) : bsort lt bs [] = [] := by rw [bsort, dif_pos (Or.inr rfl)]

theorem bsort_cons (lt : α → α → Bool) (bs : Nat) (hb : 0 < bs) (l : List α) (hl : 0 < l.length) : bsort lt bs l = st lt (l.take bs) ++ bsort lt bs (l.drop bs) := by
  rw [bsort, dif_neg]
  rintro (h | h)
  · omega
  · rw [h] at hl; simp at hl

theorem bsort_small (lt : α → α → Bool) (bs : Nat) (hb : 0 < bs) (l : List α) (hl : l.length ≤ bs) : bsort lt bs l = st lt l := by
  rcases Nat.eq_zero_or_pos l.length with h | h
  · obtain rfl := List.eq_nil_of_length_eq_zero h
    rw [bsort_nil]; rfl
  · rw [bsort_cons lt bs hb l h, List.take_of_length_le hl, List.drop_eq_nil_of_le hl, bsort_nil, List.append_nil]

theorem bsort_len (lt : α → α → Bool) (bs : Nat) : ∀ (n : Nat) (l : List α), l.length ≤ n → (bsort lt bs l).length = l.length
  | 0, l, h => by obtain rfl := List.eq_nil_of_length_eq_zero (Nat.le_zero.1 h); rw [bsort_nil]
  | n + 1, l, h => by
    rcases Nat.eq_zero_or_pos bs with hb | hb
    · rw [bsort, dif_pos (Or.inl hb)]
    · rcases Nat.eq_zero_or_pos l.length with h0 | h0
      · obtain rfl := List.eq_nil_of_length_eq_zero h0
        rw [bsort_nil]
      · rw [bsort_cons lt bs hb l h0, List.length_append, st_length, bsort_len lt bs n (l.drop bs) (by rw [List.length_drop]; omega), List.length_take, List.length_drop]
        omega

theorem bsort_length (lt : α → α → Bool) (bs : Nat) (l : List α) : (bsort lt bs l).length = l.length := bsort_len lt bs _ l (Nat.le_refl _)

variable [Inhabited α]

/-- Two parts of so many that stand ahead. -/
theorem bsort_two (lt : α → α → Bool) (hO : SWO lt) (bs : Nat) (hb : 0 < bs) (l : List α) (hl : 2 * bs ≤ l.length) :
    ∃ T1 T2, T1.length = bs ∧ T2.length = bs ∧ bsort lt bs l = st lt T1 ++ (st lt T2 ++ bsort lt bs (l.drop (2 * bs))) ∧ bsort lt (2 * bs) l = mrg lt (st lt T1) (st lt T2) ++ bsort lt (2 * bs) (l.drop (2 * bs)) := by
  refine ⟨l.take bs, (l.drop bs).take bs, by rw [List.length_take]; omega, by rw [List.length_take, List.length_drop]; omega, ?_, ?_⟩
  · rw [bsort_cons lt bs hb l (by omega), bsort_cons lt bs hb (l.drop bs) (by rw [List.length_drop]; omega), List.drop_drop, show bs + bs = 2 * bs by omega]
  · rw [bsort_cons lt (2 * bs) (by omega) l (by omega), ← st_append lt hO]
    congr 2
    rw [show 2 * bs = bs + bs by omega, List.take_add]

/-- What is left: more than one part. -/
theorem bsort_rest (lt : α → α → Bool) (hO : SWO lt) (bs : Nat) (hb : 0 < bs) (l : List α) (h1 : bs < l.length) (h2 : l.length ≤ 2 * bs) :
    ∃ T1 T2, T1.length = bs ∧ bs + T2.length = l.length ∧ bsort lt bs l = st lt T1 ++ st lt T2 ∧ bsort lt (2 * bs) l = mrg lt (st lt T1) (st lt T2) := by
  refine ⟨l.take bs, l.drop bs, by rw [List.length_take]; omega, by rw [List.length_drop]; omega, ?_, ?_⟩
  · rw [bsort_cons lt bs hb l (by omega), bsort_small lt bs hb (l.drop bs) (by rw [List.length_drop]; omega)]
  · rw [bsort_small lt (2 * bs) (by omega) l h2, ← st_append lt hO, List.take_append_drop]

set_option maxHeartbeats 8000000 in
set_option maxRecDepth 1000000 in
theorem stable_any {k : Nat} (L : StP P k) (enc : α → List Value) (cf : α → α → Int) (hO : SWO (ltOf cf)) (g : Nat) (cb : Array Value) (blk off cap : Nat) (d : Array α) (w : World)
    (eg : ∀ args w, (callFunc g args).run P w = .ok (.enter g args) w) (hcmp : CmpLays P g cb enc k cf blk off d.size w) (R : RowK enc k w blk off d) (hsz : d.size < 1152921504606846976) :
    Calls P 162 #[.slice (some ⟨blk, off, none⟩) d.size cap, .int .i64 d.size, .func (.func g) #[] cb] w fun e w' =>
      e = .returned (.tuple #[]) ∧ ∃ d' : Array α, d'.toList = st (ltOf cf) d.toList ∧ SWK enc k w blk off d' w' := by
  have mixed := L.mixed; have t0 := L.t0; have a0 := L.a0; have z0 := L.z0; have v0 := L.v0; have t3 := L.t3; have a3 := L.a3; have z3 := L.z3; have v3 := L.v3; have t4 := L.t4; have a4 := L.a4; have z4 := L.z4; have v4 := L.v4
  have t6 := L.t6; have a6 := L.a6; have z6 := L.z6; have v6 := L.v6; have t7 := L.t7; have a7 := L.a7; have z7 := L.z7; have v7 := L.v7; have aE := L.aE; have zE := L.zE
  have FG := L.stb
  have eI : ∀ args w, (callFunc 192 args).run P w = .ok (.enter 192 args) w := enters_of L.ins (by kernel_rfl) rfl
  have eS : ∀ args w, (callFunc 193 args).run P w = .ok (.enter 193 args) w := enters_of L.sym (by kernel_rfl) rfl
  have S0 : Aside (SWK enc k w blk off d w) := SWK.start R.hH
  obtain ⟨l, hl⟩ : ∃ l, d.toList = l := ⟨_, rfl⟩
  have HIns := Lib.hid (fun a b (d1 : Array α) (w1 : World) hs S p U r hd hp hU => insertion_any L enc cf hO g cb blk off cap a b d d1 w w1 eg hcmp R hs S (by omega) p U r hd hp hU)
  have HSym := Lib.hid (fun a m b (d1 : Array α) (w1 : World) => sym_any L enc cf hO g cb blk off cap d w eg hcmp R (by omega) (b - a) a m b d1 w1 (Nat.le_refl _))
  obtain ⟨n, hn⟩ : ∃ n, d.size = n := ⟨_, rfl⟩
  have hln : l.length = n := by rw [← hl, ← hn, Array.length_toList]
  rw [hl]
  rw [hn] at hsz HIns HSym ⊢
  have HL := Lib.hid hl
  have HN := Lib.hid hn
  have HLN := Lib.hid hln
  have HO := Lib.hid hO
  clear L hcmp R hl hln hO hn
  go_enter FG, Tryz.ntmps162
  go_wp2
  go_loopg [7, 8] n (fun kx s7 s8 wr => ∃ (a b : Nat) (dk : Array α), s7 = .int .i64 a ∧ s8 = .int .i64 b ∧ b = a + 20 ∧ a ≤ n ∧ n - a ≤ kx ∧ Aside (dk.size = n) ∧ Aside (SWK enc k w blk off dk wr) ∧ ∃ X, Aside (X.length = a ∧ dk.toList = X ++ l.drop a ∧ X ++ bsort (ltOf cf) 20 (l.drop a) = bsort (ltOf cf) 20 l))
  case atStart => exact ⟨0, 20, d, rfl, rfl, rfl, Nat.zero_le _, Nat.le_refl _, HN.out, S0, [], rfl, by simpa using HL.out, by simp⟩
  case round =>
    clear S0
    obtain ⟨a, b, dk, rfl, rfl, hab, han, hkx, HS, S1, X, HI⟩ := hrel
    have hab1 : a + 20 ≤ b ∧ b ≤ a + 20 := by omega
    clear hab
    by_cases hlt : b ≤ n
    · have hltz : (b : Int) ≤ (n : Int) := by omega
      have hdl : (l.drop a).length = n - a := by rw [List.length_drop, HLN.out]
      have hc := HIns.out a b dk wr HS.out.symm S1.out X ((l.drop a).take 20) ((l.drop a).drop 20) (by rw [List.take_append_drop]; exact HI.out.2.1) HI.out.1 (by rw [List.length_take, hdl]; omega)
      rw [HS.out] at hc
      clear hdl
      go_wp2_with (go_at_fn 192; refine hc.mono ?_; rintro e w1 ⟨rfl, d1, hd1, hw1⟩)
      have HD1 := Lib.hid hd1
      have HW1 := Lib.hid hw1
      clear hd1 hw1
      go_wp2
      go_roundg (n - b)
      case measure => omega
      case rel =>
        have hdl : (l.drop a).length = n - a := by rw [List.length_drop, HLN.out]
        have hd20 : (l.drop a).drop 20 = l.drop b := by rw [List.drop_drop]; congr 1; omega
        have hlen : (st (ltOf cf) ((l.drop a).take 20)).length = 20 := by rw [st_length, List.length_take, hdl]; omega
        refine ⟨b, b + 20, d1, rfl, by go_num, rfl, hlt, Nat.le_refl _, ?_, HW1.out, X ++ st (ltOf cf) ((l.drop a).take 20), ?_, ?_, ?_⟩
        · show d1.size = n
          have := HI.out.1
          rw [len_of HD1.out, hd20, List.length_append, List.length_append, hlen, List.length_drop, HLN.out]
          omega
        · rw [List.length_append, hlen, HI.out.1]; omega
        · rw [HD1.out, hd20]; simp
        · rw [← HI.out.2.2, bsort_cons _ 20 (by omega) (l.drop a) (by omega), hd20]; simp
    · have hltz : ¬ (b : Int) ≤ (n : Int) := by omega
      have hdl : (l.drop a).length = n - a := by rw [List.length_drop, HLN.out]
      have hc := HIns.out a n dk wr HS.out.symm S1.out X (l.drop a) [] (by simpa using HI.out.2.1) HI.out.1 (by rw [hdl]; omega)
      rw [HS.out] at hc
      have HB := Lib.hid (show X ++ st (ltOf cf) (l.drop a) = bsort (ltOf cf) 20 l from by rw [← HI.out.2.2, bsort_small _ 20 (by omega) (l.drop a) (by omega)])
      clear hdl S1 HI
      go_wp2_with (go_at_fn 192; refine hc.mono ?_; rintro e w1 ⟨rfl, d1, hd1, hw1⟩)
      have HD1 : Aside (d1.toList = bsort (ltOf cf) 20 l) := by show _ = _; rw [hd1, List.append_nil, HB.out]
      have HW1 : Aside (SWK enc k w blk off d1 w1) := hw1
      clear hd1 hw1 HS HB HIns hkx
      go_wp2
      go_loopg [6] n (fun kx s6 wr => ∃ (bs : Nat) (dk : Array α), s6 = .int .i64 bs ∧ 20 ≤ bs ∧ bs ≤ 2 * n + 20 ∧ n - bs ≤ kx ∧ Aside (SWK enc k w blk off dk wr) ∧ Aside (dk.toList = bsort (ltOf cf) bs l))
      case atStart => exact ⟨20, d1, rfl, Nat.le_refl _, by omega, by omega, HW1, HD1⟩
      case round =>
        clear HD1 HW1
        obtain ⟨bs, dk, rfl, hbs, hbn, hkx, S1, HI⟩ := hrel
        by_cases hlb : bs < n
        · have hlbz : (bs : Int) < (n : Int) := by omega
          go_wp2
          go_loopg [7, 8] n (fun kx s7 s8 wr => ∃ (a b : Nat) (dk : Array α), s7 = .int .i64 a ∧ s8 = .int .i64 b ∧ b = a + 2 * bs ∧ a ≤ n ∧ n - a ≤ kx ∧ Aside (dk.size = n) ∧ Aside (SWK enc k w blk off dk wr) ∧ ∃ X, Aside (X.length = a ∧ dk.toList = X ++ bsort (ltOf cf) bs (l.drop a) ∧ X ++ bsort (ltOf cf) (2 * bs) (l.drop a) = bsort (ltOf cf) (2 * bs) l))
          case atStart => exact ⟨0, 2 * bs, dk, rfl, by go_num, by omega, Nat.zero_le _, Nat.le_refl _, by show _ = _; rw [len_of HI.out, bsort_length]; exact HLN.out, S1, [], rfl, by simpa using HI.out, by simp⟩
          case round =>
            clear S1 HI
            obtain ⟨a, b, dk, rfl, rfl, hab, han, hkx, HS, S1, X, HI⟩ := hrel
            have hab1 : a + 2 * bs ≤ b ∧ b ≤ a + 2 * bs := by omega
            have HAB := Lib.hid hab
            clear hab
            obtain ⟨m, hm1, hm2⟩ : ∃ m, a + bs ≤ m ∧ m ≤ a + bs := ⟨a + bs, by omega, by omega⟩
            have em : (a : Int) + (bs : Int) = (m : Int) := by omega
            have hdl : (l.drop a).length = n - a := by rw [List.length_drop, HLN.out]
            by_cases hlt : b ≤ n
            · have hltz : (b : Int) ≤ (n : Int) := by omega
              obtain ⟨T1, T2, h1, h2, h3, h4⟩ := bsort_two (ltOf cf) HO.out bs (by omega) (l.drop a) (by omega)
              have hdb : (l.drop a).drop (2 * bs) = l.drop b := by rw [List.drop_drop]; congr 1; omega
              rw [hdb] at h3 h4
              have hc := HSym.out a m b dk wr HS.out.symm S1.out X (st (ltOf cf) T1) (st (ltOf cf) T2) (bsort (ltOf cf) bs (l.drop b)) (by rw [HI.out.2.1, h3]) HI.out.1 (by rw [st_length]; omega) (by rw [st_length]; omega) (by omega) (by omega) (st_srtd HO.out T1) (st_srtd HO.out T2)
              rw [HS.out] at hc
              have HT := Lib.hid (And.intro h1 (And.intro h2 h4))
              clear hdl h1 h2 h3 h4 hdb
              go_wp2_with (go_at_fn 193; refine hc.mono ?_; rintro e w1 ⟨rfl, d1, hd1, hw1⟩)
              have HD1 := Lib.hid hd1
              have HW1 := Lib.hid hw1
              clear hd1 hw1
              go_wp2
              go_roundg (n - b)
              case measure => omega
              case rel =>
                have hlen : (mrg (ltOf cf) (st (ltOf cf) T1) (st (ltOf cf) T2)).length = 2 * bs := by rw [mrg_length, st_length, st_length, HT.out.1, HT.out.2.1]; omega
                refine ⟨b, b + 2 * bs, d1, rfl, by first | rfl | go_num | (congr 1; omega), by omega, hlt, Nat.le_refl _, ?_, HW1.out, X ++ mrg (ltOf cf) (st (ltOf cf) T1) (st (ltOf cf) T2), ?_, ?_, ?_⟩
                · show d1.size = n
                  have := HI.out.1
                  rw [len_of HD1.out, List.length_append, List.length_append, hlen, bsort_length, List.length_drop, HLN.out]
                  omega
                · rw [List.length_append, hlen, HI.out.1]; omega
                · rw [HD1.out]; simp
                · rw [← HI.out.2.2, HT.out.2.2]; simp
            · have hltz : ¬ (b : Int) ≤ (n : Int) := by omega
              by_cases hmn : m < n
              · have hmnz : (m : Int) < (n : Int) := by omega
                obtain ⟨T1, T2, h1, h2, h3, h4⟩ := bsort_rest (ltOf cf) HO.out bs (by omega) (l.drop a) (by omega) (by omega)
                have hc := HSym.out a m n dk wr HS.out.symm S1.out X (st (ltOf cf) T1) (st (ltOf cf) T2) [] (by rw [HI.out.2.1, h3]; simp) HI.out.1 (by rw [st_length]; omega) (by rw [st_length]; omega) (by omega) (by omega) (st_srtd HO.out T1) (st_srtd HO.out T2)
                rw [HS.out] at hc
                have HT := Lib.hid h4
                clear hdl h1 h2 h3 h4
                go_wp2_with (go_at_fn 193; refine hc.mono ?_; rintro e w1 ⟨rfl, d1, hd1, hw1⟩)
                have HD1 := Lib.hid hd1
                have HW1 := Lib.hid hw1
                clear hd1 hw1
                go_wp2
                go_roundg (n - 2 * bs)
                case measure => omega
                case rel =>
                  refine ⟨2 * bs, d1, by first | rfl | go_num | (congr 1; omega), by omega, by omega, Nat.le_refl _, HW1.out, ?_⟩
                  show _ = _
                  rw [HD1.out, ← HI.out.2.2, HT.out]; simp
              · have hmnz : ¬ (m : Int) < (n : Int) := by omega
                have HT := Lib.hid (show bsort (ltOf cf) bs (l.drop a) = bsort (ltOf cf) (2 * bs) (l.drop a) from by rw [bsort_small _ bs (by omega) _ (by omega), bsort_small _ (2 * bs) (by omega) _ (by omega)])
                clear hdl
                go_wp2
                go_roundg (n - 2 * bs)
                case measure => omega
                case rel =>
                  refine ⟨2 * bs, dk, by first | rfl | go_num | (congr 1; omega), by omega, by omega, Nat.le_refl _, S1, ?_⟩
                  show _ = _
                  rw [HI.out.2.1, HT.out, HI.out.2.2]
        · have hlbz : ¬ (bs : Int) < (n : Int) := by omega
          go_wp2
          go_end0
          exact ⟨rfl, dk, by rw [HI.out, bsort_small _ bs (by omega) l (by have := HLN.out; omega)], S1.out⟩

set_option maxHeartbeats 1000000 in
/-- slices.SortStableFunc. -/
theorem sortStable_any {k : Nat} (L : StP P k) (enc : α → List Value) (cf : α → α → Int) (hO : SWO (ltOf cf)) (g : Nat) (cb : Array Value) (blk off cap : Nat) (d : Array α) (w : World)
    (eg : ∀ args w, (callFunc g args).run P w = .ok (.enter g args) w) (hcmp : CmpLays P g cb enc k cf blk off d.size w) (R : RowK enc k w blk off d) (hsz : d.size < 1152921504606846976) :
    Calls P 112 #[.slice (some ⟨blk, off, none⟩) d.size cap, .func (.func g) #[] cb] w fun e w' =>
      e = .returned (.tuple #[]) ∧ ∃ d' : Array α, d'.toList = st (ltOf cf) d.toList ∧ SWK enc k w blk off d' w' := by
  have mixed := L.mixed; have t0 := L.t0; have a0 := L.a0; have z0 := L.z0; have v0 := L.v0; have t3 := L.t3; have a3 := L.a3; have z3 := L.z3; have v3 := L.v3
  have t6 := L.t6; have a6 := L.a6; have z6 := L.z6; have v6 := L.v6; have t7 := L.t7; have a7 := L.a7; have z7 := L.z7; have v7 := L.v7
  have FG := L.top
  have eT : ∀ args w, (callFunc 162 args).run P w = .ok (.enter 162 args) w := enters_of L.stb (by kernel_rfl) rfl
  have hc := stable_any L enc cf hO g cb blk off cap d w eg hcmp R hsz
  clear hcmp R L
  go_enter FG, Tryz.ntmps112
  go_wp2_with (go_at_fn 162; refine hc.mono ?_; rintro e w1 ⟨rfl, d1, hd1, hw1⟩)
  go_end0
  exact ⟨rfl, d1, hd1, hw1⟩

end Go.Proofs.YtfpofegfbinalaaGreat.Fx
