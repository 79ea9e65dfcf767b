/- joustlaw13.CheckParts returns true for every input; no conditions. -/
import Derived.Test.YthmdnemibdmhgaaCkAwk
import Derived.Test.YthmdnemibdmhgaaByAwkA
import Derived.Test.YthmdnemibdmhgaaByRefR
import Derived.Test.YthmdnemibdmhgaaGNum
import Derived.Test.YthmdnemibdmhgaaCkOwn
import Derived.Test.YthmdnemibdmhgaaRows
import Derived.WalkKit
import Derived.ProofKit
import Derived.OpenShut
import Derived.ShutString
import Derived.ChangeOld
import Derived.Below
namespace Go.Proofs.Ythmdnemibdmhgaa.checkParts
open Go.ChangeShapes Go.WideShapes Go.ChangeAt Go.RowKit
open Go.ChangeMaps (open_string shut_string)
set_option linter.unusedVariables false
set_option maxRecDepth 100000

theorem own : ownKnob Try.prog.godebug = none := by kernel_rfl
theorem laidOut : laidOutB Try.prog = true := by kernel_rfl
open Fx (IsRow)

open Fx

theorem info_sl8c : (Try.prog.info? 22).map (fun i => (i.zero, i.size, i.bytes)) = some (some (.slice none 0 0), 1, 24) := by kernel_rfl

/-- Some parts of bytes, one behind the other. -/
def PartsAt (base : Nat) (w0 w : World) (v : Value) (k f : Nat) (L : List Int) : Prop :=
  ∃ vs ls, w.ownsRow base 22 1 v k vs ∧ vs.length = k ∧ AllBy w0 vs ls ∧ ls.flatten = L.take f ∧ ∀ l ∈ ls, l.length ≤ 1000

theorem PartsAt.snoc {base k f t : Nat} {w w' : World} {v' u : Value} {L : List Int} (vs : List Value) (ls : List (List Int)) (hl : vs.length = k) (hA : AllBy w vs ls) (hf : ls.flatten = L.take f) (hm : ∀ l ∈ ls, l.length ≤ 1000)
    (ho : w'.ownsRow base 22 1 v' (k + 1) (vs ++ [u])) (m : List Int) (hu : IsSl byC w u m) (hft : L.take f ++ m = L.take t) (hml : m.length ≤ 1000) : PartsAt base w w' v' (k + 1) t L := by
  refine ⟨vs ++ [u], ls ++ [m], ho, by simp [hl], ⟨by simp [hA.1], fun i a l h1 h2 => ?_⟩, by rw [List.flatten_append, hf]; simpa using hft, fun l hl' => ?_⟩
  · by_cases hi : i < vs.length
    · rw [List.getElem?_append_left hi] at h1
      rw [List.getElem?_append_left (by rw [← hA.1]; exact hi)] at h2
      exact hA.2 i a l h1 h2
    · rw [List.getElem?_append_right (by omega)] at h1
      rw [List.getElem?_append_right (by rw [← hA.1]; omega)] at h2
      cases h : i - vs.length with
      | zero =>
        rw [h] at h1
        rw [← hA.1, h] at h2
        simp at h1 h2
        subst h1 h2
        exact hu
      | succ q => rw [h] at h1; simp at h1
  · rcases List.mem_append.1 hl' with h | h
    · exact hm l h
    · simp at h; subst h; exact hml

theorem PartsAt.below {base k f : Nat} {w0 w w' : World} {v : Value} {L : List Int} (h : PartsAt base w0 w v k f L) (hb : Below w.heap.size w w') : PartsAt base w0 w' v k f L := by
  obtain ⟨vs, ls, ho, h1, h2, h3, h4⟩ := h
  exact ⟨vs, ls, own_below ho hb, h1, h2, h3, h4⟩

theorem row_one {base k : Nat} {w : World} {v : Value} {vs : List Value} (h : w.ownsRow base 22 1 v k vs) (hk : vs.length = k) : IsSl oneB w v vs := by
  subst hk
  exact owned_sl (enc := oneB) (e := 22) (size := 1) (by rw [flat_oneB]; exact h)

set_option maxRecDepth 100000 in
set_option maxHeartbeats 4000000 in
theorem walk (a0 : Option Addr) (len0 cap0 : Nat) (z0 : List Int) (a1 : Option Addr) (len1 cap1 : Nat) (z1 : List Int) (a2 : Int) (a3 : Int) (w : World) (w0 : IsRow .u8 w a0 len0 cap0 z0) (w1 : IsRow .i64 w a1 len1 cap1 z1) (w2 : (Lit.int .i64 a2).wf = true) (w3 : (Lit.int .u8 a3).wf = true) :
    Calls Try.prog 5 #[.slice a0 len0 cap0, .slice a1 len1 cap1, .int .i64 a2, .int .u8 a3] w fun e w' => e = .returned (.bool true) ∧ Below w.heap.size w w' := by
  obtain ⟨hsl0, hok0, hlen0⟩ := w0.sl8
  have hl := w1.ints
  have HSb := Lib.hid hsl0
  have HLb := Lib.hid hlen0
  have HOb := Lib.hid hok0
  have HCu := Lib.hid hl
  have hby : 0 ≤ a3 ∧ a3 < 256 := by
    have h := w3
    simp [Lit.wf] at h
    have e1 : IntKind.u8.min = 0 := by decide
    have e2 : IntKind.u8.max = 255 := by decide
    omega
  clear w0 w1 w2 w3 hsl0 hok0 hlen0 hl
  generalize z0.take len0 = L at *
  generalize z1.take len1 = cuts at *
  have HA := Lib.hid awake_ck
  by_cases hbig : len0 ≤ 500 ∧ len1 ≤ 20
  · obtain ⟨hb0, hb1'⟩ := hbig
    obtain ⟨i0, hi, hz0, hz1, hz2⟩ := info_parts info_sl8c
    have Hi := Lib.hid hi
    have Hz := Lib.hid (And.intro hz0 (And.intro hz1 hz2))
    clear hi hz0 hz1 hz2
    go_enter Try.func5, Try.ntmps5
    go_wp2
    go_loopw [9, 10, 11] (fun s9 s10 s11 wr => ∃ k f : Nat, k ≤ len1 ∧ f ≤ len0 ∧ s11 = .int .i64 k ∧ s10 = .int .i64 f ∧ PartsAt w.heap.size w wr s9 k f L ∧ Below w.heap.size w wr) (fun _ _ i _ => len1 - (intOf i).toNat)
    case atStart => exact ⟨0, 0, Nat.zero_le _, Nat.zero_le _, rfl, rfl, ⟨[], [], World.ownsRow_nil _ _ _ _, rfl, ⟨rfl, by simp⟩, rfl, by simp⟩, Below.refl _ _⟩
    case round =>
      obtain ⟨k, f, hk, hf, rfl, rfl, hp, hb⟩ := hrel
      have HB := Lib.hid hb
      have HP := Lib.hid hp
      clear hb hp
      by_cases hlt : k < len1
      · obtain ⟨b, off, hA1, hc⟩ := HCu.out.2 (by omega)
        have hcw := hc k hlt
        have hbw : b < w.heap.size := World.block_lt_of_cell? _ _ hcw
        have hck : wr.cell? ⟨b, off + k, none⟩ = some (.int .i64 (gi cuts k)) := (HB.out.cell (p := ⟨b, off + k, none⟩) hbw).trans hcw
        subst hA1
        clear hc hcw
        obtain ⟨q, hq50, hq⟩ := uplace (gi cuts k) 50 (by omega) (by omega)
        have hq : IntKind.i64.wrap ((IntKind.u64.wrap (gi cuts k)).tmod 50) = (q : Int) := by simpa using hq
        generalize gi cuts k = cu at *
        obtain ⟨t, ht⟩ : ∃ t, min len0 (f + q) = t := ⟨_, rfl⟩
        have htm : min (len0 : Int) ((f : Int) + (q : Int)) = (t : Int) := by omega
        have htf : (f : Int) ≤ (t : Int) := by omega
        have htl : t ≤ len0 := by omega
        clear ht
        have htc : (t : Int) ≤ (cap0 : Int) := by
          obtain ⟨_, _, e, -, hcp, -⟩ := HSb.out
          have := HLb.out
          cases e
          omega
        have hmid := HSb.out.mid 1 f t byC_len (by omega) (by omega) (by rw [HLb.out]; exact htl)
        have hft : L.take f ++ (L.take t).drop f = L.take t := by
          have h := List.take_append_drop f (L.take t)
          rw [List.take_take, Nat.min_eq_left (by omega)] at h
          exact h
        have hml : ((L.take t).drop f).length ≤ 1000 := by have := HLb.out; simp; omega
        have HMid := Lib.hid hmid
        have Hft := Lib.hid hft
        have Hml := Lib.hid hml
        obtain ⟨AU, cU, hU, -⟩ := hmid
        clear hft hml
        generalize (L.take t).drop f = Md at *
        have hU' : slMid 1 (.slice a0 len0 cap0) ((f : Int).toNat) ((t : Int).toNat) = .slice AU Md.length cU := by rw [Int.toNat_natCast, Int.toNat_natCast]; exact hU
        rw [hU] at HMid
        obtain ⟨tk, htk⟩ : ∃ tk, Md.length = tk := ⟨_, rfl⟩
        rw [htk] at HMid hU' hU
        clear htk
        obtain ⟨vs, ls, ho, hvl, hAl, hfl, hlm⟩ := HP.out
        have HO := Lib.hid ho
        have HPs := Lib.hid (And.intro hvl (And.intro hAl (And.intro hfl hlm)))
        have hbs := HB.out.size
        clear ho hvl hAl hfl hlm HP
        go_wp2_with (at_builtin; go_must (refine append_elem (by rfl) (.tmp 42) (.tmp 47) 38 (by rfl) w.heap.size 22 i0 _ 1 24 Try.underlying38 Hi.out Hz.out.1 Hz.out.2.1 Hz.out.2.2 rfl (by omega) _ k vs HO.out [.slice AU tk cU] rfl (by simp [Value.oneCell']) (by rfl) wr.heap.size 1 (by rfl) (by rfl) (by unfold maxLen; omega) (by omega) hbs ?_); intro v' w5 hown5 hb5)
        have HP5 := Lib.hid (PartsAt.snoc vs ls HPs.out.1 HPs.out.2.1 HPs.out.2.2.1 HPs.out.2.2.2 hown5 Md HMid.out Hft.out Hml.out)
        have HB5 := Lib.hid (HB.out.trans hb5)
        clear hown5 hb5
        go_wp2
        go_roundw
        case rel => exact ⟨k + 1, t, by omega, htl, by go_num, rfl, HP5.out, HB5.out⟩
        case measure => simp [intOf]; omega
      · have hfn : (f : Int) ≤ (len0 : Int) := by omega
        have hsin := HSb.out.since 1 f byC_len (by omega) (by rw [HLb.out]; exact hf)
        have Hft := Lib.hid (show L.take f ++ L.drop f = L.take len0 from by rw [List.take_append_drop, List.take_of_length_le (by rw [HLb.out]; omega)])
        have Hml := Lib.hid (show (L.drop f).length ≤ 1000 from by have := HLb.out; simp; omega)
        have HMid := Lib.hid hsin
        obtain ⟨AU, cU, hU, -⟩ := hsin
        generalize L.drop f = Md at *
        have hU' : slFrom 1 (.slice a0 len0 cap0) ((f : Int).toNat) = .slice AU Md.length cU := by rw [Int.toNat_natCast]; exact hU
        rw [hU] at HMid
        obtain ⟨tk, htk⟩ : ∃ tk, Md.length = tk := ⟨_, rfl⟩
        rw [htk] at HMid hU' hU
        clear htk
        obtain ⟨vs, ls, ho, hvl, hAl, hfl, hlm⟩ := HP.out
        have HO := Lib.hid ho
        have HPs := Lib.hid (And.intro hvl (And.intro hAl (And.intro hfl hlm)))
        have hbs := HB.out.size
        clear ho hvl hAl hfl hlm HP
        have h0 := HLb.out
        have HC1 := Lib.hid (fun V v w1 hV hA => csum_any V [v] [L] w1 hV hA (by simp) (by simp; omega))
        have HCn := Lib.hid (fun V vs ls w1 hV hA => csum_any V vs ls w1 hV hA)
        have HCs := Lib.hid (fun T (hT : T.length = L.length) V v w1 hV hA => csum_any V [v] [T] w1 hV hA (by simp) (by simp; omega))
        have hX1 : sumL [L].flatten = sumL L := by simp
        rw [hX1] at HC1
        have HTurn := Lib.hid (fun (k : Nat) (hk : k < L.length) (c : Int) c0 c1 h => sum_turn HOb.out hk (c := c) c0 c1 h)
        obtain ⟨X, hX⟩ : ∃ X, sumL L = X := ⟨_, rfl⟩
        rw [hX] at HC1
        have HX := Lib.hid hX
        clear h0 hX1 hX
        go_wp2_with (at_builtin; go_must (refine append_elem (by rfl) (.tmp 50) (.tmp 54) 38 (by rfl) w.heap.size 22 i0 _ 1 24 Try.underlying38 Hi.out Hz.out.1 Hz.out.2.1 Hz.out.2.2 rfl (by omega) _ k vs HO.out [.slice AU tk cU] rfl (by simp [Value.oneCell']) (by rfl) wr.heap.size 1 (by rfl) (by rfl) (by unfold maxLen; omega) (by omega) hbs ?_); intro v' w5 hown5 hb5)
        have HP5 := Lib.hid (PartsAt.snoc vs ls HPs.out.1 HPs.out.2.1 HPs.out.2.2.1 HPs.out.2.2.2 hown5 Md HMid.out Hft.out Hml.out)
        have HB5 := Lib.hid (HB.out.trans hb5)
        obtain ⟨A5, c5, rfl, -⟩ := owned_cells hown5
        clear hown5 hb5 HPs HO HMid
        have HP1 := Lib.hid (part1 w5 _ L 22 _ rfl (HSb.out.below HB5.out))
        go_wp2_with fail
        refine (HC1.out _ _ _ HP1.out.1 HP1.out.2).mono ?_
        rintro e w6 ⟨rfl, hw6⟩
        have hb6 : Below w5.heap.size w5 w6 := by rw [← hw6]; exact (Below.refl _ _).alloc (Nat.le_refl _) _
        clear hw6 HP1
        have HP6 := Lib.hid (HP5.out.below hb6)
        have HB6 := Lib.hid (nextW HB5.out hb6)
        clear hb6 HP5
        go_wp2_with fail
        refine (HA.out _).mono ?_
        rintro e w7 ⟨rfl, hb7⟩
        have HP7 := Lib.hid (HP6.out.below hb7)
        have HB7 := Lib.hid (nextW HB6.out hb7)
        clear hb7 HP6
        go_wp2_with fail
        obtain ⟨vs7, ls7, ho7, hv7, ha7, hf7, hl7⟩ := HP7.out
        have hs7 : sumL ls7.flatten = X := by rw [hf7, List.take_of_length_le (by rw [HLb.out]; omega)]; exact HX.out
        have hq := HCn.out _ vs7 ls7 w7 (row_one ho7 hv7) (ha7.below HB7.out) (by omega) (fun l hl => Nat.le_trans (hl7 l hl) (by omega))
        rw [hs7] at hq
        clear ho7 hv7 ha7 hf7 hl7 hs7
        refine hq.mono ?_
        rintro e w7' ⟨rfl, rfl⟩
        clear hq
        have h0 := HLb.out
        by_cases hz : len0 = 0 ∨ a3 = 0
        · rcases Nat.eq_zero_or_pos len0 with hl0 | hl0
          · subst hl0
            go_wp2
            go_ret
            exact ⟨rfl, HB7.out⟩
          · obtain rfl : a3 = 0 := by omega
            have hl0' : ((len0 : Int) == 0) = false := by rw [beq_eq_false_iff_ne]; omega
            go_wp2
            go_ret
            exact ⟨rfl, HB7.out⟩
        · have hl0' : ((len0 : Int) == 0) = false := by rw [beq_eq_false_iff_ne]; omega
          have hb0' : (a3 == 0) = false := by rw [beq_eq_false_iff_ne]; omega
          have hl0 : ¬ len0 = 0 := by omega
          have hl0'' : ¬ ((len0 : Int) = 0) := by omega
          have ha0 : ¬ a3 = 0 := by omega
          have hw1 : IntKind.u64.wrap (len0 : Int) = (len0 : Int) := by rw [IntKind.wrap_u64]; omega
          obtain ⟨j, hjM, hj⟩ := uplace a2 len0 (by omega) (by omega)
          obtain ⟨zj, hzj⟩ := getE L j len0 h0 hjM
          have hzb := HOb.out zj (List.mem_of_getElem? hzj)
          obtain ⟨hy0, hy1, hyi⟩ := xor8 hzb.1 hzb.2 hby.1 hby.2
          have hne : sumL (L.set j (bits .xor .u8 zj a3)) ≠ X := fun h => by
            have := HTurn.out j (by omega) _ hy0 hy1 (h.trans HX.out.symm)
            obtain ⟨hjl, hje⟩ := List.getElem?_eq_some_iff.1 hzj
            rw [hje] at this
            exact ha0 (hyi.1 this)
          have HNe := Lib.hid hne
          have Hzj := Lib.hid hzj
          have HSl := Lib.hid (show (L.set j (bits .xor .u8 zj a3)).length = L.length from List.length_set)
          clear hz hzb hyi hne hzj h0
          go_wp2_with (at_builtin; go_must (refine appL_by (by rfl) (.const (.slice none 0 0)) (.tmp 74) (by rfl) w7.heap.size _ [] (by rfl) (ownB.nil _ _) _ L (by rfl) (HSb.out.below HB7.out) (by rw [HLb.out]; simp; omega) (Nat.le_refl _) ?_))
          intro v8 w8 ho8 hb8 _
          have ho8' : ownB w7.heap.size w8 v8 L := by simpa using ho8
          clear ho8
          obtain ⟨g8, c8, rfl, hg8⟩ := own_blk ho8' (by rw [HLb.out]; omega)
          rw [HLb.out] at ho8' ⊢
          obtain ⟨⟨u8, hc8⟩, hf8⟩ := ho8'.at j hjM
          obtain ⟨b8, o8, hA8, hc8'⟩ := ho8'.sl.by Hzj.out
          cases hA8
          rw [Nat.zero_add] at hc8'
          have HY8 := Lib.hid (ho8'.set j (bits .xor .u8 zj a3))
          have HB8 := Lib.hid (nextW HB7.out hb8)
          have HBs := Lib.hid (show Below w.heap.size w (w8.setCell ⟨g8, j, none⟩ (.int .u8 (bits .xor .u8 zj a3))) from HB8.out.setCell (Nat.le_trans HB7.out.size hg8) _)
          clear ho8' hb8 hc8
          go_upto_region 19 with fail
          generalize hW9 : w8.setCell ⟨g8, j, none⟩ (.int .u8 (bits .xor .u8 zj a3)) = w9 at *
          have HP9 := Lib.hid (part1 w9 _ _ 22 _ rfl HY8.out.sl)
          go_wp2_with fail
          refine (HCs.out (L.set j (bits .xor .u8 zj a3)) HSl.out _ _ _ HP9.out.1 HP9.out.2).mono ?_
          rw [show [L.set j (bits .xor .u8 zj a3)].flatten = L.set j (bits .xor .u8 zj a3) by simp]
          rintro e wz ⟨rfl, hwz⟩
          have hbz : Below w.heap.size w wz := by rw [← hwz]; exact HBs.out.alloc HBs.out.size _
          clear hwz HP9
          have hne := HNe.out
          have hne' : (sumL (L.set j (bits .xor .u8 zj a3)) != X) = true := by simpa using hne
          generalize sumL (L.set j (bits .xor .u8 zj a3)) = Y at *
          go_wp2
          go_ret
          exact ⟨ret_bool (by simp [hne]), hbz⟩
  · have hcase : (¬ len0 ≤ 500) ∨ (len0 ≤ 500 ∧ ¬ len1 ≤ 20) := by omega
    clear hbig
    rcases hcase with h | ⟨h, h'⟩
    all_goals
      go_enter Try.func5, Try.ntmps5
      go_wp2_with fail
      refine (HA.out _).mono ?_
      rintro e w1 ⟨rfl, hb⟩
      go_wp2
      go_ret
      exact ⟨rfl, hb⟩

set_option maxRecDepth 100000 in
theorem lifted (os : Os) (started : os.Started) (H : Type) (enc : TypeId × Value → H) :
    ReturnsInHanded {} Try.checked os 5 .any (Rows.checkPartsSpec.pre6 enc Try.prog Try.f5 Rows.checkPartsRow.domain false) (Rows.checkPartsSpec.post enc Try.prog Try.f5 false true false false) := by
  refine returnsInHanded_of_change (C := Try.checked) own started (by kernel_rfl) Try.func5
    (ChangeSpec.witness6 (enc := enc) (C := Try.checked) false ⟨#[], #[.slice none 0 0, .slice none 0 0, .int .i64 0, .int .u8 0], []⟩ 8 (by kernel_rfl) (by kernel_rfl) (by kernel_rfl) (by kernel_rfl)) ?_
  intro W base args ds gs before hval0 hW hcnd _
  have hval : ∀ (j : Nat) t v, Try.f5.params[j]? = some t → args[j]? = some v → Value.okWide Try.prog W .any base t v := hval0
  have hW' := hW
  obtain ⟨p, q, hA0, hV, rfl, hfz, hnd⟩ := hW
  have hA : DataW.TrodAll enc Try.prog W 0 (fun _ => true) true Try.f5.params.toList args.toList ds p := hA0
  rw [Try.params5] at hA hval
  obtain ⟨v0, vs0, d0, ds0, p0, q0, hargs, rfl, rfl, h0, r0⟩ := trodAll_cons hA
  obtain ⟨v1, vs1, d1, ds1, p1, q1, rfl, rfl, rfl, h1, r1⟩ := trodAll_cons r0
  obtain ⟨v2, vs2, d2, ds2, p2, q2, rfl, rfl, rfl, h2, r2⟩ := trodAll_cons r1
  obtain ⟨v3, vs3, d3, ds3, p3, q3, rfl, rfl, rfl, h3, r3⟩ := trodAll_cons r2
  obtain ⟨rfl, rfl, rfl⟩ := trodAll_nil r3
  obtain rfl : args = #[v0, v1, v2, v3] := by cases args; simp_all
  obtain ⟨rfl, rfl⟩ := trodVars_none hV
  obtain ⟨a0, len0, cap0, rfl⟩ := okWide_slice Try.underlying22 (hval 0 22 v0 rfl rfl)
  have k0 := h0
  have lt0 : ∀ x ∈ p0, x.block < W.heap.size := by obtain ⟨m, hm⟩ := k0; exact DataW.trod_lt m _ _ _ hm
  obtain ⟨z0, w0⟩ : ∃ zs, IsRow .u8 W a0 len0 cap0 zs := by
    obtain ⟨fuel, hf⟩ := h0
    rcases open_ints Try.underlying22 Try.underlying5 (by kernel_rfl) hf with ⟨hcs, _⟩ | ⟨x, l, c, zs, hcs, _, hl, hm, hz, _, hcell, hwz⟩
    · simp [Value.cells] at hcs
      obtain ⟨rfl, rfl, rfl⟩ := hcs
      exact ⟨[], .inl ⟨rfl, rfl, rfl, rfl⟩⟩
    · simp [Value.cells] at hcs
      obtain ⟨rfl, rfl, rfl⟩ := hcs
      exact ⟨zs, .inr ⟨_, rfl, hl, hm, by simpa using hz, hcell, hwz⟩⟩
  obtain ⟨a1, len1, cap1, rfl⟩ := okWide_slice Try.underlying37 (hval 1 37 v1 rfl rfl)
  have k1 := h1
  have lt1 : ∀ x ∈ p1, x.block < W.heap.size := by obtain ⟨m, hm⟩ := k1; exact DataW.trod_lt m _ _ _ hm
  obtain ⟨z1, w1⟩ : ∃ zs, IsRow .i64 W a1 len1 cap1 zs := by
    obtain ⟨fuel, hf⟩ := h1
    rcases open_ints Try.underlying37 Try.underlying3 (by kernel_rfl) hf with ⟨hcs, _⟩ | ⟨x, l, c, zs, hcs, _, hl, hm, hz, _, hcell, hwz⟩
    · simp [Value.cells] at hcs
      obtain ⟨rfl, rfl, rfl⟩ := hcs
      exact ⟨[], .inl ⟨rfl, rfl, rfl, rfl⟩⟩
    · simp [Value.cells] at hcs
      obtain ⟨rfl, rfl, rfl⟩ := hcs
      exact ⟨zs, .inr ⟨_, rfl, hl, hm, by simpa using hz, hcell, hwz⟩⟩
  obtain ⟨a2, rfl, rfl, rfl, w2⟩ := open_int Try.underlying3 (hval 2 3 v2 rfl rfl) h2
  obtain ⟨a3, rfl, rfl, rfl, w3⟩ := open_int Try.underlying5 (hval 3 5 v3 rfl rfl) h3
  clear hA0 hval0
  refine (walk a0 len0 cap0 z0 a1 len1 cap1 z1 a2 a3 W w0 w1 w2 w3).mono fun e W' ⟨he, bel⟩ => ?_
  subst he
  exact ⟨_, rfl, _, _, _, [], _, [], hW', trodAll_mk1 (shut_bool Try.underlying4 _), (trodAll_cons_mk (Below.trod laidOut (by kernel_rfl) (of_decide_eq_true (by kernel_rfl)) k0 bel lt0) (trodAll_cons_mk (Below.trod laidOut (by kernel_rfl) (of_decide_eq_true (by kernel_rfl)) k1 bel lt1) (trodAll_cons_mk (shut_int Try.underlying3 w2) (trodAll_cons_mk (shut_int Try.underlying5 w3) trodAll_mk0)))), rfl, bel.frame _, fun h => by cases h⟩

theorem over : Rows.checkPartsRow.holds Try.pinned (OpenSpec.ofChange Rows.checkPartsSpec) :=
  OpenClaim.holds_of_wide 5 Try.f5 rfl rfl rfl rfl rfl rfl rfl ⟨rfl, rfl, rfl, rfl, rfl⟩ rfl rfl rfl rfl rfl (by kernel_rfl) Try.func5 (by kernel_rfl)
    (of_decide_eq_true (by kernel_rfl)) (by unfold Func.isWrapper; first | (rw [if_pos (by decide +kernel)]; kernel_rfl) | (rw [if_neg (by decide +kernel)]; exact ⟨rfl, rfl⟩))
    (fun os started H enc _ => lifted os started H enc)

end Go.Proofs.Ythmdnemibdmhgaa.checkParts
namespace Go.Proofs.Ythmdnemibdmhgaa
theorem checkParts_proved : Rows.CheckPartsSaid := checkParts.over
end Go.Proofs.Ythmdnemibdmhgaa
