/- Slices of bytes: append, v[:k] and v[k:], slices.Grow, slices.Concat, slices.Reverse over slices of bytes. -/
import Derived.Test.YtlpkaljepaclpaaGreatM02
import Derived.Test.YtlpkaljepaclpaaGreatM12
import Derived.Lib.AppendZerosOnto
import Derived.Shelf.RegionOpenPlain
namespace Go.Proofs.YtlpkaljepaclpaaGreat.Fx
open Go.ChangeShapes Go.WideShapes Go.ChangeAt Go.RowKit
set_option linter.unusedVariables false
set_option maxRecDepth 100000

theorem byC_len (x : Int) : (byC x).length = 1 := rfl

theorem byC_length (es : List Int) : (es.flatMap byC).length = es.length * 1 := flat_len byC 1 byC_len es

theorem byC_flat (es : List Int) : ∀ u ∈ es.flatMap byC, u.oneCell' = true := by
  intro u hu
  obtain ⟨e, -, he⟩ := List.mem_flatMap.1 hu
  simp [byC] at he
  subst he
  rfl

theorem ownB.flat {base : Nat} {w : World} {v : Value} {l : List Int} (h : ownB base w v l) : w.ownsRow base 5 1 v l.length (l.flatMap byC) := by rw [byC_map]; exact h

theorem IsSl.by {w : World} {A : Option Addr} {n c : Nat} {es : List Int} (h : IsSl byC w (.slice A n c) es) {k : Nat} {x : Int} (hk : es[k]? = some x) : ∃ b off, A = some ⟨b, off, none⟩ ∧ w.cell? ⟨b, off + k, none⟩ = some (.int .u8 x) := by
  obtain ⟨b, off, hA, hc⟩ := h.at.elem 1 byC_len (by omega) hk
  exact ⟨b, off, hA, by have := hc 0 _ rfl; simpa using this⟩

/-- 'append' of bytes to a row of the call's own. -/
theorem app_by {w : World} {o : Oper} {a : Act} {K : Act → World → Prop} {Q : Exit → Act → World → Prop} (s x : Operand)
    (ho : o.op = .call { callee := .builtin .append, args := #[s, x], argTypes := #[64, 64] }) (base : Nat) (v : Value) (es : List Int) (hs : a.eval s = v) (hown : ownB base w v es)
    (u : Value) (fs : List Int) (hx : a.eval x = u) (hu : IsSl byC w u fs) (hlen : es.length + fs.length ≤ 1000000000) (hbase : base ≤ w.heap.size)
    (h : ∀ v' w', ownB base w' v' (es ++ fs) → Below base w w' → w.grownBy w' v.ownBlock → K (a.put o.dst v') w') : o.wp Tryz.prog a w K Q := by
  obtain ⟨i0, hi, hz0, hz1, hz2⟩ := info_parts info_u8
  obtain ⟨A, c, rfl, hA, hc, hat⟩ := hu
  exact wp_app s x 64 ho base 5 i0 _ 1 1 Tryz.underlying64 hi hz0 hz1 hz2 rfl (by omega) v es.length _ hs hown.flat A fs.length c (fs.flatMap byC) hx (byC_length fs) hA hat.cells (byC_flat fs) (by unfold maxLen; omega) (by omega) hbase
    fun v' w' h1 h2 h3 => h v' w' (by unfold ownB; rw [List.length_append, ← byC_map, List.flatMap_append]; exact h1) h2 h3

theorem appL_by {w : World} {ops : Array Oper} {rest : List Oper} {o : Oper} {a : Act} {Q : Exit → Act → World → Prop} (hgd : o.guard = none) (s x : Operand)
    (ho : o.op = .call { callee := .builtin .append, args := #[s, x], argTypes := #[64, 64] }) (base : Nat) (v : Value) (es : List Int) (hs : a.eval s = v) (hown : ownB base w v es)
    (u : Value) (fs : List Int) (hx : a.eval x = u) (hu : IsSl byC w u fs) (hlen : es.length + fs.length ≤ 1000000000) (hbase : base ≤ w.heap.size)
    (h : ∀ v' w', ownB base w' v' (es ++ fs) → Below base w w' → w.grownBy w' v.ownBlock → wpList Tryz.prog ops Q rest (a.put o.dst v') w') : wpList Tryz.prog ops Q (o :: rest) a w :=
  wpList_plain hgd fun _ hK => app_by s x ho base v es hs hown u fs hx hu hlen hbase fun v' w' h1 h2 h3 => hK _ _ (h v' w' h1 h2 h3)

/-- Bytes that were built in a new block. -/
theorem new_by (w : World) (l : List Int) (g c : Nat) (hg : g = w.heap.size) (hc : l.length ≤ c) : IsSl byC (w.alloc (.cells (l.map (Value.int .u8)).toArray 5)) (.slice (some ⟨g, 0, none⟩) l.length c) l := by
  subst hg
  refine ⟨_, _, rfl, fun h => (by cases h), hc, fun _ => ⟨_, _, rfl, fun i v hv => ?_⟩⟩
  rw [Nat.zero_add, World.cell?_alloc_new]
  rw [byC_map] at hv
  simpa using hv

@[go_sem high] theorem slTo_by (A : Option Addr) (n c : Nat) (h : Int) (h0 : 0 ≤ h) (h2 : h ≤ c) (w : World) : (Instr.slice 64 (.slice A n c) none (some (.int .i64 h)) none).run Tryz.prog w = .ok (slTo 1 (.slice A n c) h.toNat) w := by
  rw [run_slice_h _ _ _ _ _ (by kernel_rfl) _ _ h0 h2]
  rw [show Tryz.prog.elem 64 = 5 by kernel_rfl, Tryz.sizeOf5]
  rfl

@[go_sem high] theorem slFrom_by (A : Option Addr) (n c : Nat) (h : Int) (h0 : 0 ≤ h) (h2 : h ≤ n) (w : World) : (Instr.slice 64 (.slice A n c) (some (.int .i64 h)) none none).run Tryz.prog w = .ok (slFrom 1 (.slice A n c) h.toNat) w := by
  rw [run_slice_l _ _ _ _ _ (by kernel_rfl) _ _ h0 h2]
  rw [show Tryz.prog.elem 64 = 5 by kernel_rfl, Tryz.sizeOf5]
  rfl

/-- Bytes that come back in memory of the call's own. -/
def RetBy (l : List Int) (w : World) (e : Ending) (w' : World) : Prop := ∃ v, e = .returned v ∧ ownB w.heap.size w' v l ∧ Below w.heap.size w w'

theorem grow_zeroB (w : World) : Calls Tryz.prog 194 #[.slice none 0 0, .int .i64 0] w fun e w' => e = .returned (.slice none 0 0) ∧ w = w' := by
  go_enter Tryz.func194, Tryz.ntmps194
  go_wp2
  go_ret
  exact ⟨rfl, rfl⟩

set_option maxHeartbeats 1000000 in
theorem grow_someB (n : Nat) (h0 : 0 < n) (hn : n ≤ 1000000) (w : World) : Calls Tryz.prog 194 #[.slice none 0 0, .int .i64 n] w (RetBy [] w) := by
  obtain ⟨i0, hi0, hz0, hz1, hz2⟩ := info_parts info_u8
  have hzl : ∀ k, (Builtin.zeroCells (Value.cells (.int .u8 0)) k).size = k * 1 := fun k => by rw [zeroCells_size]; rfl
  have hGe := grownCap_ge w n 0 5
  have hGm := grownCap_le_maxLen w n 0 5 (by unfold maxLen; omega)
  have hrun := fun ty => Lib.run_append_grow_zeros w 64 3 ty 5 i0 _ .i64 .i64 Tryz.underlying64 Tryz.underlying3 hi0 hz0 none 0 0 [] (run_firstCells_none _ _ _ _ _) n h0 (by omega) (by omega) (by omega) (by rw [hz2]; omega) (by rw [hz2, Nat.zero_add]; exact growslice_fits (by omega) (by omega))
  simp only [Nat.zero_add] at hrun
  have hown : (w.drew.alloc (.cells ([].toArray ++ Builtin.zeroCells (Value.cells (.int .u8 0)) n ++ Builtin.zeroCells (Value.cells (.int .u8 0)) (grownCap w n 0 5 - n)) 5)).ownsRow w.heap.size 5 1 (.slice (some ⟨w.heap.size, 0, none⟩) 0 (grownCap w n 0 5)) 0 [] := by
    refine own_new w.drew [] _ (Nat.le_refl _) rfl (Nat.zero_le _) hGm ?_ (by simp)
    rw [Array.size_append, Array.size_append, hzl, hzl]; simp; omega
  have Hrun := Lib.hid hrun
  have HO := Lib.hid hown
  have hnz : (0 : Int) < (n : Int) := by omega
  have hs0 : slTo 1 (.slice none 0 0) 0 = .slice none 0 0 := rfl
  clear hi0 hz0 hz1 hz2 hzl hrun hown
  generalize grownCap w n 0 5 = G at *
  generalize hW : w.drew.alloc _ = W1 at Hrun HO
  have HW := Lib.hid (show Below w.heap.size w W1 from by rw [← hW]; exact (Below.refl _ _).drew.alloc (Nat.le_refl _) _)
  clear hW
  go_enter Tryz.func194, Tryz.ntmps194
  go_wp2_with (at_builtin; go_must (refine Lib.wpList_append_run _ (by rfl) _ _ _ _ (by rfl) _ _ (by rfl) (by rfl) _ _ (Hrun.out _) ?_))
  go_ret
  exact ⟨_, rfl, HO.out, HW.out⟩

theorem grow_by (n : Nat) (hn : n ≤ 1000000) (w : World) : Calls Tryz.prog 194 #[.slice none 0 0, .int .i64 n] w (RetBy [] w) := by
  rcases Nat.eq_zero_or_pos n with h0 | h0
  · subst h0
    exact (grow_zeroB w).mono fun e w' ⟨he, hw⟩ => ⟨_, he, by rw [← hw]; exact ownB.nil _ _, by rw [← hw]; exact Below.refl _ _⟩
  · exact grow_someB n h0 hn w

def oneB (v : Value) : List Value := [v]

theorem flat_oneB (vs : List Value) : vs.flatMap oneB = vs := by
  induction vs with
  | nil => rfl
  | cons v vs ih => rw [List.flatMap_cons, ih]; rfl

/-- Values that read as bytes. -/
def AllBy (w : World) (vs : List Value) (ls : List (List Int)) : Prop := vs.length = ls.length ∧ ∀ (i : Nat) v l, vs[i]? = some v → ls[i]? = some l → IsSl byC w v l

theorem AllBy.below {w w' : World} {vs : List Value} {ls : List (List Int)} (h : AllBy w vs ls) (hb : Below w.heap.size w w') : AllBy w' vs ls := ⟨h.1, fun i v l h1 h2 => (h.2 i v l h1 h2).below hb⟩

set_option maxHeartbeats 1000000 in
theorem concat_by (V : Value) (vs : List Value) (ls : List (List Int)) (w : World) (hV : IsSl oneB w V vs) (hA : AllBy w vs ls) (hk : vs.length ≤ 1000000) (hn : ls.flatten.length ≤ 1000000) :
    Calls Tryz.prog 131 #[V] w (RetBy ls.flatten w) := by
  obtain ⟨A, c, rfl, -, -, hat⟩ := hV
  rw [flat_oneB] at hat
  have hlen := hA.1
  have HTk := Lib.hid (show ∀ k, (ls.take k).flatten.length ≤ ls.flatten.length from fun k => by
    have e : ls.flatten = (ls.take k).flatten ++ (ls.drop k).flatten := by rw [← List.flatten_append, List.take_append_drop]
    rw [e, List.length_append]; omega)
  obtain ⟨N, hN⟩ : ∃ N, vs.length = N := ⟨_, rfl⟩
  rw [hN] at hk hlen ⊢
  have HN := Lib.hid hN
  have HLen := Lib.hid hlen
  have Hat := Lib.hid hat
  have HA := Lib.hid hA
  have Hn := Lib.hid hn
  have HG := Lib.hid grow_by
  clear hat hA hN hlen hn
  go_enter Tryz.func131, Tryz.ntmps131
  go_wp2
  go_loop [3, 11] (fun s3 s11 => ∃ k : Nat, k ≤ N ∧ s11 = .int .i64 k ∧ s3 = .int .i64 ((ls.take k).flatten.length : Nat)) (fun _ i => N - (intOf i).toNat)
  case atStart => exact ⟨0, Nat.zero_le _, rfl, by simp⟩
  case round =>
    obtain ⟨k, hk', rfl, rfl⟩ := hrel
    by_cases hlt : k < N
    · obtain ⟨v, hv⟩ := getE vs k N HN.out hlt
      obtain ⟨l, hl⟩ := getE ls k N HLen.out.symm hlt
      obtain ⟨A', c', rfl, -, -, -⟩ := HA.out.2 k v l hv hl
      obtain ⟨b, off, rfl, hc⟩ := Hat.out (fun h => by rw [h] at hv; simp at hv)
      have hck := hc k _ hv
      have hT : (ls.take (k + 1)).flatten.length = (ls.take k).flatten.length + l.length := by rw [take_at hl, List.flatten_append]; simp
      have h1 := HTk.out k
      have h2 := HTk.out (k + 1)
      have h3 := Hn.out
      rw [hT] at h2
      have HT := Lib.hid hT
      clear hc hv hl hT
      generalize (ls.take k).flatten.length = s at *
      generalize l.length = m at *
      generalize ls.flatten.length = q at *
      have hneg : ¬ ((s : Int) + (m : Int) < 0) := by omega
      go_wp2
      go_round
      case rel => exact ⟨k + 1, by omega, by go_num, by rw [HT.out]; go_num⟩
      case measure => simp [intOf]; omega
    · obtain rfl : k = N := by omega
      have hall : ls.take k = ls := List.take_of_length_le (by have := HLen.out; omega)
      rw [hall]
      have h3 := Hn.out
      clear hlt hk' hall
      generalize ls.flatten.length = q at h3 ⊢
      go_wp2_with fail
      refine (HG.out q (by omega) _).mono ?_
      rintro e w1 ⟨v1, rfl, ho, hb⟩
      have HO := Lib.hid ho
      have HB := Lib.hid hb
      clear ho hb
      go_wp2
      go_loopw [6, 27] (fun s6 s27 wr => ∃ j : Nat, j ≤ k ∧ s27 = .int .i64 j ∧ ownB w.heap.size wr s6 (ls.take j).flatten ∧ Below w.heap.size w wr) (fun _ i _ => k - (intOf i).toNat)
      case atStart => exact ⟨0, Nat.zero_le _, rfl, by simpa using HO.out, HB.out⟩
      case round =>
        clear HO HB
        obtain ⟨j, hj, rfl, ho, hb⟩ := hrel
        have HO := Lib.hid ho
        have HB := Lib.hid hb
        clear ho hb
        by_cases hlt : j < k
        · obtain ⟨v, hv⟩ := getE vs j k HN.out hlt
          obtain ⟨l, hl⟩ := getE ls j k HLen.out.symm hlt
          have HV := Lib.hid ((HA.out.2 j v l hv hl).below HB.out)
          obtain ⟨b, off, rfl, hc⟩ := Hat.out (fun h => by rw [h] at hv; simp at hv)
          have hck : wr.cell? ⟨b, off + j, none⟩ = some v := (HB.out.cell (p := ⟨b, off + j, none⟩) (World.block_lt_of_cell? _ _ (hc j _ hv))).trans (hc j _ hv)
          have HT := Lib.hid (show (ls.take (j + 1)).flatten = (ls.take j).flatten ++ l from by rw [take_at hl, List.flatten_append]; simp)
          have h1 := HTk.out (j + 1)
          rw [HT.out, List.length_append] at h1
          have h4 := Hn.out
          have hcell := hck
          obtain ⟨A', c', hv', -, -, -⟩ := HV.out
          have HVe := Lib.hid hv'
          clear hc hv hl hv'
          go_wp2_with (at_builtin; go_must (refine appL_by (by rfl) (.tmp 31) (.tmp 32) (by rfl) w.heap.size _ (ls.take j).flatten (by rfl) HO.out v l (by rfl) HV.out (by omega) HB.out.size ?_))
          intro v' w5 ho5 hb5 _
          have HO5 := Lib.hid (show ownB w.heap.size w5 v' (ls.take (j + 1)).flatten from by rw [HT.out]; exact ho5)
          have HB5 := Lib.hid (HB.out.trans hb5)
          clear ho5 hb5
          go_wp2
          go_roundw
          case rel => exact ⟨j + 1, by omega, by go_num, HO5.out, HB5.out⟩
          case measure => simp [intOf]; omega
        · obtain rfl : j = k := by omega
          have hall : ls.take j = ls := List.take_of_length_le (by have := HLen.out; omega)
          rw [hall] at HO
          go_wp2
          go_ret
          exact ⟨_, rfl, HO.out, HB.out⟩

/-- slices.Reverse over a row of the call's own, of slices of bytes. -/
theorem rev_by (base : Nat) (V : Value) (vs : List Value) (w : World) (hown : w.ownsRow base 64 1 V vs.length vs) (hn : vs.length ≤ 1000000) (hs : ∀ v ∈ vs, ∃ A n c, v = .slice A n c) :
    Calls Tryz.prog 130 #[V] w fun e w' => e = .returned (.tuple #[]) ∧ w'.ownsRow base 64 1 V vs.length vs.reverse ∧ Below base w w' := by
  obtain ⟨N, hN⟩ : ∃ N, vs.length = N := ⟨_, rfl⟩
  rw [hN] at hn hown ⊢
  have HN := Lib.hid hN
  have HS := Lib.hid hs
  have hlen := hown.1
  rcases Nat.eq_zero_or_pos N with h0 | h0
  · subst h0
    obtain rfl : vs = [] := List.eq_nil_of_length_eq_zero hN
    rcases hown.2 with ⟨rfl, -⟩ | ⟨g, cap, cur, rfl, -⟩
    · have HO := Lib.hid hown
      clear hown
      go_enter Tryz.func130, Tryz.ntmps130
      go_wp2
      go_loop [2, 3] (fun s2 s3 => s2 = .int .i64 0 ∧ s3 = .int .i64 (-1)) (fun _ _ => 0)
      case atStart => exact ⟨rfl, rfl⟩
      case round =>
        obtain ⟨rfl, rfl⟩ := hrel
        go_wp2
        go_end0
        exact ⟨rfl, HO.out, Below.refl _ _⟩
    · have HO := Lib.hid hown
      clear hown
      go_enter Tryz.func130, Tryz.ntmps130
      go_wp2
      go_loop [2, 3] (fun s2 s3 => s2 = .int .i64 0 ∧ s3 = .int .i64 (-1)) (fun _ _ => 0)
      case atStart => exact ⟨rfl, rfl⟩
      case round =>
        obtain ⟨rfl, rfl⟩ := hrel
        go_wp2
        go_end0
        exact ⟨rfl, HO.out, Below.refl _ _⟩
  · obtain ⟨g, cap, hVe, hgb⟩ : ∃ g cap, V = .slice (some ⟨g, 0, none⟩) N cap ∧ base ≤ g := by
      rcases hown.2 with ⟨rfl, h⟩ | ⟨g, cap, cur, hv, hb, -⟩
      · omega
      · exact ⟨g, cap, hv, hb⟩
    subst hVe
    have HO := Lib.hid hown
    clear hown hs hN
    go_enter Tryz.func130, Tryz.ntmps130
    go_wp2
    go_loopw [2, 3] (fun s2 s3 wr => ∃ (k : Nat) (xs : List Value), 2 * k ≤ N + 1 ∧ s2 = .int .i64 k ∧ s3 = .int .i64 ((N : Int) - 1 - k) ∧ wr.ownsRow base 64 1 (.slice (some ⟨g, 0, none⟩) N cap) N xs ∧ Below base w wr ∧ (∀ m, m < N → xs[m]? = if m < k ∨ N - k ≤ m then vs[N - 1 - m]? else vs[m]?)) (fun i _ _ => N - (intOf i).toNat)
    case atStart => exact ⟨0, vs, by omega, rfl, by simp, HO.out, Below.refl _ _, fun m hm => by rw [if_neg (by omega)]⟩
    case round =>
      obtain ⟨k, xs, hk, rfl, rfl, ho, hb, hx⟩ := hrel
      have HOr := Lib.hid ho
      have HB := Lib.hid hb
      have HX := Lib.hid hx
      clear ho hb hx
      by_cases hlt : (k : Int) < (N : Int) - 1 - k
      · obtain ⟨j, hj⟩ : ∃ j : Nat, (N : Int) - 1 - k = j := ⟨N - 1 - k, by omega⟩
        have hjN : j < N := by omega
        have hxk : xs[k]? = vs[k]? := by rw [HX.out k (by omega), if_neg (by omega)]
        have hxj : xs[j]? = vs[j]? := by rw [HX.out j (by omega), if_neg (by omega)]
        obtain ⟨a, ha⟩ := getE vs k N HN.out (by omega)
        obtain ⟨b, hb'⟩ := getE vs j N HN.out (by omega)
        have ca : wr.cell? ⟨g, k, none⟩ = some a := by rw [HOr.out.cellAt k (by omega), hxk, ha]
        have cb : wr.cell? ⟨g, j, none⟩ = some b := by rw [HOr.out.cellAt j (by omega), hxj, hb']
        have fa := HOr.out.frozenAt k
        have fb := HOr.out.frozenAt j
        obtain ⟨A1, n1, c1, rfl⟩ := HS.out a (List.mem_of_getElem? ha)
        obtain ⟨A2, n2, c2, rfl⟩ := HS.out b (List.mem_of_getElem? hb')
        have Ha := Lib.hid ha
        have Hb := Lib.hid hb'
        have Hj := Lib.hid hj
        have hkj : ¬ k = j := by omega
        have hjk : ¬ j = k := by omega
        rw [hj] at hlt ⊢
        clear ha hb' hxk hxj hj
        go_wp2_with fail
        go_region
        go_wp2
        go_roundw
        case rel =>
          have h1 := (HOr.out.drew.stored k (.slice A2 n2 c2)).1
          have h2 := (h1.stored j (.slice A1 n1 c1)).1
          have hjj := Hj.out
          refine ⟨k + 1, _, by omega, by go_num, by congr 1; omega, h2, (HB.out.drew.setCell hgb _).setCell hgb _, fun m hm => ?_⟩
          have hxl : xs.length = N := by have := HOr.out.1; omega
          rw [List.getElem?_set, List.getElem?_set]
          simp only [List.length_set, hxl]
          by_cases e1 : j = m
          · subst e1
            rw [if_pos rfl, if_pos hm, if_pos (by omega), show N - 1 - j = k by omega, Ha.out]
          · rw [if_neg e1]
            by_cases e2 : k = m
            · subst e2
              rw [if_pos rfl, if_pos hm, if_pos (by omega), show N - 1 - k = j by omega, Hb.out]
            · rw [if_neg e2, HX.out m hm]
              by_cases e3 : m < k ∨ N - k ≤ m
              · rw [if_pos e3, if_pos (by omega)]
              · rw [if_neg e3, if_neg (by omega)]
        case measure => simp [intOf]; omega
      · go_wp2
        go_end0
        refine ⟨rfl, ?_, HB.out⟩
        have hxl : xs.length = N := by have := HOr.out.1; omega
        rw [show vs.reverse = xs from ?_]
        · exact HOr.out
        · refine List.ext_getElem? fun m => ?_
          by_cases hm : m < N
          · rw [HX.out m hm, List.getElem?_reverse (by rw [HN.out]; exact hm), HN.out]
            split
            · rfl
            · rw [show N - 1 - m = m by omega]
          · rw [List.getElem?_eq_none (by simp [HN.out]; omega), List.getElem?_eq_none (by omega)]

end Go.Proofs.YtlpkaljepaclpaaGreat.Fx
