/- Shots and Gems: what they return, for every list. -/
import Derived.Test.YtdhahlghldgggaaHtAll
import Derived.Deep.DeepCutAuto
namespace Go.Proofs.Ytdhahlghldgggaa.Fx
open Go.ChangeShapes Go.WideShapes Go.ChangeAt Go.RowKit
set_option linter.unusedVariables false

/-- A row of bools of one's own: a bool is written. -/
theorem own_bool {w : World} {base n g cap : Nat} {bs : List Bool} {T : TypeId} (h : w.ownsRow base T 1 (.slice (some ⟨g, 0, none⟩) n cap) n (bs.flatMap bolC)) (k : Nat) (b : Bool) :
    (w.setCell ⟨g, k, none⟩ (.bool b)).ownsRow base T 1 (.slice (some ⟨g, 0, none⟩) n cap) n ((bs.set k b).flatMap bolC) ∧ w.grownBy (w.setCell ⟨g, k, none⟩ (.bool b)) (some g) := by
  have := h.stored k (.bool b)
  rw [show (bs.flatMap bolC).set k (.bool b) = (bs.set k b).flatMap bolC from by
    have e : ∀ l : List Bool, l.flatMap bolC = l.map Value.bool := fun l => by
      induction l with
      | nil => rfl
      | cons x r ih => rw [List.flatMap_cons, ih]; rfl
    rw [e, e, List.map_set]] at this
  exact this

theorem bools_new (w : World) (T : TypeId) (n base : Nat) (hb : base ≤ w.heap.size) (hn : n ≤ 1000000) :
    (w.alloc (.cells (madeCells #[.bool false] n) T)).ownsRow base T 1 (.slice (some ⟨w.heap.size, 0, none⟩) n n) n ((List.replicate n false).flatMap bolC) := by
  have h := World.ownsRow_lit (size := 1) (e := T) w (madeCells #[.bool false] n) n hb (by unfold maxLen; omega) (by simp [madeCells])
  rw [toList_madeCells_one] at h
  rw [show (List.replicate n false).flatMap bolC = List.replicate n (.bool false) from by
    induction n with
    | zero => rfl
    | succ n ih => rw [List.replicate_succ, List.flatMap_cons, List.replicate_succ, ih (by omega) (World.ownsRow_lit (size := 1) (e := T) w (madeCells #[.bool false] n) n hb (by unfold maxLen; omega) (by simp [madeCells]) |> fun h => by rwa [toList_madeCells_one] at h)]; rfl]
  exact h

theorem info_bool : (Try.prog.info? 4).map (fun i => (i.zero, i.size, i.bytes)) = some (some (.bool false), 1, 1) := by kernel_rfl

set_option maxHeartbeats 2000000 in
theorem spend_any {F G : Nat} {m : Ent → Ent → Bool} {f : Int → Int} (K r : Int) (HA : Asks F m) (HT : Turns G f) (hm : ∀ t e, t.kind = K → m t e = hitB r t e) (v : Value) (l : List Ent) (w : World) (hv : IsSl entC w v l) (hn : l.length ≤ 1000) :
    Calls Try.prog 19 #[v, .int .i64 K, .func (.func F) #[] #[], .func (.func G) #[] #[]] w fun z w' => ∃ v', z = .returned v' ∧ w'.ownsRow w.heap.size 28 9 v' (touchL K r f l).length ((touchL K r f l).flatMap entC) ∧ Below w.heap.size w w' := by
  have HV := Lib.hid (fun w1 (hb : Below w.heap.size w w1) => hv.below hb)
  obtain ⟨n, hnn⟩ : ∃ n, l.length = n := ⟨_, rfl⟩
  have Hn := Lib.hid hnn
  rw [hnn] at hn
  have HI := Lib.hid (fun t v l g b w hv hn hg hb => idxf_any HA t v l g b w hv hn hg hb)
  have HG := Lib.hid (fun h w => HT.2 h w)
  have eG : ∀ args w, (callFunc G args).run Try.prog w = .ok (.enter G args) w := HT.1
  have HM := Lib.hid hm
  have HC := Lib.hid (fun w hv => clone_Ent v l w hv (by omega))
  have HW := Lib.hid (fun v u s w => without_any v u (touch K r f (l.take n) l) s w)
  have hmk := fun w => run_make_row' 47 4 (.bool false) 1 Try.underlying47 info_bool rfl .i64 .i64 n (by omega) (by omega) w
  have Hmk := Lib.hid hmk
  clear hv HA HT hm hnn
  go_enter Try.func19, Try.ntmps19
  go_wp2_with fail
  refine (HC.out _ (HV.out _ ((Below.refl _ _).alloc (Nat.le_refl _) _))).mono ?_
  rintro e w1 ⟨va, rfl, hown, hb1⟩
  obtain ⟨A, c, rfl, -⟩ := owned_cells hown
  rw [Hn.out] at hown ⊢
  have Hown := Lib.hid hown
  have Hb1 := Lib.hid hb1
  clear hown hb1 hmk
  go_upto_region 3 with (simp only [Hmk.out])
  have Ho0 := Lib.hid (show (w1.alloc (.cells (madeCells #[.bool false] n) 4)).ownsRow (w.heap.size + 1) 28 9 (.slice A n c) n ((touch K r f (l.take 0) l).flatMap entC) from by
    rw [List.take_zero]; exact (by simpa using Hown.out : w1.ownsRow (w.heap.size + 1) 28 9 (.slice A n c) n (l.flatMap entC)).alloc _)
  have Hs0 := Lib.hid (show (w1.alloc (.cells (madeCells #[.bool false] n) 4)).ownsRow (w.heap.size + 1) 4 1 (.slice (some ⟨w1.heap.size, 0, none⟩) n n) n ((spn K r l 0).flatMap bolC) from by
    rw [spn_zero, Hn.out]; exact bools_new w1 4 n (w.heap.size + 1) (by have := Hb1.out.size; simpa using this) (by omega))
  have Hc0 := Lib.hid (show (w1.alloc (.cells (madeCells #[.bool false] n) 4)).cell? ⟨w.heap.size, 0, none⟩ = some (.func (.func F) #[] #[]) from by
    rw [World.cell?_alloc_lt _ _ _ (by have := Hb1.out.size; simp at this; simp; omega), Hb1.out.cell (p := ⟨w.heap.size, 0, none⟩) (by simp)]; simp)
  have Hbel0 := Lib.hid (show Below w.heap.size w (w1.alloc (.cells (madeCells #[.bool false] n) 4)) from (unbox Hb1.out).alloc (unbox Hb1.out).size _)
  have Hlt := Lib.hid (show ∀ k, (Value.slice A n c).ownBlock = some k → k < w1.heap.size from fun k h => (Hown.out.lt k h).2)
  clear Hown Hb1 HC HV Hmk
  generalize hgs : w1.heap.size = gs at *
  generalize w1.alloc _ = W at *
  clear hgs w1
  go_wp2_with fail
  go_loopw [21] (fun i wr => ∃ k : Nat, k ≤ n ∧ i = .int .i64 k ∧ wr.ownsRow (w.heap.size + 1) 28 9 (.slice A n c) n ((touch K r f (l.take k) l).flatMap entC) ∧ wr.ownsRow (w.heap.size + 1) 4 1 (.slice (some ⟨gs, 0, none⟩) n n) n ((spn K r l k).flatMap bolC) ∧ wr.cell? ⟨w.heap.size, 0, none⟩ = some (.func (.func F) #[] #[]) ∧ Below w.heap.size w wr) (fun i _ => n - (intOf i).toNat)
  case atStart => exact ⟨0, Nat.zero_le _, rfl, Ho0.out, Hs0.out, Hc0.out, Hbel0.out⟩
  case round =>
    obtain ⟨k, hk, rfl, ho, hs, hc, hbel⟩ := hrel
    have Ho := Lib.hid ho
    have Hs := Lib.hid hs
    have Hc := Lib.hid hc
    have Hbel := Lib.hid hbel
    clear ho hs hc hbel Ho0 Hs0 Hc0 Hbel0
    have HE := Lib.hid (show ∃ es, es = touch K r f (l.take k) l ∧ es.length = n from ⟨_, rfl, by rw [(touch_pw K r f (l.take k) l).len]; exact Hn.out⟩)
    obtain ⟨es, hes, hel⟩ := HE.out
    have Hes := Lib.hid hes
    have Hel := Lib.hid hel
    rw [← hes] at Ho
    clear hes hel HE
    by_cases hlt : k < n
    · obtain ⟨t, ht⟩ := getE es k n Hel.out hlt
      have Ht := Lib.hid ht
      have HO := Lib.hid (own_at_Ent Ho.out ht)
      obtain ⟨ga, ca, hA, hga, hgw, -, hcs, hfz⟩ := HO.out
      cases hA
      have Hfz := Lib.hid hfz
      simp only [Nat.zero_add] at hcs
      obtain ⟨c0, c1, c2, c3, c4, c5, c6, c7, c8⟩ := hcs
      clear ht HO hfz
      have hne : ¬ ga = gs := by have := Hlt.out ga rfl; omega
      have hlw : w.heap.size < wr.heap.size := World.block_lt_of_cell? _ _ Hc.out
      have Hc1 := Lib.hid (show ∀ ob, (wr.alloc ob).cell? ⟨w.heap.size, 0, none⟩ = some (.func (.func F) #[] #[]) from fun ob => by rw [World.cell?_alloc_lt _ _ _ hlw]; exact Hc.out)
      by_cases hkd : t.kind = K
      · have hkd' : (t.kind != K) = false := by simpa using hkd
        have hkd2 : (K != t.kind) = false := by simp [hkd]
        go_wp2_with fail
        refine (HI.out t _ es _ _ _ (owned_sl (by rw [Hel.out]; exact Ho.out.alloc _)) (by rw [Hel.out]; omega) (Hc1.out _) (EntBox.n1 _ t _ (by first | rfl | simp [hkd]))).mono ?_
        rintro e w4 ⟨rfl, hb4⟩
        have Ho4 := Lib.hid (own_below (Ho.out.alloc _) hb4)
        have Hs4 := Lib.hid (own_below (Hs.out.alloc _) hb4)
        have Hc4 := Lib.hid ((hb4.cell (p := ⟨w.heap.size, 0, none⟩) (by simp; omega)).trans (Hc1.out _))
        have Hbel4 := Lib.hid (nextW (Hbel.out.alloc Hbel.out.size _) hb4)
        have Hq := Lib.hid (show es.findIdx? (m t) = es.findIdx? (hitB r t) from congrArg (fun z => es.findIdx? z) (funext fun y => HM.out t y hkd))
        clear hb4 c0 c1 c2 c3 c4 c5 c6 c7 c8 Hc1 hlw HI
        generalize es.findIdx? (m t) = q at *
        cases q with
        | none =>
          have HX := Lib.hid (touch_skip (Hes.out ▸ Ht.out) (.inr (Hes.out ▸ Hq.out.symm)))
          simp only [plc]
          go_wp2
          go_roundw
          case rel => exact ⟨k + 1, by omega, by go_num, by rw [HX.out.1, ← Hes.out]; exact Ho4.out, by rw [HX.out.2]; exact Hs4.out, Hc4.out, Hbel4.out⟩
          case measure => simp [intOf]; omega
        | some j =>
          have hjn : j < n := by
            obtain ⟨h, -⟩ := List.findIdx?_eq_some_iff_getElem.1 Hq.out.symm
            have := Hel.out
            omega
          obtain ⟨p, hp⟩ := getE es j n Hel.out hjn
          have HX := Lib.hid (touch_meet (Hes.out ▸ Ht.out) hkd (Hes.out ▸ Hq.out.symm) (Hes.out ▸ hp))
          have Hp := Lib.hid hp
          obtain ⟨g', c', hA, -, hgw4, -, hcs, -⟩ := own_at_Ent Ho4.out hp
          cases hA
          simp only [Nat.zero_add] at hcs
          have d6 := hcs.2.2.2.2.2.2.1
          clear hcs hp Hq
          simp only [plc]
          go_wp2_with (go_at_fn G; refine (HG.out _ _).mono ?_)
          rintro e w5 ⟨rfl, hb5⟩
          have Ho5 := Lib.hid (own_below Ho4.out hb5)
          have Hs5 := Lib.hid (own_below Hs4.out hb5)
          have Hbel5 := Lib.hid (nextW Hbel4.out hb5)
          have Hc5 := Lib.hid ((hb5.cell (p := ⟨w.heap.size, 0, none⟩) (World.block_lt_of_cell? _ _ Hc4.out)).trans Hc4.out)
          obtain ⟨g', c', hA, -, hgw5, -, hcs, hf6⟩ := own_at_Ent Ho5.out Hp.out
          cases hA
          simp only [Nat.zero_add] at hcs
          have e6 := hcs.2.2.2.2.2.2.1
          have ef6 := hf6 (j * 9 + 6)
          obtain ⟨z, hz⟩ : ∃ z, w5.cell? ⟨gs, k, none⟩ = some z := by
            rw [Hs5.out.cellAt k (by omega)]
            exact ⟨_, List.getElem?_eq_getElem (by rw [Hs5.out.1]; omega)⟩
          have hzf := Hs5.out.frozenAt k
          have hne' : ¬ gs = ga := fun h => hne h.symm
          clear hcs hf6 hb5 d6
          have HP := Lib.hid (own_put_Ent (q := 6) (z := healthy f p) (v := .int .i64 (f p.health)) Ho5.out Hp.out (by omega) rfl)
          have HQ := Lib.hid (own_bool (Hs5.out.kept HP.out.2 (.inr (by simp only [Value.ownBlock]; intro h; exact hne' (Option.some.inj h)))) k true)
          have HR := Lib.hid (HP.out.1.kept HQ.out.2 (.inr (by simp only [Value.ownBlock]; intro h; exact hne (Option.some.inj h))))
          have hg1 : w.heap.size + 1 ≤ ga := own_ge Ho5.out ga rfl
          have hg2 : w.heap.size + 1 ≤ gs := own_ge Hs5.out gs rfl
          have Hc6 := Lib.hid (show ((w5.setCell ⟨ga, j * 9 + 6, none⟩ (.int .i64 (f p.health))).setCell ⟨gs, k, none⟩ (.bool true)).cell? ⟨w.heap.size, 0, none⟩ = some (.func (.func F) #[] #[]) from by
            rw [World.cell?_setCell_other _ _ _ _ (by simp <;> omega), World.cell?_setCell_other _ _ _ _ (by simp <;> omega)]; exact Hc5.out)
          have Hbel6 := Lib.hid ((Hbel5.out.setCell (p := ⟨ga, j * 9 + 6, none⟩) (by simp; omega) (.int .i64 (f p.health))).setCell (p := ⟨gs, k, none⟩) (by simp; omega) (.bool true))
          clear HP Ho5 Hs5 Hc5 Hbel5 Ho4 Hs4 Hc4 Hbel4 Ho Hs Hc Hbel hg1 hg2
          generalize f p.health = fh at *
          go_wp2
          go_roundw
          case rel => exact ⟨k + 1, by omega, by go_num, by rw [HX.out.1, ← Hes.out]; exact HR.out, by rw [HX.out.2]; exact HQ.out.1, Hc6.out, Hbel6.out⟩
          case measure => simp [intOf]; omega
      · have hkd' : (t.kind != K) = true := by simpa using hkd
        have HX := Lib.hid (touch_skip (Hes.out ▸ Ht.out) (.inl hkd))
        go_wp2
        go_roundw
        case rel => exact ⟨k + 1, by omega, by go_num, by rw [HX.out.1, ← Hes.out]; exact Ho.out.alloc _, by rw [HX.out.2]; exact Hs.out.alloc _, Hc1.out _, Hbel.out.alloc Hbel.out.size _⟩
        case measure => simp [intOf]; omega
    · obtain rfl : k = n := by omega
      have HZ := Lib.hid (wout_touch K r f l k (Nat.le_of_eq Hn.out))
      rw [← Hes.out] at HZ HW
      have Hsl := Lib.hid (spn_len K r l k)
      have Hn' := Lib.hid (Hsl.out.trans (Hn.out.trans Hel.out.symm))
      generalize spn K r l k = ss at *
      go_wp2_with fail
      refine (HW.out _ _ ss _ (owned_sl (by rw [Hel.out]; exact Ho.out)) (owned_sl (by rw [Hsl.out, Hn.out]; exact Hs.out)) Hn'.out (by rw [Hel.out]; omega)).mono ?_
      rintro e w6 ⟨v6, rfl, ho6, hb6⟩
      rw [HZ.out] at ho6
      have Ho6 := Lib.hid (ho6.mono Hbel.out.size)
      have Hb6 := Lib.hid (nextW Hbel.out hb6)
      clear ho6 hb6
      go_wp2
      go_ret
      exact ⟨_, rfl, Ho6.out, Hb6.out⟩

/-- What a call returns that makes a row of entities of its own. -/
def RetRow (l : List Ent) (w : World) (z : Ending) (w' : World) : Prop := ∃ v', z = .returned v' ∧ w'.ownsRow w.heap.size 28 9 v' l.length (l.flatMap entC) ∧ Below w.heap.size w w'

theorem shotsH_any (v : Value) (l : List Ent) (w : World) (hv : IsSl entC w v l) (hn : l.length ≤ 1000) :
    Calls Try.prog 10 #[v] w (RetRow (shotsL l) w) := by
  have HS := Lib.hid (spend_any 2 24 shots_asks shots_turns (fun t e h => shot_hit h e) v l w hv hn)
  clear hv
  go_enter Try.func10, Try.ntmps10
  go_wp2_with fail
  refine HS.out.mono ?_
  rintro e w1 ⟨v', rfl, ho, hb⟩
  have Ho := Lib.hid ho
  have Hb := Lib.hid hb
  clear ho hb
  go_wp2
  go_ret
  exact ⟨_, rfl, Ho.out, Hb.out⟩

theorem gemsH_any (v : Value) (l : List Ent) (w : World) (hv : IsSl entC w v l) (hn : l.length ≤ 1000) :
    Calls Try.prog 9 #[v] w (RetRow (gemsL l) w) := by
  have HS := Lib.hid (spend_any 3 32 gems_asks gems_turns (fun t e h => gem_hit h e) v l w hv hn)
  clear hv
  go_enter Try.func9, Try.ntmps9
  go_wp2_with fail
  refine HS.out.mono ?_
  rintro e w1 ⟨v', rfl, ho, hb⟩
  have Ho := Lib.hid ho
  have Hb := Lib.hid hb
  clear ho hb
  go_wp2
  go_ret
  exact ⟨_, rfl, Ho.out, Hb.out⟩

end Go.Proofs.Ytdhahlghldgggaa.Fx
