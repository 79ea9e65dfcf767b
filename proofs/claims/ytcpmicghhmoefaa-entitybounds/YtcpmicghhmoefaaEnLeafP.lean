/- Package entity's Put, and all of its contracts together. -/
import Derived.Test.YtcpmicghhmoefaaEnLeaf
import Derived.Deep.RegionWith
namespace Go.Proofs.Ytcpmicghhmoefaa.Fx
open Go.ChangeShapes Go.WideShapes Go.ChangeAt Go.RowKit
set_option linter.unusedVariables false

theorem put_ins (l : List Ent) (y : Ent) (h : ¬ 0 ≤ fnd l y.id) : put l y = insEnt l (pos l y.id) y := by
  unfold put
  rw [if_neg h]
  rfl

set_option maxHeartbeats 2000000 in
theorem puts_any (v : Value) (l : List Ent) (u : Value) (m : List Ent) (w : World) (hv : IsSl entC w v l) (hn : l.length ≤ 400) (hu : IsSl entC w u m) (hm : m.length ≤ 400) :
    Calls Try.prog 16 #[v, u] w (RetEnts (Fx.puts l m) w) := by
  have HC := Lib.hid (clone_Ent v l w hv (by omega))
  have HF := Lib.hid find_any
  have HP := Lib.hid placeOf_any
  have HI := Lib.hid insert_Ent
  obtain ⟨A0, c0, rfl, -, -, -⟩ := hv
  obtain ⟨A, c, rfl, -, -, hat⟩ := hu
  have Hat := Lib.hid hat
  obtain ⟨n, hnn⟩ : ∃ n, m.length = n := ⟨_, rfl⟩
  rw [hnn] at hm ⊢
  have Hn := Lib.hid hnn
  have Hl := Lib.hid hn
  have HL := Lib.hid (fun k => puts_len l (m.take k))
  clear hat hnn hn
  go_enter Try.func16, Try.ntmps16
  go_wp2_with fail
  refine HC.out.mono ?_
  rintro e w1 ⟨v1, rfl, ho1, hb1⟩
  have HO1 := Lib.hid ho1
  have HB1 := Lib.hid hb1
  clear ho1 hb1 HC
  go_wp2
  go_loopw [5, 12] (fun v i wr => ∃ k : Nat, k ≤ n ∧ i = .int .i64 k ∧ wr.ownsRow w.heap.size 26 9 v (Fx.puts l (m.take k)).length ((Fx.puts l (m.take k)).flatMap entC) ∧ Below w.heap.size w wr) (fun _ i _ => n - (intOf i).toNat)
  case atStart => exact ⟨0, Nat.zero_le _, rfl, HO1.out, HB1.out⟩
  case round =>
    obtain ⟨k, hk, rfl, hown, hbel⟩ := hrel
    have Hown := Lib.hid hown
    have Hbel := Lib.hid hbel
    by_cases hlt : k < n
    · obtain ⟨x, hx⟩ := getE m k n Hn.out hlt
      have HX := Lib.hid (show Fx.puts l (m.take (k + 1)) = put (Fx.puts l (m.take k)) x from by rw [take_at hx, puts_snoc])
      have HLk := Lib.hid (show (Fx.puts l (m.take k)).length ≤ 800 from by have := HL.out k; have := Hl.out; rw [List.length_take] at *; omega)
      obtain ⟨b, off, rfl, hc⟩ := elem_Ent (Hat.out.below Hbel.out) hx
      obtain ⟨c0, c1, c2, c3, c4, c5, c6, c7, c8⟩ := hc
      clear hx
      generalize Fx.puts l (m.take k) = L at *
      obtain ⟨B, d, rfl, -⟩ := owned_sl hown
      clear hown hbel
      go_wp2_with fail
      refine (HF.out _ L x.id _ ((owned_sl Hown.out).below ((Below.refl _ _).alloc (Nat.le_refl _) _)) (by have := HLk.out; omega)).mono ?_
      rintro e w2 ⟨rfl, hb2⟩
      obtain ⟨hc2, hf2⟩ := bcell hb2
      have hz : wr.heap.size < w2.heap.size := by have := hb2.size; simp at this; omega
      have y0 : (w2).cell? ⟨wr.heap.size, 0, none⟩ = some (.int .i64 x.id) := by rw [hc2 _ _ (by simp)]; simp
      have y1 : (w2).cell? ⟨wr.heap.size, 1, none⟩ = some (.int .i64 x.kind) := by rw [hc2 _ _ (by simp)]; simp
      have y2 : (w2).cell? ⟨wr.heap.size, 2, none⟩ = some (.int .i64 x.x) := by rw [hc2 _ _ (by simp)]; simp
      have y3 : (w2).cell? ⟨wr.heap.size, 3, none⟩ = some (.int .i64 x.y) := by rw [hc2 _ _ (by simp)]; simp
      have y4 : (w2).cell? ⟨wr.heap.size, 4, none⟩ = some (.int .i64 x.vx) := by rw [hc2 _ _ (by simp)]; simp
      have y5 : (w2).cell? ⟨wr.heap.size, 5, none⟩ = some (.int .i64 x.vy) := by rw [hc2 _ _ (by simp)]; simp
      have y6 : (w2).cell? ⟨wr.heap.size, 6, none⟩ = some (.int .i64 x.health) := by rw [hc2 _ _ (by simp)]; simp
      have y7 : (w2).cell? ⟨wr.heap.size, 7, none⟩ = some (.int .i64 x.age) := by rw [hc2 _ _ (by simp)]; simp
      have y8 : (w2).cell? ⟨wr.heap.size, 8, none⟩ = some (.int .i64 x.owner) := by rw [hc2 _ _ (by simp)]; simp
      have HNB0 := Lib.hid (show some wr.heap.size ≠ (Value.slice B L.length d).ownBlock from fun h => by have := (Hown.out.lt _ h.symm).2; omega)
      have HO2 := Lib.hid (own_below (Hown.out.alloc _) hb2)
      have HB2 := Lib.hid ((Hbel.out.alloc Hbel.out.size _).trans (hb2.mono (Nat.le_trans Hbel.out.size (by simp))))
      clear hb2 hc2 hf2 c0 c1 c2 c3 c4 c5 c6 c7 c8 Hown HF
      by_cases hin : 0 ≤ fnd L x.id
      · have HX2 := Lib.hid (show put L x = L from by unfold put; rw [if_pos hin])
        have hd : decide (fnd L x.id < 0) = false := decide_eq_false (by omega)
        generalize fnd L x.id = r at *
        go_wp2
        go_roundw
        case rel => exact ⟨k + 1, by omega, by go_num, by rw [HX.out, HX2.out]; exact HO2.out, HB2.out⟩
        case measure => simp [intOf]; omega
      · have HX2 := Lib.hid (put_ins L x hin)
        have hd : decide (fnd L x.id < 0) = true := decide_eq_true (by omega)
        generalize fnd L x.id = r at *
        have HSL := Lib.hid (fun W (h : Below w2.heap.size w2 W) => (owned_sl HO2.out).below h)
        have HNB := Lib.hid HNB0.out
        have HNE := Lib.hid (show ∀ q, w2.heap.size ≤ q → some q ≠ (Value.slice B L.length d).ownBlock from fun q hq h => by have := (HO2.out.lt q h.symm).2; omega)
        have HPl := Lib.hid (pos_le L x.id)
        have hzw : w.heap.size ≤ w2.heap.size := HB2.out.size
        go_wp2_with fail
        refine tree_region (S := (fun w' => ∀ o, w'.cell? ⟨wr.heap.size, o, none⟩ = w2.cell? ⟨wr.heap.size, o, none⟩)) (.free 0 (.free 1 (.free 2 (.free 3 (.free 5 (.two 4 (.one 6 (.one 7 (.free 8 .done))) 6 (.one 4 (.one 7 (.free 8 .done))))))))) (by kernel_rfl) (by kernel_rfl) (fun _ _ d _ _ h => by cases d <;> exact h) (fun _ => rfl) (fun hS => ?_)
        simp only [written, List.getElem?_cons_succ, List.getElem?_cons_zero, List.append_eq, List.cons_append, List.nil_append]
        refine rw_free (v := ?_) (by rfl) ?_ ?_
        rotate_left 1
        focus (intro w hSw; (try dsimp only at hSw); go_simp; (try with_reducible rfl))
        (try simp only [Act.put, List.setIfInBounds_toArray, List.set_cons_zero, List.set_cons_succ])
        refine rw_free (v := ?_) (by rfl) ?_ ?_
        rotate_left 1
        focus (intro w hSw; (try dsimp only at hSw); go_simp; (try with_reducible rfl))
        (try simp only [Act.put, List.setIfInBounds_toArray, List.set_cons_zero, List.set_cons_succ])
        refine rw_free (v := ?_) (by rfl) ?_ ?_
        rotate_left 1
        focus (intro w hSw; (try dsimp only at hSw); go_simp; (try with_reducible rfl))
        (try simp only [Act.put, List.setIfInBounds_toArray, List.set_cons_zero, List.set_cons_succ])
        refine rw_free (v := ?_) (by rfl) ?_ ?_
        rotate_left 1
        focus (intro w hSw; (try dsimp only at hSw); go_simp; (try with_reducible rfl))
        (try simp only [Act.put, List.setIfInBounds_toArray, List.set_cons_zero, List.set_cons_succ])
        refine rw_free (v := ?_) (by rfl) ?_ ?_
        rotate_left 1
        focus (intro w hSw; (try dsimp only at hSw); go_simp; (try with_reducible rfl))
        (try simp only [Act.put, List.setIfInBounds_toArray, List.set_cons_zero, List.set_cons_succ])
        refine rw_two ?_ ?_
        · skip
          refine rw_call (by rfl) (fun K hK => ?_)
          go_simp
          (refine (HP.out _ L x.id _ ?_ ?_).mono ?_; (first | exact HSL.out _ (Below.refl _ _).drew | exact HSL.out _ ((Below.refl _ _).drew.alloc (Nat.le_refl _) _)); (have := HLk.out; omega); rintro e w3 ⟨rfl, hb3⟩)
          (try go_wp2_with fail)
          refine hK.out _ _ ?_ (fun hS' => ?_)
          · (try dsimp only); first | exact fun o => (World.cell?_of_block (hg5.block wr.heap.size (by have := hb3.size; first | omega | (simp at *; done) | (simp at *; omega)) HNB.out)).trans (hS o) | exact fun o => (hb3.cell (p := ⟨wr.heap.size, o, none⟩) (by simp; omega)).trans (hS o) | exact fun o => (World.cell?_alloc_lt _ _ _ (by first | exact hz | (have := hb3.size; first | omega | (simp at *; done) | (simp at *; omega)))).trans (hS o)
          clear hS hK K
          have hS := hS'
          clear hS'
          (try simp only [Act.put, List.setIfInBounds_toArray, List.set_cons_zero, List.set_cons_succ])
          refine rw_call (by rfl) (fun K hK => ?_)
          go_simp
          (skip)
          (try go_wp2_with fail)
          refine hK.out _ _ ?_ (fun hS' => ?_)
          · (try dsimp only); first | exact fun o => (World.cell?_of_block (hg5.block wr.heap.size (by have := hb3.size; first | omega | (simp at *; done) | (simp at *; omega)) HNB.out)).trans (hS o) | exact fun o => (hb3.cell (p := ⟨wr.heap.size, o, none⟩) (by simp; omega)).trans (hS o) | exact fun o => (World.cell?_alloc_lt _ _ _ (by first | exact hz | (have := hb3.size; first | omega | (simp at *; done) | (simp at *; omega)))).trans (hS o)
          clear hS hK K
          have hS := hS'
          clear hS'
          (try simp only [Act.put, List.setIfInBounds_toArray, List.set_cons_zero, List.set_cons_succ])
          refine rw_call (by rfl) (fun K hK => ?_)
          go_simp
          (refine (HI.out _ L (pos L x.id) x _ 1 w.heap.size _ ?_ ?_ ?_ ?_ ?_ ?_ ?_).mono ?_; (first | exact (own_below HO2.out.drew hb3).alloc _ | exact own_below (HO2.out.drew.alloc _) hb3); (have := hb3.size; first | omega | (simp at *; done) | (simp at *; omega)); (have := HLk.out; omega); exact HPl.out; (first | exact heap_alloc_new w3 _ | exact Blk.below (heap_alloc_new w2.drew _) hb3 (by simp)); exact HNE.out _ (by have := hb3.size; first | omega | (simp at *; done) | (simp at *; omega)); omega; rintro e w5 ⟨v5, rfl, ho5, hb5, hg5⟩)
          (try go_wp2_with fail)
          refine hK.out _ _ ?_ (fun hS' => ?_)
          · (try dsimp only); first | exact fun o => (World.cell?_of_block (hg5.block wr.heap.size (by have := hb3.size; first | omega | (simp at *; done) | (simp at *; omega)) HNB.out)).trans (hS o) | exact fun o => (hb3.cell (p := ⟨wr.heap.size, o, none⟩) (by simp; omega)).trans (hS o) | exact fun o => (World.cell?_alloc_lt _ _ _ (by first | exact hz | (have := hb3.size; first | omega | (simp at *; done) | (simp at *; omega)))).trans (hS o)
          clear hS hK K
          have hS := hS'
          clear hS'
          (try simp only [Act.put, List.setIfInBounds_toArray, List.set_cons_zero, List.set_cons_succ])
          refine rw_free (v := ?_) (by rfl) ?_ ?_
          rotate_left 1
          focus (intro w hSw; (try dsimp only at hSw); go_simp; (try with_reducible rfl))
          (try simp only [Act.put, List.setIfInBounds_toArray, List.set_cons_zero, List.set_cons_succ])
          refine rw_done ?_
          have HO5 := Lib.hid ho5
          have HB5 := Lib.hid (show Below w.heap.size w w5 from (by first | exact ((HB2.out.drew.trans (hb3.mono hzw)).alloc (by have := hb3.size; first | omega | (simp at *; done) | (simp at *; omega)) _).trans hb5 | exact ((HB2.out.drew.alloc hzw _).trans (hb3.mono (by simp; omega))).trans hb5))
          clear ho5 hb5 hg5 hb3 hS
          go_wp2
          go_roundw
          case rel => exact ⟨k + 1, by omega, by go_num, by rw [HX.out, HX2.out]; exact HO5.out, HB5.out⟩
          case measure => simp [intOf]; omega
        · skip
          refine rw_call (by rfl) (fun K hK => ?_)
          go_simp
          (skip)
          (try go_wp2_with fail)
          refine hK.out _ _ ?_ (fun hS' => ?_)
          · (try dsimp only); first | exact fun o => (World.cell?_of_block (hg5.block wr.heap.size (by have := hb3.size; first | omega | (simp at *; done) | (simp at *; omega)) HNB.out)).trans (hS o) | exact fun o => (hb3.cell (p := ⟨wr.heap.size, o, none⟩) (by simp; omega)).trans (hS o) | exact fun o => (World.cell?_alloc_lt _ _ _ (by first | exact hz | (have := hb3.size; first | omega | (simp at *; done) | (simp at *; omega)))).trans (hS o)
          clear hS hK K
          have hS := hS'
          clear hS'
          (try simp only [Act.put, List.setIfInBounds_toArray, List.set_cons_zero, List.set_cons_succ])
          refine rw_call (by rfl) (fun K hK => ?_)
          go_simp
          (refine (HP.out _ L x.id _ ?_ ?_).mono ?_; (first | exact HSL.out _ (Below.refl _ _).drew | exact HSL.out _ ((Below.refl _ _).drew.alloc (Nat.le_refl _) _)); (have := HLk.out; omega); rintro e w3 ⟨rfl, hb3⟩)
          (try go_wp2_with fail)
          refine hK.out _ _ ?_ (fun hS' => ?_)
          · (try dsimp only); first | exact fun o => (World.cell?_of_block (hg5.block wr.heap.size (by have := hb3.size; first | omega | (simp at *; done) | (simp at *; omega)) HNB.out)).trans (hS o) | exact fun o => (hb3.cell (p := ⟨wr.heap.size, o, none⟩) (by simp; omega)).trans (hS o) | exact fun o => (World.cell?_alloc_lt _ _ _ (by first | exact hz | (have := hb3.size; first | omega | (simp at *; done) | (simp at *; omega)))).trans (hS o)
          clear hS hK K
          have hS := hS'
          clear hS'
          (try simp only [Act.put, List.setIfInBounds_toArray, List.set_cons_zero, List.set_cons_succ])
          refine rw_call (by rfl) (fun K hK => ?_)
          go_simp
          (refine (HI.out _ L (pos L x.id) x _ 1 w.heap.size _ ?_ ?_ ?_ ?_ ?_ ?_ ?_).mono ?_; (first | exact (own_below HO2.out.drew hb3).alloc _ | exact own_below (HO2.out.drew.alloc _) hb3); (have := hb3.size; first | omega | (simp at *; done) | (simp at *; omega)); (have := HLk.out; omega); exact HPl.out; (first | exact heap_alloc_new w3 _ | exact Blk.below (heap_alloc_new w2.drew _) hb3 (by simp)); exact HNE.out _ (by have := hb3.size; first | omega | (simp at *; done) | (simp at *; omega)); omega; rintro e w5 ⟨v5, rfl, ho5, hb5, hg5⟩)
          (try go_wp2_with fail)
          refine hK.out _ _ ?_ (fun hS' => ?_)
          · (try dsimp only); first | exact fun o => (World.cell?_of_block (hg5.block wr.heap.size (by have := hb3.size; first | omega | (simp at *; done) | (simp at *; omega)) HNB.out)).trans (hS o) | exact fun o => (hb3.cell (p := ⟨wr.heap.size, o, none⟩) (by simp; omega)).trans (hS o) | exact fun o => (World.cell?_alloc_lt _ _ _ (by first | exact hz | (have := hb3.size; first | omega | (simp at *; done) | (simp at *; omega)))).trans (hS o)
          clear hS hK K
          have hS := hS'
          clear hS'
          (try simp only [Act.put, List.setIfInBounds_toArray, List.set_cons_zero, List.set_cons_succ])
          refine rw_free (v := ?_) (by rfl) ?_ ?_
          rotate_left 1
          focus (intro w hSw; (try dsimp only at hSw); go_simp; (try with_reducible rfl))
          (try simp only [Act.put, List.setIfInBounds_toArray, List.set_cons_zero, List.set_cons_succ])
          refine rw_done ?_
          have HO5 := Lib.hid ho5
          have HB5 := Lib.hid (show Below w.heap.size w w5 from (by first | exact ((HB2.out.drew.trans (hb3.mono hzw)).alloc (by have := hb3.size; first | omega | (simp at *; done) | (simp at *; omega)) _).trans hb5 | exact ((HB2.out.drew.alloc hzw _).trans (hb3.mono (by simp; omega))).trans hb5))
          clear ho5 hb5 hg5 hb3 hS
          go_wp2
          go_roundw
          case rel => exact ⟨k + 1, by omega, by go_num, by rw [HX.out, HX2.out]; exact HO5.out, HB5.out⟩
          case measure => simp [intOf]; omega
    · obtain rfl : k = n := by omega
      rw [List.take_of_length_le (Nat.le_of_eq Hn.out)] at Hown
      clear hown hbel
      go_wp2
      go_ret
      exact ⟨_, rfl, owned_sl Hown.out, Hbel.out⟩

/-- All of package entity. -/
theorem enC : EnC := ⟨eright_any, fun v l id w h hn => find_any v l id w h (by omega), puts_any, drop_any, things_any, sorted_any⟩

end Go.Proofs.Ytcpmicghhmoefaa.Fx
