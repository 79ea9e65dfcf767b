/- The document's Sort: what it returns, for every list; old memory stays. -/
import Derived.Test.YtbmboidmgdpnoaaCrSort
import Derived.Deep.DeepCutAuto
namespace Go.Proofs.Ytbmboidmgdpnoaa.Fx
open Go.ChangeShapes Go.WideShapes Go.ChangeAt Go.RowKit
set_option linter.unusedVariables false

theorem put_in {S : List Crs} (h : Srtd lessB S) (x : Crs) (j : Nat) (hj : j ≤ S.length) (h1 : ∀ y, 0 < j → S[j - 1]? = some y → lessB x y = false) (h2 : ∀ t y, j ≤ t → S[t]? = some y → lessB x y = true) : mrg lessB S [x] = S.take j ++ [x] ++ S.drop j := by
  have := mrg_in lessB (a := S.take j) (b := S.drop j) x (fun y hy => ?_) (fun y hy => ?_)
  · rw [List.take_append_drop] at this; rw [this]; simp
  · obtain ⟨t, ht, hg⟩ := mem_take_get hy
    obtain ⟨z, hz⟩ : ∃ z, S[j - 1]? = some z := ⟨_, List.getElem?_eq_getElem (by omega)⟩
    exact lessB_swo.ntrans _ _ _ (h1 z (by omega) hz) (srtd_get lessB_swo h hg hz (by omega))
  · obtain ⟨t, ht, hg⟩ := mem_drop_get hy
    exact h2 t y ht hg

theorem own_mono {w : World} {base base' : Nat} {e : TypeId} {size : Nat} {v : Value} {n : Nat} {xs : List Value} (h : w.ownsRow base e size v n xs) (hb : base' ≤ base) : w.ownsRow base' e size v n xs := by
  refine ⟨h.1, ?_⟩
  rcases h.2 with h2 | ⟨g, cap, cur, hv, hg, r⟩
  · exact Or.inl h2
  · exact Or.inr ⟨g, cap, cur, hv, Nat.le_trans hb hg, r⟩

set_option maxHeartbeats 2000000 in
theorem rsort_any (v : Value) (l : List Crs) (w : World) (hv : IsSl crsC w v l) (hn : l.length ≤ 1000) :
    Calls Try.prog 18 #[v] w (RetCrs (st lessB l) w) := by
  have HV := Lib.hid hv
  obtain ⟨A, c, rfl, -, -, hat⟩ := hv
  have Hat := Lib.hid hat
  obtain ⟨n, hnn⟩ : ∃ n, l.length = n := ⟨_, rfl⟩
  rw [hnn] at hn HV ⊢
  have Hn := Lib.hid hnn
  have HL := Lib.hid rless_any
  clear hat hnn
  go_enter Try.func18, Try.ntmps18
  go_wp2
  go_loopw [3, 4] (fun v i wr => ∃ k : Nat, k ≤ n ∧ i = .int .i64 k ∧ wr.ownsRow w.heap.size 28 15 v (st lessB (l.take k)).length ((st lessB (l.take k)).flatMap crsC) ∧ Below w.heap.size w wr) (fun _ i _ => n - (intOf i).toNat)
  case atStart => exact ⟨0, Nat.zero_le _, rfl, ⟨by simp [st], .inl ⟨rfl, rfl⟩⟩, Below.refl _ _⟩
  case round =>
    obtain ⟨k, hk, rfl, hown, hbel⟩ := hrel
    have Hbel := Lib.hid hbel
    have HO := Lib.hid (owned_sl hown)
    clear hbel
    by_cases hlt : k < n
    · obtain ⟨x, hx⟩ := getE l k n Hn.out hlt
      have HX := Lib.hid (show st lessB (l.take (k + 1)) = mrg lessB (st lessB (l.take k)) [x] from by rw [take_at hx, st_append lessB lessB_swo]; simp [st, mrg_nil])
      have HSr := Lib.hid (st_srtd lessB_swo (l.take k))
      have HLk := Lib.hid (show (st lessB (l.take k)).length = k from by rw [st_length, List.length_take, Nat.min_eq_left (by have := Hn.out; omega)])
      clear hown
      generalize st lessB (l.take k) = S at *
      obtain ⟨B, d, rfl, hB, hkd, -⟩ := HO.out
      rw [HLk.out] at HO hkd ⊢
      have HC := Lib.hid (show ∀ W, Below wr.heap.size wr W → ∃ b off, A = some ⟨b, off, none⟩ ∧ _ from fun W hb => elem_Crs ((Hat.out.below Hbel.out).below hb) hx)
      have hkn : (k : Int) < (n : Int) := by omega
      have hkd1 : decide ((k : Int) < (n : Int)) = true := decide_eq_true hkn
      clear hx hB
      obtain ⟨wo, rfl⟩ : ∃ wo : World, wo = wr := ⟨_, rfl⟩
      go_wp2
      go_loopw [5] (fun i wr => ∃ j : Nat, j ≤ k ∧ i = .int .i64 j ∧ (∀ t y, j ≤ t → S[t]? = some y → lessB x y = true) ∧ Below wo.heap.size wo wr) (fun i _ => (intOf i).toNat)
      case atStart => exact ⟨k, Nat.le_refl _, rfl, fun t y h1 h2 => absurd (get_lt h2) (by have := HLk.out; omega), Below.refl _ _⟩
      case round =>
        obtain ⟨j, hj, rfl, hall, hbel⟩ := hrel
        have Hall := Lib.hid hall
        have Hb := Lib.hid hbel
        clear hall hbel
        by_cases hgo : ∃ y, 0 < j ∧ S[j - 1]? = some y ∧ lessB x y = true
        · obtain ⟨y, hj0, hy, hxy⟩ := hgo
          have HY := Lib.hid hy
          have HXY := Lib.hid hxy
          obtain ⟨b, off, rfl, hc⟩ := HC.out _ Hb.out
          obtain ⟨b2, off2, hBe, hd⟩ := elem_Crs ((HO.out.below Hb.out).at) hy
          subst hBe
          have hbw : b < wr.heap.size := World.block_lt_of_cell? _ _ hc.1
          have hbw2 : b2 < wr.heap.size := World.block_lt_of_cell? _ _ hd.1
          obtain ⟨c0, c1, c2, c3, c4, c5, c6, c7, c8, c9, c10, c11, c12, c13, c14⟩ := hc
          obtain ⟨d0, d1, d2, d3, d4, d5, d6, d7, d8, d9, d10, d11, d12, d13, d14⟩ := hd
          have hjd : decide ((0 : Int) < (j : Int)) = true := decide_eq_true (by omega)
          have hjz : (0 : Int) < (j : Int) := by omega
          have hj1 : ((j : Int) - 1).toNat = j - 1 := by omega
          have hj2 : (1 : Int) ≤ (j : Int) := by omega
          have hj3 : (j : Int) - 1 < (k : Int) := by omega
          have hj4 : IntKind.i64.wrap ((j : Int) - 1) = (j : Int) - 1 := by rw [IntKind.wrap_i64]; omega
          clear hy hxy
          go_upto_region 6 with fail
          refine plan_region' (S := (fun w' => (∀ b o, b < (wr).heap.size → w'.cell? ⟨b, o, none⟩ = (wr).cell? ⟨b, o, none⟩) ∧ (∀ b o, b < (wr).heap.size → w'.frozen? ⟨b, o, none⟩ = (wr).frozen? ⟨b, o, none⟩) ∧ Below (wr).heap.size (wr) w')) [(0, true), (1, true), (2, true), (3, true), (4, true), (5, true), (6, true), (7, true), (8, true), (9, true), (10, true), (11, true), (12, false), (13, true)] (by kernel_rfl) (by kernel_rfl) (fun _ _ d _ _ h => by cases d <;> exact h) (keepW0 _) (fun hS => ?_)
          simp only [picked, List.getElem?_cons_succ, List.getElem?_cons_zero]
          refine row_free (v := ?_) (by rfl) ?_ ?_
          rotate_left 1
          focus (intro w hSw; (try dsimp only at hSw); go_simp; (try with_reducible rfl))
          (try simp only [Act.put, List.setIfInBounds_toArray, List.set_cons_zero, List.set_cons_succ])
          refine row_free (v := ?_) (by rfl) ?_ ?_
          rotate_left 1
          focus (intro w hSw; (try dsimp only at hSw); go_simp; (try with_reducible rfl))
          (try simp only [Act.put, List.setIfInBounds_toArray, List.set_cons_zero, List.set_cons_succ])
          refine row_free (v := ?_) (by rfl) ?_ ?_
          rotate_left 1
          focus (intro w hSw; (try dsimp only at hSw); go_simp; (try with_reducible rfl))
          (try simp only [Act.put, List.setIfInBounds_toArray, List.set_cons_zero, List.set_cons_succ])
          refine row_free (v := ?_) (by rfl) ?_ ?_
          rotate_left 1
          focus (intro w hSw; (try dsimp only at hSw); go_simp; (try with_reducible rfl))
          (try simp only [Act.put, List.setIfInBounds_toArray, List.set_cons_zero, List.set_cons_succ])
          refine row_free (v := ?_) (by rfl) ?_ ?_
          rotate_left 1
          focus (intro w hSw; (try dsimp only at hSw); go_simp; (try with_reducible rfl))
          (try simp only [Act.put, List.setIfInBounds_toArray, List.set_cons_zero, List.set_cons_succ])
          refine row_free (v := ?_) (by rfl) ?_ ?_
          rotate_left 1
          focus (intro w hSw; (try dsimp only at hSw); go_simp; (try with_reducible rfl))
          (try simp only [Act.put, List.setIfInBounds_toArray, List.set_cons_zero, List.set_cons_succ])
          refine row_free (v := ?_) (by rfl) ?_ ?_
          rotate_left 1
          focus (intro w hSw; (try dsimp only at hSw); go_simp; (try with_reducible rfl))
          (try simp only [Act.put, List.setIfInBounds_toArray, List.set_cons_zero, List.set_cons_succ])
          refine row_free (v := ?_) (by rfl) ?_ ?_
          rotate_left 1
          focus (intro w hSw; (try dsimp only at hSw); go_simp; (try with_reducible rfl))
          (try simp only [Act.put, List.setIfInBounds_toArray, List.set_cons_zero, List.set_cons_succ])
          refine row_free (v := ?_) (by rfl) ?_ ?_
          rotate_left 1
          focus (intro w hSw; (try dsimp only at hSw); go_simp; (try with_reducible rfl))
          (try simp only [Act.put, List.setIfInBounds_toArray, List.set_cons_zero, List.set_cons_succ])
          refine row_free (v := ?_) (by rfl) ?_ ?_
          rotate_left 1
          focus (intro w hSw; (try dsimp only at hSw); go_simp; (try with_reducible rfl))
          (try simp only [Act.put, List.setIfInBounds_toArray, List.set_cons_zero, List.set_cons_succ])
          refine row_free (v := ?_) (by rfl) ?_ ?_
          rotate_left 1
          focus (intro w hSw; (try dsimp only at hSw); go_simp; (try with_reducible rfl))
          (try simp only [Act.put, List.setIfInBounds_toArray, List.set_cons_zero, List.set_cons_succ])
          refine row_free (v := ?_) (by rfl) ?_ ?_
          rotate_left 1
          focus (intro w hSw; (try dsimp only at hSw); go_simp; (try with_reducible rfl))
          (try simp only [Act.put, List.setIfInBounds_toArray, List.set_cons_zero, List.set_cons_succ])
          refine row_call (by rfl) (fun K hK => ?_)
          go_simp
          (refine (HL.out x y _).mono ?_; rw [HXY.out]; rintro e w4 ⟨rfl, hb4⟩)
          (try go_wp2_with fail)
          refine hK.out _ _ ?_ (fun hS' => ?_)
          · (try dsimp only); first | exact keepW (by assumption) (by assumption) | exact keepB (by assumption) (by assumption) | exact keepA (by assumption) | assumption
          clear hS hK K
          have hS := hS'
          clear hS'
          (try simp only [Act.put, List.setIfInBounds_toArray, List.set_cons_zero, List.set_cons_succ])
          refine row_free (v := ?_) (by rfl) ?_ ?_
          rotate_left 1
          focus (intro w hSw; (try dsimp only at hSw); go_simp; (try with_reducible rfl))
          (try simp only [Act.put, List.setIfInBounds_toArray, List.set_cons_zero, List.set_cons_succ])
          refine row_done ?_
          go_wp2
          go_roundw
          case rel =>
            refine ⟨j - 1, by omega, by first | rfl | go_num | (congr 1; omega), fun t z h1 h2 => ?_, nextW Hb.out hS.2.2⟩
            rcases Nat.lt_or_eq_of_le h1 with h | h
            · exact Hall.out t z (by omega) h2
            · subst h; rw [HY.out] at h2; cases h2; exact HXY.out
          case measure => simp [intOf]; omega
        · have HM := Lib.hid (show mrg lessB S [x] = S.take j ++ [x] ++ S.drop j from put_in HSr.out x j (by have := HLk.out; omega) (fun y h0 hy => by
            cases h : lessB x y
            · rfl
            · exact absurd ⟨y, h0, hy, h⟩ hgo) Hall.out)
          have HGo := Lib.hid hgo
          clear hgo
          go_upto_region 6 with fail
          go_cut [27] (fun s27 wx => s27 = .bool false ∧ Below wr.heap.size wr wx)
          case first =>
            by_cases hj0 : 0 < j
            · obtain ⟨y, hy⟩ : ∃ y, S[j - 1]? = some y := ⟨_, List.getElem?_eq_getElem (by have := HLk.out; omega)⟩
              have HXY := Lib.hid (show lessB x y = false from by
                cases h : lessB x y
                · rfl
                · exact absurd ⟨y, hj0, hy, h⟩ HGo.out)
              obtain ⟨b, off, rfl, hc⟩ := HC.out _ Hb.out
              obtain ⟨b2, off2, hBe, hd⟩ := elem_Crs ((HO.out.below Hb.out).at) hy
              subst hBe
              have hbw : b < wr.heap.size := World.block_lt_of_cell? _ _ hc.1
              have hbw2 : b2 < wr.heap.size := World.block_lt_of_cell? _ _ hd.1
              obtain ⟨c0, c1, c2, c3, c4, c5, c6, c7, c8, c9, c10, c11, c12, c13, c14⟩ := hc
              obtain ⟨d0, d1, d2, d3, d4, d5, d6, d7, d8, d9, d10, d11, d12, d13, d14⟩ := hd
              have hjd : decide ((0 : Int) < (j : Int)) = true := decide_eq_true (by omega)
              have hjz : (0 : Int) < (j : Int) := by omega
              have hj1 : ((j : Int) - 1).toNat = j - 1 := by omega
              have hj2 : (1 : Int) ≤ (j : Int) := by omega
              have hj3 : (j : Int) - 1 < (k : Int) := by omega
              have hj4 : IntKind.i64.wrap ((j : Int) - 1) = (j : Int) - 1 := by rw [IntKind.wrap_i64]; omega
              clear hy
              refine plan_region' (S := (fun w' => (∀ b o, b < (wr).heap.size → w'.cell? ⟨b, o, none⟩ = (wr).cell? ⟨b, o, none⟩) ∧ (∀ b o, b < (wr).heap.size → w'.frozen? ⟨b, o, none⟩ = (wr).frozen? ⟨b, o, none⟩) ∧ Below (wr).heap.size (wr) w')) [(0, true), (1, true), (2, true), (3, true), (4, true), (5, true), (6, true), (7, true), (8, true), (9, true), (10, true), (11, true), (12, false), (13, true)] (by kernel_rfl) (by kernel_rfl) (fun _ _ d _ _ h => by cases d <;> exact h) (keepW0 _) (fun hS => ?_)
              simp only [picked, List.getElem?_cons_succ, List.getElem?_cons_zero]
              refine row_free (v := ?_) (by rfl) ?_ ?_
              rotate_left 1
              focus (intro w hSw; (try dsimp only at hSw); go_simp; (try with_reducible rfl))
              (try simp only [Act.put, List.setIfInBounds_toArray, List.set_cons_zero, List.set_cons_succ])
              refine row_free (v := ?_) (by rfl) ?_ ?_
              rotate_left 1
              focus (intro w hSw; (try dsimp only at hSw); go_simp; (try with_reducible rfl))
              (try simp only [Act.put, List.setIfInBounds_toArray, List.set_cons_zero, List.set_cons_succ])
              refine row_free (v := ?_) (by rfl) ?_ ?_
              rotate_left 1
              focus (intro w hSw; (try dsimp only at hSw); go_simp; (try with_reducible rfl))
              (try simp only [Act.put, List.setIfInBounds_toArray, List.set_cons_zero, List.set_cons_succ])
              refine row_free (v := ?_) (by rfl) ?_ ?_
              rotate_left 1
              focus (intro w hSw; (try dsimp only at hSw); go_simp; (try with_reducible rfl))
              (try simp only [Act.put, List.setIfInBounds_toArray, List.set_cons_zero, List.set_cons_succ])
              refine row_free (v := ?_) (by rfl) ?_ ?_
              rotate_left 1
              focus (intro w hSw; (try dsimp only at hSw); go_simp; (try with_reducible rfl))
              (try simp only [Act.put, List.setIfInBounds_toArray, List.set_cons_zero, List.set_cons_succ])
              refine row_free (v := ?_) (by rfl) ?_ ?_
              rotate_left 1
              focus (intro w hSw; (try dsimp only at hSw); go_simp; (try with_reducible rfl))
              (try simp only [Act.put, List.setIfInBounds_toArray, List.set_cons_zero, List.set_cons_succ])
              refine row_free (v := ?_) (by rfl) ?_ ?_
              rotate_left 1
              focus (intro w hSw; (try dsimp only at hSw); go_simp; (try with_reducible rfl))
              (try simp only [Act.put, List.setIfInBounds_toArray, List.set_cons_zero, List.set_cons_succ])
              refine row_free (v := ?_) (by rfl) ?_ ?_
              rotate_left 1
              focus (intro w hSw; (try dsimp only at hSw); go_simp; (try with_reducible rfl))
              (try simp only [Act.put, List.setIfInBounds_toArray, List.set_cons_zero, List.set_cons_succ])
              refine row_free (v := ?_) (by rfl) ?_ ?_
              rotate_left 1
              focus (intro w hSw; (try dsimp only at hSw); go_simp; (try with_reducible rfl))
              (try simp only [Act.put, List.setIfInBounds_toArray, List.set_cons_zero, List.set_cons_succ])
              refine row_free (v := ?_) (by rfl) ?_ ?_
              rotate_left 1
              focus (intro w hSw; (try dsimp only at hSw); go_simp; (try with_reducible rfl))
              (try simp only [Act.put, List.setIfInBounds_toArray, List.set_cons_zero, List.set_cons_succ])
              refine row_free (v := ?_) (by rfl) ?_ ?_
              rotate_left 1
              focus (intro w hSw; (try dsimp only at hSw); go_simp; (try with_reducible rfl))
              (try simp only [Act.put, List.setIfInBounds_toArray, List.set_cons_zero, List.set_cons_succ])
              refine row_free (v := ?_) (by rfl) ?_ ?_
              rotate_left 1
              focus (intro w hSw; (try dsimp only at hSw); go_simp; (try with_reducible rfl))
              (try simp only [Act.put, List.setIfInBounds_toArray, List.set_cons_zero, List.set_cons_succ])
              refine row_call (by rfl) (fun K hK => ?_)
              go_simp
              (refine (HL.out x y _).mono ?_; rw [HXY.out]; rintro e w4 ⟨rfl, hb4⟩)
              (try go_wp2_with fail)
              refine hK.out _ _ ?_ (fun hS' => ?_)
              · (try dsimp only); first | exact keepW (by assumption) (by assumption) | exact keepB (by assumption) (by assumption) | exact keepA (by assumption) | assumption
              clear hS hK K
              have hS := hS'
              clear hS'
              (try simp only [Act.put, List.setIfInBounds_toArray, List.set_cons_zero, List.set_cons_succ])
              refine row_free (v := ?_) (by rfl) ?_ ?_
              rotate_left 1
              focus (intro w hSw; (try dsimp only at hSw); go_simp; (try with_reducible rfl))
              (try simp only [Act.put, List.setIfInBounds_toArray, List.set_cons_zero, List.set_cons_succ])
              refine row_done ?_
              go_wp2_with fail
              go_meet
              exact ⟨rfl, hS.2.2⟩
            · have hjd : decide ((0 : Int) < (j : Int)) = false := decide_eq_false (by omega)
              refine plan_region' (S := (fun w' => (∀ b o, b < (wr).heap.size → w'.cell? ⟨b, o, none⟩ = (wr).cell? ⟨b, o, none⟩) ∧ (∀ b o, b < (wr).heap.size → w'.frozen? ⟨b, o, none⟩ = (wr).frozen? ⟨b, o, none⟩) ∧ Below (wr).heap.size (wr) w')) [(0, true), (1, true), (2, true), (3, true), (4, true), (5, true), (6, true), (7, true), (8, true), (9, true), (10, true), (11, true), (12, false), (13, true)] (by kernel_rfl) (by kernel_rfl) (fun _ _ d _ _ h => by cases d <;> exact h) (keepW0 _) (fun hS => ?_)
              simp only [picked, List.getElem?_cons_succ, List.getElem?_cons_zero]
              refine row_free (v := ?_) (by rfl) ?_ ?_
              rotate_left 1
              focus (intro w hSw; (try dsimp only at hSw); go_simp; (try with_reducible rfl))
              (try simp only [Act.put, List.setIfInBounds_toArray, List.set_cons_zero, List.set_cons_succ])
              refine row_free (v := ?_) (by rfl) ?_ ?_
              rotate_left 1
              focus (intro w hSw; (try dsimp only at hSw); go_simp; (try with_reducible rfl))
              (try simp only [Act.put, List.setIfInBounds_toArray, List.set_cons_zero, List.set_cons_succ])
              refine row_free (v := ?_) (by rfl) ?_ ?_
              rotate_left 1
              focus (intro w hSw; (try dsimp only at hSw); go_simp; (try with_reducible rfl))
              (try simp only [Act.put, List.setIfInBounds_toArray, List.set_cons_zero, List.set_cons_succ])
              refine row_off (by rfl) ?_
              (try simp only [Act.put, List.setIfInBounds_toArray, List.set_cons_zero, List.set_cons_succ])
              refine row_off (by rfl) ?_
              (try simp only [Act.put, List.setIfInBounds_toArray, List.set_cons_zero, List.set_cons_succ])
              refine row_off (by rfl) ?_
              (try simp only [Act.put, List.setIfInBounds_toArray, List.set_cons_zero, List.set_cons_succ])
              refine row_off (by rfl) ?_
              (try simp only [Act.put, List.setIfInBounds_toArray, List.set_cons_zero, List.set_cons_succ])
              refine row_off (by rfl) ?_
              (try simp only [Act.put, List.setIfInBounds_toArray, List.set_cons_zero, List.set_cons_succ])
              refine row_off (by rfl) ?_
              (try simp only [Act.put, List.setIfInBounds_toArray, List.set_cons_zero, List.set_cons_succ])
              refine row_off (by rfl) ?_
              (try simp only [Act.put, List.setIfInBounds_toArray, List.set_cons_zero, List.set_cons_succ])
              refine row_off (by rfl) ?_
              (try simp only [Act.put, List.setIfInBounds_toArray, List.set_cons_zero, List.set_cons_succ])
              refine row_off (by rfl) ?_
              (try simp only [Act.put, List.setIfInBounds_toArray, List.set_cons_zero, List.set_cons_succ])
              refine row_off' (by rfl) hS ?_
              (try simp only [Act.put, List.setIfInBounds_toArray, List.set_cons_zero, List.set_cons_succ])
              refine row_free (v := ?_) (by rfl) ?_ ?_
              rotate_left 1
              focus (intro w hSw; (try dsimp only at hSw); go_simp; (try with_reducible rfl))
              (try simp only [Act.put, List.setIfInBounds_toArray, List.set_cons_zero, List.set_cons_succ])
              refine row_done ?_
              go_wp2_with fail
              go_meet
              exact ⟨rfl, hS.2.2⟩
          case rest =>
            obtain ⟨rfl, hcut⟩ := hcut
            have Hb1 := Lib.hid (nextW Hb.out hcut)
            have HO1 := Lib.hid (HO.out.below Hb1.out)
            obtain ⟨b, off, rfl, hc⟩ := HC.out _ Hb1.out
            obtain ⟨c0, c1, c2, c3, c4, c5, c6, c7, c8, c9, c10, c11, c12, c13, c14⟩ := hc
            have hbw : b < wc.heap.size := World.block_lt_of_cell? _ _ c0
            have hqc : (j : Int) ≤ (d : Int) := by omega
            have hqn : (j : Int) ≤ (k : Int) := by omega
            have HT := Lib.hid (List.length_take_le j S)
            have HTD := Lib.hid (show (S.drop j).length ≤ S.length from by simp)
            clear hcut
            go_wp2_with fail
            refine tree_region (S := (fun w' => (∀ b o, b < (wc).heap.size → w'.cell? ⟨b, o, none⟩ = (wc).cell? ⟨b, o, none⟩) ∧ (∀ b o, b < (wc).heap.size → w'.frozen? ⟨b, o, none⟩ = (wc).frozen? ⟨b, o, none⟩) ∧ Below (wc).heap.size (wc) w')) (.free 0 (.free 1 (.free 2 (.free 4 (.free 5 (.free 6 (.free 7 (.free 10 (.free 11 (.free 12 (.two 3 (.one 8 (.one 9 (.one 13 (.free 14 .done)))) 8 (.one 3 (.one 9 (.one 13 (.free 14 .done))))))))))))))) (by kernel_rfl) (by kernel_rfl) (fun _ _ d _ _ h => by cases d <;> exact h) (keepW0 _) (fun hS => ?_)
            simp only [written, List.getElem?_cons_succ, List.getElem?_cons_zero]
            refine rw_free (v := ?_) (by rfl) ?_ ?_
            rotate_left 1
            focus (intro w hSw; (try dsimp only at hSw); go_simp; (try with_reducible rfl))
            (try simp only [Act.put, List.setIfInBounds_toArray, List.set_cons_zero, List.set_cons_succ])
            refine rw_free (v := ?_) (by rfl) ?_ ?_
            rotate_left 1
            focus (intro w hSw; (try dsimp only at hSw); go_simp; (try with_reducible rfl))
            (try simp only [Act.put, List.setIfInBounds_toArray, List.set_cons_zero, List.set_cons_succ])
            refine rw_free (v := ?_) (by rfl) ?_ ?_
            rotate_left 1
            focus (intro w hSw; (try dsimp only at hSw); go_simp; (try with_reducible rfl))
            (try simp only [Act.put, List.setIfInBounds_toArray, List.set_cons_zero, List.set_cons_succ])
            refine rw_free (v := ?_) (by rfl) ?_ ?_
            rotate_left 1
            focus (intro w hSw; (try dsimp only at hSw); go_simp; (try with_reducible rfl))
            (try simp only [Act.put, List.setIfInBounds_toArray, List.set_cons_zero, List.set_cons_succ])
            refine rw_free (v := ?_) (by rfl) ?_ ?_
            rotate_left 1
            focus (intro w hSw; (try dsimp only at hSw); go_simp; (try with_reducible rfl))
            (try simp only [Act.put, List.setIfInBounds_toArray, List.set_cons_zero, List.set_cons_succ])
            refine rw_free (v := ?_) (by rfl) ?_ ?_
            rotate_left 1
            focus (intro w hSw; (try dsimp only at hSw); go_simp; (try with_reducible rfl))
            (try simp only [Act.put, List.setIfInBounds_toArray, List.set_cons_zero, List.set_cons_succ])
            refine rw_free (v := ?_) (by rfl) ?_ ?_
            rotate_left 1
            focus (intro w hSw; (try dsimp only at hSw); go_simp; (try with_reducible rfl))
            (try simp only [Act.put, List.setIfInBounds_toArray, List.set_cons_zero, List.set_cons_succ])
            refine rw_free (v := ?_) (by rfl) ?_ ?_
            rotate_left 1
            focus (intro w hSw; (try dsimp only at hSw); go_simp; (try with_reducible rfl))
            (try simp only [Act.put, List.setIfInBounds_toArray, List.set_cons_zero, List.set_cons_succ])
            refine rw_free (v := ?_) (by rfl) ?_ ?_
            rotate_left 1
            focus (intro w hSw; (try dsimp only at hSw); go_simp; (try with_reducible rfl))
            (try simp only [Act.put, List.setIfInBounds_toArray, List.set_cons_zero, List.set_cons_succ])
            refine rw_free (v := ?_) (by rfl) ?_ ?_
            rotate_left 1
            focus (intro w hSw; (try dsimp only at hSw); go_simp; (try with_reducible rfl))
            (try simp only [Act.put, List.setIfInBounds_toArray, List.set_cons_zero, List.set_cons_succ])
            refine rw_two ?_ ?_
            · skip
              refine rw_call (by rfl) (fun K hK => ?_)
              (refine app_Crs (.const (.slice none 0 0)) (.tmp 32) (by rfl) wc.heap.size _ [] (by rfl) ⟨rfl, .inl ⟨rfl, rfl⟩⟩ _ (S.take j) (by rfl) ((HO1.out.below hS.2.2).upto 15 j (by rw [HLk.out]; omega)) (by have := HT.out; have := HLk.out; simp; omega) hS.2.2.size ?_; intro v1 w6 ho6 hb6 hg6)
              simp only [Act.put, List.setIfInBounds_toArray, List.set_cons_zero, List.set_cons_succ]
              refine hK.out _ _ ?_ (fun hS' => ?_)
              · (try dsimp only); first | exact keepW (by assumption) (by assumption) | exact keepB (by assumption) (by assumption) | exact keepA (by assumption) | assumption
              clear hS hK K
              have hS := hS'
              clear hS'
              (try simp only [Act.put, List.setIfInBounds_toArray, List.set_cons_zero, List.set_cons_succ])
              refine rw_call (by rfl) (fun K hK => ?_)
              go_simp
              (skip)
              (try go_wp2_with fail)
              refine hK.out _ _ ?_ (fun hS' => ?_)
              · (try dsimp only); first | exact keepW (by assumption) (by assumption) | exact keepB (by assumption) (by assumption) | exact keepA (by assumption) | assumption
              clear hS hK K
              have hS := hS'
              clear hS'
              (try simp only [Act.put, List.setIfInBounds_toArray, List.set_cons_zero, List.set_cons_succ])
              refine rw_call (by rfl) (fun K hK => ?_)
              ((first | refine app_Crs (.tmp 33) (.tmp 38) (by rfl) wc.heap.size _ (S.take j) (by rfl) (by first | exact ho6.alloc _ | simpa using ho6.alloc _) _ [x] (by rfl) (one_Crs _ x _ 1 (by rfl) (by omega)) (by have := HT.out; have := HTD.out; have := HLk.out; simp only [List.length_append, List.length_cons, List.length_nil]; omega) hS.2.2.size ?_ | refine app_Crs (.tmp 33) (.tmp 38) (by rfl) wc.heap.size _ (S.take j) (by rfl) (by first | exact ho6 | simpa using ho6) _ [x] (by rfl) ((one_Crs _ x _ 1 (by rfl) (by omega)).keep fun p u hp => hg6.cell hp (by simp [Value.ownBlock])) (by have := HT.out; have := HTD.out; have := HLk.out; simp only [List.length_append, List.length_cons, List.length_nil]; omega) hS.2.2.size ?_); intro v2 w7 ho7 hb7 hg7)
              simp only [Act.put, List.setIfInBounds_toArray, List.set_cons_zero, List.set_cons_succ]
              refine hK.out _ _ ?_ (fun hS' => ?_)
              · (try dsimp only); first | exact keepW (by assumption) (by assumption) | exact keepB (by assumption) (by assumption) | exact keepA (by assumption) | assumption
              clear hS hK K
              have hS := hS'
              clear hS'
              (try simp only [Act.put, List.setIfInBounds_toArray, List.set_cons_zero, List.set_cons_succ])
              refine rw_call (by rfl) (fun K hK => ?_)
              (refine app_Crs (.tmp 39) (.tmp 42) (by rfl) wc.heap.size _ (S.take j ++ [x]) (by rfl) ho7 _ (S.drop j) (by rfl) ((HO1.out.below hS.2.2).since 15 j crsC_len (by omega) (by rw [HLk.out]; omega)) (by have := HT.out; have := HTD.out; have := HLk.out; simp only [List.length_append, List.length_cons, List.length_nil]; omega) hS.2.2.size ?_; intro v3 w8 ho8 hb8 hg8)
              simp only [Act.put, List.setIfInBounds_toArray, List.set_cons_zero, List.set_cons_succ]
              refine hK.out _ _ ?_ (fun hS' => ?_)
              · (try dsimp only); first | exact keepW (by assumption) (by assumption) | exact keepB (by assumption) (by assumption) | exact keepA (by assumption) | assumption
              clear hS hK K
              have hS := hS'
              clear hS'
              (try simp only [Act.put, List.setIfInBounds_toArray, List.set_cons_zero, List.set_cons_succ])
              refine rw_free (v := ?_) (by rfl) ?_ ?_
              rotate_left 1
              focus (intro w hSw; (try dsimp only at hSw); go_simp; (try with_reducible rfl))
              (try simp only [Act.put, List.setIfInBounds_toArray, List.set_cons_zero, List.set_cons_succ])
              refine rw_done ?_
              clear ho7 hg6 hg7 hb6 hb7
              rw [← HM.out, ← HX.out] at ho8
              have HO8 := Lib.hid ho8
              have HB8 := Lib.hid (nextW Hb1.out hS.2.2)
              clear ho8 hg8 hb8 hS
              go_wp2
              go_roundw
              case rel => exact ⟨k + 1, by omega, by go_num, own_mono HO8.out (Nat.le_trans Hbel.out.size Hb1.out.size), nextW Hbel.out HB8.out⟩
              case measure => simp [intOf]; omega
            · skip
              refine rw_call (by rfl) (fun K hK => ?_)
              go_simp
              (skip)
              (try go_wp2_with fail)
              refine hK.out _ _ ?_ (fun hS' => ?_)
              · (try dsimp only); first | exact keepW (by assumption) (by assumption) | exact keepB (by assumption) (by assumption) | exact keepA (by assumption) | assumption
              clear hS hK K
              have hS := hS'
              clear hS'
              (try simp only [Act.put, List.setIfInBounds_toArray, List.set_cons_zero, List.set_cons_succ])
              refine rw_call (by rfl) (fun K hK => ?_)
              (refine app_Crs (.const (.slice none 0 0)) (.tmp 32) (by rfl) wc.heap.size _ [] (by rfl) ⟨rfl, .inl ⟨rfl, rfl⟩⟩ _ (S.take j) (by rfl) ((HO1.out.below hS.2.2).upto 15 j (by rw [HLk.out]; omega)) (by have := HT.out; have := HLk.out; simp; omega) hS.2.2.size ?_; intro v1 w6 ho6 hb6 hg6)
              simp only [Act.put, List.setIfInBounds_toArray, List.set_cons_zero, List.set_cons_succ]
              refine hK.out _ _ ?_ (fun hS' => ?_)
              · (try dsimp only); first | exact keepW (by assumption) (by assumption) | exact keepB (by assumption) (by assumption) | exact keepA (by assumption) | assumption
              clear hS hK K
              have hS := hS'
              clear hS'
              (try simp only [Act.put, List.setIfInBounds_toArray, List.set_cons_zero, List.set_cons_succ])
              refine rw_call (by rfl) (fun K hK => ?_)
              ((first | refine app_Crs (.tmp 33) (.tmp 38) (by rfl) wc.heap.size _ (S.take j) (by rfl) (by first | exact ho6.alloc _ | simpa using ho6.alloc _) _ [x] (by rfl) (one_Crs _ x _ 1 (by rfl) (by omega)) (by have := HT.out; have := HTD.out; have := HLk.out; simp only [List.length_append, List.length_cons, List.length_nil]; omega) hS.2.2.size ?_ | refine app_Crs (.tmp 33) (.tmp 38) (by rfl) wc.heap.size _ (S.take j) (by rfl) (by first | exact ho6 | simpa using ho6) _ [x] (by rfl) ((one_Crs _ x _ 1 (by rfl) (by omega)).keep fun p u hp => hg6.cell hp (by simp [Value.ownBlock])) (by have := HT.out; have := HTD.out; have := HLk.out; simp only [List.length_append, List.length_cons, List.length_nil]; omega) hS.2.2.size ?_); intro v2 w7 ho7 hb7 hg7)
              simp only [Act.put, List.setIfInBounds_toArray, List.set_cons_zero, List.set_cons_succ]
              refine hK.out _ _ ?_ (fun hS' => ?_)
              · (try dsimp only); first | exact keepW (by assumption) (by assumption) | exact keepB (by assumption) (by assumption) | exact keepA (by assumption) | assumption
              clear hS hK K
              have hS := hS'
              clear hS'
              (try simp only [Act.put, List.setIfInBounds_toArray, List.set_cons_zero, List.set_cons_succ])
              refine rw_call (by rfl) (fun K hK => ?_)
              (refine app_Crs (.tmp 39) (.tmp 42) (by rfl) wc.heap.size _ (S.take j ++ [x]) (by rfl) ho7 _ (S.drop j) (by rfl) ((HO1.out.below hS.2.2).since 15 j crsC_len (by omega) (by rw [HLk.out]; omega)) (by have := HT.out; have := HTD.out; have := HLk.out; simp only [List.length_append, List.length_cons, List.length_nil]; omega) hS.2.2.size ?_; intro v3 w8 ho8 hb8 hg8)
              simp only [Act.put, List.setIfInBounds_toArray, List.set_cons_zero, List.set_cons_succ]
              refine hK.out _ _ ?_ (fun hS' => ?_)
              · (try dsimp only); first | exact keepW (by assumption) (by assumption) | exact keepB (by assumption) (by assumption) | exact keepA (by assumption) | assumption
              clear hS hK K
              have hS := hS'
              clear hS'
              (try simp only [Act.put, List.setIfInBounds_toArray, List.set_cons_zero, List.set_cons_succ])
              refine rw_free (v := ?_) (by rfl) ?_ ?_
              rotate_left 1
              focus (intro w hSw; (try dsimp only at hSw); go_simp; (try with_reducible rfl))
              (try simp only [Act.put, List.setIfInBounds_toArray, List.set_cons_zero, List.set_cons_succ])
              refine rw_done ?_
              clear ho7 hg6 hg7 hb6 hb7
              rw [← HM.out, ← HX.out] at ho8
              have HO8 := Lib.hid ho8
              have HB8 := Lib.hid (nextW Hb1.out hS.2.2)
              clear ho8 hg8 hb8 hS
              go_wp2
              go_roundw
              case rel => exact ⟨k + 1, by omega, by go_num, own_mono HO8.out (Nat.le_trans Hbel.out.size Hb1.out.size), nextW Hbel.out HB8.out⟩
              case measure => simp [intOf]; omega
    · obtain rfl : k = n := by omega
      rw [List.take_of_length_le (Nat.le_of_eq Hn.out)] at hown
      have Hown := Lib.hid hown
      clear hown HO
      go_wp2
      go_ret
      exact ⟨_, rfl, Hown.out, Hbel.out⟩

end Go.Proofs.Ytbmboidmgdpnoaa.Fx
