/- The document's Reader: what its calls answer. The document's Reader: what Count and Raw answer. -/
import Derived.Test.YtlpkaljepaclpaaGreatM36
import Derived.Test.YtlpkaljepaclpaaGreatM04
import Derived.Deep.DeepCutAuto
namespace Go.Proofs.YtlpkaljepaclpaaGreat.Fx
open Go.ChangeShapes Go.WideShapes Go.ChangeAt Go.RowKit
set_option linter.unusedVariables false
set_option maxRecDepth 100000

theorem nlen_none {l : List Int} (h : ∀ (i : Nat) (x : Int), l[i]? = some x → ¬ x < 128) : nlen l = 0 := by
  induction l with
  | nil => rfl
  | cons y l ih =>
    have h1 := ih (fun i x hx => h (i + 1) x (by simpa using hx))
    have h2 := h 0 y rfl
    unfold nlen at *
    rw [List.findIdx?_cons, if_neg (by simpa using h2)]
    cases hf : l.findIdx? (fun c => decide (c < 128)) with
    | none => rfl
    | some k => rw [hf] at h1; simp at h1

theorem nlen_some {l : List Int} {k : Nat} {x : Int} (hk : l[k]? = some x) (hx : x < 128) (h : ∀ (i : Nat), i < k → ∀ y, l[i]? = some y → ¬ y < 128) : nlen l = k + 1 := by
  induction l generalizing k with
  | nil => simp at hk
  | cons y l ih =>
    cases k with
    | zero => simp at hk; subst hk; exact nlen_lt hx
    | succ k =>
      have h1 := ih (k := k) (by simpa using hk) (fun i hi z hz => h (i + 1) (by omega) z (by simpa using hz))
      rw [nlen_ge (h 0 (by omega) y rfl) (by omega), h1]

theorem pos_flat {L : List Int} (h : L.flatMap byC ≠ []) : 0 < L.length := by
  cases L with
  | nil => exact absurd rfl h
  | cons x L => simp

/-- The document's Reader in block c: of the bytes L. -/
structure RfAt (w : World) (c : Nat) (v : Value) (L : List Int) (p : Nat) (r : Rd) : Prop where
  lt : c < w.heap.size
  c0 : w.cell? ⟨c, 0, none⟩ = some v
  c1 : w.cell? ⟨c, 1, none⟩ = some (.int .i64 p)
  c2 : w.cell? ⟨c, 2, none⟩ = some (.int .i64 r.e)
  f1 : w.frozen? ⟨c, 1, none⟩ = false
  f2 : w.frozen? ⟨c, 2, none⟩ = false
  sl : IsSl byC w v L
  off : ∀ a n k, v = .slice (some a) n k → 0 < n → a.block ≠ c
  yes : r.e = 0 → p ≤ L.length ∧ r.l = L.drop p
  no : r.e ≠ 0 → r.l = []

theorem RfAt.below {w w' : World} {c : Nat} {v : Value} {L : List Int} {p : Nat} {r : Rd} (h : RfAt w c v L p r) (hb : Below w.heap.size w w') : RfAt w' c v L p r :=
  ⟨Nat.lt_of_lt_of_le h.lt hb.size, (hb.cell (p := ⟨c, 0, none⟩) h.lt).trans h.c0, (hb.cell (p := ⟨c, 1, none⟩) h.lt).trans h.c1, (hb.cell (p := ⟨c, 2, none⟩) h.lt).trans h.c2, (hb.frozen (p := ⟨c, 1, none⟩) h.lt).trans h.f1, (hb.frozen (p := ⟨c, 2, none⟩) h.lt).trans h.f2, h.sl.below hb, h.off, h.yes, h.no⟩

/-- Another block was written. -/
theorem RfAt.grown {w w' : World} {c b : Nat} {v : Value} {L : List Int} {p : Nat} {r : Rd} (h : RfAt w c v L p r) (hg : w.grownBy w' (some b)) (hne : c ≠ b) (hv : ∀ a n k, v = .slice (some a) n k → 0 < n → a.block ≠ b) : RfAt w' c v L p r := by
  refine ⟨Nat.lt_of_lt_of_le h.lt hg.size, grown_cell hg (by simp [hne]) h.c0, grown_cell hg (by simp [hne]) h.c1, grown_cell hg (by simp [hne]) h.c2, (grown_frozen hg h.lt (by simp [hne])).trans h.f1, (grown_frozen hg h.lt (by simp [hne])).trans h.f2, ?_, h.off, h.yes, h.no⟩
  obtain ⟨A, k, rfl, hA, hc, hat⟩ := h.sl
  refine ⟨A, k, rfl, hA, hc, fun hx => ?_⟩
  obtain ⟨g, off, rfl, hcell⟩ := hat hx
  have := hv _ _ _ rfl (pos_flat hx)
  exact ⟨g, off, rfl, fun i u hu => grown_cell hg (by simpa using this) (hcell i u hu)⟩

theorem ffail_any (c : Nat) (v : Value) (L : List Int) (p : Nat) (r : Rd) (q : Int) (w : World) (h : RfAt w c v L p r) (he : r.e = 0) (hq : q ≠ 0) :
    Calls Tryz.prog 143 #[.pointer (some ⟨c, 0, none⟩), .int .i64 q] w fun e w' => e = .returned (.tuple #[]) ∧ RfAt w' c v L p ⟨[], q⟩ ∧ w.grownBy w' (some c) := by
  have HF := Lib.hid h
  have h2 := h.c2
  have hf2 := h.f2
  rw [he] at h2
  clear h
  go_enter Tryz.func143, Tryz.ntmps143
  go_wp2
  go_end0
  have hg : w.grownBy (w.setCell ⟨c, 2, none⟩ (.int .i64 q)) (some c) := ⟨rfl, rfl, rfl, by simp, fun k hk hne => Below.heap_setCell _ _ _ _ (by intro e; apply hne; rw [e])⟩
  refine ⟨rfl, ⟨by simp; exact HF.out.lt, by rw [World.cell?_setCell_other _ _ _ _ (by simp)]; exact HF.out.c0, by rw [World.cell?_setCell_other _ _ _ _ (by simp)]; exact HF.out.c1, World.cell?_setCell_same _ _ _ h2, by rw [World.frozen?_setCell]; exact HF.out.f1, by rw [World.frozen?_setCell]; exact hf2, ?_, HF.out.off, fun h => absurd h hq, fun _ => rfl⟩, hg⟩
  have hv := HF.out.off
  obtain ⟨A, k, rfl, hA, hc, hat⟩ := HF.out.sl
  refine ⟨A, k, rfl, hA, hc, fun hx => ?_⟩
  obtain ⟨g, off, rfl, hcell⟩ := hat hx
  have := hv _ _ _ rfl (pos_flat hx)
  exact ⟨g, off, rfl, fun i u hu => grown_cell hg (by simpa using this) (hcell i u hu)⟩

theorem RfAt.move {w : World} {c : Nat} {v : Value} {L : List Int} {p : Nat} {r : Rd} (h : RfAt w c v L p r) (he : r.e = 0) (n : Nat) (hn : p + n ≤ L.length) (z : Int) (hz : z = ((p + n : Nat) : Int)) :
    RfAt (w.setCell ⟨c, 1, none⟩ (.int .i64 z)) c v L (p + n) ⟨r.l.drop n, 0⟩ ∧ w.grownBy (w.setCell ⟨c, 1, none⟩ (.int .i64 z)) (some c) := by
  subst hz
  have hg : w.grownBy (w.setCell ⟨c, 1, none⟩ (.int .i64 ((p + n : Nat) : Int))) (some c) := ⟨rfl, rfl, rfl, by simp, fun k hk hne => Below.heap_setCell _ _ _ _ (by intro e; apply hne; rw [e])⟩
  have h2 := h.c2
  rw [he] at h2
  refine ⟨⟨by simp; exact h.lt, by rw [World.cell?_setCell_other _ _ _ _ (by simp)]; exact h.c0, World.cell?_setCell_same _ _ _ h.c1, by rw [World.cell?_setCell_other _ _ _ _ (by simp)]; exact h2, by rw [World.frozen?_setCell]; exact h.f1, by rw [World.frozen?_setCell]; exact h.f2, ?_, h.off, fun _ => ⟨hn, by rw [(h.yes he).2, List.drop_drop]⟩, fun h => absurd rfl h⟩, hg⟩
  have hv := h.off
  obtain ⟨A, k, rfl, hA, hc, hat⟩ := h.sl
  refine ⟨A, k, rfl, hA, hc, fun hx => ?_⟩
  obtain ⟨g, off, rfl, hcell⟩ := hat hx
  have := hv _ _ _ rfl (pos_flat hx)
  exact ⟨g, off, rfl, fun i u hu => grown_cell hg (by simpa using this) (hcell i u hu)⟩

/-- What a call of the document's Reader leaves. -/
def RfEnd (w : World) (c : Nat) (v : Value) (L : List Int) (q : Int × Rd) (e : Ending) (w' : World) : Prop := e = .returned (.int .i64 q.1) ∧ (∃ p, RfAt w' c v L p q.2) ∧ w.grownBy w' (some c)

set_option maxHeartbeats 2000000 in
theorem fint_any (c : Nat) (v : Value) (L : List Int) (p : Nat) (r : Rd) (w : World) (h : RfAt w c v L p r) (hok : ByOk L) (hL : L.length ≤ 1000000) :
    Calls Tryz.prog 82 #[.pointer (some ⟨c, 0, none⟩)] w (RfEnd w c v L r.int) := by
  have HR := Lib.hid h
  have h0 := h.c0
  have h1 := h.c1
  have h2 := h.c2
  have hf1 := h.f1
  have hy := h.yes
  have HF := Lib.hid (ffail_any c v L p r)
  have Hok := Lib.hid hok
  have HS := Lib.hid h.sl
  obtain ⟨A, kc, rfl, -⟩ := h.sl
  have HD := Lib.hid (Rd.int_eq r)
  obtain ⟨Q, hQ⟩ : ∃ Q, r.int = Q := ⟨_, rfl⟩
  rw [hQ] at HD ⊢
  obtain ⟨M, hM⟩ : ∃ M, L.length = M := ⟨_, rfl⟩
  rw [hM] at h0 hy hL
  have HM := Lib.hid hM
  obtain ⟨er, her⟩ : ∃ er, r.e = er := ⟨_, rfl⟩
  rw [her] at h2 hy HD
  have Her := Lib.hid her
  clear h hok hQ hM her
  by_cases he : er = 0
  · obtain ⟨hp, hl⟩ := hy he
    have HG := Lib.hid (show ∀ i : Nat, r.l[i]? = L[p + i]? from fun i => by rw [hl, List.getElem?_drop])
    have HRl := Lib.hid (show r.l.length = M - p from by rw [hl, List.length_drop, HM.out])
    have Hl := Lib.hid hl
    subst he
    clear hy hl
    go_enter Tryz.func82, Tryz.ntmps82
    go_wp2
    go_loop [3] (fun s => ∃ k : Nat, p + k ≤ M ∧ s = .int .i64 ((p + k : Nat) : Int) ∧ ∀ i : Nat, i < k → ∀ y, r.l[i]? = some y → ¬ y < 128) (fun s => M - (intOf s).toNat)
    case atStart => exact ⟨0, by omega, by simp, fun i hi => by omega⟩
    case round =>
      obtain ⟨k, hk, rfl, hbig⟩ := hrel
      have HBig := Lib.hid hbig
      clear hbig
      by_cases hlt : p + k < M
      · obtain ⟨x, hx⟩ := getE L (p + k) M HM.out hlt
        have hxb := Hok.out x (List.mem_of_getElem? hx)
        have Hx := Lib.hid (show r.l[k]? = some x from by rw [HG.out]; exact hx)
        obtain ⟨b', off, rfl, hc⟩ := (show IsSl byC w (.slice A L.length kc) L from HS.out).by hx
        have hltI : ((p + k : Nat) : Int) < (M : Int) := by omega
        clear hx
        by_cases hq : x < 128
        · skip
          have hnl := nlen_some Hx.out hq (fun i hi y hyy => HBig.out i hi y hyy)
          have hgi : gi r.l (k + 1 - 1) = x := by rw [Nat.add_sub_cancel]; simp [gi, List.getD_eq_getElem?_getD, Hx.out]
          have hq' : ¬ (128 : Int) ≤ x := by omega
          have hnM : ¬ ((M : Int) ≤ (p : Int) + (k : Int)) := by omega
          by_cases hbad : 9 < k + 1 ∨ (1 < k + 1 ∧ gi r.l (k + 1 - 1) = 0)
          · have HQ := Lib.hid (show Q = (0, ⟨[], 4⟩) from by rw [HD.out, if_neg (by simp), hnl, if_neg (by omega), if_pos hbad])
            clear HD
            by_cases h9 : 9 < k + 1
            · have d9 : decide ((9 : Int) < (k : Int) + 1) = true := decide_eq_true (by omega)
              go_wp2_with fail
              refine (HF.out 4 _ HR.out Her.out (by omega)).mono ?_
              rintro e w1 ⟨rfl, h3, hg3⟩
              have H3 := Lib.hid (And.intro h3 hg3)
              clear h3 hg3
              go_wp2
              go_ret
              exact ⟨by rw [HQ.out]; rfl, ⟨_, by rw [HQ.out]; exact H3.out.1⟩, H3.out.2⟩
            · obtain ⟨h1n, hx0⟩ := hbad.resolve_left h9
              rw [hgi] at hx0
              subst hx0
              have d9 : decide ((9 : Int) < (k : Int) + 1) = false := decide_eq_false (by omega)
              have d1 : decide ((1 : Int) < (k : Int) + 1) = true := decide_eq_true (by omega)
              go_wp2_with fail
              refine (HF.out 4 _ HR.out Her.out (by omega)).mono ?_
              rintro e w1 ⟨rfl, h3, hg3⟩
              have H3 := Lib.hid (And.intro h3 hg3)
              clear h3 hg3
              go_wp2
              go_ret
              exact ⟨by rw [HQ.out]; rfl, ⟨_, by rw [HQ.out]; exact H3.out.1⟩, H3.out.2⟩
          · have h9 : ¬ 9 < k + 1 := fun h => hbad (.inl h)
            by_cases h1n : 1 < k + 1
            · have hx0 : (x == 0) = false := by
                have : ¬ x = 0 := fun h => hbad (.inr ⟨h1n, by rw [hgi]; exact h⟩)
                simpa using this
              have HQ := Lib.hid (show Q = (zag (numV (r.l.take (k + 1))), ⟨r.l.drop (k + 1), 0⟩) from by rw [HD.out, if_neg (by simp), hnl, if_neg (by omega), if_neg hbad])
              obtain ⟨T, hT⟩ : ∃ T, r.l.take (k + 1) = T := ⟨_, rfl⟩
              rw [hT] at HQ
              have HT := Lib.hid (show ∀ j : Nat, j < k + 1 → T[j]? = L[p + j]? from fun j hj => by rw [← hT, List.getElem?_take, if_pos hj, HG.out])
              have HTl := Lib.hid (show T.length = k + 1 from by rw [← hT, List.length_take, HRl.out]; omega)
              have HTb := Lib.hid (fun j => numV_bd (T.drop j))
              have HTz := Lib.hid (show numV T ≤ 9223372036854775807 from by
                have h1 := numV_bd T
                have h2 : (128 : Int) ^ T.length ≤ 128 ^ 9 := by
                  have : (128 : Nat) ^ T.length ≤ 128 ^ 9 := Nat.pow_le_pow_right (by omega) (by rw [HTl.out]; omega)
                  exact_mod_cast this
                omega)
              clear hT HD
              have d9 : decide ((9 : Int) < (k : Int) + 1) = false := decide_eq_false (by omega)
              have d1 : decide ((1 : Int) < (k : Int) + 1) = true := decide_eq_true (by omega)
              go_wp2
              go_loop [5, 6] (fun s5 s6 => ∃ j : Nat, j ≤ k + 1 ∧ s6 = .int .i64 ((p : Int) + j - 1) ∧ s5 = .int .u64 (numV (T.drop j))) (fun _ s => (intOf s + 1).toNat)
              case atStart => exact ⟨k + 1, Nat.le_refl _, by congr 1; omega, by rw [List.drop_eq_nil_of_le (by rw [HTl.out]; exact Nat.le_refl _)]; rfl⟩
              case round =>
                obtain ⟨j, hj, rfl, rfl⟩ := hrel
                by_cases hj0 : j = 0
                · subst hj0
                  have hz0 := (numV_bd T).1
                  have hz1 := HTz.out
                  rw [List.drop_zero]
                  have HZ := Lib.hid (show zag (numV T) = if numV T % 2 = 1 then -(numV T / 2) - 1 else numV T / 2 from rfl)
                  have hp1 : (p : Int) + ((0 : Nat) : Int) - 1 < (p : Int) := by omega
                  generalize zag (numV T) = z at *
                  generalize numV T = u at *
                  by_cases hu : u % 2 = 1
                  · have hzz : z = -(u / 2) - 1 := by rw [HZ.out, if_pos hu]
                    subst hzz
                    clear HZ
                    go_wp2
                    go_ret
                    have hmv := HR.out.move Her.out (k + 1) (by rw [HM.out]; omega) ((p : Int) + (k : Int) + 1) (by omega)
                    exact ⟨by rw [HQ.out]; rfl, ⟨_, by rw [HQ.out]; exact hmv.1⟩, hmv.2⟩
                  · have hzz : z = u / 2 := by rw [HZ.out, if_neg hu]
                    subst hzz
                    clear HZ
                    go_wp2
                    go_ret
                    have hmv := HR.out.move Her.out (k + 1) (by rw [HM.out]; omega) ((p : Int) + (k : Int) + 1) (by omega)
                    exact ⟨by rw [HQ.out]; rfl, ⟨_, by rw [HQ.out]; exact hmv.1⟩, hmv.2⟩
                · obtain ⟨m, rfl⟩ : ∃ m, j = m + 1 := ⟨j - 1, by omega⟩
                  obtain ⟨y, hyy⟩ := getE L (p + m) M HM.out (by omega)
                  have hyb := Hok.out y (List.mem_of_getElem? hyy)
                  obtain ⟨b2, off2, e2, hc2⟩ := (show IsSl byC w (.slice (some ⟨b', off, none⟩) L.length kc) L from HS.out).by hyy
                  cases e2
                  have hs := HTb.out (m + 1)
                  have hs1 : numV (T.drop (m + 1)) < 72057594037927936 := by
                    have h2 : (128 : Int) ^ (T.drop (m + 1)).length ≤ 128 ^ 8 := by
                      have : (128 : Nat) ^ (T.drop (m + 1)).length ≤ 128 ^ 8 := Nat.pow_le_pow_right (by omega) (by rw [List.length_drop, HTl.out]; omega)
                      exact_mod_cast this
                    omega
                  have hs0 := hs.1
                  have HN := Lib.hid (show numV (T.drop m) = y % 128 + 128 * numV (T.drop (m + 1)) from by
                    rw [drop_at (show T[m]? = some y from by rw [HT.out m (by omega)]; exact hyy)]; rfl)
                  clear hs hyy
                  generalize numV (T.drop (m + 1)) = u at *
                  go_wp2
                  go_round
                  case rel => exact ⟨m, by omega, by congr 1; omega, by rw [HN.out]; congr 1; omega⟩
                  case measure => simp [intOf]; omega
            · have d1 : decide ((1 : Int) < (k : Int) + 1) = false := decide_eq_false (by omega)
              have HQ := Lib.hid (show Q = (zag (numV (r.l.take (k + 1))), ⟨r.l.drop (k + 1), 0⟩) from by rw [HD.out, if_neg (by simp), hnl, if_neg (by omega), if_neg hbad])
              obtain ⟨T, hT⟩ : ∃ T, r.l.take (k + 1) = T := ⟨_, rfl⟩
              rw [hT] at HQ
              have HT := Lib.hid (show ∀ j : Nat, j < k + 1 → T[j]? = L[p + j]? from fun j hj => by rw [← hT, List.getElem?_take, if_pos hj, HG.out])
              have HTl := Lib.hid (show T.length = k + 1 from by rw [← hT, List.length_take, HRl.out]; omega)
              have HTb := Lib.hid (fun j => numV_bd (T.drop j))
              have HTz := Lib.hid (show numV T ≤ 9223372036854775807 from by
                have h1 := numV_bd T
                have h2 : (128 : Int) ^ T.length ≤ 128 ^ 9 := by
                  have : (128 : Nat) ^ T.length ≤ 128 ^ 9 := Nat.pow_le_pow_right (by omega) (by rw [HTl.out]; omega)
                  exact_mod_cast this
                omega)
              clear hT HD
              have d9 : decide ((9 : Int) < (k : Int) + 1) = false := decide_eq_false (by omega)
              go_wp2
              go_loop [5, 6] (fun s5 s6 => ∃ j : Nat, j ≤ k + 1 ∧ s6 = .int .i64 ((p : Int) + j - 1) ∧ s5 = .int .u64 (numV (T.drop j))) (fun _ s => (intOf s + 1).toNat)
              case atStart => exact ⟨k + 1, Nat.le_refl _, by congr 1; omega, by rw [List.drop_eq_nil_of_le (by rw [HTl.out]; exact Nat.le_refl _)]; rfl⟩
              case round =>
                obtain ⟨j, hj, rfl, rfl⟩ := hrel
                by_cases hj0 : j = 0
                · subst hj0
                  have hz0 := (numV_bd T).1
                  have hz1 := HTz.out
                  rw [List.drop_zero]
                  have HZ := Lib.hid (show zag (numV T) = if numV T % 2 = 1 then -(numV T / 2) - 1 else numV T / 2 from rfl)
                  have hp1 : (p : Int) + ((0 : Nat) : Int) - 1 < (p : Int) := by omega
                  generalize zag (numV T) = z at *
                  generalize numV T = u at *
                  by_cases hu : u % 2 = 1
                  · have hzz : z = -(u / 2) - 1 := by rw [HZ.out, if_pos hu]
                    subst hzz
                    clear HZ
                    go_wp2
                    go_ret
                    have hmv := HR.out.move Her.out (k + 1) (by rw [HM.out]; omega) ((p : Int) + (k : Int) + 1) (by omega)
                    exact ⟨by rw [HQ.out]; rfl, ⟨_, by rw [HQ.out]; exact hmv.1⟩, hmv.2⟩
                  · have hzz : z = u / 2 := by rw [HZ.out, if_neg hu]
                    subst hzz
                    clear HZ
                    go_wp2
                    go_ret
                    have hmv := HR.out.move Her.out (k + 1) (by rw [HM.out]; omega) ((p : Int) + (k : Int) + 1) (by omega)
                    exact ⟨by rw [HQ.out]; rfl, ⟨_, by rw [HQ.out]; exact hmv.1⟩, hmv.2⟩
                · obtain ⟨m, rfl⟩ : ∃ m, j = m + 1 := ⟨j - 1, by omega⟩
                  obtain ⟨y, hyy⟩ := getE L (p + m) M HM.out (by omega)
                  have hyb := Hok.out y (List.mem_of_getElem? hyy)
                  obtain ⟨b2, off2, e2, hc2⟩ := (show IsSl byC w (.slice (some ⟨b', off, none⟩) L.length kc) L from HS.out).by hyy
                  cases e2
                  have hs := HTb.out (m + 1)
                  have hs1 : numV (T.drop (m + 1)) < 72057594037927936 := by
                    have h2 : (128 : Int) ^ (T.drop (m + 1)).length ≤ 128 ^ 8 := by
                      have : (128 : Nat) ^ (T.drop (m + 1)).length ≤ 128 ^ 8 := Nat.pow_le_pow_right (by omega) (by rw [List.length_drop, HTl.out]; omega)
                      exact_mod_cast this
                    omega
                  have hs0 := hs.1
                  have HN := Lib.hid (show numV (T.drop m) = y % 128 + 128 * numV (T.drop (m + 1)) from by
                    rw [drop_at (show T[m]? = some y from by rw [HT.out m (by omega)]; exact hyy)]; rfl)
                  clear hs hyy
                  generalize numV (T.drop (m + 1)) = u at *
                  go_wp2
                  go_round
                  case rel => exact ⟨m, by omega, by congr 1; omega, by rw [HN.out]; congr 1; omega⟩
                  case measure => simp [intOf]; omega
        · have hq' : (128 : Int) ≤ x := by omega
          go_wp2
          go_round
          case rel => exact ⟨k + 1, by omega, by go_num, fun i hi y hyy => by
            by_cases e : i = k
            · subst e; rw [Hx.out] at hyy; cases hyy; exact hq
            · exact HBig.out i (by omega) y hyy⟩
          case measure => simp [intOf]; omega
      · obtain rfl : M = p + k := by omega
        have HQ := Lib.hid (show Q = (0, ⟨[], 5⟩) from by
          rw [HD.out, if_neg (by simp), if_pos]
          exact nlen_none fun i y hyy => HBig.out i (by have := (List.getElem?_eq_some_iff.1 hyy).1; have := HRl.out; omega) y hyy)
        clear HD
        go_wp2_with fail
        refine (HF.out 5 _ HR.out Her.out (by omega)).mono ?_
        rintro e w1 ⟨rfl, h3, hg3⟩
        have H3 := Lib.hid (And.intro h3 hg3)
        clear h3 hg3
        go_wp2
        go_ret
        exact ⟨by rw [HQ.out]; rfl, ⟨_, by rw [HQ.out]; exact H3.out.1⟩, H3.out.2⟩
  · have HQ := Lib.hid (show Q = (0, r) from by rw [HD.out, if_pos he])
    clear HD hy
    go_enter Tryz.func82, Tryz.ntmps82
    go_wp2
    go_ret
    exact ⟨by rw [HQ.out]; rfl, ⟨_, by rw [HQ.out]; exact HR.out⟩, World.grownBy.refl _ _⟩

end Go.Proofs.YtlpkaljepaclpaaGreat.Fx
namespace Go.Proofs.YtlpkaljepaclpaaGreat.Fx
open Go.ChangeShapes Go.WideShapes Go.ChangeAt Go.RowKit
set_option linter.unusedVariables false
set_option maxRecDepth 100000

/-- v[lo:hi]. -/
def slMid (sz : Nat) (v : Value) (lo hi : Nat) : Value := match v with
  | .slice A n c => sliced A lo hi c sz
  | _ => v

@[go_sem high] theorem slMid_by (A : Option Addr) (n c : Nat) (l h : Int) (h0 : 0 ≤ l) (h1 : l ≤ h) (h2 : h ≤ c) (w : World) : (Instr.slice 64 (.slice A n c) (some (.int .i64 l)) (some (.int .i64 h)) none).run Tryz.prog w = .ok (slMid 1 (.slice A n c) l.toNat h.toNat) w := by
  rw [run_slice_lh _ _ _ _ _ (by kernel_rfl) _ _ _ _ h0 h1 h2]
  rw [show Tryz.prog.elem 64 = 5 by kernel_rfl, Tryz.sizeOf5]
  rfl

theorem grown_drewN {w w' : World} {n : Nat} {row : Option Nat} (h : (w.drewN n).grownBy w' row) : w.grownBy w' row := ⟨h.os, h.tape, h.output, h.size, h.block⟩

theorem Rd.int_zero {r : Rd} (h : r.int.2.e ≠ 0) : r.int.1 = 0 := by
  rw [Rd.int_eq] at h ⊢
  split
  · rfl
  · rename_i h1
    rw [if_neg h1] at h
    split
    · rfl
    · rename_i h2
      rw [if_neg h2] at h
      split
      · rfl
      · rename_i h3
        rw [if_neg h3] at h
        exact absurd rfl h

theorem fcount_any (c : Nat) (v : Value) (L : List Int) (p : Nat) (r : Rd) (q : Int) (w : World) (h : RfAt w c v L p r) (hok : ByOk L) (hL : L.length ≤ 1000000) :
    Calls Tryz.prog 83 #[.pointer (some ⟨c, 0, none⟩), .int .i64 q] w (RfEnd w c v L (r.count q)) := by
  have HI := Lib.hid (fint_any c v L p r w h hok hL)
  have HC := Lib.hid (show r.count q = if r.int.2.e = 0 ∧ (r.int.1 < 0 ∨ q < r.int.1) then (0, ⟨[], 4⟩) else r.int from rfl)
  have HF := Lib.hid (ffail_any c v L)
  have HZ := Lib.hid (fun h => Rd.int_zero (r := r) h)
  obtain ⟨Q, hQ⟩ : ∃ Q, r.count q = Q := ⟨_, rfl⟩
  rw [hQ] at HC ⊢
  obtain ⟨⟨n, r1⟩, hI⟩ : ∃ I, r.int = I := ⟨_, rfl⟩
  rw [hI] at HC HI HZ
  simp only [] at HC HZ
  clear hQ hI h hok hL
  go_enter Tryz.func83, Tryz.ntmps83
  go_wp2_with fail
  refine HI.out.mono ?_
  rintro e w1 ⟨rfl, ⟨p1, h1⟩, hg1⟩
  have H1 := Lib.hid h1
  have HG1 := Lib.hid hg1
  have hc2 := h1.c2
  clear h1 hg1
  obtain ⟨er, her⟩ : ∃ er, r1.e = er := ⟨_, rfl⟩
  rw [her] at HC HZ
  rw [show (n, r1).2.e = er from her] at hc2
  by_cases he : er = 0
  · subst he
    by_cases hbad : n < 0 ∨ q < n
    · have HQ := Lib.hid (show Q = (0, ⟨[], 4⟩) from by rw [HC.out, if_pos ⟨rfl, hbad⟩])
      clear HC HZ
      by_cases hn : n < 0
      · go_wp2_with fail
        refine (HF.out p1 r1 4 _ H1.out her (by omega)).mono ?_
        rintro e w3 ⟨rfl, h3, hg3⟩
        have H3 := Lib.hid (And.intro h3 (grown_trans HG1.out hg3))
        have hc3 := h3.c2
        clear h3 hg3
        go_wp2
        go_ret
        exact ⟨by rw [HQ.out]; rfl, ⟨_, by rw [HQ.out]; exact H3.out.1⟩, H3.out.2⟩
      · have hq := hbad.resolve_left hn
        clear hbad
        go_wp2_with fail
        refine (HF.out p1 r1 4 _ H1.out her (by omega)).mono ?_
        rintro e w3 ⟨rfl, h3, hg3⟩
        have H3 := Lib.hid (And.intro h3 (grown_trans HG1.out hg3))
        have hc3 := h3.c2
        clear h3 hg3
        go_wp2
        go_ret
        exact ⟨by rw [HQ.out]; rfl, ⟨_, by rw [HQ.out]; exact H3.out.1⟩, H3.out.2⟩
    · have HQ := Lib.hid (show Q = (n, r1) from by rw [HC.out, if_neg (fun h => hbad h.2)])
      have hn : ¬ n < 0 := fun h => hbad (.inl h)
      have hq : ¬ q < n := fun h => hbad (.inr h)
      clear HC HZ hbad
      go_wp2
      go_ret
      exact ⟨by rw [HQ.out]; rfl, ⟨_, by rw [HQ.out]; exact H1.out⟩, HG1.out⟩
  · have HQ := Lib.hid (show Q = (0, r1) from by rw [HC.out, if_neg (fun h => he h.1), HZ.out he])
    clear HC HZ
    go_wp2
    go_ret
    exact ⟨by rw [HQ.out]; rfl, ⟨_, by rw [HQ.out]; exact H1.out⟩, HG1.out⟩

/-- What the document's Raw leaves. -/
def RfRaw (w : World) (c : Nat) (v : Value) (L : List Int) (q : List Int × Rd) (e : Ending) (w' : World) : Prop := (∃ u, e = .returned u ∧ IsSl byC w' u q.1) ∧ (∃ p, RfAt w' c v L p q.2) ∧ w.grownBy w' (some c)

end Go.Proofs.YtlpkaljepaclpaaGreat.Fx
