/- Contracts of the document's answers on lists of entities (joustref05): what each returns, for every list; old memory stays. -/
import Derived.Test.YtlpkaljepaclpaaGreatM03
import Derived.Test.YtlpkaljepaclpaaGreatM04
import Derived.Test.YtlpkaljepaclpaaGreatM05
import Derived.Test.YtlpkaljepaclpaaGreatM06
import Derived.Test.YtlpkaljepaclpaaGreatM02
import Derived.Maps.AppendAt
import Derived.Deep.DeepMust
import Derived.Deep.DeepCutAuto
namespace Go.Proofs.YtlpkaljepaclpaaGreat.Fx
open Go.ChangeShapes Go.WideShapes Go.ChangeAt Go.RowKit
set_option linter.unusedVariables false
set_option maxRecDepth 100000

/-- The first one's place. -/
def fndI : List Ent → Int → Nat → Int
  | [], _, _ => -1
  | e :: r, id, k => if e.id = id then (k : Int) else fndI r id (k + 1)

def fnd (l : List Ent) (id : Int) : Int := fndI l id 0

theorem rfind_any (v : Value) (l : List Ent) (id : Int) (w : World) (hv : IsSl entC w v l) (hn : l.length ≤ 1000000) :
    Calls Tryz.prog 112 #[v, .int .i64 id] w fun e w' => e = .returned (.int .i64 (fnd l id)) ∧ w = w' := by
  obtain ⟨A, c, rfl, -, -, hat⟩ := hv
  have Hat := Lib.hid hat
  obtain ⟨n, hnn⟩ : ∃ n, l.length = n := ⟨_, rfl⟩
  rw [hnn] at hn ⊢
  have Hn := Lib.hid hnn
  clear hat hnn
  have HF := Lib.hid (show fnd l id = fndI (l.drop 0) id 0 from rfl)
  generalize fnd l id = r at *
  go_enter Tryz.func112, Tryz.ntmps112
  go_wp2
  go_loop [5] (fun i => ∃ k : Nat, k ≤ n ∧ i = .int .i64 k ∧ r = fndI (l.drop k) id k) (fun i => n - (intOf i).toNat)
  case atStart => exact ⟨0, Nat.zero_le _, rfl, HF.out⟩
  case round =>
    obtain ⟨k, hk, rfl, hr⟩ := hrel
    have Hr := Lib.hid hr
    clear hr
    by_cases hlt : k < n
    · obtain ⟨x, hx⟩ := getE l k n Hn.out hlt
      have HX := Lib.hid (drop_at hx)
      obtain ⟨b, off, rfl, hc⟩ := elem_Ent Hat.out hx
      have hck := hc.1
      clear hc hx
      by_cases hxy : x.id = id
      · go_wp2
        go_ret
        exact ⟨ret_int (by rw [Hr.out, HX.out, fndI, if_pos hxy]), rfl⟩
      · have hxy' : (x.id == id) = false := by simpa using hxy
        go_wp2
        go_round
        case rel => exact ⟨k + 1, by omega, by go_num, by rw [Hr.out, HX.out, fndI, if_neg hxy]⟩
        case measure => simp [intOf]; omega
    · obtain rfl : k = n := by omega
      go_wp2
      go_ret
      exact ⟨ret_int (by rw [Hr.out, List.drop_eq_nil_of_le (by have := Hn.out; omega)]; rfl), rfl⟩

/-- How many are no players. -/
def things : List Ent → Int
  | [] => 0
  | e :: r => (if e.kind = 1 then 0 else 1) + things r

theorem rthings_any (v : Value) (l : List Ent) (w : World) (hv : IsSl entC w v l) (hn : l.length ≤ 1000000) :
    Calls Tryz.prog 158 #[v] w fun e w' => e = .returned (.int .i64 (things l)) ∧ w = w' := by
  obtain ⟨A, c, rfl, -, -, hat⟩ := hv
  have Hat := Lib.hid hat
  obtain ⟨n, hnn⟩ : ∃ n, l.length = n := ⟨_, rfl⟩
  rw [hnn] at hn ⊢
  have Hn := Lib.hid hnn
  clear hat hnn
  have HF := Lib.hid (show things l = 0 + things (l.drop 0) by simp)
  generalize things l = r at *
  go_enter Tryz.func158, Tryz.ntmps158
  go_wp2
  go_loop [3, 4] (fun m i => ∃ (k : Nat) (q : Int), k ≤ n ∧ i = .int .i64 k ∧ m = .int .i64 q ∧ 0 ≤ q ∧ q ≤ k ∧ r = q + things (l.drop k)) (fun _ i => n - (intOf i).toNat)
  case atStart => exact ⟨0, 0, Nat.zero_le _, rfl, rfl, by omega, by omega, HF.out⟩
  case round =>
    obtain ⟨k, q, hk, rfl, rfl, hq0, hq1, hr⟩ := hrel
    have Hr := Lib.hid hr
    clear hr
    by_cases hlt : k < n
    · obtain ⟨x, hx⟩ := getE l k n Hn.out hlt
      have HX := Lib.hid (drop_at hx)
      obtain ⟨b, off, rfl, hc⟩ := elem_Ent Hat.out hx
      have hck := hc.2.1
      clear hc hx
      by_cases hxy : x.kind = 1
      · go_wp2
        go_round
        case rel => exact ⟨k + 1, q, by omega, by go_num, rfl, hq0, by omega, by rw [Hr.out, HX.out, things, if_pos hxy]; omega⟩
        case measure => simp [intOf]; omega
      · have hxy' : (x.kind != 1) = true := by simpa using hxy
        go_wp2
        go_round
        case rel => exact ⟨k + 1, q + 1, by omega, by go_num, by go_num, by omega, by omega, by rw [Hr.out, HX.out, things, if_neg hxy]; omega⟩
        case measure => simp [intOf]; omega
    · obtain rfl : k = n := by omega
      go_wp2
      go_ret
      exact ⟨ret_int (by rw [Hr.out, List.drop_eq_nil_of_le (by have := Hn.out; omega)]; simp [things]), rfl⟩

/-- Do the numbers rise? -/
def srtI : Int → List Ent → Bool
  | _, [] => true
  | p, e :: r => decide (p < e.id) && srtI e.id r

def srt : List Ent → Bool
  | [] => true
  | e :: r => srtI e.id r

theorem rsorted_any (v : Value) (l : List Ent) (w : World) (hv : IsSl entC w v l) (hn : l.length ≤ 1000000) :
    Calls Tryz.prog 157 #[v] w fun e w' => e = .returned (.bool (srt l)) ∧ Below w.heap.size w w' := by
  obtain ⟨A, c, rfl, -, -, hat⟩ := hv
  have Hat := Lib.hid hat
  obtain ⟨n, hnn⟩ : ∃ n, l.length = n := ⟨_, rfl⟩
  rw [hnn] at hn ⊢
  have Hn := Lib.hid hnn
  have HF := Lib.hid (show ∀ y, l[0]? = some y → srt l = srtI y.id (l.drop 1) from fun y hy => by cases l with | nil => simp at hy | cons e r => simp at hy; subst hy; rfl)
  have H0 := Lib.hid (show n = 0 → srt l = true from fun h => by cases l with | nil => rfl | cons e r => simp at hnn; omega)
  clear hat hnn
  generalize srt l = r at *
  go_enter Tryz.func157, Tryz.ntmps157
  go_wp2
  go_loopw [3] (fun i wr => ∃ k : Nat, 1 ≤ k ∧ k ≤ n + 1 ∧ i = .int .i64 k ∧ (∀ y, l[k - 1]? = some y → r = srtI y.id (l.drop k)) ∧ (k ≤ n ∨ n = 0) ∧ Below w.heap.size w wr) (fun i _ => n + 1 - (intOf i).toNat)
  case atStart => exact ⟨1, by omega, by omega, rfl, HF.out, by omega, Below.refl _ _⟩
  case round =>
    obtain ⟨k, hk1, hk, rfl, hr, hkn, hbel⟩ := hrel
    have Hr := Lib.hid hr
    have Hbel := Lib.hid hbel
    clear hr hbel
    by_cases hlt : k < n
    · obtain ⟨x, hx⟩ := getE l k n Hn.out hlt
      obtain ⟨y, hy⟩ := getE l (k - 1) n Hn.out (by omega)
      have HX := Lib.hid (drop_at hx)
      have HY := Lib.hid (Hr.out y hy)
      have HK := Lib.hid (show l[k + 1 - 1]? = some x from hx)
      obtain ⟨b, off, rfl, hc⟩ := elem_Ent (Hat.out.below Hbel.out) hx
      obtain ⟨b', off', hbo, hd⟩ := elem_Ent (Hat.out.below Hbel.out) hy
      cases hbo
      have hck := hc.1
      have hdk := hd.1
      have hk' : ((k : Int) - 1).toNat = k - 1 := by omega
      clear hc hx hd hy
      by_cases hxy : x.id ≤ y.id
      · go_wp2_with fail
        go_region
        go_wp2
        go_ret
        exact ⟨ret_bool (by rw [HY.out, HX.out, srtI]; simp; omega), Hbel.out.drew⟩
      · have hxy' : decide (x.id ≤ y.id) = false := by simpa using hxy
        go_wp2_with fail
        go_region
        go_wp2
        go_roundw
        case rel => exact ⟨k + 1, by omega, by omega, by go_num, fun z hz => by rw [HK.out] at hz; cases hz; rw [HY.out, HX.out, srtI, decide_eq_true (by omega)]; rfl, by omega, Hbel.out.drew⟩
        case measure => simp [intOf]; omega
    · go_wp2
      go_ret
      refine ⟨ret_bool ?_, Hbel.out⟩
      rcases hkn with h | h
      · obtain ⟨y, hy⟩ := getE l (k - 1) n Hn.out (by omega)
        rw [Hr.out y hy, List.drop_eq_nil_of_le (by have := Hn.out; omega)]
        simp [srtI]
      · rw [H0.out h]

/-- Those whose number is none of ids. -/
def drp (l : List Ent) (ids : List Int) : List Ent := l.filter fun e => !inB ids e.id

/-- A list that comes back in memory. -/
def RetEnts (l : List Ent) (w : World) (e : Ending) (w' : World) : Prop := ∃ v, e = .returned v ∧ IsSl entC w' v l ∧ Below w.heap.size w w'

/-- How many at the head are of less than a number. -/
def pos : List Ent → Int → Nat
  | [], _ => 0
  | e :: r, id => if e.id < id then pos r id + 1 else 0

theorem pos_le (l : List Ent) (id : Int) : pos l id ≤ l.length := by
  induction l with
  | nil => simp [pos]
  | cons e r ih => rw [pos, List.length_cons]; split <;> omega

/-- One is put into a list. -/
def put (l : List Ent) (e : Ent) : List Ent := if 0 ≤ fnd l e.id then l else l.take (pos l e.id) ++ [e] ++ l.drop (pos l e.id)

theorem own_lower {w : World} {base base' : Nat} {e : TypeId} {size : Nat} {v : Value} {n : Nat} {xs : List Value} (h : w.ownsRow base' e size v n xs) (hb : base ≤ base') : w.ownsRow base e size v n xs := by
  refine ⟨h.1, ?_⟩
  rcases h.2 with h2 | ⟨g, cap, cur, hv, hg, r⟩
  · exact .inl h2
  · exact .inr ⟨g, cap, cur, hv, Nat.le_trans hb hg, r⟩

set_option maxHeartbeats 1000000 in
theorem rputo_any (v : Value) (l : List Ent) (y : Ent) (w : World) (hv : IsSl entC w v l) (hn : l.length ≤ 1000000) :
    Calls Tryz.prog 115 #[v, .agg #[.int .i64 y.id, .int .i64 y.kind, .int .i64 y.x, .int .i64 y.y, .int .i64 y.vx, .int .i64 y.vy, .int .i64 y.health, .int .i64 y.age, .int .i64 y.owner]] w fun z w' => ∃ v', z = .returned v' ∧ (v' = v ∧ put l y = l ∨ w'.ownsRow w.heap.size 45 9 v' (put l y).length ((put l y).flatMap entC)) ∧ IsSl entC w' v' (put l y) ∧ Below w.heap.size w w' := by
  have HF := Lib.hid (fun w hv => rfind_any v l y.id w hv hn)
  have HV := Lib.hid hv
  by_cases hin : 0 ≤ fnd l y.id
  · have hp : put l y = l := by unfold put; rw [if_pos hin]
    rw [hp]
    clear hp
    generalize fnd l y.id = r at *
    obtain ⟨A, c, rfl, -, -, -⟩ := hv
    go_enter Tryz.func115, Tryz.ntmps115
    go_wp2_with fail
    refine (HF.out _ (HV.out.keep fun p u hp => by rw [World.cell?_alloc_lt _ _ _ (World.block_lt_of_cell? _ _ hp)]; exact hp)).mono ?_
    rintro e w' ⟨rfl, rfl⟩
    go_wp2
    go_ret
    exact ⟨_, rfl, .inl ⟨rfl, trivial⟩, HV.out.keep fun p u hp => (by rw [World.cell?_alloc_lt _ _ _ (World.block_lt_of_cell? _ _ hp)]; exact hp), (Below.refl _ _).alloc (Nat.le_refl _) _⟩
  · have hp : put l y = l.take (pos l y.id) ++ [y] ++ l.drop (pos l y.id) := by unfold put; rw [if_neg hin]
    rw [hp]
    clear hp
    generalize fnd l y.id = r at *
    have HP := Lib.hid (show pos l y.id = 0 + pos (l.drop 0) y.id by simp)
    have hpl := pos_le l y.id
    obtain ⟨A, c, rfl, hA, hcap, hat⟩ := hv
    have Hat := Lib.hid hat
    have HA := Lib.hid hA
    obtain ⟨n, hnn⟩ : ∃ n, l.length = n := ⟨_, rfl⟩
    rw [hnn] at hn hcap HA HF HV hpl ⊢
    have Hn := Lib.hid hnn
    clear hat hA hnn
    obtain ⟨q, hq⟩ : ∃ q, pos l y.id = q := ⟨_, rfl⟩
    rw [hq] at HP hpl ⊢
    clear hq
    go_enter Tryz.func115, Tryz.ntmps115
    go_wp2_with fail
    refine (HF.out _ (HV.out.keep fun p u hp => by rw [World.cell?_alloc_lt _ _ _ (World.block_lt_of_cell? _ _ hp)]; exact hp)).mono ?_
    rintro e w' ⟨rfl, rfl⟩
    clear HF HV
    go_wp2
    go_loopw [5] (fun i wr => ∃ k : Nat, k ≤ n ∧ i = .int .i64 k ∧ q = k + pos (l.drop k) y.id ∧ Below (w.heap.size + 1) (w.alloc (.cells (entC y).toArray 45)) wr) (fun i _ => n - (intOf i).toNat)
    case atStart => exact ⟨0, Nat.zero_le _, rfl, HP.out, Below.refl _ _⟩
    case round =>
      obtain ⟨k, hk, rfl, hr, hbel⟩ := hrel
      have Hr := Lib.hid hr
      have Hbel := Lib.hid hbel
      clear hr hbel
      have Hb0 := Lib.hid (show Below w.heap.size w wr from unbox (by simpa using Hbel.out))
      have hy0 : wr.cell? ⟨w.heap.size, 0, none⟩ = some (.int .i64 y.id) := by rw [Hbel.out.cell (p := ⟨w.heap.size, 0, none⟩) (Nat.lt_succ_self _)]; simp [entC]
      by_cases hgo : ∃ x, l[k]? = some x ∧ x.id < y.id
      · obtain ⟨x, hx, hxy⟩ := hgo
        have hlt : k < n := by have := (List.getElem?_eq_some_iff.1 hx).1; have := Hn.out; omega
        have HX := Lib.hid (drop_at hx)
        obtain ⟨b, off, rfl, hc⟩ := elem_Ent (Hat.out.below Hb0.out) hx
        have hck := hc.1
        have hdk : decide ((k : Int) < n) = true := decide_eq_true (by omega)
        have hdx : decide (x.id < y.id) = true := decide_eq_true hxy
        clear hc hx
        go_wp2_with fail
        go_region
        go_wp2
        go_roundw
        case rel => exact ⟨k + 1, by omega, by go_num, by rw [Hr.out, HX.out, pos, if_pos hxy]; omega, Hbel.out.drew⟩
        case measure => simp [intOf]; omega
      · have hqk : q = k := by
          rw [Hr.out]
          cases hd : l.drop k with
          | nil => simp [pos]
          | cons x t =>
            rw [pos, if_neg fun h => hgo ⟨x, by rw [← List.head?_drop, hd]; rfl, h⟩]; omega
        subst hqk
        go_upto_region 4 with fail
        go_cut [25] from 12 to 27 (fun s25 wx => s25 = .bool false ∧ Below wr.heap.size wr wx)
        case first =>
          by_cases hlt : q < n
          · obtain ⟨x, hx⟩ := getE l q n Hn.out hlt
            have hxy : ¬ x.id < y.id := fun h => hgo ⟨x, hx, h⟩
            obtain ⟨b, off, rfl, hc⟩ := elem_Ent (Hat.out.below Hb0.out) hx
            have hck := hc.1
            have hdk : decide ((q : Int) < n) = true := decide_eq_true (by omega)
            have hdx : decide (x.id < y.id) = false := decide_eq_false hxy
            clear hc hx
            go_region
            go_wp2_with fail
            go_meet
            exact ⟨rfl, (Below.refl _ _).drew⟩
          · have hdk : decide ((q : Int) < n) = false := decide_eq_false (by omega)
            refine plan_region' (S := (fun w' => (∀ b o, b < (wr).heap.size → w'.cell? ⟨b, o, none⟩ = (wr).cell? ⟨b, o, none⟩) ∧ (∀ b o, b < (wr).heap.size → w'.frozen? ⟨b, o, none⟩ = (wr).frozen? ⟨b, o, none⟩) ∧ Below (wr).heap.size (wr) w')) [(0, true), (1, true), (2, true), (3, true), (4, true), (5, true), (6, true), (7, true), (8, true), (9, true), (10, true), (11, true), (12, true), (13, true)] (by kernel_rfl) (by kernel_rfl) (fun _ _ d _ _ h => by cases d <;> exact h) (keepW0 _) (fun hS => ?_)
            simp only [picked, List.getElem?_cons_succ, List.getElem?_cons_zero]
            iterate 5
             refine row_free (v := ?_) (by rfl) ?_ ?_; rotate_left 1; focus (intro w hSw; (try dsimp only at hSw); go_simp; (try with_reducible rfl))
             (try simp only [Act.put, tA, tB, tC])
            iterate 8
             refine row_off (by rfl) ?_
             (try simp only [Act.put, tA, tB, tC])
            refine row_free (v := ?_) (by rfl) ?_ ?_; rotate_left 1; focus (intro w hSw; (try dsimp only at hSw); go_simp; (try with_reducible rfl))
            (try simp only [Act.put, tA, tB, tC])
            refine row_done ?_
            go_wp2_with fail
            go_meet
            exact ⟨rfl, hS.2.2⟩
        case rest =>
          obtain ⟨rfl, hcut⟩ := hcut
          have Hb1 := Lib.hid (Hbel.out.trans (hcut.mono (by have := Hbel.out.size; simp at this; exact this)))
          have HV := Lib.hid (show IsSl entC wc (.slice A n c) l from by
            have e : IsSl entC w (.slice A l.length c) l := ⟨A, c, rfl, by rw [Hn.out]; exact HA.out, by rw [Hn.out]; exact hcap, Hat.out⟩
            rw [Hn.out] at e
            exact (e.below Hb0.out).below hcut)
          have hz : w.heap.size < wc.heap.size := by have := Hb1.out.size; simp at this; omega
          have hyc : ∀ k u, (entC y)[k]? = some u → wc.cell? ⟨w.heap.size, k, none⟩ = some u := fun k u hu => by
            rw [Hb1.out.cell (p := ⟨w.heap.size, k, none⟩) (Nat.lt_succ_self _), World.cell?_alloc_new]; simpa using hu
          have y0 : wc.cell? ⟨w.heap.size, 0, none⟩ = some (.int .i64 y.id) := hyc 0 _ rfl
          have y1 : wc.cell? ⟨w.heap.size, 1, none⟩ = some (.int .i64 y.kind) := hyc 1 _ rfl
          have y2 : wc.cell? ⟨w.heap.size, 2, none⟩ = some (.int .i64 y.x) := hyc 2 _ rfl
          have y3 : wc.cell? ⟨w.heap.size, 3, none⟩ = some (.int .i64 y.y) := hyc 3 _ rfl
          have y4 : wc.cell? ⟨w.heap.size, 4, none⟩ = some (.int .i64 y.vx) := hyc 4 _ rfl
          have y5 : wc.cell? ⟨w.heap.size, 5, none⟩ = some (.int .i64 y.vy) := hyc 5 _ rfl
          have y6 : wc.cell? ⟨w.heap.size, 6, none⟩ = some (.int .i64 y.health) := hyc 6 _ rfl
          have y7 : wc.cell? ⟨w.heap.size, 7, none⟩ = some (.int .i64 y.age) := hyc 7 _ rfl
          have y8 : wc.cell? ⟨w.heap.size, 8, none⟩ = some (.int .i64 y.owner) := hyc 8 _ rfl
          have hqc : (q : Int) ≤ (c : Int) := by omega
          have hqn : (q : Int) ≤ (n : Int) := by omega
          have HT := Lib.hid (List.length_take_le q l)
          have HTD := Lib.hid (show (l.drop q).length ≤ l.length from by simp)
          clear hcut hy0 hyc Hat HA Hr Hb0 HP
          go_wp2_with fail
          refine tree_region (S := (fun w' => (∀ b o, b < (wc).heap.size → w'.cell? ⟨b, o, none⟩ = (wc).cell? ⟨b, o, none⟩) ∧ (∀ b o, b < (wc).heap.size → w'.frozen? ⟨b, o, none⟩ = (wc).frozen? ⟨b, o, none⟩) ∧ Below (wc).heap.size (wc) w')) (.free 0 (.free 1 (.free 2 (.free 4 (.free 7 (.free 8 (.free 9 (.two 3 (.one 5 (.one 6 (.one 10 (.free 11 .done)))) 5 (.one 3 (.one 6 (.one 10 (.free 11 .done)))))))))))) (by kernel_rfl) (by kernel_rfl) (fun _ _ d _ _ h => by cases d <;> exact h) (keepW0 _) (fun hS => ?_)
          simp only [written, List.getElem?_cons_succ, List.getElem?_cons_zero]
          iterate 7
           refine rw_free (v := ?_) (by rfl) ?_ ?_; rotate_left 1; focus (intro w hSw; (try dsimp only at hSw); go_simp; (try with_reducible rfl))
           (try simp only [Act.put, tA, tB, tC])
          refine rw_two ?_ ?_
          · skip
            refine rw_call (by rfl) (fun K hK => ?_)
            (refine app_Ent (.const (.slice none 0 0)) (.tmp 30) (by rfl) wc.heap.size _ [] (by rfl) ⟨rfl, .inl ⟨rfl, rfl⟩⟩ _ (l.take q) (by rfl) ((HV.out.below hS.2.2).upto 9 q (by rw [Hn.out]; omega)) (by have := HT.out; have := Hn.out; simp; omega) hS.2.2.size ?_; intro v1 w6 ho6 hb6 hg6)
            simp only [Act.put, tA, tB, tC]
            refine hK.out _ _ ?_ (fun hS' => ?_)
            · (try dsimp only); first | exact keepW (by assumption) (by assumption) | exact keepB (by assumption) (by assumption) | exact keepA (by assumption) | assumption
            clear hS hK K
            have hS := hS'
            clear hS'
            (try simp only [Act.put, tA, tB, tC])
            refine rw_call (by rfl) (fun K hK => ?_)
            go_simp
            (skip)
            (try go_wp2_with fail)
            refine hK.out _ _ ?_ (fun hS' => ?_)
            · (try dsimp only); first | exact keepW (by assumption) (by assumption) | exact keepB (by assumption) (by assumption) | exact keepA (by assumption) | assumption
            clear hS hK K
            have hS := hS'
            clear hS'
            (try simp only [Act.put, tA, tB, tC])
            refine rw_call (by rfl) (fun K hK => ?_)
            ((first | refine app_Ent (.tmp 31) (.tmp 33) (by rfl) wc.heap.size _ (l.take q) (by rfl) (by first | exact ho6.alloc _ | simpa using ho6.alloc _) _ [y] (by rfl) (one_Ent _ y _ 1 (by rfl) (by omega)) (by have := HT.out; have := HTD.out; have := Hn.out; simp only [List.length_cons, List.length_nil]; omega) hS.2.2.size ?_ | refine app_Ent (.tmp 31) (.tmp 33) (by rfl) wc.heap.size _ (l.take q) (by rfl) (by first | exact ho6 | simpa using ho6) _ [y] (by rfl) ((one_Ent _ y _ 1 (by rfl) (by omega)).keep fun p u hp => hg6.cell hp (by simp [Value.ownBlock])) (by have := HT.out; have := HTD.out; have := Hn.out; simp only [List.length_cons, List.length_nil]; omega) hS.2.2.size ?_); intro v2 w7 ho7 hb7 hg7)
            simp only [Act.put, tA, tB, tC]
            refine hK.out _ _ ?_ (fun hS' => ?_)
            · (try dsimp only); first | exact keepW (by assumption) (by assumption) | exact keepB (by assumption) (by assumption) | exact keepA (by assumption) | assumption
            clear hS hK K
            have hS := hS'
            clear hS'
            (try simp only [Act.put, tA, tB, tC])
            refine rw_call (by rfl) (fun K hK => ?_)
            (refine app_Ent (.tmp 34) (.tmp 37) (by rfl) wc.heap.size _ (l.take q ++ [y]) (by rfl) ho7 _ (l.drop q) (by rfl) ((HV.out.below hS.2.2).since 9 q entC_len (by omega) (by rw [Hn.out]; omega)) (by have := HT.out; have := HTD.out; have := Hn.out; simp only [List.length_append, List.length_cons, List.length_nil]; omega) hS.2.2.size ?_; intro v3 w8 ho8 hb8 hg8)
            simp only [Act.put, tA, tB, tC]
            refine hK.out _ _ ?_ (fun hS' => ?_)
            · (try dsimp only); first | exact keepW (by assumption) (by assumption) | exact keepB (by assumption) (by assumption) | exact keepA (by assumption) | assumption
            clear hS hK K
            have hS := hS'
            clear hS'
            (try simp only [Act.put, tA, tB, tC])
            refine rw_free (v := ?_) (by rfl) ?_ ?_; rotate_left 1; focus (intro w hSw; (try dsimp only at hSw); go_simp; (try with_reducible rfl))
            (try simp only [Act.put, tA, tB, tC])
            refine rw_done ?_
            clear ho7 hg6 hg7 hb6 hb7
            have HO8 := Lib.hid ho8
            have HB8 := Lib.hid hS.2.2
            clear ho8 hg8 hb8 hS
            go_wp2
            go_ret
            exact ⟨_, rfl, .inr (own_lower HO8.out (by omega)), owned_sl HO8.out, unbox (o := .cells (entC y).toArray 45) (by simpa using (show Below (w.heap.size + 1) _ wc from Hb1.out).trans (HB8.out.mono hz))⟩
          · skip
            refine rw_call (by rfl) (fun K hK => ?_)
            go_simp
            (skip)
            (try go_wp2_with fail)
            refine hK.out _ _ ?_ (fun hS' => ?_)
            · (try dsimp only); first | exact keepW (by assumption) (by assumption) | exact keepB (by assumption) (by assumption) | exact keepA (by assumption) | assumption
            clear hS hK K
            have hS := hS'
            clear hS'
            (try simp only [Act.put, tA, tB, tC])
            refine rw_call (by rfl) (fun K hK => ?_)
            (refine app_Ent (.const (.slice none 0 0)) (.tmp 30) (by rfl) wc.heap.size _ [] (by rfl) ⟨rfl, .inl ⟨rfl, rfl⟩⟩ _ (l.take q) (by rfl) ((HV.out.below hS.2.2).upto 9 q (by rw [Hn.out]; omega)) (by have := HT.out; have := Hn.out; simp; omega) hS.2.2.size ?_; intro v1 w6 ho6 hb6 hg6)
            simp only [Act.put, tA, tB, tC]
            refine hK.out _ _ ?_ (fun hS' => ?_)
            · (try dsimp only); first | exact keepW (by assumption) (by assumption) | exact keepB (by assumption) (by assumption) | exact keepA (by assumption) | assumption
            clear hS hK K
            have hS := hS'
            clear hS'
            (try simp only [Act.put, tA, tB, tC])
            refine rw_call (by rfl) (fun K hK => ?_)
            ((first | refine app_Ent (.tmp 31) (.tmp 33) (by rfl) wc.heap.size _ (l.take q) (by rfl) (by first | exact ho6.alloc _ | simpa using ho6.alloc _) _ [y] (by rfl) (one_Ent _ y _ 1 (by rfl) (by omega)) (by have := HT.out; have := HTD.out; have := Hn.out; simp only [List.length_cons, List.length_nil]; omega) hS.2.2.size ?_ | refine app_Ent (.tmp 31) (.tmp 33) (by rfl) wc.heap.size _ (l.take q) (by rfl) (by first | exact ho6 | simpa using ho6) _ [y] (by rfl) ((one_Ent _ y _ 1 (by rfl) (by omega)).keep fun p u hp => hg6.cell hp (by simp [Value.ownBlock])) (by have := HT.out; have := HTD.out; have := Hn.out; simp only [List.length_cons, List.length_nil]; omega) hS.2.2.size ?_); intro v2 w7 ho7 hb7 hg7)
            simp only [Act.put, tA, tB, tC]
            refine hK.out _ _ ?_ (fun hS' => ?_)
            · (try dsimp only); first | exact keepW (by assumption) (by assumption) | exact keepB (by assumption) (by assumption) | exact keepA (by assumption) | assumption
            clear hS hK K
            have hS := hS'
            clear hS'
            (try simp only [Act.put, tA, tB, tC])
            refine rw_call (by rfl) (fun K hK => ?_)
            (refine app_Ent (.tmp 34) (.tmp 37) (by rfl) wc.heap.size _ (l.take q ++ [y]) (by rfl) ho7 _ (l.drop q) (by rfl) ((HV.out.below hS.2.2).since 9 q entC_len (by omega) (by rw [Hn.out]; omega)) (by have := HT.out; have := HTD.out; have := Hn.out; simp only [List.length_append, List.length_cons, List.length_nil]; omega) hS.2.2.size ?_; intro v3 w8 ho8 hb8 hg8)
            simp only [Act.put, tA, tB, tC]
            refine hK.out _ _ ?_ (fun hS' => ?_)
            · (try dsimp only); first | exact keepW (by assumption) (by assumption) | exact keepB (by assumption) (by assumption) | exact keepA (by assumption) | assumption
            clear hS hK K
            have hS := hS'
            clear hS'
            (try simp only [Act.put, tA, tB, tC])
            refine rw_free (v := ?_) (by rfl) ?_ ?_; rotate_left 1; focus (intro w hSw; (try dsimp only at hSw); go_simp; (try with_reducible rfl))
            (try simp only [Act.put, tA, tB, tC])
            refine rw_done ?_
            clear ho7 hg6 hg7 hb6 hb7
            have HO8 := Lib.hid ho8
            have HB8 := Lib.hid hS.2.2
            clear ho8 hg8 hb8 hS
            go_wp2
            go_ret
            exact ⟨_, rfl, .inr (own_lower HO8.out (by omega)), owned_sl HO8.out, unbox (o := .cells (entC y).toArray 45) (by simpa using (show Below (w.heap.size + 1) _ wc from Hb1.out).trans (HB8.out.mono hz))⟩

/-- Into a row of the call's own. -/
theorem rputr_any (base : Nat) (v : Value) (l : List Ent) (y : Ent) (w : World) (hv : w.ownsRow base 45 9 v l.length (l.flatMap entC)) (hb : base ≤ w.heap.size) (hn : l.length ≤ 1000000) :
    Calls Tryz.prog 115 #[v, .agg #[.int .i64 y.id, .int .i64 y.kind, .int .i64 y.x, .int .i64 y.y, .int .i64 y.vx, .int .i64 y.vy, .int .i64 y.health, .int .i64 y.age, .int .i64 y.owner]] w fun z w' => ∃ v', z = .returned v' ∧ w'.ownsRow base 45 9 v' (put l y).length ((put l y).flatMap entC) ∧ Below w.heap.size w w' :=
  (rputo_any v l y w (owned_sl hv) hn).mono fun e w' h => by
    obtain ⟨v', h1, h2, -, h4⟩ := h
    refine ⟨v', h1, ?_, h4⟩
    rcases h2 with ⟨rfl, h5⟩ | h2
    · rw [h5]; exact own_below hv h4
    · exact own_lower h2 hb

end Go.Proofs.YtlpkaljepaclpaaGreat.Fx
