/- What the laws of layer 9 share: who is there, in a row of the call's own; inputs of those who are there; one player alone. -/
import Derived.Test.YtbblpnmcbifocaaGreatM42
import Derived.Test.YtbblpnmcbifocaaGreatM39
import Derived.Test.YtbblpnmcbifocaaGreatM01
namespace Go.Proofs.YtbblpnmcbifocaaGreat.Fx
open Go.ChangeShapes Go.WideShapes Go.ChangeAt Go.RowKit
set_option linter.unusedVariables false
set_option maxRecDepth 100000

set_option maxHeartbeats 2000000 in
theorem present_own (a b p n s r f : Int) (v : Value) (l : List Ent) (u : Value) (ib : List Crs) (w : World) (hv : IsSl entC w v l) (hn : l.length ≤ 200) (hu : IsSl crsC w u ib) (hm : ib.length ≤ 100) :
    Calls Tryz.prog 26 #[.agg #[.int .i64 a, .int .i64 b, .int .i64 p, .int .i64 n, .int .u64 s], .int .i64 r, .agg #[.int .i64 f, v], u] w fun z w' => (∃ v', z = .returned v' ∧ w'.ownsRow w.heap.size 3 1 v' (pids (arriveL l ib)).length ((pids (arriveL l ib)).map (Value.int .i64))) ∧ Below w.heap.size w w' := by
  have HA := Lib.hid (fun w1 (hb : Below w.heap.size w w1) => arrive_any a b p n s r f v l u ib w1 (hv.below hb) hn (hu.below hb) hm)
  have HP := Lib.hid (fun v w1 h => players_any v (arriveL l ib) w1 h (by have := arrive_le l ib; omega))
  obtain ⟨A, c, rfl, -⟩ := hv
  obtain ⟨B, d, rfl, -⟩ := hu
  generalize arriveL l ib = M at *
  go_enter Tryz.func26, Tryz.ntmps26
  go_wp2_with fail
  refine (HA.out _ (((Below.refl _ _).alloc (Nat.le_refl _) _).alloc (by simp) _)).mono ?_
  rintro e w1 ⟨v1, rfl, ho1, hb1⟩
  have HB1 := Lib.hid (show Below w.heap.size w w1 from unbox (unbox hb1))
  have HO1 := Lib.hid (owned_sl ho1)
  clear ho1 hb1 HA
  obtain ⟨A1, c1, rfl, -⟩ := HO1.out
  go_wp2_with fail
  refine (HP.out _ _ HO1.out).mono ?_
  rintro e w2 ⟨v2, rfl, ho2, hb2⟩
  have HB2 := Lib.hid (nextW HB1.out hb2)
  have HO2 := Lib.hid (ho2.mono HB1.out.size)
  clear hb2 ho2
  go_wp2
  go_ret
  exact ⟨⟨v2, rfl, HO2.out⟩, HB2.out⟩

/-- The numbers of players who are right. -/
theorem pids_bd {a b p n : Int} {l : List Ent} (h : ∀ e ∈ l, erightB a b p n e = true) {i : Int} (hi : i ∈ pids l) : 1 ≤ i ∧ i ≤ p := by
  obtain ⟨e, he, hk, rfl⟩ := pids_mem.1 hi
  exact (player_bd (h e he) hk).2.1

theorem pids_len {a b : Int} {P : Nat} {n : Int} {l : List Ent} (h : Okl a b P n l) : (pids l).length ≤ l.length := by
  unfold pids
  rw [List.length_map]
  exact List.length_filter_le _ _

theorem inpOf_set {ys xs : List Inp} {j : Nat} {x : Inp} (hx : xs[j]? = some x) (hl : ys.length = xs.length) (i : Int) (hi : 1 ≤ i) (h : inpOf ys i = inpOf xs i ∨ i = (j : Int) + 1) : inpOf (ys.set j x) i = inpOf xs i := by
  have hj := (List.getElem?_eq_some_iff.1 hx).1
  unfold inpOf at *
  rw [List.getD_eq_getElem?_getD, List.getD_eq_getElem?_getD] at *
  by_cases hij : i = (j : Int) + 1
  · rw [show (i - 1).toNat = j by omega, List.getElem?_set_self (by omega), hx]
  · rw [List.getElem?_set_ne (by omega)]
    rcases h with h | h
    · exact h
    · exact absurd h hij

/-- What a step may be asked of a region that is right, with inputs that are right. -/
theorem why_same {a b n r f : Int} {P : Nat} {l : List Ent} {xs ys : List Inp} {ib : List Crs} (hx : xs.length = P ∧ xs.all irtI = true) (hy : ys.length = P ∧ ys.all irtI = true) : whyNot a b P n r f l xs ib = whyNot a b P n r f l ys ib := by
  have e : inpsB P xs = inpsB P ys := by unfold inpsB; rw [hx.1, hy.1, hx.2, hy.2]
  unfold whyNot
  rw [e]

/-- Steps with inputs that are alike for those who are there are alike. -/
theorem step_same {a b n s r f : Int} {P : Nat} {l : List Ent} {xs ys : List Inp} (h : ∀ i ∈ pids l, inpOf ys i = inpOf xs i) : stayL a b P n s r f (inpOf ys) l [] = stayL a b P n s r f (inpOf xs) l [] ∧ outsL a b P n s r f (inpOf ys) l [] = outsL a b P n s r f (inpOf xs) l [] := by
  have e : upTo a b P n s r f (inpOf ys) l [] = upTo a b P n s r f (inpOf xs) l [] := upTo_congr h
  unfold stayL outsL
  rw [e]
  exact ⟨rfl, rfl⟩

theorem asked_ok {a b n r f : Int} {P : Nat} {l : List Ent} {ib : List Crs} (hh : hasB a b P n r = true) (hf : 0 ≤ f ∧ f ≤ 9999) (hok : Okl a b P n l) (hhere : Here a b P n r l) (ht : things l ≤ 24) (hib : ∀ c ∈ ib, inOk a b P n r f c = true) : rgB a b P n r f l = true ∧ Asked a b P n r f l ib := by
  have h1 : rgB a b P n r f l = true := by
    unfold rgB
    rw [hh, decide_eq_true (show 0 ≤ f ∧ f ≤ 10000 by omega), (srt_iff l).2 hok.rise, decide_eq_true ht]
    simp only [Bool.true_and, Bool.and_true]
    refine List.all_eq_true.2 fun e he => ?_
    unfold hereOk
    rw [hok.right e he, decide_eq_true (hhere e he)]
    rfl
  refine ⟨h1, hh, hf, hok, hhere, ht, fun c hc => ?_⟩
  have := hib c hc
  unfold inOk at this
  simp only [Bool.and_eq_true, decide_eq_true_eq] at this
  exact ⟨this.1.1, this.1.2⟩

theorem why_ok {a b n r f : Int} {P : Nat} {l : List Ent} {xs : List Inp} {ib : List Crs} (hh : hasB a b P n r = true) (hf : 0 ≤ f ∧ f ≤ 9999) (hok : Okl a b P n l) (hhere : Here a b P n r l) (ht : things l ≤ 24) (hib : ∀ c ∈ ib, inOk a b P n r f c = true)
    (hx : xs.length = P ∧ xs.all irtI = true) : whyNot a b P n r f l xs ib = 0 := by
  have h1 := (asked_ok hh hf hok hhere ht hib).1
  unfold whyNot
  rw [if_pos hh, if_pos h1, if_pos (by unfold inpsB; rw [hx.1, hx.2]; simp), if_pos (List.all_eq_true.2 hib), if_neg (by omega)]

theorem incr_len (hi : Int) : ∀ (l : List Int) (lo : Int), l.Pairwise (fun x y => x < y) → (∀ i ∈ l, lo < i ∧ i ≤ hi) → (l.length : Int) ≤ max 0 (hi - lo)
  | [], _, _, _ => by simp; omega
  | x :: t, lo, h, hb => by
    obtain ⟨h1, h2⟩ := List.pairwise_cons.1 h
    have hx := hb x (by simp)
    have := incr_len hi t x h2 (fun i hi' => ⟨h1 i hi', (hb i (by simp [hi'])).2⟩)
    simp only [List.length_cons]
    omega

theorem pids_leP {a b n : Int} {P : Nat} {l : List Ent} (h : Okl a b P n l) : (pids l).length ≤ P := by
  have h1 : (pids l).Pairwise (fun x y => x < y) := by
    unfold pids
    exact List.Pairwise.map _ (fun x y h => h) (List.Pairwise.filter _ h.rise)
  have := incr_len P (pids l) 0 h1 fun i hi => by have := pids_bd h.right hi; omega
  omega

theorem outs_le {a b n s r f : Int} {P : Nat} (hP : P ≤ 6) {inp : Int → Inp} {l : List Ent} {ib : List Crs} (h : Asked a b P n r f l ib) : (outsL a b P n s r f inp l ib).length ≤ 600 ∧ (stayL a b P n s r f inp l ib).length ≤ 31 := by
  obtain ⟨⟨a1, -, -⟩, -, -, h4, h5⟩ := upTo_parts (s := s) (inp := inp) h
  have hp := pids_leP a1
  rw [outs_eq, stay_eq, List.length_append, List.length_map]
  generalize steers (regs a b P n) r f inp (arriveL l ib) (pids (arriveL l ib)) = S at *
  have e1 : (hitL a b P n ib S).length ≤ 30 := by
    have := blasts_le (goL a b P n S.1) ib
    have := goL_len a b P n S.1
    unfold hitL
    omega
  obtain ⟨f1, f2⟩ := falls_len (a := a) (b := b) (p := P) (n := n) (s := s) (r := r) (f := f) (show Rise (hitL a b P n ib S) from h5)
  have g1 : (growL a b P n s r f ib S).length ≤ 31 := by
    have := gemsIn_len a b P n s r f (falls a b P n s r f (hitL a b P n ib S)).1 S.2
    unfold growL
    omega
  have g2 := List.length_filter_le (hereB a b P n r) (growL a b P n s r f ib S)
  have g3 := List.length_filter_le (fun e => !hereB a b P n r e) (growL a b P n s r f ib S)
  constructor <;> omega

theorem own_old2 {w : World} {base size n b : Nat} {e : TypeId} {v : Value} {xs : List Value} (h : w.ownsRow base e size v n xs) (hb : b < base) (x y : Value) : ((w.setCell ⟨b, 0, none⟩ x).setCell ⟨b, 1, none⟩ y).ownsRow base e size v n xs :=
  h.kept (grown_trans (grown_set w b 0 x) (grown_set _ b 1 y)) (.inr fun hh => by have := (h.lt b hh).1; omega)

/-- What goes out, one by one. -/
theorem outs_at {a b n s r f : Int} {P : Nat} {inp : Int → Inp} {l : List Ent} {ib : List Crs} (h : Asked a b P n r f l ib) {c : Crs} (hc : c ∈ st lessB (outsL a b P n s r f inp l ib)) : crightB a b P n c = true ∧ c.src = r ∧ c.frame = f ∧ inB (nr a b P n r) c.dst = true := by
  obtain ⟨h1, h2, h3, h4⟩ := outs_ok h c ((st_perm _ _).mem_iff.1 hc)
  exact ⟨h1, h2, h3, by unfold inB; exact decide_eq_true h4⟩

/-- Each player once: there, or handed over. -/
theorem keeps_all {a b n s r f : Int} {P : Nat} {inp : Int → Inp} {l : List Ent} {ib : List Crs} (h : Asked a b P n r f l ib) :
    (∀ i ∈ pids (arriveL l ib), (pids (stayL a b P n s r f inp l ib) ++ hpids (st lessB (outsL a b P n s r f inp l ib))).count i = 1) ∧ (pids (stayL a b P n s r f inp l ib) ++ hpids (st lessB (outsL a b P n s r f inp l ib))).length = (pids (arriveL l ib)).length := by
  have hc : ∀ i, (pids (stayL a b P n s r f inp l ib) ++ hpids (st lessB (outsL a b P n s r f inp l ib))).count i = (pids (arriveL l ib)).count i := fun i => by
    rw [List.count_append, (hpids_perm (st_perm lessB (outsL a b P n s r f inp l ib))).count_eq i]
    exact keeps_count h i
  obtain ⟨a1, -, -⟩ := arrive_ok ib h.ok h.here h.few h.hands
  refine ⟨fun i hi => ?_, (List.perm_iff_count.2 hc).length_eq⟩
  rw [hc, (pids_nodup a1.rise).count, if_pos hi]

theorem hpids_take {l : List Crs} {k : Nat} {c : Crs} (h : l[k]? = some c) : hpids (l.take (k + 1)) = hpids (l.take k) ++ if c.kind = 1 ∧ c.e.kind = 1 then [c.e.id] else [] := by
  unfold hpids
  rw [take_at h, List.filter_append, List.map_append]
  congr 1
  by_cases h1 : c.kind = 1 <;> by_cases h2 : c.e.kind = 1 <;> simp [h1, h2]

theorem hpids_len (l : List Crs) : (hpids l).length ≤ l.length := by
  unfold hpids
  rw [List.length_map]
  exact List.length_filter_le _ _

theorem count_take {l : List Int} {k : Nat} {x : Int} (i : Int) (h : l[k]? = some x) : (l.take (k + 1)).count i = (l.take k).count i + if x = i then 1 else 0 := by
  rw [take_at h, List.count_append]
  congr 1
  by_cases hx : x = i <;> simp [hx]

theorem zcA (X : World) (v : Value) (t : TypeId) {g : Nat} (hg : g = X.heap.size) : (X.alloc (.cells #[v] t)).cell? ⟨g, 0, none⟩ = some v := by
  subst hg
  rw [World.cell?_alloc_new]; rfl

theorem zcB (X : World) (v : Value) (t : TypeId) (o : Obj) {g : Nat} (hg : g = X.heap.size) : ((X.alloc (.cells #[v] t)).alloc o).cell? ⟨g, 0, none⟩ = some v := by
  have h := zcA X v t hg
  rw [← h]
  exact World.cell?_alloc_lt _ _ _ (World.block_lt_of_cell? _ _ h)

theorem zcC (X : World) (v : Value) (t : TypeId) {g : Nat} (hg : g = X.heap.size) : (X.alloc (.cells #[v] t)).drew.cell? ⟨g, 0, none⟩ = some v := zcA X v t hg

theorem zcD (X : World) (v : Value) (t : TypeId) (o : Obj) {g : Nat} (hg : g = X.heap.size) : ((X.alloc (.cells #[v] t)).alloc o).drew.cell? ⟨g, 0, none⟩ = some v := zcB X v t o hg

theorem zrowN (X : World) (P : Nat) (hP : P ≤ 1000) {g : Nat} (hg : g = X.heap.size) : IsSl inpC (X.alloc (.cells ((List.replicate P inp0).flatMap inpC).toArray 61)) (.slice (some ⟨g, 0, none⟩) P P) (List.replicate P inp0) := by
  have h := owned_sl (make_row P hP X 0 (Nat.zero_le _))
  exact hg ▸ h

theorem zrowND (X : World) (P : Nat) (hP : P ≤ 1000) {g : Nat} (hg : g = X.heap.size) : IsSl inpC (X.alloc (.cells ((List.replicate P inp0).flatMap inpC).toArray 61)).drew (.slice (some ⟨g, 0, none⟩) P P) (List.replicate P inp0) := (zrowN X P hP hg).below (Below.refl _ _).drew

theorem zrowNA (X : World) (o : Obj) (P : Nat) (hP : P ≤ 1000) {g : Nat} (hg : g = X.heap.size) : IsSl inpC ((X.alloc (.cells ((List.replicate P inp0).flatMap inpC).toArray 61)).alloc o) (.slice (some ⟨g, 0, none⟩) P P) (List.replicate P inp0) := (zrowN X P hP hg).below ((Below.refl _ _).alloc (Nat.le_refl _) _)

theorem zrowNE (X : World) (o : Obj) (P : Nat) (hP : P ≤ 1000) {g : Nat} (hg : g = X.heap.size) : IsSl inpC ((X.alloc (.cells ((List.replicate P inp0).flatMap inpC).toArray 61)).alloc o).drew (.slice (some ⟨g, 0, none⟩) P P) (List.replicate P inp0) := (zrowNA X o P hP hg).below (Below.refl _ _).drew

/-- Blasts in another order. -/
theorem step_perm {a b n s r f : Int} {P : Nat} {inp : Int → Inp} {l : List Ent} {ib jb : List Crs} (h : jb.Perm ib) (hk : ∀ c ∈ ib, c.kind = 2) : stayL a b P n s r f inp l jb = stayL a b P n s r f inp l ib ∧ outsL a b P n s r f inp l jb = outsL a b P n s r f inp l ib := by
  have e : upTo a b P n s r f inp l ib = upTo a b P n s r f inp l jb := upTo_perm h.symm fun c hc h1 => by have := hk c hc; omega
  unfold stayL outsL
  rw [e]
  exact ⟨rfl, rfl⟩

theorem swap_perm {l : List Crs} {i j : Nat} {x y : Crs} (hi : l[i]? = some x) (hj : l[j]? = some y) : ((l.set i y).set j x).Perm l := by
  obtain ⟨h1, rfl⟩ := List.getElem?_eq_some_iff.1 hi
  obtain ⟨h2, rfl⟩ := List.getElem?_eq_some_iff.1 hj
  exact List.set_set_perm h1 h2

theorem bl2_take {l : List Crs} {k : Nat} {c : Crs} (h : l[k]? = some c) : (l.take (k + 1)).filter (fun c => decide (c.kind = 2)) = (l.take k).filter (fun c => decide (c.kind = 2)) ++ if c.kind = 2 then [c] else [] := by
  rw [take_at h, List.filter_append]
  congr 1
  by_cases h1 : c.kind = 2 <;> simp [h1]

end Go.Proofs.YtbblpnmcbifocaaGreat.Fx
