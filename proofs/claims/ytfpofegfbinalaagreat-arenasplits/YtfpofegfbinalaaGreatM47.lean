/- What the laws of layer 9 share: who is there, in a row of the call's own; inputs of those who are there; one player alone. -/
import Derived.Test.YtfpofegfbinalaaGreatM42
import Derived.Test.YtfpofegfbinalaaGreatM39
import Derived.Test.YtfpofegfbinalaaGreatM01
namespace Go.Proofs.YtfpofegfbinalaaGreat.Fx
open Go.ChangeShapes Go.WideShapes Go.ChangeAt Go.RowKit
set_option linter.unusedVariables false
set_option maxRecDepth 100000

/-- The numbers of players who are right. -/
theorem pids_bd {a b p n : Int} {l : List Ent} (h : ∀ e ∈ l, erightB a b p n e = true) {i : Int} (hi : i ∈ pids l) : 1 ≤ i ∧ i ≤ p := by
  obtain ⟨e, he, hk, rfl⟩ := pids_mem.1 hi
  exact (player_bd (h e he) hk).2.1

/-- What a step may be asked of a region that is right, with inputs that are right. -/
theorem why_same {a b n r f : Int} {P : Nat} {l : List Ent} {xs ys : List Inp} {ib : List Crs} (hx : xs.length = P ∧ xs.all irtI = true) (hy : ys.length = P ∧ ys.all irtI = true) : whyNot a b P n r f l xs ib = whyNot a b P n r f l ys ib := by
  have e : inpsB P xs = inpsB P ys := by unfold inpsB; rw [hx.1, hy.1, hx.2, hy.2]
  unfold whyNot
  rw [e]

/-- Steps with inputs that are alike for those who are there are alike. -/
theorem step_same {a b n s r f : Int} {P : Nat} {l : List Ent} {xs ys : List Inp} (h : ∀ i ∈ pids l, inpOf ys i = inpOf xs i) : stayL a b P n s r f (inpOf ys) l [] = stayL a b P n s r f (inpOf xs) l [] ∧ outsL a b P n s r f (inpOf ys) l [] = outsL a b P n s r f (inpOf xs) l [] := by
  have e : upTo a b P n s r f (inpOf ys) l [] = upTo a b P n s r f (inpOf xs) l [] := upTo_congr h
  unfold stayL outsL
  rw [e]
  exact ⟨rfl, rfl⟩

theorem asked_ok {a b n r f : Int} {P : Nat} {l : List Ent} {ib : List Crs} (hh : hasB a b P n r = true) (hf : 0 ≤ f ∧ f ≤ 9999) (hok : Okl a b P n l) (hhere : Here a b P n r l) (ht : things l ≤ 24) (hib : ∀ c ∈ ib, inOk a b P n r f c = true) : rgB a b P n r f l = true ∧ Asked a b P n r f l ib := by
  have h1 : rgB a b P n r f l = true := by
    unfold rgB
    rw [hh, decide_eq_true (show 0 ≤ f ∧ f ≤ 10000 by omega), (srt_iff l).2 hok.rise, decide_eq_true ht]
    simp only [Bool.true_and, Bool.and_true]
    refine List.all_eq_true.2 fun e he => ?_
    unfold hereOk
    rw [hok.right e he, decide_eq_true (hhere e he)]
    rfl
  refine ⟨h1, hh, hf, hok, hhere, ht, fun c hc => ?_⟩
  have := hib c hc
  unfold inOk at this
  simp only [Bool.and_eq_true, decide_eq_true_eq] at this
  exact ⟨this.1.1, this.1.2⟩

theorem why_ok {a b n r f : Int} {P : Nat} {l : List Ent} {xs : List Inp} {ib : List Crs} (hh : hasB a b P n r = true) (hf : 0 ≤ f ∧ f ≤ 9999) (hok : Okl a b P n l) (hhere : Here a b P n r l) (ht : things l ≤ 24) (hib : ∀ c ∈ ib, inOk a b P n r f c = true)
    (hx : xs.length = P ∧ xs.all irtI = true) : whyNot a b P n r f l xs ib = 0 := by
  have h1 := (asked_ok hh hf hok hhere ht hib).1
  unfold whyNot
  rw [if_pos hh, if_pos h1, if_pos (by unfold inpsB; rw [hx.1, hx.2]; simp), if_pos (List.all_eq_true.2 hib), if_neg (by omega)]

theorem incr_len (hi : Int) : ∀ (l : List Int) (lo : Int), l.Pairwise (fun x y => x < y) → (∀ i ∈ l, lo < i ∧ i ≤ hi) → (l.length : Int) ≤ max 0 (hi - lo)
  | [], _, _, _ => by simp; omega
  | x :: t, lo, h, hb => by
    obtain ⟨h1, h2⟩ := List.pairwise_cons.1 h
    have hx := hb x (by simp)
    have := incr_len hi t x h2 (fun i hi' => ⟨h1 i hi', (hb i (by simp [hi'])).2⟩)
    simp only [List.length_cons]
    omega

theorem pids_leP {a b n : Int} {P : Nat} {l : List Ent} (h : Okl a b P n l) : (pids l).length ≤ P := by
  have h1 : (pids l).Pairwise (fun x y => x < y) := by
    unfold pids
    exact List.Pairwise.map _ (fun x y h => h) (List.Pairwise.filter _ h.rise)
  have := incr_len P (pids l) 0 h1 fun i hi => by have := pids_bd h.right hi; omega
  omega

theorem outs_le {a b n s r f : Int} {P : Nat} (hP : P ≤ 6) {inp : Int → Inp} {l : List Ent} {ib : List Crs} (h : Asked a b P n r f l ib) : (outsL a b P n s r f inp l ib).length ≤ 600 ∧ (stayL a b P n s r f inp l ib).length ≤ 31 := by
  obtain ⟨⟨a1, -, -⟩, -, -, h4, h5⟩ := upTo_parts (s := s) (inp := inp) h
  have hp := pids_leP a1
  rw [outs_eq, stay_eq, List.length_append, List.length_map]
  generalize steers (regs a b P n) r f inp (arriveL l ib) (pids (arriveL l ib)) = S at *
  have e1 : (hitL a b P n ib S).length ≤ 30 := by
    have := blasts_le (goL a b P n S.1) ib
    have := goL_len a b P n S.1
    unfold hitL
    omega
  obtain ⟨f1, f2⟩ := falls_len (a := a) (b := b) (p := P) (n := n) (s := s) (r := r) (f := f) (show Rise (hitL a b P n ib S) from h5)
  have g1 : (growL a b P n s r f ib S).length ≤ 31 := by
    have := gemsIn_len a b P n s r f (falls a b P n s r f (hitL a b P n ib S)).1 S.2
    unfold growL
    omega
  have g2 := List.length_filter_le (hereB a b P n r) (growL a b P n s r f ib S)
  have g3 := List.length_filter_le (fun e => !hereB a b P n r e) (growL a b P n s r f ib S)
  constructor <;> omega

theorem own_old2 {w : World} {base size n b : Nat} {e : TypeId} {v : Value} {xs : List Value} (h : w.ownsRow base e size v n xs) (hb : b < base) (x y : Value) : ((w.setCell ⟨b, 0, none⟩ x).setCell ⟨b, 1, none⟩ y).ownsRow base e size v n xs :=
  h.kept (grown_trans (grown_set w b 0 x) (grown_set _ b 1 y)) (.inr fun hh => by have := (h.lt b hh).1; omega)

/-- What goes out, one by one. -/
theorem outs_at {a b n s r f : Int} {P : Nat} {inp : Int → Inp} {l : List Ent} {ib : List Crs} (h : Asked a b P n r f l ib) {c : Crs} (hc : c ∈ st lessB (outsL a b P n s r f inp l ib)) : crightB a b P n c = true ∧ c.src = r ∧ c.frame = f ∧ inB (nr a b P n r) c.dst = true := by
  obtain ⟨h1, h2, h3, h4⟩ := outs_ok h c ((st_perm _ _).mem_iff.1 hc)
  exact ⟨h1, h2, h3, by unfold inB; exact decide_eq_true h4⟩

/-- Each player once: there, or handed over. -/
theorem keeps_all {a b n s r f : Int} {P : Nat} {inp : Int → Inp} {l : List Ent} {ib : List Crs} (h : Asked a b P n r f l ib) :
    (∀ i ∈ pids (arriveL l ib), (pids (stayL a b P n s r f inp l ib) ++ hpids (st lessB (outsL a b P n s r f inp l ib))).count i = 1) ∧ (pids (stayL a b P n s r f inp l ib) ++ hpids (st lessB (outsL a b P n s r f inp l ib))).length = (pids (arriveL l ib)).length := by
  have hc : ∀ i, (pids (stayL a b P n s r f inp l ib) ++ hpids (st lessB (outsL a b P n s r f inp l ib))).count i = (pids (arriveL l ib)).count i := fun i => by
    rw [List.count_append, (hpids_perm (st_perm lessB (outsL a b P n s r f inp l ib))).count_eq i]
    exact keeps_count h i
  obtain ⟨a1, -, -⟩ := arrive_ok ib h.ok h.here h.few h.hands
  refine ⟨fun i hi => ?_, (List.perm_iff_count.2 hc).length_eq⟩
  rw [hc, (pids_nodup a1.rise).count, if_pos hi]

/-- Blasts in another order. -/
theorem step_perm {a b n s r f : Int} {P : Nat} {inp : Int → Inp} {l : List Ent} {ib jb : List Crs} (h : jb.Perm ib) (hk : ∀ c ∈ ib, c.kind = 2) : stayL a b P n s r f inp l jb = stayL a b P n s r f inp l ib ∧ outsL a b P n s r f inp l jb = outsL a b P n s r f inp l ib := by
  have e : upTo a b P n s r f inp l ib = upTo a b P n s r f inp l jb := upTo_perm h.symm fun c hc h1 => by have := hk c hc; omega
  unfold stayL outsL
  rw [e]
  exact ⟨rfl, rfl⟩

end Go.Proofs.YtfpofegfbinalaaGreat.Fx
