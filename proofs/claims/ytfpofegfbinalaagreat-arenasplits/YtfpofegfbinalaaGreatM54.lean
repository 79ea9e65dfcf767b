/- A world of regions, plainly: what it is behind a step; it stays right. -/
import Derived.Test.YtfpofegfbinalaaGreatM53
import Derived.Test.YtfpofegfbinalaaGreatM47
namespace Go.Proofs.YtfpofegfbinalaaGreat.Fx
open Go.ChangeShapes Go.WideShapes Go.ChangeAt Go.RowKit
set_option linter.unusedVariables false
set_option maxRecDepth 100000

/-- What comes into region r. -/
def inW (a b p n : Int) (os : List (List Crs)) (r : Int) : List Crs := inboxL (nr a b p n r) os r

/-- A world that is right, ahead of frame f. -/
structure WOk (a b : Int) (P : Nat) (n f : Int) (R : Nat) (fs : List (Int × List Ent)) (os : List (List Crs)) : Prop where
  lenF : fs.length = R
  lenO : os.length = R
  reg : ∀ (r : Nat) g, fs[r]? = some g → g.1 = f ∧ Okl a b P n g.2 ∧ Here a b P n r g.2 ∧ things g.2 ≤ 24
  out : ∀ (r : Nat) o, os[r]? = some o → o.length ≤ 600 ∧ ∀ c ∈ o, crightB a b P n c = true ∧ c.src = r ∧ c.frame = f - 1

theorem inW_ok {a b n f : Int} {P R : Nat} {fs : List (Int × List Ent)} {os : List (List Crs)} (h : WOk a b P n f R fs os) (r : Int) : ∀ c ∈ inW a b P n os r, inOk a b P n r f c = true := by
  intro c hc
  unfold inW inboxL at hc
  obtain ⟨q, hq, hc⟩ := List.mem_flatMap.1 hc
  unfold sentL at hc
  split at hc
  · unfold toL at hc
    obtain ⟨h1, h2⟩ := List.mem_filter.1 hc
    have hd : c.dst = r := by simpa using h2
    by_cases hl : q.toNat < os.length
    · rw [List.getD_eq_getElem?_getD, List.getElem?_eq_getElem hl] at h1
      obtain ⟨-, hall⟩ := h.out q.toNat _ (List.getElem?_eq_getElem hl)
      obtain ⟨e1, -, e3⟩ := hall c h1
      unfold inOk
      rw [e1, hd, e3]
      simp
    · rw [List.getD_eq_getElem?_getD, List.getElem?_eq_none (by omega)] at h1
      simp at h1
  · simp at hc

theorem wok_asked {a b n f : Int} {P R : Nat} {fs : List (Int × List Ent)} {os : List (List Crs)} (hR : regs a b P n = R) (h : WOk a b P n f R fs os) (hf : 0 ≤ f ∧ f ≤ 9999) {r : Nat} {g : Int × List Ent} (hg : fs[r]? = some g) : hasB a b P n r = true ∧ Asked a b P n r f g.2 (inW a b P n os r) ∧ (∀ xs : List Inp, xs.length = P ∧ xs.all irtI = true → whyNot a b P n r f g.2 xs (inW a b P n os r) = 0) := by
  have hr : r < R := by have := (List.getElem?_eq_some_iff.1 hg).1; rw [h.lenF] at this; exact this
  have hh : hasB a b P n r = true := by unfold hasB; rw [hR]; exact decide_eq_true (by omega)
  obtain ⟨-, h1, h2, h3⟩ := h.reg r g hg
  exact ⟨hh, (asked_ok hh hf h1 h2 h3 (inW_ok h r)).2, fun xs hx => why_ok hh hf h1 h2 h3 (inW_ok h r) hx⟩

/-- The world one frame later. -/
def stepF (a b p n s : Int) (inp : Int → Inp) (fs : List (Int × List Ent)) (os : List (List Crs)) : List (Int × List Ent) := fs.mapIdx fun r g => (g.1 + 1, stayL a b p n s r g.1 inp g.2 (inW a b p n os r))

def stepO (a b p n s : Int) (inp : Int → Inp) (fs : List (Int × List Ent)) (os : List (List Crs)) : List (List Crs) := fs.mapIdx fun r g => st lessB (outsL a b p n s r g.1 inp g.2 (inW a b p n os r))

theorem wok_step {a b n f s : Int} {P R : Nat} (hP : P ≤ 6) {fs : List (Int × List Ent)} {os : List (List Crs)} (hR : regs a b P n = R) (h : WOk a b P n f R fs os) (hf : 0 ≤ f ∧ f ≤ 9999) (inp : Int → Inp) : WOk a b P n (f + 1) R (stepF a b P n s inp fs os) (stepO a b P n s inp fs os) := by
  refine ⟨by unfold stepF; rw [List.length_mapIdx, h.lenF], by unfold stepO; rw [List.length_mapIdx, h.lenF], fun r g hg => ?_, fun r o ho => ?_⟩
  · unfold stepF at hg
    rw [List.getElem?_mapIdx] at hg
    obtain ⟨g0, hg0, rfl⟩ := Option.map_eq_some_iff.1 hg
    obtain ⟨-, hA, -⟩ := wok_asked hR h hf hg0
    have hf0 := (h.reg r g0 hg0).1
    rw [← hf0] at hA
    obtain ⟨s1, s2, s3⟩ := stay_ok (s := s) (inp := inp) hA
    exact ⟨by rw [hf0], s1, s2, s3⟩
  · unfold stepO at ho
    rw [List.getElem?_mapIdx] at ho
    obtain ⟨g0, hg0, rfl⟩ := Option.map_eq_some_iff.1 ho
    obtain ⟨-, hA, -⟩ := wok_asked hR h hf hg0
    have hf0 := (h.reg r g0 hg0).1
    rw [← hf0] at hA
    refine ⟨by rw [st_length]; exact (outs_le (s := s) (inp := inp) hP hA).1, fun c hc => ?_⟩
    obtain ⟨c1, c2, c3, -⟩ := outs_ok (s := s) (inp := inp) hA c ((st_perm _ _).mem_iff.1 hc)
    exact ⟨c1, c2, by rw [c3, hf0]; omega⟩

theorem std_right {a b n : Int} {P : Nat} (h : rt a b P n = true) {r : Int} (hh : hasB a b P n r = true) {id : Int} (hid : 1 ≤ id ∧ id ≤ P) : erightB a b P n (std a b P n r id) = true ∧ ofr a b P n (std a b P n r id).x (std a b P n r id).y = r := by
  obtain ⟨h1, h2⟩ := corner_in hh (u := 512) (v := 512) (by omega) (by omega)
  exact ⟨player_right (y := std a b P n r id) rfl h1 ⟨hid, show (-64 : Int) ≤ 0 ∧ (0 : Int) ≤ 64 by decide, show (-64 : Int) ≤ 0 ∧ (0 : Int) ≤ 64 by decide, show (1 : Int) ≤ 100 ∧ (100 : Int) ≤ 100 by decide, show (0 : Int) ≤ 0 ∧ (0 : Int) ≤ 6 by decide, rfl⟩, h2⟩

theorem things_none {l : List Ent} (h : ∀ e ∈ l, e.kind = 1) : things l = 0 := by
  induction l with
  | nil => rfl
  | cons e t ih => rw [things_cons, if_pos (h e (by simp)), ih fun x hx => h x (by simp [hx])]; rfl

theorem wok_begin {a b n : Int} {P R : Nat} (h : rt a b P n = true) (hR : regs a b P n = R) : WOk a b P n 0 R (begF a b n P R) (List.replicate R []) := by
  refine ⟨by simp [begF], by simp, fun r g hg => ?_, fun r o ho => ?_⟩
  · unfold begF at hg
    rw [List.getElem?_map] at hg
    obtain ⟨q, hq, rfl⟩ := Option.map_eq_some_iff.1 hg
    obtain ⟨hqR, hq2⟩ := List.getElem?_eq_some_iff.1 hq
    rw [List.length_range] at hqR
    rw [List.getElem_range] at hq2
    subst hq2
    have hh : hasB a b P n r = true := by unfold hasB; rw [hR]; exact decide_eq_true (by omega)
    have hm : ∀ e ∈ begL R (plr a b P n R) P r, erightB a b P n e = true ∧ ofr a b P n e.x e.y = r ∧ e.kind = 1 := fun e he => by
      obtain ⟨i, hi, hir, rfl⟩ := begL_mem he
      have := std_right h hh (id := (i : Int) + 1) (by omega)
      unfold plr
      rw [hir]
      exact ⟨this.1, this.2, rfl⟩
    refine ⟨rfl, ⟨?_, fun e he => (hm e he).1⟩, fun e he => (hm e he).2.1, ?_⟩
    · unfold begL Rise
      refine List.Pairwise.map _ (fun i j hij => ?_) (List.Pairwise.filter _ List.pairwise_lt_range)
      simp only [plr, std]
      omega
    · rw [things_none fun e he => (hm e he).2.2]; decide
  · rw [List.getElem?_replicate] at ho
    split at ho
    · cases ho; exact ⟨by simp, by simp⟩
    · cases ho

end Go.Proofs.YtfpofegfbinalaaGreat.Fx
