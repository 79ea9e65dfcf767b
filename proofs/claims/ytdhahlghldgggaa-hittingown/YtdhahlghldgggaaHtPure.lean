/- Who hits, and picks up, whom, plainly (the document's P8.1, P8.2), and what follows. -/
import Derived.Test.YtdhahlghldgggaaGTypEntity
import Derived.Test.YtdhahlghldgggaaGTypCross
import Derived.Test.YtdhahlghldgggaaFxAdd
namespace Go.Proofs.Ytdhahlghldgggaa.Fx
open Go.ChangeShapes Go.WideShapes Go.ChangeAt Go.RowKit
set_option linter.unusedVariables false

/-- Does e touch the player p: so far at most, and not its own? -/
def hitB (r : Int) (e p : Ent) : Bool := decide (p.kind = 1) && ((decide (¬ e.kind = 2) || decide (¬ p.id = e.owner)) && decide (far p.x p.y e.x e.y ≤ r))

/-- The first player that e touches. -/
def fstHit (r : Int) (l : List Ent) (e : Ent) : Option Nat := l.findIdx? (hitB r e)

def healthy (f : Int → Int) (p : Ent) : Ent := ⟨p.id, p.kind, p.x, p.y, p.vx, p.vy, f p.health, p.age, p.owner⟩

/-- One of a kind touches. -/
def touch1 (kind r : Int) (f : Int → Int) (e : Ent) (l : List Ent) : List Ent :=
  if e.kind = kind then match fstHit r l e with
    | some k => l.modify k (healthy f)
    | none => l
  else l

/-- All of a kind touch, in order. -/
def touch (kind r : Int) (f : Int → Int) : List Ent → List Ent → List Ent
  | [], l => l
  | e :: t, l => touch kind r f t (touch1 kind r f e l)

/-- Does it stay? -/
def stays (kind r : Int) (l : List Ent) (e : Ent) : Bool := !(decide (e.kind = kind) && (fstHit r l e).isSome)

def touchL (kind r : Int) (f : Int → Int) (l : List Ent) : List Ent := (touch kind r f l l).filter (stays kind r l)

def shotsL (l : List Ent) : List Ent := touchL 2 24 (fun h => sub h 20) l

def gemsL (l : List Ent) : List Ent := touchL 3 32 (fun h => min 100 (addl [h, 25])) l

def blast1 (b : Crs) (p : Ent) : Ent := if b.kind = 2 ∧ p.kind = 1 ∧ far p.x p.y b.x b.y ≤ 128 then healthy (fun h => sub h 10) p else p

def blastsL (l : List Ent) (bs : List Crs) : List Ent := bs.foldl (fun l b => l.map (blast1 b)) l

def fallenL (l : List Ent) : List Int := (l.filter fun p => decide (p.kind = 1) && decide (p.health ≤ 0)).map Ent.id

/-- The same, but for a player's health. -/
def Alike (y e : Ent) : Prop := (∃ h, y = healthy (fun _ => h) e) ∧ (e.kind = 1 ∨ y = e)

theorem Alike.refl (e : Ent) : Alike e e := ⟨⟨e.health, rfl⟩, .inr rfl⟩

theorem Alike.kind {y e : Ent} (h : Alike y e) : y.kind = e.kind := by obtain ⟨⟨_, rfl⟩, -⟩ := h; rfl

theorem Alike.trans {z y e : Ent} (h : Alike z y) (h' : Alike y e) : Alike z e := by
  obtain ⟨⟨a, rfl⟩, h1⟩ := h
  obtain ⟨⟨b, rfl⟩, h2⟩ := h'
  refine ⟨⟨a, rfl⟩, ?_⟩
  rcases h2 with h2 | h2
  · exact .inl h2
  · rcases h1 with h1 | h1
    · exact .inl h1
    · exact .inr (h1.trans h2)

theorem alike_healthy (f : Int → Int) {p : Ent} (h : p.kind = 1) : Alike (healthy f p) p := ⟨⟨f p.health, rfl⟩, .inl h⟩

theorem hitB_alike (r : Int) (e : Ent) {y p : Ent} (h : Alike y p) : hitB r e y = hitB r e p := by obtain ⟨⟨_, rfl⟩, -⟩ := h; rfl

/-- One by one alike. -/
inductive Pw : List Ent → List Ent → Prop
  | nil : Pw [] []
  | cons {y e : Ent} {x l : List Ent} : Alike y e → Pw x l → Pw (y :: x) (e :: l)

theorem Pw.refl : ∀ l, Pw l l
  | [] => .nil
  | e :: l => .cons (.refl e) (Pw.refl l)

theorem Pw.trans {z y x : List Ent} (h : Pw z y) (h' : Pw y x) : Pw z x := by
  induction h generalizing x with
  | nil => exact h'
  | cons a _ ih => cases h' with | cons b h2 => exact .cons (a.trans b) (ih h2)

theorem Pw.len {x l : List Ent} (h : Pw x l) : x.length = l.length := by
  induction h with
  | nil => rfl
  | cons _ _ ih => simp [ih]

theorem Pw.fst (r : Int) (e : Ent) {x l : List Ent} (h : Pw x l) : fstHit r x e = fstHit r l e := by
  unfold fstHit
  induction h with
  | nil => rfl
  | cons a _ ih => rw [List.findIdx?_cons, List.findIdx?_cons, hitB_alike r e a, ih]

theorem fst_player {r : Int} {e : Ent} {l : List Ent} {k : Nat} (h : fstHit r l e = some k) : ∃ p, l[k]? = some p ∧ p.kind = 1 ∧ hitB r e p = true := by
  unfold fstHit at h
  obtain ⟨hk, h1, -⟩ := List.findIdx?_eq_some_iff_getElem.1 h
  refine ⟨l[k], List.getElem?_eq_getElem hk, ?_, h1⟩
  unfold hitB at h1
  simp only [Bool.and_eq_true, decide_eq_true_eq] at h1
  exact h1.1

theorem Pw.modify (f : Int → Int) {l : List Ent} {k : Nat} {p : Ent} (hk : l[k]? = some p) (hp : p.kind = 1) : Pw (l.modify k (healthy f)) l := by
  induction l generalizing k with
  | nil => simp at hk
  | cons e r ih =>
    cases k with
    | zero =>
      simp only [List.getElem?_cons_zero, Option.some.injEq] at hk
      subst hk
      rw [List.modify_zero_cons]
      exact .cons (alike_healthy f hp) (.refl r)
    | succ k =>
      rw [List.getElem?_cons_succ] at hk
      rw [List.modify_succ_cons]
      exact .cons (.refl e) (ih hk)

theorem touch1_pw (kind r : Int) (f : Int → Int) (e : Ent) (l : List Ent) : Pw (touch1 kind r f e l) l := by
  unfold touch1
  split
  · split
    · rename_i k hk
      obtain ⟨p, h1, h2, -⟩ := fst_player hk
      exact Pw.modify f h1 h2
    · exact .refl l
  · exact .refl l

theorem touch_pw (kind r : Int) (f : Int → Int) : ∀ (es l : List Ent), Pw (touch kind r f es l) l
  | [], l => .refl l
  | e :: t, l => (touch_pw kind r f t _).trans (touch1_pw kind r f e l)

/-- x is l, some shots and gems gone, and players of another health. -/
inductive Less : List Ent → List Ent → Prop
  | nil : Less [] []
  | gone {e : Ent} {x l : List Ent} : e.kind = 2 ∨ e.kind = 3 → Less x l → Less x (e :: l)
  | keep {y e : Ent} {x l : List Ent} : Alike y e → Less x l → Less (y :: x) (e :: l)

theorem Less.trans {z y x : List Ent} (h' : Less y x) : Less z y → Less z x := by
  induction h' generalizing z with
  | nil => exact fun h => h
  | gone hk _ ih => exact fun h => .gone hk (ih h)
  | keep a _ ih =>
    intro h
    cases h with
    | gone hk h2 => exact .gone (by rw [← a.kind]; exact hk) (ih h2)
    | keep b h2 => exact .keep (b.trans a) (ih h2)

theorem Pw.less {x l : List Ent} (h : Pw x l) (q : Ent → Bool) (hq : ∀ y, q y = false → y.kind = 2 ∨ y.kind = 3) : Less (x.filter q) l := by
  induction h with
  | nil => exact .nil
  | @cons y e x l a _ ih =>
    cases hy : q y
    · rw [List.filter_cons_of_neg (by simp [hy])]
      exact .gone (by rw [← a.kind]; exact hq y hy) ih
    · rw [List.filter_cons_of_pos hy]
      exact .keep a ih

theorem touchL_less {kind : Int} (r : Int) (f : Int → Int) (l : List Ent) (hk : kind = 2 ∨ kind = 3) : Less (touchL kind r f l) l := by
  refine (touch_pw kind r f l l).less _ fun y hy => ?_
  unfold stays at hy
  simp only [Bool.not_eq_false', Bool.and_eq_true, decide_eq_true_eq] at hy
  rcases hk with rfl | rfl
  · exact .inl hy.1
  · exact .inr hy.1

theorem blast_pw (b : Crs) : ∀ l : List Ent, Pw (l.map (blast1 b)) l
  | [] => .nil
  | e :: l => by
    refine .cons ?_ (blast_pw b l)
    unfold blast1
    split
    · rename_i h; exact alike_healthy _ h.2.1
    · exact .refl e

theorem blasts_pw (bs : List Crs) (l : List Ent) : Pw (blastsL l bs) l := by
  unfold blastsL
  induction bs generalizing l with
  | nil => exact .refl l
  | cons b t ih => exact (ih _).trans (blast_pw b l)

theorem Pw.toLess {x l : List Ent} (h : Pw x l) : Less x l := by
  induction h with
  | nil => exact .nil
  | cons a _ ih => exact .keep a ih

/-- What HittingOnly reckons through. -/
theorem only_less (l : List Ent) (bs : List Crs) : Less (blastsL (gemsL (shotsL l)) bs) l :=
  (touchL_less 24 _ l (.inl rfl)).trans ((touchL_less 32 _ _ (.inr rfl)).trans (blasts_pw bs _).toLess)

/-- Is y what e became? -/
def fits (e y : Ent) : Bool := eqEnt (healthy (fun _ => e.health) y) e && (decide (e.kind = 1) || eqEnt y e)

theorem fits_alike {y e : Ent} (h : Alike y e) : fits e y = true := by
  obtain ⟨⟨a, rfl⟩, h2⟩ := h
  unfold fits eqEnt
  rw [Bool.and_eq_true, Bool.or_eq_true, decide_eq_true_eq, decide_eq_true_eq, decide_eq_true_eq]
  exact ⟨rfl, h2⟩

theorem fits_kind {y e : Ent} (h : fits e y = true) : y.kind = e.kind := by
  unfold fits eqEnt at h
  rw [Bool.and_eq_true, decide_eq_true_eq] at h
  rw [← h.1]
  rfl

/-- How the law goes through: what is left of x, or none where it falls. -/
def thru : List Ent → List Ent → Option (List Ent)
  | [], x => some x
  | e :: l, [] => if e.kind = 2 ∨ e.kind = 3 then thru l [] else none
  | e :: l, y :: x => if fits e y = true then thru l x else if e.kind = 2 ∨ e.kind = 3 then thru l (y :: x) else none

/-- The way that takes the first that fits comes through, though it may be ahead by shots and gems. -/
theorem thru_less {x l : List Ent} (h : Less x l) : ∀ d x', x = d ++ x' → (∀ e ∈ d, e.kind = 2 ∨ e.kind = 3) → thru l x' = some [] := by
  induction h with
  | nil =>
    intro d x' hx _
    obtain ⟨rfl, rfl⟩ := List.append_eq_nil_iff.1 hx.symm
    rfl
  | @gone e x l hk _ ih =>
    intro d x' hx hd
    cases x' with
    | nil => rw [thru, if_pos hk]; exact ih d [] hx hd
    | cons y x'' =>
      rw [thru]
      by_cases hf : fits e y = true
      · rw [if_pos hf]
        refine ih (d ++ [y]) x'' (by simpa using hx) fun z hz => ?_
        rcases List.mem_append.1 hz with h1 | h1
        · exact hd z h1
        · rw [List.mem_singleton.1 h1, fits_kind hf]; exact hk
      · rw [if_neg hf, if_pos hk]; exact ih d _ hx hd
  | @keep y0 e x l a _ ih =>
    intro d x' hx hd
    cases d with
    | nil =>
      simp only [List.nil_append] at hx
      subst hx
      rw [thru, if_pos (fits_alike a)]
      exact ih [] x rfl (by simp)
    | cons d0 d' =>
      simp only [List.cons_append, List.cons.injEq] at hx
      obtain ⟨rfl, rfl⟩ := hx
      have hk : e.kind = 2 ∨ e.kind = 3 := by rw [← a.kind]; exact hd y0 (by simp)
      have hd' : ∀ z ∈ d', z.kind = 2 ∨ z.kind = 3 := fun z hz => hd z (by simp [hz])
      cases x' with
      | nil => rw [thru, if_pos hk]; exact ih d' [] rfl hd'
      | cons y x'' =>
        rw [thru]
        by_cases hf : fits e y = true
        · rw [if_pos hf]
          refine ih (d' ++ [y]) x'' (by simp) fun z hz => ?_
          rcases List.mem_append.1 hz with h1 | h1
          · exact hd' z h1
          · rw [List.mem_singleton.1 h1, fits_kind hf]; exact hk
        · rw [if_neg hf, if_pos hk]; exact ih d' _ rfl hd'

theorem only_thru (l : List Ent) (bs : List Crs) : thru l (blastsL (gemsL (shotsL l)) bs) = some [] := thru_less (only_less l bs) [] _ rfl (by simp)

end Go.Proofs.Ytdhahlghldgggaa.Fx
