/- Lists of entities: what is found, put, dropped and sorted, as lists alone. Who hits, and picks up, whom, plainly (the document's P8.1, P8.2), and what follows. How things move, plainly (the document's P7.1, P7.2): who is right and goes is right, and comes to a near region. -/
import Derived.Test.YtfpofegfbinalaaGreatM09
import Derived.Test.YtfpofegfbinalaaGreatM02
import Derived.Test.YtfpofegfbinalaaGreatM05
import Derived.Test.YtfpofegfbinalaaGreatM07
import Derived.Test.YtfpofegfbinalaaGreatM10
namespace Go.Proofs.YtfpofegfbinalaaGreat.Fx
set_option linter.unusedVariables false
set_option maxRecDepth 100000

theorem fndI_spec (l : List Ent) (id : Int) (k : Nat) : (fndI l id k = -1 ∧ ∀ e ∈ l, e.id ≠ id) ∨ ∃ (j : Nat) (x : Ent), fndI l id k = ((k + j : Nat) : Int) ∧ l[j]? = some x ∧ x.id = id := by
  induction l generalizing k with
  | nil => exact .inl ⟨rfl, by simp⟩
  | cons e r ih =>
    by_cases h : e.id = id
    · exact .inr ⟨0, e, by rw [fndI, if_pos h]; rfl, rfl, h⟩
    · rcases ih (k + 1) with ⟨h1, h2⟩ | ⟨j, x, h1, h2, h3⟩
      · refine .inl ⟨by rw [fndI, if_neg h, h1], fun y hy => ?_⟩
        rcases List.mem_cons.1 hy with rfl | hy
        · exact h
        · exact h2 y hy
      · exact .inr ⟨j + 1, x, by rw [fndI, if_neg h, h1]; omega, by simpa using h2, h3⟩

theorem fnd_spec (l : List Ent) (id : Int) : (fnd l id = -1 ∧ ∀ e ∈ l, e.id ≠ id) ∨ ∃ (j : Nat) (x : Ent), fnd l id = j ∧ l[j]? = some x ∧ x.id = id := by
  rcases fndI_spec l id 0 with h | ⟨j, x, h1, h2, h3⟩
  · exact .inl h
  · exact .inr ⟨j, x, by rw [fnd, h1, Nat.zero_add], h2, h3⟩

theorem fnd_yes {l : List Ent} {e : Ent} (h : e ∈ l) : ∃ (j : Nat) (x : Ent), fnd l e.id = j ∧ l[j]? = some x ∧ x.id = e.id := by
  rcases fnd_spec l e.id with ⟨-, h2⟩ | h2
  · exact absurd rfl (h2 e h)
  · exact h2

/-- The numbers rise. -/
def Rise (l : List Ent) : Prop := l.Pairwise fun a b => a.id < b.id

theorem srtI_iff (p : Int) (l : List Ent) : srtI p l = true ↔ (∀ e ∈ l, p < e.id) ∧ Rise l := by
  induction l generalizing p with
  | nil => simp [srtI, Rise]
  | cons e r ih =>
    rw [srtI, Bool.and_eq_true, decide_eq_true_iff, ih]
    unfold Rise
    rw [List.pairwise_cons]
    constructor
    · rintro ⟨h1, h2, h3⟩
      exact ⟨fun x hx => by rcases List.mem_cons.1 hx with rfl | hx; exact h1; have := h2 x hx; omega, h2, h3⟩
    · rintro ⟨h1, h2, h3⟩
      exact ⟨h1 e (by simp), h2, h3⟩

theorem srt_iff (l : List Ent) : srt l = true ↔ Rise l := by
  cases l with
  | nil => simp [srt, Rise]
  | cons e r => rw [srt, srtI_iff]; unfold Rise; rw [List.pairwise_cons]

theorem pos_take (l : List Ent) (id : Int) : ∀ x ∈ l.take (pos l id), x.id < id := by
  induction l with
  | nil => simp
  | cons e r ih =>
    rw [pos]
    split
    · rename_i h
      intro x hx
      rw [List.take_succ_cons] at hx
      rcases List.mem_cons.1 hx with rfl | hx
      · exact h
      · exact ih x hx
    · simp

theorem pos_drop (l : List Ent) (id : Int) (hs : Rise l) : ∀ x ∈ l.drop (pos l id), id ≤ x.id := by
  induction l with
  | nil => simp
  | cons e r ih =>
    have hr : Rise r := (List.pairwise_cons.1 hs).2
    rw [pos]
    split
    · rw [List.drop_succ_cons]; exact ih hr
    · rename_i h
      intro x hx
      rw [List.drop_zero] at hx
      rcases List.mem_cons.1 hx with rfl | hx
      · omega
      · have := (List.pairwise_cons.1 hs).1 x hx
        omega

/-- Is one of that number there? -/
def Has (l : List Ent) (id : Int) : Prop := ∃ e ∈ l, e.id = id

theorem fnd_has (l : List Ent) (id : Int) : 0 ≤ fnd l id ↔ Has l id := by
  rcases fnd_spec l id with ⟨h1, h2⟩ | ⟨j, x, h1, h2, h3⟩
  · rw [h1]
    exact ⟨fun h => by omega, fun ⟨e, he, hi⟩ => absurd hi (h2 e he)⟩
  · rw [h1]
    exact ⟨fun _ => ⟨x, List.mem_of_getElem? h2, h3⟩, fun _ => by omega⟩

theorem put_yes {l : List Ent} {e : Ent} (h : Has l e.id) : put l e = l := by unfold put; rw [if_pos ((fnd_has l e.id).2 h)]

theorem put_no {l : List Ent} {e : Ent} (h : ¬ Has l e.id) : put l e = l.take (pos l e.id) ++ [e] ++ l.drop (pos l e.id) := by unfold put; rw [if_neg fun h1 => h ((fnd_has l e.id).1 h1)]

theorem put_mem (l : List Ent) (e x : Ent) : x ∈ put l e ↔ x ∈ l ∨ (x = e ∧ ¬ Has l e.id) := by
  by_cases h : Has l e.id
  · rw [put_yes h]; simp [h]
  · rw [put_no h]
    have : x ∈ l ↔ x ∈ l.take (pos l e.id) ∨ x ∈ l.drop (pos l e.id) := by rw [← List.mem_append, List.take_append_drop]
    rw [this]
    simp [h]
    constructor
    · rintro (h | h | h)
      · exact .inl (.inl h)
      · exact .inr h
      · exact .inl (.inr h)
    · rintro ((h | h) | h)
      · exact .inl h
      · exact .inr (.inr h)
      · exact .inr (.inl h)

theorem put_rise {l : List Ent} (hs : Rise l) (e : Ent) : Rise (put l e) := by
  by_cases h : Has l e.id
  · rw [put_yes h]; exact hs
  · rw [put_no h]
    have h1 := pos_take l e.id
    have h2 := pos_drop l e.id hs
    have h3 : ∀ x ∈ l.drop (pos l e.id), e.id < x.id := fun x hx => by
      have := h2 x hx
      have hne : x.id ≠ e.id := fun hi => h ⟨x, List.mem_of_mem_drop hx, hi⟩
      omega
    unfold Rise at hs ⊢
    rw [← List.take_append_drop (pos l e.id) l, List.pairwise_append] at hs
    rw [List.append_assoc, List.pairwise_append, List.pairwise_append]
    refine ⟨hs.1, ⟨by simp, hs.2.1, fun a ha b hb => ?_⟩, fun a ha b hb => ?_⟩
    · simp at ha; subst ha; exact h3 b hb
    · rcases List.mem_append.1 hb with hb | hb
      · simp at hb; subst hb; exact h1 a ha
      · exact hs.2.2 a ha b hb

/-- Several, one after the other. -/
def puts (l m : List Ent) : List Ent := m.foldl put l

theorem puts_cons (l : List Ent) (e : Ent) (m : List Ent) : puts l (e :: m) = puts (put l e) m := rfl

theorem puts_snoc (l m : List Ent) (e : Ent) : puts l (m ++ [e]) = put (puts l m) e := by unfold puts; rw [List.foldl_append]; rfl

theorem puts_len (l m : List Ent) : (puts l m).length ≤ l.length + m.length := by
  induction m generalizing l with
  | nil => simp [puts]
  | cons e r ih =>
    have h1 := ih (put l e)
    have h2 := put_len l e
    rw [puts_cons, List.length_cons]
    omega

end Go.Proofs.YtfpofegfbinalaaGreat.Fx
namespace Go.Proofs.YtfpofegfbinalaaGreat.Fx
open Go.ChangeShapes Go.WideShapes Go.ChangeAt Go.RowKit
set_option linter.unusedVariables false
set_option maxRecDepth 100000

/-- Does e touch the player p: so far at most, and not its own? -/
def hitB (r : Int) (e p : Ent) : Bool := decide (p.kind = 1) && ((decide (¬ e.kind = 2) || decide (¬ p.id = e.owner)) && decide (far p.x p.y e.x e.y ≤ r))

/-- The first player that e touches. -/
def fstHit (r : Int) (l : List Ent) (e : Ent) : Option Nat := l.findIdx? (hitB r e)

def healthy (f : Int → Int) (p : Ent) : Ent := ⟨p.id, p.kind, p.x, p.y, p.vx, p.vy, f p.health, p.age, p.owner⟩

/-- One of a kind touches. -/
def touch1 (kind r : Int) (f : Int → Int) (e : Ent) (l : List Ent) : List Ent :=
  if e.kind = kind then match fstHit r l e with
    | some k => l.modify k (healthy f)
    | none => l
  else l

/-- All of a kind touch, in order. -/
def touch (kind r : Int) (f : Int → Int) : List Ent → List Ent → List Ent
  | [], l => l
  | e :: t, l => touch kind r f t (touch1 kind r f e l)

/-- Does it stay? -/
def stays (kind r : Int) (l : List Ent) (e : Ent) : Bool := !(decide (e.kind = kind) && (fstHit r l e).isSome)

def touchL (kind r : Int) (f : Int → Int) (l : List Ent) : List Ent := (touch kind r f l l).filter (stays kind r l)

def shotsL (l : List Ent) : List Ent := touchL 2 24 (fun h => sub h 20) l

def gemsL (l : List Ent) : List Ent := touchL 3 32 (fun h => min 100 (addl [h, 25])) l

def blast1 (b : Crs) (p : Ent) : Ent := if b.kind = 2 ∧ p.kind = 1 ∧ far p.x p.y b.x b.y ≤ 128 then healthy (fun h => sub h 10) p else p

def blastsL (l : List Ent) (bs : List Crs) : List Ent := bs.foldl (fun l b => l.map (blast1 b)) l

def fallenL (l : List Ent) : List Int := (l.filter fun p => decide (p.kind = 1) && decide (p.health ≤ 0)).map Ent.id

/-- The same, but for a player's health. -/
def Alike (y e : Ent) : Prop := (∃ h, y = healthy (fun _ => h) e) ∧ (e.kind = 1 ∨ y = e)

theorem Alike.refl (e : Ent) : Alike e e := ⟨⟨e.health, rfl⟩, .inr rfl⟩

theorem Alike.kind {y e : Ent} (h : Alike y e) : y.kind = e.kind := by obtain ⟨⟨_, rfl⟩, -⟩ := h; rfl

theorem Alike.trans {z y e : Ent} (h : Alike z y) (h' : Alike y e) : Alike z e := by
  obtain ⟨⟨a, rfl⟩, h1⟩ := h
  obtain ⟨⟨b, rfl⟩, h2⟩ := h'
  refine ⟨⟨a, rfl⟩, ?_⟩
  rcases h2 with h2 | h2
  · exact .inl h2
  · rcases h1 with h1 | h1
    · exact .inl h1
    · exact .inr (h1.trans h2)

theorem alike_healthy (f : Int → Int) {p : Ent} (h : p.kind = 1) : Alike (healthy f p) p := ⟨⟨f p.health, rfl⟩, .inl h⟩

theorem hitB_alike (r : Int) (e : Ent) {y p : Ent} (h : Alike y p) : hitB r e y = hitB r e p := by obtain ⟨⟨_, rfl⟩, -⟩ := h; rfl

/-- One by one alike. -/
inductive Pw : List Ent → List Ent → Prop
  | nil : Pw [] []
  | cons {y e : Ent} {x l : List Ent} : Alike y e → Pw x l → Pw (y :: x) (e :: l)

theorem Pw.refl : ∀ l, Pw l l
  | [] => .nil
  | e :: l => .cons (.refl e) (Pw.refl l)

theorem Pw.trans {z y x : List Ent} (h : Pw z y) (h' : Pw y x) : Pw z x := by
  induction h generalizing x with
  | nil => exact h'
  | cons a _ ih => cases h' with | cons b h2 => exact .cons (a.trans b) (ih h2)

theorem Pw.len {x l : List Ent} (h : Pw x l) : x.length = l.length := by
  induction h with
  | nil => rfl
  | cons _ _ ih => simp [ih]

theorem Pw.fst (r : Int) (e : Ent) {x l : List Ent} (h : Pw x l) : fstHit r x e = fstHit r l e := by
  unfold fstHit
  induction h with
  | nil => rfl
  | cons a _ ih => rw [List.findIdx?_cons, List.findIdx?_cons, hitB_alike r e a, ih]

theorem fst_player {r : Int} {e : Ent} {l : List Ent} {k : Nat} (h : fstHit r l e = some k) : ∃ p, l[k]? = some p ∧ p.kind = 1 ∧ hitB r e p = true := by
  unfold fstHit at h
  obtain ⟨hk, h1, -⟩ := List.findIdx?_eq_some_iff_getElem.1 h
  refine ⟨l[k], List.getElem?_eq_getElem hk, ?_, h1⟩
  unfold hitB at h1
  simp only [Bool.and_eq_true, decide_eq_true_eq] at h1
  exact h1.1

theorem Pw.modify (f : Int → Int) {l : List Ent} {k : Nat} {p : Ent} (hk : l[k]? = some p) (hp : p.kind = 1) : Pw (l.modify k (healthy f)) l := by
  induction l generalizing k with
  | nil => simp at hk
  | cons e r ih =>
    cases k with
    | zero =>
      simp only [List.getElem?_cons_zero, Option.some.injEq] at hk
      subst hk
      rw [List.modify_zero_cons]
      exact .cons (alike_healthy f hp) (.refl r)
    | succ k =>
      rw [List.getElem?_cons_succ] at hk
      rw [List.modify_succ_cons]
      exact .cons (.refl e) (ih hk)

theorem touch1_pw (kind r : Int) (f : Int → Int) (e : Ent) (l : List Ent) : Pw (touch1 kind r f e l) l := by
  unfold touch1
  split
  · split
    · rename_i k hk
      obtain ⟨p, h1, h2, -⟩ := fst_player hk
      exact Pw.modify f h1 h2
    · exact .refl l
  · exact .refl l

theorem touch_pw (kind r : Int) (f : Int → Int) : ∀ (es l : List Ent), Pw (touch kind r f es l) l
  | [], l => .refl l
  | e :: t, l => (touch_pw kind r f t _).trans (touch1_pw kind r f e l)

/-- x is l, some shots and gems gone, and players of another health. -/
inductive Less : List Ent → List Ent → Prop
  | nil : Less [] []
  | gone {e : Ent} {x l : List Ent} : e.kind = 2 ∨ e.kind = 3 → Less x l → Less x (e :: l)
  | keep {y e : Ent} {x l : List Ent} : Alike y e → Less x l → Less (y :: x) (e :: l)

theorem Less.trans {z y x : List Ent} (h' : Less y x) : Less z y → Less z x := by
  induction h' generalizing z with
  | nil => exact fun h => h
  | gone hk _ ih => exact fun h => .gone hk (ih h)
  | keep a _ ih =>
    intro h
    cases h with
    | gone hk h2 => exact .gone (by rw [← a.kind]; exact hk) (ih h2)
    | keep b h2 => exact .keep (b.trans a) (ih h2)

theorem Pw.less {x l : List Ent} (h : Pw x l) (q : Ent → Bool) (hq : ∀ y, q y = false → y.kind = 2 ∨ y.kind = 3) : Less (x.filter q) l := by
  induction h with
  | nil => exact .nil
  | @cons y e x l a _ ih =>
    cases hy : q y
    · rw [List.filter_cons_of_neg (by simp [hy])]
      exact .gone (by rw [← a.kind]; exact hq y hy) ih
    · rw [List.filter_cons_of_pos hy]
      exact .keep a ih

theorem touchL_less {kind : Int} (r : Int) (f : Int → Int) (l : List Ent) (hk : kind = 2 ∨ kind = 3) : Less (touchL kind r f l) l := by
  refine (touch_pw kind r f l l).less _ fun y hy => ?_
  unfold stays at hy
  simp only [Bool.not_eq_false', Bool.and_eq_true, decide_eq_true_eq] at hy
  rcases hk with rfl | rfl
  · exact .inl hy.1
  · exact .inr hy.1

theorem blast_pw (b : Crs) : ∀ l : List Ent, Pw (l.map (blast1 b)) l
  | [] => .nil
  | e :: l => by
    refine .cons ?_ (blast_pw b l)
    unfold blast1
    split
    · rename_i h; exact alike_healthy _ h.2.1
    · exact .refl e

theorem blasts_pw (bs : List Crs) (l : List Ent) : Pw (blastsL l bs) l := by
  unfold blastsL
  induction bs generalizing l with
  | nil => exact .refl l
  | cons b t ih => exact (ih _).trans (blast_pw b l)

theorem Pw.toLess {x l : List Ent} (h : Pw x l) : Less x l := by
  induction h with
  | nil => exact .nil
  | cons a _ ih => exact .keep a ih

/-- What HittingOnly reckons through. -/
theorem only_less (l : List Ent) (bs : List Crs) : Less (blastsL (gemsL (shotsL l)) bs) l :=
  (touchL_less 24 _ l (.inl rfl)).trans ((touchL_less 32 _ _ (.inr rfl)).trans (blasts_pw bs _).toLess)

/-- Is y what e became? -/
def fits (e y : Ent) : Bool := eqEnt (healthy (fun _ => e.health) y) e && (decide (e.kind = 1) || eqEnt y e)

theorem fits_alike {y e : Ent} (h : Alike y e) : fits e y = true := by
  obtain ⟨⟨a, rfl⟩, h2⟩ := h
  unfold fits eqEnt
  rw [Bool.and_eq_true, Bool.or_eq_true, decide_eq_true_eq, decide_eq_true_eq, decide_eq_true_eq]
  exact ⟨rfl, h2⟩

theorem fits_kind {y e : Ent} (h : fits e y = true) : y.kind = e.kind := by
  unfold fits eqEnt at h
  rw [Bool.and_eq_true, decide_eq_true_eq] at h
  rw [← h.1]
  rfl

/-- How the law goes through: what is left of x, or none where it falls. -/
def thru : List Ent → List Ent → Option (List Ent)
  | [], x => some x
  | e :: l, [] => if e.kind = 2 ∨ e.kind = 3 then thru l [] else none
  | e :: l, y :: x => if fits e y = true then thru l x else if e.kind = 2 ∨ e.kind = 3 then thru l (y :: x) else none

/-- The way that takes the first that fits comes through, though it may be ahead by shots and gems. -/
theorem thru_less {x l : List Ent} (h : Less x l) : ∀ d x', x = d ++ x' → (∀ e ∈ d, e.kind = 2 ∨ e.kind = 3) → thru l x' = some [] := by
  induction h with
  | nil =>
    intro d x' hx _
    obtain ⟨rfl, rfl⟩ := List.append_eq_nil_iff.1 hx.symm
    rfl
  | @gone e x l hk _ ih =>
    intro d x' hx hd
    cases x' with
    | nil => rw [thru, if_pos hk]; exact ih d [] hx hd
    | cons y x'' =>
      rw [thru]
      by_cases hf : fits e y = true
      · rw [if_pos hf]
        refine ih (d ++ [y]) x'' (by simpa using hx) fun z hz => ?_
        rcases List.mem_append.1 hz with h1 | h1
        · exact hd z h1
        · rw [List.mem_singleton.1 h1, fits_kind hf]; exact hk
      · rw [if_neg hf, if_pos hk]; exact ih d _ hx hd
  | @keep y0 e x l a _ ih =>
    intro d x' hx hd
    cases d with
    | nil =>
      simp only [List.nil_append] at hx
      subst hx
      rw [thru, if_pos (fits_alike a)]
      exact ih [] x rfl (by simp)
    | cons d0 d' =>
      simp only [List.cons_append, List.cons.injEq] at hx
      obtain ⟨rfl, rfl⟩ := hx
      have hk : e.kind = 2 ∨ e.kind = 3 := by rw [← a.kind]; exact hd y0 (by simp)
      have hd' : ∀ z ∈ d', z.kind = 2 ∨ z.kind = 3 := fun z hz => hd z (by simp [hz])
      cases x' with
      | nil => rw [thru, if_pos hk]; exact ih d' [] rfl hd'
      | cons y x'' =>
        rw [thru]
        by_cases hf : fits e y = true
        · rw [if_pos hf]
          refine ih (d' ++ [y]) x'' (by simp) fun z hz => ?_
          rcases List.mem_append.1 hz with h1 | h1
          · exact hd' z h1
          · rw [List.mem_singleton.1 h1, fits_kind hf]; exact hk
        · rw [if_neg hf, if_pos hk]; exact ih d' _ rfl hd'

end Go.Proofs.YtfpofegfbinalaaGreat.Fx
namespace Go.Proofs.YtfpofegfbinalaaGreat.Fx
open Go.ChangeShapes Go.WideShapes Go.ChangeAt Go.RowKit
set_option linter.unusedVariables false
set_option maxRecDepth 100000

/-- How an entity is steered. -/
def steerE (y : Ent) (dx dy : Int) (f : Bool) : Ent :=
  if y.kind = 1 ∧ irt dx dy = true then ⟨y.id, y.kind, y.x, y.y, dx * 32, dy * 32, y.health, if f = true ∧ y.age = 0 then 6 else max 1 y.age - 1, y.owner⟩ else y

/-- Does it shoot? -/
def steerB (y : Ent) (dx dy : Int) (f : Bool) : Bool := decide (y.kind = 1 ∧ irt dx dy = true ∧ f = true ∧ y.age = 0)

def sgn (v : Int) : Int := if v < 0 then -1 else if 0 < v then 1 else 0

/-- The shot. -/
def shootE (y : Ent) (dx dy id : Int) : Ent := ⟨id, 2, y.x, y.y, if sgn dx = 0 ∧ sgn dy = 0 then 160 else sgn dx * 160, sgn dy * 160, 1, 0, y.id⟩

def nobody : Ent := ⟨0, 0, 0, 0, 0, 0, 0, 0, 0⟩

/-- Is it there when it has gone? -/
def goB (a b p n : Int) (y : Ent) : Bool := erightB a b p n y && !(decide (y.kind = 2) && (decide (12 < y.age + 1) || !ins a b p n (y.x + y.vx) (y.y + y.vy)))

/-- Where it goes. -/
def goE (a b p n : Int) (y : Ent) : Ent :=
  if goB a b p n y = true then
    if y.kind = 1 then ⟨y.id, y.kind, clamp (y.x + y.vx) 0 (a * 1024 - 1), clamp (y.y + y.vy) 0 (b * 1024 - 1), y.vx, y.vy, y.health, y.age, y.owner⟩
    else if y.kind = 2 then ⟨y.id, y.kind, y.x + y.vx, y.y + y.vy, y.vx, y.vy, y.health, y.age + 1, y.owner⟩
    else y
  else nobody

theorem ins_iff {a b p n x y : Int} (h : rt a b p n = true) : ins a b p n x y = true ↔ (0 ≤ x ∧ x < a * 1024 ∧ 0 ≤ y ∧ y < b * 1024) := by
  unfold ins wid hei
  rw [if_pos h, if_pos h]
  simp

theorem eright_ins {a b p n : Int} {y : Ent} (h : erightB a b p n y = true) : ins a b p n y.x y.y = true ∧ eok p y = true := by
  unfold erightB at h
  rw [Bool.and_eq_true] at h
  exact h

theorem steer_right {a b p n : Int} {y : Ent} (dx dy : Int) (f : Bool) (h : erightB a b p n y = true) : erightB a b p n (steerE y dx dy f) = true := by
  unfold steerE
  split
  · rename_i hk
    obtain ⟨h1, h2⟩ := eright_ins h
    have hd := irt_bd hk.2
    unfold erightB
    rw [Bool.and_eq_true]
    refine ⟨h1, ?_⟩
    unfold eok at h2 ⊢
    rw [if_pos hk.1] at h2
    simp only [hk.1, if_true]
    simp only [wi, Bool.and_eq_true, decide_eq_true_eq] at h2 ⊢
    refine ⟨h2.1, by omega, by omega, h2.2.2.2.1, ?_, h2.2.2.2.2.2⟩
    split <;> omega
  · exact h

theorem goB_right {a b p n : Int} {y : Ent} (h : goB a b p n y = true) : erightB a b p n y = true ∧ (y.kind = 2 → y.age + 1 ≤ 12 ∧ ins a b p n (y.x + y.vx) (y.y + y.vy) = true) := by
  unfold goB at h
  rw [Bool.and_eq_true] at h
  refine ⟨h.1, fun hk => ?_⟩
  have h2 := h.2
  simp only [hk, decide_true, Bool.true_and, Bool.not_or, Bool.and_eq_true, Bool.not_eq_true', decide_eq_false_iff_not] at h2
  exact ⟨by omega, by simpa using h2.2⟩

theorem go_right {a b p n : Int} {y : Ent} (hr : rt a b p n = true) (h : goB a b p n y = true) : erightB a b p n (goE a b p n y) = true := by
  obtain ⟨h1, h2⟩ := goB_right h
  obtain ⟨h3, h4⟩ := eright_ins h1
  obtain ⟨r1, r2, r3, r4, -⟩ := rt_bd hr
  unfold goE
  rw [if_pos h]
  split
  · rename_i hk
    unfold erightB
    rw [Bool.and_eq_true]
    refine ⟨?_, ?_⟩
    · rw [ins_iff hr]
      have b1 := clamp_bd (y.x + y.vx) (a * 1024 - 1) (by omega)
      have b2 := clamp_bd (y.y + y.vy) (b * 1024 - 1) (by omega)
      exact ⟨b1.1, by simp only []; omega, b2.1, by simp only []; omega⟩
    · unfold eok at h4 ⊢
      exact h4
  · split
    · rename_i hk1 hk2
      obtain ⟨h5, h6⟩ := h2 hk2
      unfold erightB
      rw [Bool.and_eq_true]
      refine ⟨h6, ?_⟩
      unfold eok at h4 ⊢
      simp only [hk2] at h4 ⊢
      simp only [wi] at h4 ⊢
      simp only [show ¬ ((2 : Int) = 1) by omega, if_false, if_true, Bool.and_eq_true, decide_eq_true_eq] at h4 ⊢
      exact ⟨h4.1, h4.2.1, h4.2.2.1, h4.2.2.2.1, h4.2.2.2.2.1, ⟨by omega, by omega⟩, h4.2.2.2.2.2.2⟩
    · exact h1

theorem speed_bd {p : Int} {y : Ent} (h : eok p y = true) : -160 ≤ y.vx ∧ y.vx ≤ 160 ∧ -160 ≤ y.vy ∧ y.vy ≤ 160 := by
  unfold eok at h
  split at h
  · simp only [wi, Bool.and_eq_true, decide_eq_true_eq] at h; omega
  · split at h
    · simp only [wi, stp, Bool.and_eq_true, decide_eq_true_eq] at h; omega
    · split at h
      · simp only [wi, Bool.and_eq_true, decide_eq_true_eq] at h; omega
      · cases h

/-- Two places that are less than a region apart: their regions are near. -/
theorem near_of {a b p n x y x' y' : Int} (hr : rt a b p n = true) (h1 : 0 ≤ x ∧ x < a * 1024 ∧ 0 ≤ y ∧ y < b * 1024) (h2 : 0 ≤ x' ∧ x' < a * 1024 ∧ 0 ≤ y' ∧ y' < b * 1024) (h3 : -1024 ≤ x' - x ∧ x' - x ≤ 1024 ∧ -1024 ≤ y' - y ∧ y' - y ≤ 1024) :
    ofr a b p n x' y' ∈ nr a b p n (ofr a b p n x y) := by
  obtain ⟨o1, o2, o3, o4⟩ := of_has hr x y
  obtain ⟨q1, q2, q3, q4⟩ := of_has hr x' y'
  have hh : hasB a b p n (ofr a b p n x y) = true := by unfold hasB regs; rw [if_pos hr]; exact decide_eq_true ⟨o1, o2⟩
  rw [mem_nr hh]
  refine ⟨q1, q2, ?_⟩
  unfold nearB
  rw [o3, o4, q3, q4]
  have e1 : clamp x 0 (a * 1024 - 1) = x := by unfold clamp; omega
  have e2 : clamp y 0 (b * 1024 - 1) = y := by unfold clamp; omega
  have e3 : clamp x' 0 (a * 1024 - 1) = x' := by unfold clamp; omega
  have e4 : clamp y' 0 (b * 1024 - 1) = y' := by unfold clamp; omega
  rw [e1, e2, e3, e4]
  exact decide_eq_true (by omega)

theorem go_near {a b p n : Int} {y : Ent} (hr : rt a b p n = true) (h : goB a b p n y = true) : ofr a b p n (goE a b p n y).x (goE a b p n y).y ∈ nr a b p n (ofr a b p n y.x y.y) := by
  obtain ⟨h1, h2⟩ := goB_right h
  obtain ⟨h3, h4⟩ := eright_ins h1
  have h5 := (eright_ins (go_right hr h)).1
  have hs := speed_bd h4
  rw [ins_iff hr] at h3 h5
  refine near_of hr h3 h5 ?_
  unfold goE at h5 ⊢
  rw [if_pos h] at h5 ⊢
  split
  · simp only [clamp]
    repeat' split
    all_goals omega
  · split
    · simp only []; omega
    · omega

theorem go_same {a b p n : Int} {y : Ent} (h : goB a b p n y = true) : (goE a b p n y).id = y.id ∧ (goE a b p n y).kind = y.kind ∧ (goE a b p n y).health = y.health := by
  unfold goE
  rw [if_pos h]
  split
  · exact ⟨rfl, rfl, rfl⟩
  · split <;> exact ⟨rfl, rfl, rfl⟩

end Go.Proofs.YtfpofegfbinalaaGreat.Fx
