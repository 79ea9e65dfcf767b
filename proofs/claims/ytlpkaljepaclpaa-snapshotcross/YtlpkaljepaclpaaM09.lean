/- Is one among some (jousthelp.In of integers)? slices.Index and slices.Contains over integers. Contracts of the document's answers on lists of entities (joustref05): what each returns, for every list; old memory stays. Which entities are right: the document's answer (joustref05.Right). -/
import Derived.Test.YtlpkaljepaclpaaM01
import Derived.Test.YtlpkaljepaclpaaM04
import Derived.Test.YtlpkaljepaclpaaM05
import Derived.Test.YtlpkaljepaclpaaM07
import Derived.Test.YtlpkaljepaclpaaM03
import Derived.Maps.AppendAt
import Derived.Deep.DeepMust
import Derived.Deep.DeepCutAuto
namespace Go.Proofs.Ytlpkaljepaclpaa.Fx
open Go.ChangeShapes Go.WideShapes Go.ChangeAt Go.RowKit
set_option linter.unusedVariables false
set_option maxRecDepth 100000

/-- In's plain meaning. -/
def inB (l : List Int) (x : Int) : Bool := decide (x ∈ l)

theorem in_any (A : Option Addr) (n c : Nat) (l : List Int) (x : Int) (w : World) (hl : IntsAt w A n l) (hn : n ≤ 1000000) :
    Calls Try.prog 34 #[.slice A n c, .int .i64 x] w fun e w' => e = .returned (.bool (inB l x)) ∧ w = w' := by
  obtain ⟨hlen, hat⟩ := hl
  have Hlen := Lib.hid hlen
  have Hat := Lib.hid hat
  have HB := Lib.hid (show inB l x = decide (x ∈ l) from rfl)
  clear hat hlen
  generalize inB l x = r at *
  go_enter Try.func34, Try.ntmps34
  go_wp2
  go_loop [5] (fun i => ∃ k : Nat, k ≤ n ∧ i = .int .i64 k ∧ ∀ j, j < k → gi l j ≠ x) (fun i => n - (intOf i).toNat)
  case atStart => exact ⟨0, Nat.zero_le _, rfl, fun j hj => by omega⟩
  case round =>
    obtain ⟨k, hk, rfl, hno⟩ := hrel
    have Hno := Lib.hid hno
    clear hno
    by_cases hlt : k < n
    · obtain ⟨b, off, hA, hc⟩ := Hat.out (by omega)
      subst hA
      have hck := hc k hlt
      clear hc
      have HG := Lib.hid (show gi l k ∈ l by unfold gi; rw [List.getD_eq_getElem?_getD, List.getElem?_eq_getElem (by have := Hlen.out; omega)]; simp)
      generalize hg : gi l k = y at *
      have Hg := Lib.hid hg
      clear hg
      by_cases hxy : y = x
      · subst hxy
        go_wp2
        go_ret
        exact ⟨ret_bool (by rw [HB.out]; simp [HG.out]), rfl⟩
      · have hxy' : (y == x) = false := by simpa using hxy
        go_wp2
        go_round
        case rel => exact ⟨k + 1, by omega, by go_num, fun j hj => by rcases Nat.lt_succ_iff_lt_or_eq.1 hj with h | rfl; exact Hno.out j h; rw [Hg.out]; exact hxy⟩
        case measure => simp [intOf]; omega
    · go_wp2
      go_ret
      have hnot : ¬ x ∈ l := by
        intro hm
        obtain ⟨j, hj, rfl⟩ := List.mem_iff_getElem.1 hm
        have := Hno.out j (by have := Hlen.out; omega)
        unfold gi at this
        rw [List.getD_eq_getElem?_getD, List.getElem?_eq_getElem hj] at this
        exact this rfl
      exact ⟨ret_bool (by rw [HB.out]; simp [hnot]), rfl⟩

end Go.Proofs.Ytlpkaljepaclpaa.Fx
namespace Go.Proofs.Ytlpkaljepaclpaa.Fx
open Go.ChangeShapes Go.WideShapes Go.ChangeAt Go.RowKit
set_option linter.unusedVariables false
set_option maxRecDepth 100000

theorem idx_any (A : Option Addr) (n c : Nat) (l : List Int) (x : Int) (w : World) (hl : IntsAt w A n l) (hn : n ≤ 1000000) :
    Calls Try.prog 84 #[.slice A n c, .int .i64 x] w fun e w' => (∃ r : Int, e = .returned (.int .i64 r) ∧ (0 ≤ r ↔ x ∈ l)) ∧ w = w' := by
  obtain ⟨hlen, hat⟩ := hl
  have Hlen := Lib.hid hlen
  have Hat := Lib.hid hat
  clear hat hlen
  go_enter Try.func84, Try.ntmps84
  go_wp2
  go_loop [8] (fun i => ∃ k : Nat, k ≤ n ∧ i = .int .i64 k ∧ ∀ j, j < k → gi l j ≠ x) (fun i => n - (intOf i).toNat)
  case atStart => exact ⟨0, Nat.zero_le _, rfl, fun j hj => by omega⟩
  case round =>
    obtain ⟨k, hk, rfl, hno⟩ := hrel
    have Hno := Lib.hid hno
    clear hno
    by_cases hlt : k < n
    · obtain ⟨b, off, hA, hc⟩ := Hat.out (by omega)
      subst hA
      have hck := hc k hlt
      clear hc
      have Hg := Lib.hid (show gi l k = l.getD k 0 from rfl)
      have HG := Lib.hid (show ∃ v, gi l k = v from ⟨_, rfl⟩)
      obtain ⟨v, hv⟩ := HG.out
      rw [hv] at hck
      by_cases hxy : x = v
      · go_wp2
        go_ret
        exact ⟨⟨k, rfl, by
          refine ⟨fun _ => ?_, fun _ => by omega⟩
          (try rw [hxy]); rw [← hv, Hg.out, List.getD_eq_getElem?_getD, List.getElem?_eq_getElem (by have := Hlen.out; omega)]
          exact List.getElem_mem _⟩, rfl⟩
      · have hxy' : (x == v) = false := by simpa using hxy
        go_wp2
        go_round
        case rel => exact ⟨k + 1, by omega, by go_num, fun j hj => by
          by_cases h : j < k
          · exact Hno.out j h
          · obtain rfl : j = k := by omega
            rw [hv]; exact fun h => hxy h.symm⟩
        case measure => simp [intOf]; omega
    · go_wp2
      go_ret
      have hnot : ¬ x ∈ l := by
        intro hm
        obtain ⟨j, hj, rfl⟩ := List.mem_iff_getElem.1 hm
        have := Hno.out j (by have := Hlen.out; omega)
        unfold gi at this
        rw [List.getD_eq_getElem?_getD, List.getElem?_eq_getElem hj] at this
        exact this rfl
      exact ⟨⟨-1, rfl, by simp [hnot]⟩, rfl⟩

theorem contains_any (A : Option Addr) (n c : Nat) (l : List Int) (x : Int) (w : World) (hl : IntsAt w A n l) (hn : n ≤ 1000000) :
    Calls Try.prog 62 #[.slice A n c, .int .i64 x] w fun e w' => e = .returned (.bool (inB l x)) ∧ w = w' := by
  have HI := Lib.hid (idx_any A n c l x w hl hn)
  have HB := Lib.hid (show inB l x = decide (x ∈ l) from rfl)
  generalize inB l x = q at *
  clear hl
  go_enter Try.func62, Try.ntmps62
  go_wp2_with fail
  refine HI.out.mono ?_
  rintro e w' ⟨⟨r, rfl, hr⟩, rfl⟩
  have Hr := Lib.hid hr
  clear hr
  go_wp2
  go_ret
  exact ⟨ret_bool (by rw [HB.out]; simp [Hr.out]), rfl⟩

end Go.Proofs.Ytlpkaljepaclpaa.Fx
namespace Go.Proofs.Ytlpkaljepaclpaa.Fx
open Go.ChangeShapes Go.WideShapes Go.ChangeAt Go.RowKit
set_option linter.unusedVariables false
set_option maxRecDepth 100000

/-- The first one's place. -/
def fndI : List Ent → Int → Nat → Int
  | [], _, _ => -1
  | e :: r, id, k => if e.id = id then (k : Int) else fndI r id (k + 1)

def fnd (l : List Ent) (id : Int) : Int := fndI l id 0

/-- How many are no players. -/
def things : List Ent → Int
  | [] => 0
  | e :: r => (if e.kind = 1 then 0 else 1) + things r

/-- Do the numbers rise? -/
def srtI : Int → List Ent → Bool
  | _, [] => true
  | p, e :: r => decide (p < e.id) && srtI e.id r

def srt : List Ent → Bool
  | [] => true
  | e :: r => srtI e.id r

/-- Those whose number is none of ids. -/
def drp (l : List Ent) (ids : List Int) : List Ent := l.filter fun e => !inB ids e.id

/-- A list that comes back in memory. -/
def RetEnts (l : List Ent) (w : World) (e : Ending) (w' : World) : Prop := ∃ v, e = .returned v ∧ IsSl entC w' v l ∧ Below w.heap.size w w'

/-- How many at the head are of less than a number. -/
def pos : List Ent → Int → Nat
  | [], _ => 0
  | e :: r, id => if e.id < id then pos r id + 1 else 0

/-- One is put into a list. -/
def put (l : List Ent) (e : Ent) : List Ent := if 0 ≤ fnd l e.id then l else l.take (pos l e.id) ++ [e] ++ l.drop (pos l e.id)

theorem own_lower {w : World} {base base' : Nat} {e : TypeId} {size : Nat} {v : Value} {n : Nat} {xs : List Value} (h : w.ownsRow base' e size v n xs) (hb : base ≤ base') : w.ownsRow base e size v n xs := by
  refine ⟨h.1, ?_⟩
  rcases h.2 with h2 | ⟨g, cap, cur, hv, hg, r⟩
  · exact .inl h2
  · exact .inr ⟨g, cap, cur, hv, Nat.le_trans hb hg, r⟩

end Go.Proofs.Ytlpkaljepaclpaa.Fx
namespace Go.Proofs.Ytlpkaljepaclpaa.Fx
open Go.ChangeShapes Go.WideShapes Go.ChangeAt Go.RowKit
set_option linter.unusedVariables false
set_option maxRecDepth 100000

def wi (v lo hi : Int) : Bool := decide (lo ≤ v ∧ v ≤ hi)

def stp (v : Int) : Bool := decide (v = -160 ∨ v = 0 ∨ v = 160)

theorem rwithin_any (v lo hi : Int) (w : World) :
    Calls Try.prog 35 #[.int .i64 v, .int .i64 lo, .int .i64 hi] w fun e w' => e = .returned (.bool (wi v lo hi)) ∧ w = w' := by
  go_enter Try.func35, Try.ntmps35
  go_wp2
  all_goals go_ret
  all_goals exact ⟨ret_bool (by simp [wi] <;> omega), rfl⟩

theorem rstep_any (v : Int) (w : World) :
    Calls Try.prog 60 #[.int .i64 v] w fun e w' => e = .returned (.bool (stp v)) ∧ w = w' := by
  go_enter Try.func60, Try.ntmps60
  go_wp2
  all_goals go_ret
  all_goals exact ⟨ret_bool (by simp [stp] <;> omega), rfl⟩

/-- What an entity must be, its place aside. -/
def eok (p : Int) (e : Ent) : Bool :=
  if e.kind = 1 then wi e.id 1 p && (wi e.vx (-64) 64 && (wi e.vy (-64) 64 && (wi e.health 1 100 && (wi e.age 0 6 && decide (e.owner = 0)))))
  else if e.kind = 2 then wi e.id 1000 2147483647 && (stp e.vx && (stp e.vy && (decide (¬ e.vx = 0 ∨ ¬ e.vy = 0) && (decide (e.health = 1) && (wi e.age 0 12 && wi e.owner 1 p)))))
  else if e.kind = 3 then wi e.id 1000 2147483647 && decide (e.vx = 0 ∧ e.vy = 0 ∧ e.age = 0 ∧ e.owner = 0 ∧ e.health = 1)
  else false

def erightB (a b p n : Int) (e : Ent) : Bool := ins a b p n e.x e.y && eok p e

set_option maxHeartbeats 2000000 in
theorem rright_any (a b p n s : Int) (y : Ent) (w : World) :
    Calls Try.prog 36 #[.agg #[.int .i64 a, .int .i64 b, .int .i64 p, .int .i64 n, .int .u64 s], .agg #[.int .i64 y.id, .int .i64 y.kind, .int .i64 y.x, .int .i64 y.y, .int .i64 y.vx, .int .i64 y.vy, .int .i64 y.health, .int .i64 y.age, .int .i64 y.owner]] w fun e w' => e = .returned (.bool (erightB a b p n y)) ∧ Below w.heap.size w w' := by
  have HI := Lib.hid (fun w => rinside_any a b p n s y.x y.y w)
  have HB := Lib.hid (show erightB a b p n y = (ins a b p n y.x y.y && eok p y) from rfl)
  have HE := Lib.hid (show eok p y = if y.kind = 1 then wi y.id 1 p && (wi y.vx (-64) 64 && (wi y.vy (-64) 64 && (wi y.health 1 100 && (wi y.age 0 6 && decide (y.owner = 0))))) else if y.kind = 2 then wi y.id 1000 2147483647 && (stp y.vx && (stp y.vy && (decide (¬ y.vx = 0 ∨ ¬ y.vy = 0) && (decide (y.health = 1) && (wi y.age 0 12 && wi y.owner 1 p))))) else if y.kind = 3 then wi y.id 1000 2147483647 && decide (y.vx = 0 ∧ y.vy = 0 ∧ y.age = 0 ∧ y.owner = 0 ∧ y.health = 1) else false from rfl)
  generalize erightB a b p n y = r at *
  generalize eok p y = q at *
  generalize ins a b p n y.x y.y = i at *
  have HW := Lib.hid rwithin_any
  have HS := Lib.hid rstep_any
  go_enter Try.func36, Try.ntmps36
  go_wp2_with fail
  refine (HI.out _).mono ?_
  rintro e w1 ⟨rfl, hb⟩
  obtain ⟨hc, hf⟩ := bcell hb
  have hz : w.heap.size < w1.heap.size := by have := hb.size; simp at this; omega
  have hz1 : w.heap.size + 1 < w1.heap.size := by have := hb.size; simp at this; omega
  have Hb := Lib.hid hb
  clear hb
  cases i
  · go_wp2
    go_ret
    exact ⟨ret_bool (by rw [HB.out]; simp), unbox (unbox Hb.out)⟩
  · rw [Bool.true_and] at HB
    have hrq := HB.out
    subst hrq
    clear HB
    have Hbel := Lib.hid (unbox (unbox Hb.out))
    have y0 : w1.cell? ⟨w.heap.size + 1, 0, none⟩ = some (.int .i64 y.id) := by rw [hc _ _ (by simp)]; simp
    have y1 : w1.cell? ⟨w.heap.size + 1, 1, none⟩ = some (.int .i64 y.kind) := by rw [hc _ _ (by simp)]; simp
    have y2 : w1.cell? ⟨w.heap.size + 1, 2, none⟩ = some (.int .i64 y.x) := by rw [hc _ _ (by simp)]; simp
    have y3 : w1.cell? ⟨w.heap.size + 1, 3, none⟩ = some (.int .i64 y.y) := by rw [hc _ _ (by simp)]; simp
    have y4 : w1.cell? ⟨w.heap.size + 1, 4, none⟩ = some (.int .i64 y.vx) := by rw [hc _ _ (by simp)]; simp
    have y5 : w1.cell? ⟨w.heap.size + 1, 5, none⟩ = some (.int .i64 y.vy) := by rw [hc _ _ (by simp)]; simp
    have y6 : w1.cell? ⟨w.heap.size + 1, 6, none⟩ = some (.int .i64 y.health) := by rw [hc _ _ (by simp)]; simp
    have y7 : w1.cell? ⟨w.heap.size + 1, 7, none⟩ = some (.int .i64 y.age) := by rw [hc _ _ (by simp)]; simp
    have y8 : w1.cell? ⟨w.heap.size + 1, 8, none⟩ = some (.int .i64 y.owner) := by rw [hc _ _ (by simp)]; simp
    have p2 : w1.cell? ⟨w.heap.size, 2, none⟩ = some (.int .i64 p) := by rw [hc _ _ (by simp; omega)]; simp
    clear hc hf hz hz1 Hb HI
    by_cases h1 : y.kind = 1
    · rw [if_pos h1] at HE
      go_wp2_with (first | (go_at_call 35; refine (HW.out _ _ _ _).mono ?_; rintro e w' ⟨rfl, rfl⟩) | (go_at_call 60; refine (HS.out _ _).mono ?_; rintro e w' ⟨rfl, rfl⟩))
      all_goals go_ret
      all_goals (refine ⟨ret_bool ?_, Hbel.out⟩; rw [HE.out]; simp [*])
    · rw [if_neg h1] at HE
      by_cases h2 : y.kind = 2
      · rw [if_pos h2] at HE
        go_wp2_with (first | (go_at_call 35; refine (HW.out _ _ _ _).mono ?_; rintro e w' ⟨rfl, rfl⟩) | (go_at_call 60; refine (HS.out _ _).mono ?_; rintro e w' ⟨rfl, rfl⟩))
        all_goals go_ret
        all_goals (refine ⟨ret_bool ?_, Hbel.out⟩; rw [HE.out]; simp [*, show stp 0 = true from by decide])
      · rw [if_neg h2] at HE
        by_cases h3 : y.kind = 3
        · rw [if_pos h3] at HE
          go_wp2_with (first | (go_at_call 35; refine (HW.out _ _ _ _).mono ?_; rintro e w' ⟨rfl, rfl⟩) | (go_at_call 60; refine (HS.out _ _).mono ?_; rintro e w' ⟨rfl, rfl⟩))
          all_goals go_ret
          all_goals (refine ⟨ret_bool ?_, Hbel.out⟩; rw [HE.out]; simp [*])
        · rw [if_neg h3] at HE
          go_wp2_with (first | (go_at_call 35; refine (HW.out _ _ _ _).mono ?_; rintro e w' ⟨rfl, rfl⟩) | (go_at_call 60; refine (HS.out _ _).mono ?_; rintro e w' ⟨rfl, rfl⟩))
          all_goals go_ret
          all_goals (refine ⟨ret_bool ?_, Hbel.out⟩; rw [HE.out])

end Go.Proofs.Ytlpkaljepaclpaa.Fx
