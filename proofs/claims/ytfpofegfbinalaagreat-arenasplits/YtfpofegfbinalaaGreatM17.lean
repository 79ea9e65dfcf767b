/- Package hitting's small calls: who is reached, hit, and picks up; what becomes of a health. The first one that is met; those that are not spent. Each thing of a kind turns the health of the first one that it meets, and is gone (spend): Shots and Gems. Shots and Gems: what they return, for every list. -/
import Derived.Test.YtfpofegfbinalaaGreatM11
import Derived.Test.YtfpofegfbinalaaGreatM01
import Derived.Test.YtfpofegfbinalaaGreatM03
import Derived.Lib.Hide
import Derived.Lib.MinMax
import Derived.Shelf.Abstract
import Derived.Test.YtfpofegfbinalaaGreatM04
import Derived.Test.YtfpofegfbinalaaGreatM13
import Derived.Deep.OwnRows
import Derived.Deep.DeepCutAuto
namespace Go.Proofs.YtfpofegfbinalaaGreat.Fx
open Go.ChangeShapes Go.WideShapes Go.ChangeAt Go.RowKit
set_option linter.unusedVariables false
set_option maxRecDepth 100000

/-- Is e a player so far at most? -/
def rchB (x y r : Int) (e : Ent) : Bool := decide (e.kind = 1) && decide (far e.x e.y x y ≤ r)

theorem reached_any (y : Ent) (a b r : Int) (w : World) :
    Calls Tryz.prog 148 #[.agg #[.int .i64 y.id, .int .i64 y.kind, .int .i64 y.x, .int .i64 y.y, .int .i64 y.vx, .int .i64 y.vy, .int .i64 y.health, .int .i64 y.age, .int .i64 y.owner], .int .i64 a, .int .i64 b, .int .i64 r] w fun z w' => z = .returned (.bool (rchB a b r y)) ∧ Below w.heap.size w w' := by
  have HF := Lib.hid (fun w => far_any y.x y.y a b w)
  have HB := Lib.hid (show rchB a b r y = (decide (y.kind = 1) && decide (far y.x y.y a b ≤ r)) from rfl)
  generalize rchB a b r y = q at *
  generalize far y.x y.y a b = d at *
  by_cases hk : y.kind = 1
  · have hk' : decide (y.kind = 1) = true := decide_eq_true hk
    go_enter Tryz.func148, Tryz.ntmps148
    go_wp2_with fail
    refine (HF.out _).mono ?_
    rintro e w' ⟨rfl, rfl⟩
    go_wp2
    go_ret
    exact ⟨ret_bool (by rw [HB.out]; simp [hk]), (Below.refl _ _).alloc (Nat.le_refl _) _⟩
  · have hk' : (y.kind == 1) = false := by simpa using hk
    go_enter Tryz.func148, Tryz.ntmps148
    go_wp2
    go_ret
    exact ⟨ret_bool (by rw [HB.out]; simp [hk]), (Below.refl _ _).alloc (Nat.le_refl _) _⟩

def shotM (t e : Ent) : Bool := decide (¬ e.id = t.owner) && rchB t.x t.y 24 e

def gemM (t e : Ent) : Bool := rchB t.x t.y 32 e

theorem shot_hit {t : Ent} (h : t.kind = 2) (e : Ent) : shotM t e = hitB 24 t e := by
  unfold shotM hitB rchB
  rw [h]
  cases decide (¬ e.id = t.owner) <;> simp

theorem gem_hit {t : Ent} (h : t.kind = 3) (e : Ent) : gemM t e = hitB 32 t e := by
  unfold gemM hitB rchB
  rw [h]
  simp

/-- A test that is handed on. -/
def Asks (F : Nat) (m : Ent → Ent → Bool) : Prop := Enters Tryz.prog F ∧ ∀ (t y : Ent) (w : World), Calls Tryz.prog F #[.agg #[.int .i64 t.id, .int .i64 t.kind, .int .i64 t.x, .int .i64 t.y, .int .i64 t.vx, .int .i64 t.vy, .int .i64 t.health, .int .i64 t.age, .int .i64 t.owner], .agg #[.int .i64 y.id, .int .i64 y.kind, .int .i64 y.x, .int .i64 y.y, .int .i64 y.vx, .int .i64 y.vy, .int .i64 y.health, .int .i64 y.age, .int .i64 y.owner]] w fun z w' => z = .returned (.bool (m t y)) ∧ Below w.heap.size w w'

/-- A turn of a health that is handed on. -/
def Turns (G : Nat) (f : Int → Int) : Prop := Enters Tryz.prog G ∧ ∀ (h : Int) (w : World), Calls Tryz.prog G #[.int .i64 h] w fun z w' => z = .returned (.int .i64 (f h)) ∧ Below w.heap.size w w'

theorem gems_asks : Asks 147 gemM := by
  refine ⟨enters_of Tryz.func147 (by kernel_rfl) rfl, ?_⟩
  intro t y w
  have HR := Lib.hid (fun w => reached_any y t.x t.y 32 w)
  have HB := Lib.hid (show gemM t y = rchB t.x t.y 32 y from rfl)
  rw [HB.out]
  generalize rchB t.x t.y 32 y = q at *
  go_enter Tryz.func147, Tryz.ntmps147
  go_wp2_with fail
  refine (HR.out _).mono ?_
  rintro e w1 ⟨rfl, hb⟩
  have Hb := Lib.hid (unbox (unbox hb))
  clear hb
  go_wp2
  go_ret
  exact ⟨rfl, Hb.out⟩

theorem shots_asks : Asks 152 shotM := by
  refine ⟨enters_of Tryz.func152 (by kernel_rfl) rfl, ?_⟩
  intro t y w
  have HR := Lib.hid (fun w => reached_any y t.x t.y 24 w)
  have HB := Lib.hid (show shotM t y = (decide (¬ y.id = t.owner) && rchB t.x t.y 24 y) from rfl)
  generalize shotM t y = r at *
  generalize rchB t.x t.y 24 y = q at *
  by_cases hk : y.id = t.owner
  · have hk' : (y.id != t.owner) = false := by simpa using hk
    go_enter Tryz.func152, Tryz.ntmps152
    go_wp2
    go_ret
    exact ⟨ret_bool (by rw [HB.out]; simp [hk]), ((Below.refl _ _).alloc (Nat.le_refl _) _).alloc (by simp) _⟩
  · have hk' : (y.id != t.owner) = true := by simpa using hk
    go_enter Tryz.func152, Tryz.ntmps152
    go_wp2_with fail
    refine (HR.out _).mono ?_
    rintro e w1 ⟨rfl, hb⟩
    have Hb := Lib.hid (unbox (unbox hb))
    clear hb
    go_wp2
    go_ret
    exact ⟨ret_bool (by rw [HB.out]; simp [hk]), Hb.out⟩

theorem shots_turns : Turns 153 (fun h => sub h 20) := by
  refine ⟨enters_of Tryz.func153 (by kernel_rfl) rfl, ?_⟩
  intro h w
  have HR := Lib.hid (fun w => sub_any h 20 w)
  show Calls _ _ _ _ fun z w' => z = .returned (.int .i64 (sub h 20)) ∧ Below w.heap.size w w'
  generalize sub h 20 = q at *
  go_enter Tryz.func153, Tryz.ntmps153
  go_wp2_with fail
  refine (HR.out _).mono ?_
  rintro e w1 ⟨rfl, rfl⟩
  go_wp2
  go_ret
  exact ⟨rfl, Below.refl _ _⟩

theorem gems_turns : Turns 149 (fun h => min 100 (addl [h, 25])) := by
  refine ⟨enters_of Tryz.func149 (by kernel_rfl) rfl, ?_⟩
  intro h w
  have HR := Lib.hid (fun A c w hl => add_any A 2 c [h, 25] w hl (by omega))
  have HB := Lib.hid (addl_bd [h, 25])
  show Calls _ _ _ _ fun z w' => z = .returned (.int .i64 (min 100 (addl [h, 25]))) ∧ Below w.heap.size w w'
  generalize addl [h, 25] = q at *
  go_enter Tryz.func149, Tryz.ntmps149
  go_wp2_with fail
  refine (HR.out _ _ _ (ints_new2 _ _ _ _ _ (by simp))).mono ?_
  rintro e w1 ⟨rfl, rfl⟩
  go_wp2
  go_ret
  exact ⟨ret_int (by omega), (Below.refl _ _).alloc (Nat.le_refl _) _⟩

end Go.Proofs.YtfpofegfbinalaaGreat.Fx
namespace Go.Proofs.YtfpofegfbinalaaGreat.Fx
open Go.ChangeShapes Go.WideShapes Go.ChangeAt Go.RowKit
set_option linter.unusedVariables false
set_option maxRecDepth 100000

/-- The test that spend hands on: it holds the other test, and the thing, in boxes. -/
theorem test_any {F : Nat} {m : Ent → Ent → Bool} (HA : Asks F m) (t y : Ent) (g b : Nat) (w : World) (hg : w.cell? ⟨g, 0, none⟩ = some (.func (.func F) #[] #[])) (hb : EntBox w b t) :
    Calls Tryz.prog 189 #[.agg #[.int .i64 y.id, .int .i64 y.kind, .int .i64 y.x, .int .i64 y.y, .int .i64 y.vx, .int .i64 y.vy, .int .i64 y.health, .int .i64 y.age, .int .i64 y.owner], .pointer (some ⟨g, 0, none⟩), .pointer (some ⟨b, 0, none⟩)] w fun z w' => z = .returned (.bool (m t y)) ∧ Below w.heap.size w w' := by
  have HT := Lib.hid (fun w => HA.2 t y w)
  have eF : ∀ args w, (callFunc F args).run Tryz.prog w = .ok (.enter F args) w := HA.1
  clear HA
  generalize m t y = q at *
  have hlg : g < w.heap.size := World.block_lt_of_cell? _ _ hg
  have hlb : b < w.heap.size := hb.has
  obtain ⟨c0, c1, c2, c3, c4, c5, c6, c7, c8, -, -, -, -, -, -, -, -, -⟩ := hb
  go_enter Tryz.func189, Tryz.ntmps189
  go_wp2_with (go_at_fn F; refine (HT.out _).mono ?_; rintro e w1 ⟨rfl, hb⟩; have Hb := Lib.hid (unbox hb); clear hb)
  go_wp2
  go_ret
  exact ⟨rfl, Hb.out⟩

/-- A place, or -1. -/
def plc : Option Nat → Int
  | some k => k
  | none => -1

theorem idxf_any {F : Nat} {m : Ent → Ent → Bool} (HA : Asks F m) (t : Ent) (v : Value) (l : List Ent) (g b : Nat) (w : World) (hv : IsSl entC w v l) (hn : l.length ≤ 1000000) (hg : w.cell? ⟨g, 0, none⟩ = some (.func (.func F) #[] #[])) (hb : EntBox w b t) :
    Calls Tryz.prog 155 #[v, .func (.func 189) #[] #[.pointer (some ⟨g, 0, none⟩), .pointer (some ⟨b, 0, none⟩)]] w
      fun z w' => z = .returned (.int .i64 (plc (l.findIdx? (m t)))) ∧ Below w.heap.size w w' := by
  obtain ⟨A, c, rfl, -, -, hat⟩ := hv
  have Hat := Lib.hid hat
  obtain ⟨n, hnn⟩ : ∃ n, l.length = n := ⟨_, rfl⟩
  rw [hnn] at hn ⊢
  have Hn := Lib.hid hnn
  clear hat hnn
  have HF := Lib.hid (show l.findIdx? (m t) = ((l.drop 0).findIdx? (m t)).map (· + 0) from by simp)
  generalize l.findIdx? (m t) = r at *
  have HT := Lib.hid (fun y w hg hb => test_any HA t y g b w hg hb)
  have Hg := Lib.hid hg
  have Hb := Lib.hid hb
  clear hg hb HA
  go_enter Tryz.func155, Tryz.ntmps155
  go_wp2
  go_loopw [8] (fun i wr => ∃ k : Nat, k ≤ n ∧ i = .int .i64 k ∧ r = ((l.drop k).findIdx? (m t)).map (· + k) ∧ Below w.heap.size w wr) (fun i _ => n - (intOf i).toNat)
  case atStart => exact ⟨0, Nat.zero_le _, rfl, HF.out, Below.refl _ _⟩
  case round =>
    obtain ⟨k, hk, rfl, hr, hbel⟩ := hrel
    have Hr := Lib.hid hr
    have Hbel := Lib.hid hbel
    clear hr hbel
    by_cases hlt : k < n
    · obtain ⟨x, hx⟩ := getE l k n Hn.out hlt
      have HX := Lib.hid (drop_at hx)
      obtain ⟨b', off, rfl, hc⟩ := elem_Ent (Hat.out.below Hbel.out) hx
      obtain ⟨c0, c1, c2, c3, c4, c5, c6, c7, c8⟩ := hc
      have Hg1 := Lib.hid (show wr.cell? ⟨g, 0, none⟩ = _ from (Hbel.out.cell (p := ⟨g, 0, none⟩) (World.block_lt_of_cell? _ _ Hg.out)).trans Hg.out)
      have Hb1 := Lib.hid (Hb.out.below Hbel.out Hb.out.has)
      clear hx
      have HM := Lib.hid (show ∃ q, m t x = q from ⟨_, rfl⟩)
      obtain ⟨q, hq⟩ := HM.out
      have Hq := Lib.hid hq
      clear hq HM
      go_wp2_with fail
      refine (HT.out x _ Hg1.out Hb1.out).mono ?_
      rintro e w4 ⟨rfl, hb4⟩
      have Hb4 := Lib.hid (nextW Hbel.out hb4)
      clear hb4 c0 c1 c2 c3 c4 c5 c6 c7 c8 HT
      rw [Hq.out]
      cases q
      · go_wp2
        go_roundw
        case rel => exact ⟨k + 1, by omega, by go_num, by rw [Hr.out, HX.out, List.findIdx?_cons, Hq.out]; simp [Option.map_map, Function.comp_def, Nat.add_comm, Nat.add_left_comm], Hb4.out⟩
        case measure => simp [intOf]; omega
      · go_wp2
        go_ret
        exact ⟨ret_int (by rw [Hr.out, HX.out, List.findIdx?_cons, Hq.out]; simp [plc]), Hb4.out⟩
    · obtain rfl : k = n := by omega
      go_wp2
      go_ret
      exact ⟨ret_int (by rw [Hr.out, List.drop_eq_nil_of_le (by have := Hn.out; omega)]; rfl), Hbel.out⟩

/-- The cells of a bool. -/
def bolC (b : Bool) : List Value := [.bool b]

/-- Those that are not spent. -/
def wout : List Ent → List Bool → List Ent
  | e :: l, b :: s => if b then wout l s else e :: wout l s
  | _, _ => []

theorem wout_take {l : List Ent} {s : List Bool} {k : Nat} {e : Ent} {b : Bool} (h : l[k]? = some e) (h' : s[k]? = some b) : wout (l.take (k + 1)) (s.take (k + 1)) = wout (l.take k) (s.take k) ++ if b then [] else [e] := by
  induction l generalizing s k with
  | nil => simp at h
  | cons x r ih =>
    cases s with
    | nil => simp at h'
    | cons c s =>
      cases k with
      | zero =>
        simp only [List.getElem?_cons_zero, Option.some.injEq] at h h'
        subst h h'
        cases c <;> simp [wout]
      | succ k =>
        simp only [List.getElem?_cons_succ] at h h'
        rw [List.take_succ_cons, List.take_succ_cons, List.take_succ_cons, List.take_succ_cons, wout, wout, ih h h']
        cases c <;> simp

theorem wout_le (l : List Ent) (s : List Bool) : (wout l s).length ≤ l.length := by
  induction l generalizing s with
  | nil => simp [wout]
  | cons x r ih =>
    cases s with
    | nil => simp [wout]
    | cons c s =>
      have := ih s
      rw [wout]
      cases c <;> simp <;> omega

theorem without_any (v u : Value) (l : List Ent) (s : List Bool) (w : World) (hv : IsSl entC w v l) (hu : IsSl bolC w u s) (hs : s.length = l.length) (hn : l.length ≤ 1000000) :
    Calls Tryz.prog 190 #[v, u] w fun z w' => ∃ v', z = .returned v' ∧ w'.ownsRow w.heap.size 45 9 v' (wout l s).length ((wout l s).flatMap entC) ∧ Below w.heap.size w w' := by
  obtain ⟨A, c, rfl, -, -, hat⟩ := hv
  obtain ⟨B, d, rfl, -, -, hbt⟩ := hu
  have Hat := Lib.hid hat
  have Hbt := Lib.hid hbt
  obtain ⟨n, hnn⟩ : ∃ n, l.length = n := ⟨_, rfl⟩
  rw [hs, hnn]
  rw [hnn] at hs hn
  have Hn := Lib.hid hnn
  have Hs := Lib.hid hs
  have HL := Lib.hid (fun k => wout_le (l.take k) (s.take k))
  clear hat hbt hnn hs
  go_enter Tryz.func190, Tryz.ntmps190
  go_wp2
  go_loopw [5, 10] (fun v i wr => ∃ k : Nat, k ≤ n ∧ i = .int .i64 k ∧ wr.ownsRow w.heap.size 45 9 v (wout (l.take k) (s.take k)).length ((wout (l.take k) (s.take k)).flatMap entC) ∧ Below w.heap.size w wr) (fun _ i _ => n - (intOf i).toNat)
  case atStart => exact ⟨0, Nat.zero_le _, rfl, ⟨by simp [wout], .inl ⟨rfl, rfl⟩⟩, Below.refl _ _⟩
  case round =>
    obtain ⟨k, hk, rfl, hown, hbel⟩ := hrel
    have Hown := Lib.hid hown
    have Hbel := Lib.hid hbel
    clear hown hbel
    by_cases hlt : k < n
    · obtain ⟨x, hx⟩ := getE l k n Hn.out hlt
      obtain ⟨q, hq⟩ : ∃ q, s[k]? = some q := ⟨s[k]'(by have := Hs.out; omega), List.getElem?_eq_getElem _⟩
      have HX := Lib.hid (wout_take hx hq)
      have HLk := Lib.hid (show (wout (l.take k) (s.take k)).length ≤ k from Nat.le_trans (HL.out k) (by rw [List.length_take]; omega))
      obtain ⟨b, off, rfl, hc⟩ := elem_Ent (Hat.out.below Hbel.out) hx
      obtain ⟨c0, c1, c2, c3, c4, c5, c6, c7, c8⟩ := hc
      obtain ⟨b', off', rfl, hc'⟩ := (Hbt.out.below Hbel.out).elem 1 (fun _ => rfl) (by omega) hq
      have d0 : wr.cell? ⟨b', off' + k, none⟩ = some (.bool q) := by simpa using hc' 0 _ rfl
      have hlb : b' < wr.heap.size := World.block_lt_of_cell? _ _ d0
      clear hx hq hc'
      cases q
      · rw [if_neg (by simp)] at HX
        go_wp2_with (at_builtin; go_must (refine appL_Ent (by rfl) (.tmp 20) (.tmp 22) (by rfl) w.heap.size _ (wout (l.take k) (s.take k)) (by rfl) ((Hown.out.alloc _).alloc _) _ [x] (by rfl) (one_Ent _ x _ 1 (by first | rfl | simp) (by omega)) (by have := HLk.out; simp; omega) (by have := Hbel.out.size; simp; omega) ?_))
        intro v' w5 hown5 hb5 _
        have HO5 := Lib.hid (show w5.ownsRow w.heap.size 45 9 v' (wout (l.take (k + 1)) (s.take (k + 1))).length ((wout (l.take (k + 1)) (s.take (k + 1))).flatMap entC) from by rw [HX.out]; simpa using hown5)
        have HB5 := Lib.hid (((Hbel.out.alloc Hbel.out.size _).alloc (by have := Hbel.out.size; simp; omega) _).trans hb5)
        clear hown5 hb5
        go_wp2
        go_roundw
        case rel => exact ⟨k + 1, by omega, by go_num, HO5.out, HB5.out⟩
        case measure => simp [intOf]; omega
      · rw [if_pos rfl, List.append_nil] at HX
        go_wp2
        go_roundw
        case rel => exact ⟨k + 1, by omega, by go_num, by rw [HX.out]; exact Hown.out.alloc _, Hbel.out.alloc Hbel.out.size _⟩
        case measure => simp [intOf]; omega
    · obtain rfl : k = n := by omega
      rw [List.take_of_length_le (Nat.le_of_eq Hn.out), List.take_of_length_le (Nat.le_of_eq Hs.out)] at Hown
      go_wp2
      go_ret
      exact ⟨_, rfl, Hown.out, Hbel.out⟩

end Go.Proofs.YtfpofegfbinalaaGreat.Fx
namespace Go.Proofs.YtfpofegfbinalaaGreat.Fx
open Go.ChangeShapes Go.WideShapes Go.ChangeAt Go.RowKit
set_option linter.unusedVariables false
set_option maxRecDepth 100000

theorem touch_append (kind r : Int) (f : Int → Int) (a b l : List Ent) : touch kind r f (a ++ b) l = touch kind r f b (touch kind r f a l) := by
  induction a generalizing l with
  | nil => rfl
  | cons e t ih => exact ih _

theorem hit_alike (r : Int) {t e : Ent} (h : Alike t e) (p : Ent) : hitB r t p = hitB r e p := by obtain ⟨⟨_, rfl⟩, -⟩ := h; rfl

theorem fst_alike (r : Int) {t e : Ent} (h : Alike t e) (l : List Ent) : fstHit r l t = fstHit r l e := by
  unfold fstHit
  rw [show hitB r t = hitB r e from funext (hit_alike r h)]

theorem stays_alike (kind r : Int) (l : List Ent) {t e : Ent} (h : Alike t e) : stays kind r l t = stays kind r l e := by
  unfold stays
  rw [fst_alike r h l, h.kind]

theorem Pw.at {x l : List Ent} (h : Pw x l) {k : Nat} {y : Ent} (hy : x[k]? = some y) : ∃ e, l[k]? = some e ∧ Alike y e := by
  induction h generalizing k with
  | nil => simp at hy
  | cons a _ ih =>
    cases k with
    | zero =>
      simp only [List.getElem?_cons_zero, Option.some.injEq] at hy
      subst hy
      exact ⟨_, rfl, a⟩
    | succ k => exact ih (by simpa using hy)

/-- Which of the first k are spent. -/
def spn (kind r : Int) (l : List Ent) (k : Nat) : List Bool := l.mapIdx fun i e => decide (i < k) && !stays kind r l e

theorem spn_len (kind r : Int) (l : List Ent) (k : Nat) : (spn kind r l k).length = l.length := by simp [spn]

theorem spn_zero (kind r : Int) (l : List Ent) : spn kind r l 0 = List.replicate l.length false := by
  apply List.ext_getElem?
  intro i
  rw [spn, List.getElem?_mapIdx, List.getElem?_replicate]
  by_cases h : i < l.length
  · rw [List.getElem?_eq_getElem h, if_pos h]; simp
  · rw [List.getElem?_eq_none (by omega), if_neg h]; rfl

theorem spn_stay {kind r : Int} {l : List Ent} {k : Nat} {e : Ent} (h : l[k]? = some e) (hs : stays kind r l e = true) : spn kind r l (k + 1) = spn kind r l k := by
  apply List.ext_getElem?
  intro i
  rw [spn, spn, List.getElem?_mapIdx, List.getElem?_mapIdx]
  by_cases hi : i = k
  · subst hi; rw [h]; simp [hs]
  · cases l[i]? with
    | none => rfl
    | some y => simp only [Option.map_some]; rw [show decide (i < k + 1) = decide (i < k) from by rw [decide_eq_decide]; omega]

theorem spn_gone {kind r : Int} {l : List Ent} {k : Nat} {e : Ent} (h : l[k]? = some e) (hs : stays kind r l e = false) : spn kind r l (k + 1) = (spn kind r l k).set k true := by
  apply List.ext_getElem?
  intro i
  rw [List.getElem?_set, spn_len, spn, spn, List.getElem?_mapIdx, List.getElem?_mapIdx]
  by_cases hi : k = i
  · subst hi
    rw [if_pos rfl, h]
    rw [if_pos (List.getElem?_eq_some_iff.1 h).1]
    simp [hs]
  · rw [if_neg hi]
    cases l[i]? with
    | none => rfl
    | some y => simp only [Option.map_some]; rw [show decide (i < k + 1) = decide (i < k) from by rw [decide_eq_decide]; omega]

theorem spn_all (kind r : Int) (l : List Ent) (k : Nat) (hk : l.length ≤ k) : spn kind r l k = l.map fun e => !stays kind r l e := by
  apply List.ext_getElem?
  intro i
  rw [spn, List.getElem?_mapIdx, List.getElem?_map]
  by_cases h : i < l.length
  · rw [List.getElem?_eq_getElem h]; simp; omega
  · rw [List.getElem?_eq_none (by omega)]; rfl

theorem wout_filter (q : Ent → Bool) (hq : ∀ y e, Alike y e → q y = q e) {x l : List Ent} (h : Pw x l) : wout x (l.map fun e => !q e) = x.filter q := by
  induction h with
  | nil => rfl
  | @cons y e x l a _ ih =>
    rw [List.map_cons, wout, ih, ← hq y e a]
    cases hy : q y
    · rw [List.filter_cons_of_neg (by simp [hy])]; simp
    · rw [List.filter_cons_of_pos hy]; simp

theorem wout_touch (kind r : Int) (f : Int → Int) (l : List Ent) (k : Nat) (hk : l.length ≤ k) : wout (touch kind r f (l.take k) l) (spn kind r l k) = touchL kind r f l := by
  rw [spn_all _ _ _ _ hk, List.take_of_length_le hk, wout_filter _ (fun _ _ h => stays_alike kind r l h) (touch_pw kind r f l l)]
  rfl

theorem modify_set {f : Ent → Ent} {l : List Ent} {j : Nat} {p : Ent} (h : l[j]? = some p) : l.modify j f = l.set j (f p) := by
  induction l generalizing j with
  | nil => simp at h
  | cons e r ih =>
    cases j with
    | zero =>
      simp only [List.getElem?_cons_zero, Option.some.injEq] at h
      subst h
      rfl
    | succ j => rw [List.modify_succ_cons, List.set_cons_succ, ih (by simpa using h)]

/-- A thing that is not of the kind, or meets nobody. -/
theorem touch_skip {kind r : Int} {f : Int → Int} {l : List Ent} {k : Nat} {t : Ent} (ht : (touch kind r f (l.take k) l)[k]? = some t) (h : ¬ t.kind = kind ∨ (touch kind r f (l.take k) l).findIdx? (hitB r t) = none) :
    touch kind r f (l.take (k + 1)) l = touch kind r f (l.take k) l ∧ spn kind r l (k + 1) = spn kind r l k := by
  have hp := touch_pw kind r f (l.take k) l
  obtain ⟨e, he, ha⟩ := hp.at ht
  have hs : ¬ e.kind = kind ∨ fstHit r l e = none := by
    rcases h with h | h
    · left; rw [← ha.kind]; exact h
    · right; rw [← hp.fst, ← fst_alike r ha]; exact h
  constructor
  · rw [take_at he, touch_append]
    show touch1 kind r f e _ = _
    unfold touch1
    rcases hs with hs | hs
    · rw [if_neg hs]
    · rw [hp.fst, hs]; simp
  · refine spn_stay he ?_
    unfold stays
    rcases hs with hs | hs <;> simp [hs]

/-- A thing that meets one. -/
theorem touch_meet {kind r : Int} {f : Int → Int} {l : List Ent} {k j : Nat} {t p : Ent} (ht : (touch kind r f (l.take k) l)[k]? = some t) (hk : t.kind = kind) (hj : (touch kind r f (l.take k) l).findIdx? (hitB r t) = some j) (hp' : (touch kind r f (l.take k) l)[j]? = some p) :
    touch kind r f (l.take (k + 1)) l = (touch kind r f (l.take k) l).set j (healthy f p) ∧ spn kind r l (k + 1) = (spn kind r l k).set k true := by
  have hp := touch_pw kind r f (l.take k) l
  obtain ⟨e, he, ha⟩ := hp.at ht
  have hs : fstHit r l e = some j := by rw [← hp.fst, ← fst_alike r ha]; exact hj
  have hke : e.kind = kind := by rw [← ha.kind]; exact hk
  constructor
  · rw [take_at he, touch_append]
    show touch1 kind r f e _ = _
    unfold touch1
    rw [if_pos hke, hp.fst, hs]
    show List.modify _ j _ = _
    exact modify_set hp'
  · refine spn_gone he ?_
    unfold stays
    simp [hs, hke]

end Go.Proofs.YtfpofegfbinalaaGreat.Fx
namespace Go.Proofs.YtfpofegfbinalaaGreat.Fx
open Go.ChangeShapes Go.WideShapes Go.ChangeAt Go.RowKit
set_option linter.unusedVariables false
set_option maxRecDepth 100000

/-- A row of bools of one's own: a bool is written. -/
theorem own_bool {w : World} {base n g cap : Nat} {bs : List Bool} {T : TypeId} (h : w.ownsRow base T 1 (.slice (some ⟨g, 0, none⟩) n cap) n (bs.flatMap bolC)) (k : Nat) (b : Bool) :
    (w.setCell ⟨g, k, none⟩ (.bool b)).ownsRow base T 1 (.slice (some ⟨g, 0, none⟩) n cap) n ((bs.set k b).flatMap bolC) ∧ w.grownBy (w.setCell ⟨g, k, none⟩ (.bool b)) (some g) := by
  have := h.stored k (.bool b)
  rw [show (bs.flatMap bolC).set k (.bool b) = (bs.set k b).flatMap bolC from by
    have e : ∀ l : List Bool, l.flatMap bolC = l.map Value.bool := fun l => by
      induction l with
      | nil => rfl
      | cons x r ih => rw [List.flatMap_cons, ih]; rfl
    rw [e, e, List.map_set]] at this
  exact this

theorem bools_new (w : World) (T : TypeId) (n base : Nat) (hb : base ≤ w.heap.size) (hn : n ≤ 1000000) :
    (w.alloc (.cells (madeCells #[.bool false] n) T)).ownsRow base T 1 (.slice (some ⟨w.heap.size, 0, none⟩) n n) n ((List.replicate n false).flatMap bolC) := by
  have h := World.ownsRow_lit (size := 1) (e := T) w (madeCells #[.bool false] n) n hb (by unfold maxLen; omega) (by simp [madeCells])
  rw [toList_madeCells_one] at h
  rw [show (List.replicate n false).flatMap bolC = List.replicate n (.bool false) from by
    induction n with
    | zero => rfl
    | succ n ih => rw [List.replicate_succ, List.flatMap_cons, List.replicate_succ, ih (by omega) (World.ownsRow_lit (size := 1) (e := T) w (madeCells #[.bool false] n) n hb (by unfold maxLen; omega) (by simp [madeCells]) |> fun h => by rwa [toList_madeCells_one] at h)]; rfl]
  exact h

theorem info_bool : (Tryz.prog.info? 4).map (fun i => (i.zero, i.size, i.bytes)) = some (some (.bool false), 1, 1) := by kernel_rfl

set_option maxHeartbeats 2000000 in
theorem spend_any {F G : Nat} {m : Ent → Ent → Bool} {f : Int → Int} (K r : Int) (HA : Asks F m) (HT : Turns G f) (hm : ∀ t e, t.kind = K → m t e = hitB r t e) (v : Value) (l : List Ent) (w : World) (hv : IsSl entC w v l) (hn : l.length ≤ 1000) :
    Calls Tryz.prog 151 #[v, .int .i64 K, .func (.func F) #[] #[], .func (.func G) #[] #[]] w fun z w' => ∃ v', z = .returned v' ∧ w'.ownsRow w.heap.size 45 9 v' (touchL K r f l).length ((touchL K r f l).flatMap entC) ∧ Below w.heap.size w w' := by
  have HV := Lib.hid (fun w1 (hb : Below w.heap.size w w1) => hv.below hb)
  obtain ⟨n, hnn⟩ : ∃ n, l.length = n := ⟨_, rfl⟩
  have Hn := Lib.hid hnn
  rw [hnn] at hn
  have HI := Lib.hid (fun t v l g b w hv hn hg hb => idxf_any HA t v l g b w hv hn hg hb)
  have HG := Lib.hid (fun h w => HT.2 h w)
  have eG : ∀ args w, (callFunc G args).run Tryz.prog w = .ok (.enter G args) w := HT.1
  have HM := Lib.hid hm
  have HC := Lib.hid (fun w hv => clone_Ent v l w hv (by omega))
  have HW := Lib.hid (fun v u s w => without_any v u (touch K r f (l.take n) l) s w)
  have hmk := fun w => run_make_row' 176 4 (.bool false) 1 Tryz.underlying176 info_bool rfl .i64 .i64 n (by omega) (by omega) w
  have Hmk := Lib.hid hmk
  clear hv HA HT hm hnn
  go_enter Tryz.func151, Tryz.ntmps151
  go_wp2_with fail
  refine (HC.out _ (HV.out _ ((Below.refl _ _).alloc (Nat.le_refl _) _))).mono ?_
  rintro e w1 ⟨va, rfl, hown, hb1⟩
  obtain ⟨A, c, rfl, -⟩ := owned_cells hown
  rw [Hn.out] at hown ⊢
  have Hown := Lib.hid hown
  have Hb1 := Lib.hid hb1
  clear hown hb1 hmk
  go_upto_region 3 with (simp only [Hmk.out])
  have Ho0 := Lib.hid (show (w1.alloc (.cells (madeCells #[.bool false] n) 4)).ownsRow (w.heap.size + 1) 45 9 (.slice A n c) n ((touch K r f (l.take 0) l).flatMap entC) from by
    rw [List.take_zero]; exact (by simpa using Hown.out : w1.ownsRow (w.heap.size + 1) 45 9 (.slice A n c) n (l.flatMap entC)).alloc _)
  have Hs0 := Lib.hid (show (w1.alloc (.cells (madeCells #[.bool false] n) 4)).ownsRow (w.heap.size + 1) 4 1 (.slice (some ⟨w1.heap.size, 0, none⟩) n n) n ((spn K r l 0).flatMap bolC) from by
    rw [spn_zero, Hn.out]; exact bools_new w1 4 n (w.heap.size + 1) (by have := Hb1.out.size; simpa using this) (by omega))
  have Hc0 := Lib.hid (show (w1.alloc (.cells (madeCells #[.bool false] n) 4)).cell? ⟨w.heap.size, 0, none⟩ = some (.func (.func F) #[] #[]) from by
    rw [World.cell?_alloc_lt _ _ _ (by have := Hb1.out.size; simp at this; simp; omega), Hb1.out.cell (p := ⟨w.heap.size, 0, none⟩) (by simp)]; simp)
  have Hbel0 := Lib.hid (show Below w.heap.size w (w1.alloc (.cells (madeCells #[.bool false] n) 4)) from (unbox Hb1.out).alloc (unbox Hb1.out).size _)
  have Hlt := Lib.hid (show ∀ k, (Value.slice A n c).ownBlock = some k → k < w1.heap.size from fun k h => (Hown.out.lt k h).2)
  clear Hown Hb1 HC HV Hmk
  generalize hgs : w1.heap.size = gs at *
  generalize w1.alloc _ = W at *
  clear hgs w1
  go_wp2_with fail
  go_loopw [21] (fun i wr => ∃ k : Nat, k ≤ n ∧ i = .int .i64 k ∧ wr.ownsRow (w.heap.size + 1) 45 9 (.slice A n c) n ((touch K r f (l.take k) l).flatMap entC) ∧ wr.ownsRow (w.heap.size + 1) 4 1 (.slice (some ⟨gs, 0, none⟩) n n) n ((spn K r l k).flatMap bolC) ∧ wr.cell? ⟨w.heap.size, 0, none⟩ = some (.func (.func F) #[] #[]) ∧ Below w.heap.size w wr) (fun i _ => n - (intOf i).toNat)
  case atStart => exact ⟨0, Nat.zero_le _, rfl, Ho0.out, Hs0.out, Hc0.out, Hbel0.out⟩
  case round =>
    obtain ⟨k, hk, rfl, ho, hs, hc, hbel⟩ := hrel
    have Ho := Lib.hid ho
    have Hs := Lib.hid hs
    have Hc := Lib.hid hc
    have Hbel := Lib.hid hbel
    clear ho hs hc hbel Ho0 Hs0 Hc0 Hbel0
    have HE := Lib.hid (show ∃ es, es = touch K r f (l.take k) l ∧ es.length = n from ⟨_, rfl, by rw [(touch_pw K r f (l.take k) l).len]; exact Hn.out⟩)
    obtain ⟨es, hes, hel⟩ := HE.out
    have Hes := Lib.hid hes
    have Hel := Lib.hid hel
    rw [← hes] at Ho
    clear hes hel HE
    by_cases hlt : k < n
    · obtain ⟨t, ht⟩ := getE es k n Hel.out hlt
      have Ht := Lib.hid ht
      have HO := Lib.hid (own_at_Ent Ho.out ht)
      obtain ⟨ga, ca, hA, hga, hgw, -, hcs, hfz⟩ := HO.out
      cases hA
      have Hfz := Lib.hid hfz
      simp only [Nat.zero_add] at hcs
      obtain ⟨c0, c1, c2, c3, c4, c5, c6, c7, c8⟩ := hcs
      clear ht HO hfz
      have hne : ¬ ga = gs := by have := Hlt.out ga rfl; omega
      have hlw : w.heap.size < wr.heap.size := World.block_lt_of_cell? _ _ Hc.out
      have Hc1 := Lib.hid (show ∀ ob, (wr.alloc ob).cell? ⟨w.heap.size, 0, none⟩ = some (.func (.func F) #[] #[]) from fun ob => by rw [World.cell?_alloc_lt _ _ _ hlw]; exact Hc.out)
      by_cases hkd : t.kind = K
      · have hkd' : (t.kind != K) = false := by simpa using hkd
        have hkd2 : (K != t.kind) = false := by simp [hkd]
        go_wp2_with fail
        refine (HI.out t _ es _ _ _ (owned_sl (by rw [Hel.out]; exact Ho.out.alloc _)) (by rw [Hel.out]; omega) (Hc1.out _) (EntBox.n1 _ t _ (by first | rfl | simp [hkd]))).mono ?_
        rintro e w4 ⟨rfl, hb4⟩
        have Ho4 := Lib.hid (own_below (Ho.out.alloc _) hb4)
        have Hs4 := Lib.hid (own_below (Hs.out.alloc _) hb4)
        have Hc4 := Lib.hid ((hb4.cell (p := ⟨w.heap.size, 0, none⟩) (by simp; omega)).trans (Hc1.out _))
        have Hbel4 := Lib.hid (nextW (Hbel.out.alloc Hbel.out.size _) hb4)
        have Hq := Lib.hid (show es.findIdx? (m t) = es.findIdx? (hitB r t) from congrArg (fun z => es.findIdx? z) (funext fun y => HM.out t y hkd))
        clear hb4 c0 c1 c2 c3 c4 c5 c6 c7 c8 Hc1 hlw HI
        generalize es.findIdx? (m t) = q at *
        cases q with
        | none =>
          have HX := Lib.hid (touch_skip (Hes.out ▸ Ht.out) (.inr (Hes.out ▸ Hq.out.symm)))
          simp only [plc]
          go_wp2
          go_roundw
          case rel => exact ⟨k + 1, by omega, by go_num, by rw [HX.out.1, ← Hes.out]; exact Ho4.out, by rw [HX.out.2]; exact Hs4.out, Hc4.out, Hbel4.out⟩
          case measure => simp [intOf]; omega
        | some j =>
          have hjn : j < n := by
            obtain ⟨h, -⟩ := List.findIdx?_eq_some_iff_getElem.1 Hq.out.symm
            have := Hel.out
            omega
          obtain ⟨p, hp⟩ := getE es j n Hel.out hjn
          have HX := Lib.hid (touch_meet (Hes.out ▸ Ht.out) hkd (Hes.out ▸ Hq.out.symm) (Hes.out ▸ hp))
          have Hp := Lib.hid hp
          obtain ⟨g', c', hA, -, hgw4, -, hcs, -⟩ := own_at_Ent Ho4.out hp
          cases hA
          simp only [Nat.zero_add] at hcs
          have d6 := hcs.2.2.2.2.2.2.1
          clear hcs hp Hq
          simp only [plc]
          go_wp2_with (go_at_fn G; refine (HG.out _ _).mono ?_)
          rintro e w5 ⟨rfl, hb5⟩
          have Ho5 := Lib.hid (own_below Ho4.out hb5)
          have Hs5 := Lib.hid (own_below Hs4.out hb5)
          have Hbel5 := Lib.hid (nextW Hbel4.out hb5)
          have Hc5 := Lib.hid ((hb5.cell (p := ⟨w.heap.size, 0, none⟩) (World.block_lt_of_cell? _ _ Hc4.out)).trans Hc4.out)
          obtain ⟨g', c', hA, -, hgw5, -, hcs, hf6⟩ := own_at_Ent Ho5.out Hp.out
          cases hA
          simp only [Nat.zero_add] at hcs
          have e6 := hcs.2.2.2.2.2.2.1
          have ef6 := hf6 (j * 9 + 6)
          obtain ⟨z, hz⟩ : ∃ z, w5.cell? ⟨gs, k, none⟩ = some z := by
            rw [Hs5.out.cellAt k (by omega)]
            exact ⟨_, List.getElem?_eq_getElem (by rw [Hs5.out.1]; omega)⟩
          have hzf := Hs5.out.frozenAt k
          have hne' : ¬ gs = ga := fun h => hne h.symm
          clear hcs hf6 hb5 d6
          have HP := Lib.hid (own_put_Ent (q := 6) (z := healthy f p) (v := .int .i64 (f p.health)) Ho5.out Hp.out (by omega) rfl)
          have HQ := Lib.hid (own_bool (Hs5.out.kept HP.out.2 (.inr (by simp only [Value.ownBlock]; intro h; exact hne' (Option.some.inj h)))) k true)
          have HR := Lib.hid (HP.out.1.kept HQ.out.2 (.inr (by simp only [Value.ownBlock]; intro h; exact hne (Option.some.inj h))))
          have hg1 : w.heap.size + 1 ≤ ga := own_ge Ho5.out ga rfl
          have hg2 : w.heap.size + 1 ≤ gs := own_ge Hs5.out gs rfl
          have Hc6 := Lib.hid (show ((w5.setCell ⟨ga, j * 9 + 6, none⟩ (.int .i64 (f p.health))).setCell ⟨gs, k, none⟩ (.bool true)).cell? ⟨w.heap.size, 0, none⟩ = some (.func (.func F) #[] #[]) from by
            rw [World.cell?_setCell_other _ _ _ _ (by simp <;> omega), World.cell?_setCell_other _ _ _ _ (by simp <;> omega)]; exact Hc5.out)
          have Hbel6 := Lib.hid ((Hbel5.out.setCell (p := ⟨ga, j * 9 + 6, none⟩) (by simp; omega) (.int .i64 (f p.health))).setCell (p := ⟨gs, k, none⟩) (by simp; omega) (.bool true))
          clear HP Ho5 Hs5 Hc5 Hbel5 Ho4 Hs4 Hc4 Hbel4 Ho Hs Hc Hbel hg1 hg2
          generalize f p.health = fh at *
          go_wp2
          go_roundw
          case rel => exact ⟨k + 1, by omega, by go_num, by rw [HX.out.1, ← Hes.out]; exact HR.out, by rw [HX.out.2]; exact HQ.out.1, Hc6.out, Hbel6.out⟩
          case measure => simp [intOf]; omega
      · have hkd' : (t.kind != K) = true := by simpa using hkd
        have HX := Lib.hid (touch_skip (Hes.out ▸ Ht.out) (.inl hkd))
        go_wp2
        go_roundw
        case rel => exact ⟨k + 1, by omega, by go_num, by rw [HX.out.1, ← Hes.out]; exact Ho.out.alloc _, by rw [HX.out.2]; exact Hs.out.alloc _, Hc1.out _, Hbel.out.alloc Hbel.out.size _⟩
        case measure => simp [intOf]; omega
    · obtain rfl : k = n := by omega
      have HZ := Lib.hid (wout_touch K r f l k (Nat.le_of_eq Hn.out))
      rw [← Hes.out] at HZ HW
      have Hsl := Lib.hid (spn_len K r l k)
      have Hn' := Lib.hid (Hsl.out.trans (Hn.out.trans Hel.out.symm))
      generalize spn K r l k = ss at *
      go_wp2_with fail
      refine (HW.out _ _ ss _ (owned_sl (by rw [Hel.out]; exact Ho.out)) (owned_sl (by rw [Hsl.out, Hn.out]; exact Hs.out)) Hn'.out (by rw [Hel.out]; omega)).mono ?_
      rintro e w6 ⟨v6, rfl, ho6, hb6⟩
      rw [HZ.out] at ho6
      have Ho6 := Lib.hid (ho6.mono Hbel.out.size)
      have Hb6 := Lib.hid (nextW Hbel.out hb6)
      clear ho6 hb6
      go_wp2
      go_ret
      exact ⟨_, rfl, Ho6.out, Hb6.out⟩

/-- What a call returns that makes a row of entities of its own. -/
def RetRow (l : List Ent) (w : World) (z : Ending) (w' : World) : Prop := ∃ v', z = .returned v' ∧ w'.ownsRow w.heap.size 45 9 v' l.length (l.flatMap entC) ∧ Below w.heap.size w w'

theorem shotsH_any (v : Value) (l : List Ent) (w : World) (hv : IsSl entC w v l) (hn : l.length ≤ 1000) :
    Calls Tryz.prog 100 #[v] w (RetRow (shotsL l) w) := by
  have HS := Lib.hid (spend_any 2 24 shots_asks shots_turns (fun t e h => shot_hit h e) v l w hv hn)
  clear hv
  go_enter Tryz.func100, Tryz.ntmps100
  go_wp2_with fail
  refine HS.out.mono ?_
  rintro e w1 ⟨v', rfl, ho, hb⟩
  have Ho := Lib.hid ho
  have Hb := Lib.hid hb
  clear ho hb
  go_wp2
  go_ret
  exact ⟨_, rfl, Ho.out, Hb.out⟩

theorem gemsH_any (v : Value) (l : List Ent) (w : World) (hv : IsSl entC w v l) (hn : l.length ≤ 1000) :
    Calls Tryz.prog 99 #[v] w (RetRow (gemsL l) w) := by
  have HS := Lib.hid (spend_any 3 32 gems_asks gems_turns (fun t e h => gem_hit h e) v l w hv hn)
  clear hv
  go_enter Tryz.func99, Tryz.ntmps99
  go_wp2_with fail
  refine HS.out.mono ?_
  rintro e w1 ⟨v', rfl, ho, hb⟩
  have Ho := Lib.hid ho
  have Hb := Lib.hid hb
  clear ho hb
  go_wp2
  go_ret
  exact ⟨_, rfl, Ho.out, Hb.out⟩

end Go.Proofs.YtfpofegfbinalaaGreat.Fx
