/- The first one that is met; those that are not spent. -/
import Derived.Test.YtdhahlghldgggaaHtLeaf
import Derived.Test.YtdhahlghldgggaaGLst
import Derived.Shelf.Abstract
import Derived.Test.YtdhahlghldgggaaGFsetEntity
import Derived.Test.YtdhahlghldgggaaGInsTEntity
import Derived.Deep.OwnRows
namespace Go.Proofs.Ytdhahlghldgggaa.Fx
open Go.ChangeShapes Go.WideShapes Go.ChangeAt Go.RowKit
set_option linter.unusedVariables false

/-- The test that spend hands on: it holds the other test, and the thing, in boxes. -/
theorem test_any {F : Nat} {m : Ent → Ent → Bool} (HA : Asks F m) (t y : Ent) (g b : Nat) (w : World) (hg : w.cell? ⟨g, 0, none⟩ = some (.func (.func F) #[] #[])) (hb : EntBox w b t) :
    Calls Try.prog 28 #[.agg #[.int .i64 y.id, .int .i64 y.kind, .int .i64 y.x, .int .i64 y.y, .int .i64 y.vx, .int .i64 y.vy, .int .i64 y.health, .int .i64 y.age, .int .i64 y.owner], .pointer (some ⟨g, 0, none⟩), .pointer (some ⟨b, 0, none⟩)] w fun z w' => z = .returned (.bool (m t y)) ∧ Below w.heap.size w w' := by
  have HT := Lib.hid (fun w => HA.2 t y w)
  have eF : ∀ args w, (callFunc F args).run Try.prog w = .ok (.enter F args) w := HA.1
  clear HA
  generalize m t y = q at *
  have hlg : g < w.heap.size := World.block_lt_of_cell? _ _ hg
  have hlb : b < w.heap.size := hb.has
  obtain ⟨c0, c1, c2, c3, c4, c5, c6, c7, c8, -, -, -, -, -, -, -, -, -⟩ := hb
  go_enter Try.func28, Try.ntmps28
  go_wp2_with (go_at_fn F; refine (HT.out _).mono ?_; rintro e w1 ⟨rfl, hb⟩; have Hb := Lib.hid (unbox hb); clear hb)
  go_wp2
  go_ret
  exact ⟨rfl, Hb.out⟩

/-- A place, or -1. -/
def plc : Option Nat → Int
  | some k => k
  | none => -1

theorem idxf_any {F : Nat} {m : Ent → Ent → Bool} (HA : Asks F m) (t : Ent) (v : Value) (l : List Ent) (g b : Nat) (w : World) (hv : IsSl entC w v l) (hn : l.length ≤ 1000000) (hg : w.cell? ⟨g, 0, none⟩ = some (.func (.func F) #[] #[])) (hb : EntBox w b t) :
    Calls Try.prog 27 #[v, .func (.func 28) #[] #[.pointer (some ⟨g, 0, none⟩), .pointer (some ⟨b, 0, none⟩)]] w
      fun z w' => z = .returned (.int .i64 (plc (l.findIdx? (m t)))) ∧ Below w.heap.size w w' := by
  obtain ⟨A, c, rfl, -, -, hat⟩ := hv
  have Hat := Lib.hid hat
  obtain ⟨n, hnn⟩ : ∃ n, l.length = n := ⟨_, rfl⟩
  rw [hnn] at hn ⊢
  have Hn := Lib.hid hnn
  clear hat hnn
  have HF := Lib.hid (show l.findIdx? (m t) = ((l.drop 0).findIdx? (m t)).map (· + 0) from by simp)
  generalize l.findIdx? (m t) = r at *
  have HT := Lib.hid (fun y w hg hb => test_any HA t y g b w hg hb)
  have Hg := Lib.hid hg
  have Hb := Lib.hid hb
  clear hg hb HA
  go_enter Try.func27, Try.ntmps27
  go_wp2
  go_loopw [8] (fun i wr => ∃ k : Nat, k ≤ n ∧ i = .int .i64 k ∧ r = ((l.drop k).findIdx? (m t)).map (· + k) ∧ Below w.heap.size w wr) (fun i _ => n - (intOf i).toNat)
  case atStart => exact ⟨0, Nat.zero_le _, rfl, HF.out, Below.refl _ _⟩
  case round =>
    obtain ⟨k, hk, rfl, hr, hbel⟩ := hrel
    have Hr := Lib.hid hr
    have Hbel := Lib.hid hbel
    clear hr hbel
    by_cases hlt : k < n
    · obtain ⟨x, hx⟩ := getE l k n Hn.out hlt
      have HX := Lib.hid (drop_at hx)
      obtain ⟨b', off, rfl, hc⟩ := elem_Ent (Hat.out.below Hbel.out) hx
      obtain ⟨c0, c1, c2, c3, c4, c5, c6, c7, c8⟩ := hc
      have Hg1 := Lib.hid (show wr.cell? ⟨g, 0, none⟩ = _ from (Hbel.out.cell (p := ⟨g, 0, none⟩) (World.block_lt_of_cell? _ _ Hg.out)).trans Hg.out)
      have Hb1 := Lib.hid (Hb.out.below Hbel.out Hb.out.has)
      clear hx
      have HM := Lib.hid (show ∃ q, m t x = q from ⟨_, rfl⟩)
      obtain ⟨q, hq⟩ := HM.out
      have Hq := Lib.hid hq
      clear hq HM
      go_wp2_with fail
      refine (HT.out x _ Hg1.out Hb1.out).mono ?_
      rintro e w4 ⟨rfl, hb4⟩
      have Hb4 := Lib.hid (nextW Hbel.out hb4)
      clear hb4 c0 c1 c2 c3 c4 c5 c6 c7 c8 HT
      rw [Hq.out]
      cases q
      · go_wp2
        go_roundw
        case rel => exact ⟨k + 1, by omega, by go_num, by rw [Hr.out, HX.out, List.findIdx?_cons, Hq.out]; simp [Option.map_map, Function.comp_def, Nat.add_comm, Nat.add_left_comm], Hb4.out⟩
        case measure => simp [intOf]; omega
      · go_wp2
        go_ret
        exact ⟨ret_int (by rw [Hr.out, HX.out, List.findIdx?_cons, Hq.out]; simp [plc]), Hb4.out⟩
    · obtain rfl : k = n := by omega
      go_wp2
      go_ret
      exact ⟨ret_int (by rw [Hr.out, List.drop_eq_nil_of_le (by have := Hn.out; omega)]; rfl), Hbel.out⟩

/-- The cells of a bool. -/
def bolC (b : Bool) : List Value := [.bool b]

/-- Those that are not spent. -/
def wout : List Ent → List Bool → List Ent
  | e :: l, b :: s => if b then wout l s else e :: wout l s
  | _, _ => []

theorem wout_take {l : List Ent} {s : List Bool} {k : Nat} {e : Ent} {b : Bool} (h : l[k]? = some e) (h' : s[k]? = some b) : wout (l.take (k + 1)) (s.take (k + 1)) = wout (l.take k) (s.take k) ++ if b then [] else [e] := by
  induction l generalizing s k with
  | nil => simp at h
  | cons x r ih =>
    cases s with
    | nil => simp at h'
    | cons c s =>
      cases k with
      | zero =>
        simp only [List.getElem?_cons_zero, Option.some.injEq] at h h'
        subst h h'
        cases c <;> simp [wout]
      | succ k =>
        simp only [List.getElem?_cons_succ] at h h'
        rw [List.take_succ_cons, List.take_succ_cons, List.take_succ_cons, List.take_succ_cons, wout, wout, ih h h']
        cases c <;> simp

theorem wout_le (l : List Ent) (s : List Bool) : (wout l s).length ≤ l.length := by
  induction l generalizing s with
  | nil => simp [wout]
  | cons x r ih =>
    cases s with
    | nil => simp [wout]
    | cons c s =>
      have := ih s
      rw [wout]
      cases c <;> simp <;> omega

theorem without_any (v u : Value) (l : List Ent) (s : List Bool) (w : World) (hv : IsSl entC w v l) (hu : IsSl bolC w u s) (hs : s.length = l.length) (hn : l.length ≤ 1000000) :
    Calls Try.prog 29 #[v, u] w fun z w' => ∃ v', z = .returned v' ∧ w'.ownsRow w.heap.size 28 9 v' (wout l s).length ((wout l s).flatMap entC) ∧ Below w.heap.size w w' := by
  obtain ⟨A, c, rfl, -, -, hat⟩ := hv
  obtain ⟨B, d, rfl, -, -, hbt⟩ := hu
  have Hat := Lib.hid hat
  have Hbt := Lib.hid hbt
  obtain ⟨n, hnn⟩ : ∃ n, l.length = n := ⟨_, rfl⟩
  rw [hs, hnn]
  rw [hnn] at hs hn
  have Hn := Lib.hid hnn
  have Hs := Lib.hid hs
  have HL := Lib.hid (fun k => wout_le (l.take k) (s.take k))
  clear hat hbt hnn hs
  go_enter Try.func29, Try.ntmps29
  go_wp2
  go_loopw [5, 10] (fun v i wr => ∃ k : Nat, k ≤ n ∧ i = .int .i64 k ∧ wr.ownsRow w.heap.size 28 9 v (wout (l.take k) (s.take k)).length ((wout (l.take k) (s.take k)).flatMap entC) ∧ Below w.heap.size w wr) (fun _ i _ => n - (intOf i).toNat)
  case atStart => exact ⟨0, Nat.zero_le _, rfl, ⟨by simp [wout], .inl ⟨rfl, rfl⟩⟩, Below.refl _ _⟩
  case round =>
    obtain ⟨k, hk, rfl, hown, hbel⟩ := hrel
    have Hown := Lib.hid hown
    have Hbel := Lib.hid hbel
    clear hown hbel
    by_cases hlt : k < n
    · obtain ⟨x, hx⟩ := getE l k n Hn.out hlt
      obtain ⟨q, hq⟩ : ∃ q, s[k]? = some q := ⟨s[k]'(by have := Hs.out; omega), List.getElem?_eq_getElem _⟩
      have HX := Lib.hid (wout_take hx hq)
      have HLk := Lib.hid (show (wout (l.take k) (s.take k)).length ≤ k from Nat.le_trans (HL.out k) (by rw [List.length_take]; omega))
      obtain ⟨b, off, rfl, hc⟩ := elem_Ent (Hat.out.below Hbel.out) hx
      obtain ⟨c0, c1, c2, c3, c4, c5, c6, c7, c8⟩ := hc
      obtain ⟨b', off', rfl, hc'⟩ := (Hbt.out.below Hbel.out).elem 1 (fun _ => rfl) (by omega) hq
      have d0 : wr.cell? ⟨b', off' + k, none⟩ = some (.bool q) := by simpa using hc' 0 _ rfl
      have hlb : b' < wr.heap.size := World.block_lt_of_cell? _ _ d0
      clear hx hq hc'
      cases q
      · rw [if_neg (by simp)] at HX
        go_wp2_with (at_builtin; go_must (refine appL_Ent (by rfl) (.tmp 20) (.tmp 22) (by rfl) w.heap.size _ (wout (l.take k) (s.take k)) (by rfl) ((Hown.out.alloc _).alloc _) _ [x] (by rfl) (one_Ent _ x _ 1 (by first | rfl | simp) (by omega)) (by have := HLk.out; simp; omega) (by have := Hbel.out.size; simp; omega) ?_))
        intro v' w5 hown5 hb5 _
        have HO5 := Lib.hid (show w5.ownsRow w.heap.size 28 9 v' (wout (l.take (k + 1)) (s.take (k + 1))).length ((wout (l.take (k + 1)) (s.take (k + 1))).flatMap entC) from by rw [HX.out]; simpa using hown5)
        have HB5 := Lib.hid (((Hbel.out.alloc Hbel.out.size _).alloc (by have := Hbel.out.size; simp; omega) _).trans hb5)
        clear hown5 hb5
        go_wp2
        go_roundw
        case rel => exact ⟨k + 1, by omega, by go_num, HO5.out, HB5.out⟩
        case measure => simp [intOf]; omega
      · rw [if_pos rfl, List.append_nil] at HX
        go_wp2
        go_roundw
        case rel => exact ⟨k + 1, by omega, by go_num, by rw [HX.out]; exact Hown.out.alloc _, Hbel.out.alloc Hbel.out.size _⟩
        case measure => simp [intOf]; omega
    · obtain rfl : k = n := by omega
      rw [List.take_of_length_le (Nat.le_of_eq Hn.out), List.take_of_length_le (Nat.le_of_eq Hs.out)] at Hown
      go_wp2
      go_ret
      exact ⟨_, rfl, Hown.out, Hbel.out⟩

end Go.Proofs.Ytdhahlghldgggaa.Fx
