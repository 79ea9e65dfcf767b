/- Contracts of the statements' helpers over slices of integers (Own, Kept, Plain, Same): what they return; old memory stays. One player alone in a region: a step, plainly; who walks over the border is handed over, and is there. -/
import Derived.Test.YtbblpnmcbifocaaGreatM01
import Derived.OwnWalk
import Derived.Deep.QuietTactic
import Derived.BigQuiet
import Derived.Test.YtbblpnmcbifocaaGreatM47
namespace Go.Proofs.YtbblpnmcbifocaaGreat.Fx
open Go.ChangeShapes Go.WideShapes Go.ChangeAt Go.RowKit

/-- Block g is known whole. -/
def Row (w : World) (g : Nat) (t : TypeId) (cur : Array Value) : Prop := w.heap[g]? = some (.cells cur t (0, 0))
theorem Row.cell {w : World} {g : Nat} {t : TypeId} {cur : Array Value} (h : Row w g t cur) (i : Nat) : w.cell? ⟨g, i, none⟩ = cur[i]? := cell_of_row w g i cur t (0, 0) h
theorem Row.frozen {w : World} {g : Nat} {t : TypeId} {cur : Array Value} (h : Row w g t cur) (i : Nat) : w.frozen? ⟨g, i, none⟩ = false := by
  unfold Row at h; simp [World.frozen?, h]
theorem Row.put {w : World} {g : Nat} {t : TypeId} {cur : Array Value} (h : Row w g t cur) (i : Nat) (u : Value) : Row (w.setCell ⟨g, i, none⟩ u) g t (cur.setIfInBounds i u) := by
  unfold Row at h ⊢; simp [World.setCell, Array.getElem?_modify, h]
theorem Row.of_own {w : World} {base : Nat} {e : TypeId} {g n cap : Nat} {xs : List Value} (h : w.ownsRow base e 1 (.slice (some ⟨g, 0, none⟩) n cap) n xs) :
    ∃ cur, Row w g e cur ∧ cur.size = cap ∧ base ≤ g ∧ ∀ (i : Nat) (u : Value), xs[i]? = some u → cur[i]? = some u := by
  rcases h.2 with ⟨hv, _⟩ | ⟨g', cap', cur, hv, hb, hh, hn, hm, hs, ht⟩
  · cases hv
  · simp at hv
    obtain ⟨rfl, rfl⟩ := hv
    refine ⟨cur, hh, by omega, hb, fun i u hu => ?_⟩
    rw [← ht] at hu
    rw [List.getElem?_take] at hu
    split at hu
    · simpa using hu
    · cases hu

/-- What Own leaves: a new row g of n + 3 cells, the list and then three times f. -/
def Owned (w w' : World) (g n : Nat) (l : List Int) (f : Int) : Prop :=
  Below w.heap.size w w' ∧ w.heap.size ≤ g ∧ ∃ cur, Row w' g 3 cur ∧ cur.size = n + 3 ∧ (∀ i, i < n → cur[i]? = some (.int .i64 (gi l i))) ∧ ∀ i, n ≤ i → i < n + 3 → cur[i]? = some (.int .i64 f)

theorem quiet_keeps {P : Program} {f : FuncId} {args : Array Value} {w : World} {n : Nat} {v : Value}
    (h : Calls P f args (w.drewN n) fun e w' => e = .returned v ∧ w.drewN n = w') : Calls P f args (w.drewN n) fun e w' => e = .returned v ∧ ∃ m, w' = w.drewN m :=
  h.mono fun _ _ ⟨he, hm⟩ => ⟨he, n, hm.symm⟩

theorem eq_yes (x : Int) (w : World) :
    Calls Tryz.prog 74 #[.int .i64 x, .int .i64 x] w fun e w' => e = .returned (.bool true) ∧ w = w' := by
  go_enter Tryz.func74, Tryz.ntmps74
  go_wp2
  go_ret
  exact ⟨rfl, rfl⟩

/-- Same, of two lists that are the same. -/
theorem same_yes (A B : Option Addr) (n c d : Nat) (l : List Int) (w : World) (ha : IntsAt w A n l) (hb : IntsAt w B n l) (hn : n ≤ 1000) :
    Calls Tryz.prog 73 #[.slice A n c, .slice B n d, .func (.func 74) #[] #[]] w fun e w' => e = .returned (.bool true) ∧ ∃ q, w' = w.drewN q := by
  have Ha := Lib.hid ha
  have Hb := Lib.hid hb
  clear ha hb
  go_enter Tryz.func73, Tryz.ntmps73
  go_wp2
  go_loopw [7] (fun i wr => ∃ k : Nat, k ≤ n ∧ i = .int .i64 k ∧ ∃ q, wr = w.drewN q) (fun i _ => n - (intOf i).toNat)
  case atStart => exact ⟨0, Nat.zero_le _, rfl, 0, rfl⟩
  case round =>
    obtain ⟨k, hk, rfl, hq⟩ := hrel
    have Hq := Lib.hid hq
    clear hq
    by_cases hlt : k < n
    · obtain ⟨ba, oa, hA, hca⟩ := Ha.out.2 (by omega)
      obtain ⟨bb, ob, hB, hcb⟩ := Hb.out.2 (by omega)
      subst hA hB
      have h1 : wr.cell? ⟨ba, oa + k, none⟩ = some (.int .i64 (gi l k)) := by obtain ⟨q, rfl⟩ := Hq.out; exact hca k hlt
      have h2 : wr.cell? ⟨bb, ob + k, none⟩ = some (.int .i64 (gi l k)) := by obtain ⟨q, rfl⟩ := Hq.out; exact hcb k hlt
      have hki : (k : Int) < (n : Int) := by omega
      clear hca hcb
      go_wp2
      go_quiet ((go_at_call 74; exact quiet_keeps (eq_yes _ _)))
      go_wp2
      go_roundw
      case rel => exact ⟨k + 1, by omega, by go_num, by obtain ⟨q, rfl⟩ := Hq.out; exact ⟨_, by rw [World.drewN_drewN]⟩⟩
      case measure => simp [intOf]; omega
    · go_wp2
      go_ret
      exact ⟨rfl, Hq.out⟩

theorem plain_yes (A B : Option Addr) (n c d : Nat) (l : List Int) (w : World) (ha : IntsAt w A n l) (hb : IntsAt w B n l) (hn : n ≤ 1000) :
    Calls Tryz.prog 29 #[.slice A n c, .slice B n d] w fun e w' => e = .returned (.bool true) ∧ ∃ q, w' = w.drewN q := by
  have Ha := Lib.hid ha
  have Hb := Lib.hid hb
  clear ha hb
  go_enter Tryz.func29, Tryz.ntmps29
  go_wp2_with fail
  refine (same_yes A B n c d l w Ha.out Hb.out hn).mono ?_
  rintro e w' ⟨rfl, hq⟩
  have Hq := Lib.hid hq
  clear hq
  go_wp2
  go_ret
  exact ⟨rfl, Hq.out⟩

theorem Owned.ints {w w' : World} {g n : Nat} {l : List Int} {f : Int} (h : Owned w w' g n l f) (hl : l.length = n) : IntsAt w' (some ⟨g, 0, none⟩) n l := by
  obtain ⟨_, _, cur, hr, _, hc, _⟩ := h
  exact ⟨hl, fun _ => ⟨g, 0, rfl, fun i hi => by rw [Nat.zero_add, hr.cell]; exact hc i hi⟩⟩

end Go.Proofs.YtbblpnmcbifocaaGreat.Fx
namespace Go.Proofs.YtbblpnmcbifocaaGreat.Fx
open Go.ChangeShapes Go.WideShapes Go.ChangeAt Go.RowKit
set_option linter.unusedVariables false
set_option maxRecDepth 100000

theorem touch_alone {k r : Int} {f : Int → Int} {y : Ent} (h : ¬ y.kind = k) : touchL k r f [y] = [y] := by
  unfold touchL touch touch touch1
  rw [if_neg h, List.filter_cons_of_pos (by unfold stays; rw [decide_eq_false h]; rfl)]
  rfl

theorem blasts_none {ib : List Crs} (h : ∀ c ∈ ib, ¬ c.kind = 2) (l : List Ent) : blastsL l ib = l := by
  unfold blastsL
  induction ib generalizing l with
  | nil => rfl
  | cons c t ih =>
    rw [List.foldl_cons, show l.map (blast1 c) = l from ?_]
    · exact ih (fun x hx => h x (by simp [hx])) l
    · have : ∀ p, blast1 c p = p := fun p => blast1_no fun hh => h c (by simp) hh.1
      induction l with
      | nil => rfl
      | cons e t ih => rw [List.map_cons, this, ih]

theorem upTo_alone {a b p n s r f : Int} {inp : Int → Inp} {l : List Ent} {ib : List Crs} {e : Ent} (hA : arriveL l ib = [e]) (hk : e.kind = 1) (he : erightB a b p n e = true) (hf : (inp e.id).fire = false) (hb : ∀ c ∈ ib, ¬ c.kind = 2) :
    upTo a b p n s r f inp l ib = (gemsIn a b p n s r f [goE a b p n (steerE e (inp e.id).dx (inp e.id).dy false)] 0, []) ∧ (goE a b p n (steerE e (inp e.id).dx (inp e.id).dy false)).kind = 1 ∧ (goE a b p n (steerE e (inp e.id).dx (inp e.id).dy false)).id = e.id ∧ goB a b p n (steerE e (inp e.id).dx (inp e.id).dy false) = true := by
  have hp : pids [e] = [e.id] := by unfold pids; rw [List.filter_cons_of_pos (by simpa using hk)]; rfl
  have hs : steers (regs a b p n) r f inp [e] [e.id] = ([steerE e (inp e.id).dx (inp e.id).dy false], 0) := by
    unfold steers
    rw [List.foldl_cons, List.foldl_nil]
    unfold steer1
    have ho : ofId [e] e.id = some e := by unfold ofId; rw [List.find?_cons_of_pos (by simp)]
    simp only [ho, hf]
    rw [if_neg (by unfold steerB; simp)]
    unfold turn
    rw [List.map_cons, if_pos rfl]
    rfl
  obtain ⟨s1, s2, -, -⟩ := steer_kind e (inp e.id).dx (inp e.id).dy false
  have hS := steer_right (inp e.id).dx (inp e.id).dy false he
  generalize steerE e (inp e.id).dx (inp e.id).dy false = z at *
  have hzk : z.kind = 1 := s1.trans hk
  have hz : goB a b p n z = true := by unfold goB; rw [hS, hzk]; rfl
  obtain ⟨g1, g2, g3⟩ := go_same hz
  have hG : goL a b p n [z] = [goE a b p n z] := by rw [goL_cons, if_pos hz]; rfl
  have hy : (goE a b p n z).kind = 1 := g2.trans hzk
  have hh : ¬ (goE a b p n z).health ≤ 0 := by
    rw [g3]
    have := (player_bd hS hzk).2.2.2.2.1
    omega
  refine ⟨?_, hy, g1.trans s2, hz⟩
  unfold upTo
  simp only [hA, hp, hs, hG]
  generalize goE a b p n z = y at *
  have e1 : shotsL [y] = [y] := touch_alone (by omega)
  have e2 : gemsL [y] = [y] := touch_alone (by omega)
  have e3 : fallenL [y] = [] := by unfold fallenL; rw [List.filter_cons_of_neg (by simp; omega)]; rfl
  rw [e1, e2, blasts_none hb]
  unfold falls
  rw [e3]
  rfl

theorem gems_alone {a b p n s r f : Int} (hh : hasB a b p n r = true) (hf : 0 ≤ f ∧ f ≤ 9999) {y : Ent} (hy : y.id < 1000) : gemsIn a b p n s r f [y] 0 = [y] ∨ ∃ G, gemsIn a b p n s r f [y] 0 = [y, G] ∧ G.kind = 3 ∧ ofr a b p n G.x G.y = r := by
  have hr := hasB_rt hh
  have h1 : 1000 ≤ newId (regs a b p n) r f 0 ∧ newId (regs a b p n) r f 0 ≤ 2147483647 := by
    unfold newId
    have hR := regs_bd a b p n
    have e1 := Int.mul_le_mul_of_nonneg_left hR.2 hf.1
    have e2 := Int.mul_nonneg hf.1 hR.1
    have := hr.2.1
    have := hr.2.2.1
    omega
  obtain ⟨-, g2⟩ := gem_right (s := s) (f := f) hh h1.1 h1.2
  unfold gemsIn
  split
  · refine .inr ⟨⟨newId (regs a b p n) r f 0, 3, crx a b p n r + bel 1024 s [4, f, r], cry a b p n r + bel 1024 s [5, f, r], 0, 0, 1, 0, 0⟩, ?_, rfl, g2⟩
    clear g2
    generalize crx a b p n r + bel 1024 s [4, f, r] = gx
    generalize cry a b p n r + bel 1024 s [5, f, r] = gy
    generalize newId (regs a b p n) r f 0 = id at *
    have e1 : fnd [y] id = -1 := by unfold fnd fndI fndI; rw [if_neg (by omega)]
    have e2 : pos [y] id = 1 := by unfold pos pos; rw [if_pos (by omega)]
    unfold put
    simp only [e1, e2]
    rw [if_neg (by omega)]
    rfl
  · exact .inl rfl

/-- Where the one who is alone goes on to another region. -/
theorem alone_leaves {a b p n s r f : Int} {inp : Int → Inp} {l : List Ent} {ib : List Crs} {y : Ent} (hh : hasB a b p n r = true) (hf : 0 ≤ f ∧ f ≤ 9999) (hU : upTo a b p n s r f inp l ib = (gemsIn a b p n s r f [y] 0, [])) (hy : y.id < 1000) (ho : ¬ ofr a b p n y.x y.y = r) :
    pids (stayL a b p n s r f inp l ib) = [] ∧ outsL a b p n s r f inp l ib = [handOf a b p n r f y] := by
  have hb : hereB a b p n r y = false := by unfold hereB; exact decide_eq_false ho
  unfold stayL outsL
  rw [hU]
  rcases gems_alone (s := s) hh hf hy with h | ⟨G, h, hk, hg⟩
  · rw [h, List.filter_cons_of_neg (by simp [hb]), List.filter_cons_of_pos (by simp [hb])]
    exact ⟨rfl, rfl⟩
  · have hb2 : hereB a b p n r G = true := by unfold hereB; exact decide_eq_true hg
    rw [h, List.filter_cons_of_neg (by simp [hb]), List.filter_cons_of_pos (by simp [hb2]), List.filter_cons_of_pos (by simp [hb]), List.filter_cons_of_neg (by simp [hb2])]
    exact ⟨by simp [pids, hk], rfl⟩

/-- Where the one who is alone stays. -/
theorem alone_stays {a b p n s r f : Int} {inp : Int → Inp} {l : List Ent} {ib : List Crs} {y : Ent} (hh : hasB a b p n r = true) (hf : 0 ≤ f ∧ f ≤ 9999) (hU : upTo a b p n s r f inp l ib = (gemsIn a b p n s r f [y] 0, [])) (hy : y.id < 1000) (hk : y.kind = 1) (ho : ofr a b p n y.x y.y = r) :
    pids (stayL a b p n s r f inp l ib) = [y.id] := by
  have hb : hereB a b p n r y = true := by unfold hereB; exact decide_eq_true ho
  unfold stayL
  rw [hU]
  rcases gems_alone (s := s) hh hf hy with h | ⟨G, h, hg, ho2⟩
  · rw [h, List.filter_cons_of_pos (by simp [hb])]
    simp [pids, hk]
  · have hb2 : hereB a b p n r G = true := by unfold hereB; exact decide_eq_true ho2
    rw [h, List.filter_cons_of_pos (by simp [hb]), List.filter_cons_of_pos (by simp [hb2])]
    simp [pids, hk, hg]

/-- The walker, ahead of the border; behind it; and where it stands then. -/
def wk0 (y h : Int) : Ent := ⟨1, 1, 1023, y, 0, 0, h, 0, 0⟩

def wk1 (y h dx : Int) : Ent := ⟨1, 1, 1023 + dx * 32, y, dx * 32, 0, h, 0, 0⟩

theorem wk_right {a b n y h : Int} {P : Nat} (hr : rt a b P n = true) (ha : 2 ≤ a) (hy : 0 ≤ y ∧ y < 1024) (hh : 1 ≤ h ∧ h ≤ 100) : erightB a b P n (wk0 y h) = true ∧ ofr a b P n 1023 y = 0 := by
  obtain ⟨r1, r2, r3, r4, r5, r6, -⟩ := rt_bd hr
  constructor
  · exact player_right (y := wk0 y h) rfl ((ins_iff hr).2 (by simp only [wk0]; omega)) ⟨⟨show (1 : Int) ≤ 1 by decide, by simp only [wk0]; omega⟩, show (-64 : Int) ≤ 0 ∧ (0 : Int) ≤ 64 by decide, show (-64 : Int) ≤ 0 ∧ (0 : Int) ≤ 64 by decide, hh, show (0 : Int) ≤ 0 ∧ (0 : Int) ≤ 6 by decide, rfl⟩
  · unfold ofr clamp
    rw [if_pos hr, if_neg (by omega), if_neg (by omega), if_neg (by omega), if_neg (by omega), show y / 1024 = 0 by omega]
    omega

theorem wk_walks {a b n y h dx : Int} {P : Nat} (hr : rt a b P n = true) (ha : 2 ≤ a) (hy : 0 ≤ y ∧ y < 1024) (hh : 1 ≤ h ∧ h ≤ 100) (hd : dx = 1 ∨ dx = 2) : goE a b P n (steerE (wk0 y h) dx 0 false) = wk1 y h dx ∧ ofr a b P n (wk1 y h dx).x (wk1 y h dx).y = 1 ∧ erightB a b P n (wk1 y h dx) = true := by
  obtain ⟨r1, r2, r3, r4, r5, r6, -⟩ := rt_bd hr
  have hir : irt dx 0 = true := by rcases hd with rfl | rfl <;> decide
  have e1 : steerE (wk0 y h) dx 0 false = ⟨1, 1, 1023, y, dx * 32, 0, h, 0, 0⟩ := by
    unfold steerE wk0
    rw [if_pos ⟨rfl, hir⟩, if_neg (by simp)]
    rfl
  have hS := steer_right dx 0 false (wk_right hr ha hy hh).1
  rw [e1] at hS ⊢
  have hB : goB a b P n ⟨1, 1, 1023, y, dx * 32, 0, h, 0, 0⟩ = true := by unfold goB; rw [hS]; rfl
  have e2 : goE a b P n ⟨1, 1, 1023, y, dx * 32, 0, h, 0, 0⟩ = wk1 y h dx := by
    unfold goE clamp wk1
    rw [if_pos hB, if_pos rfl]
    simp only [Ent.mk.injEq, true_and, and_true]
    constructor
    · rw [if_neg (by rcases hd with rfl | rfl <;> omega), if_neg (by rcases hd with rfl | rfl <;> omega)]
    · rw [if_neg (by omega), if_neg (by omega)]; omega
  refine ⟨e2, ?_, e2 ▸ go_right hr hB⟩
  unfold ofr clamp wk1
  simp only
  rw [if_pos hr, if_neg (by omega), if_neg (by omega), if_neg (by rcases hd with rfl | rfl <;> omega), if_neg (by rcases hd with rfl | rfl <;> omega), show y / 1024 = 0 by omega, show (1023 + dx * 32) / 1024 = 1 by rcases hd with rfl | rfl <;> omega]
  omega

theorem wk_stands {a b n y h dx : Int} {P : Nat} (hr : rt a b P n = true) (ha : 2 ≤ a) (hy : 0 ≤ y ∧ y < 1024) (hh : 1 ≤ h ∧ h ≤ 100) (hd : dx = 1 ∨ dx = 2) : ofr a b P n (goE a b P n (steerE (wk1 y h dx) 0 0 false)).x (goE a b P n (steerE (wk1 y h dx) 0 0 false)).y = 1 := by
  obtain ⟨r1, r2, r3, r4, r5, r6, -⟩ := rt_bd hr
  obtain ⟨-, ho, hR⟩ := wk_walks hr ha hy hh hd
  have e1 : steerE (wk1 y h dx) 0 0 false = ⟨1, 1, 1023 + dx * 32, y, 0, 0, h, 0, 0⟩ := by
    unfold steerE wk1
    rw [if_pos ⟨rfl, by decide⟩, if_neg (by simp)]
    rfl
  have hS := steer_right 0 0 false hR
  rw [e1] at hS ⊢
  have hB : goB a b P n ⟨1, 1, 1023 + dx * 32, y, 0, 0, h, 0, 0⟩ = true := by unfold goB; rw [hS]; rfl
  have e2 : goE a b P n ⟨1, 1, 1023 + dx * 32, y, 0, 0, h, 0, 0⟩ = ⟨1, 1, 1023 + dx * 32, y, 0, 0, h, 0, 0⟩ := by
    unfold goE clamp
    rw [if_pos hB, if_pos rfl]
    simp only [Ent.mk.injEq, true_and, and_true]
    constructor
    · rw [if_neg (by rcases hd with rfl | rfl <;> omega), if_neg (by rcases hd with rfl | rfl <;> omega)]; omega
    · rw [if_neg (by omega), if_neg (by omega)]; omega
  rw [e2]
  exact ho

/-- All of the law, plainly. -/
theorem leaves_all {a b n s y h dx : Int} {P : Nat} (hr : rt a b P n = true) (ha : 2 ≤ a) (hy : 0 ≤ y ∧ y < 1024) (hh : 1 ≤ h ∧ h ≤ 100) (hd : dx = 1 ∨ dx = 2) {xs zs : List Inp} (hx : inpOf xs 1 = ⟨dx, 0, false⟩) (hz : inpOf zs 1 = ⟨0, 0, false⟩) :
    pids (stayL a b P n s 0 5 (inpOf xs) [wk0 y h] []) = [] ∧ st lessB (outsL a b P n s 0 5 (inpOf xs) [wk0 y h] []) = [⟨1, 0, 1, 5, wk1 y h dx, 0, 0⟩] ∧
      pids (arriveL [] [⟨1, 0, 1, 5, wk1 y h dx, 0, 0⟩]) = [1] ∧ pids (stayL a b P n s 1 6 (inpOf zs) [] [⟨1, 0, 1, 5, wk1 y h dx, 0, 0⟩]) = [1] := by
  obtain ⟨r1, r2, r3, r4, r5, r6, -⟩ := rt_bd hr
  have hre : regs a b P n = a * b := by unfold regs; rw [if_pos hr]
  have hab : 2 ≤ a * b := by
    have := Int.mul_le_mul_of_nonneg_left r3 (show 0 ≤ a by omega)
    omega
  have h0 : hasB a b P n 0 = true := by unfold hasB; rw [hre]; exact decide_eq_true ⟨Int.le_refl _, by omega⟩
  have h1 : hasB a b P n 1 = true := by unfold hasB; rw [hre]; exact decide_eq_true ⟨by omega, by omega⟩
  obtain ⟨w1, w2⟩ := wk_right hr ha hy hh
  obtain ⟨v1, v2, v3⟩ := wk_walks hr ha hy hh hd
  have v4 := wk_stands hr ha hy hh hd
  have hA : arriveL [] [⟨1, 0, 1, 5, wk1 y h dx, 0, 0⟩] = [wk1 y h dx] := rfl
  obtain ⟨u1, u2, u3, -⟩ := upTo_alone (s := s) (r := 0) (f := 5) (inp := inpOf xs) (l := [wk0 y h]) (ib := []) (e := wk0 y h) rfl rfl w1 (by rw [show (wk0 y h).id = 1 from rfl, hx]) (by simp)
  rw [show (wk0 y h).id = 1 from rfl, hx] at u1 u2 u3
  simp only [v1] at u1 u2 u3
  obtain ⟨t1, t2, t3, -⟩ := upTo_alone (s := s) (r := 1) (f := 6) (inp := inpOf zs) (l := []) (ib := [⟨1, 0, 1, 5, wk1 y h dx, 0, 0⟩]) (e := wk1 y h dx) hA rfl v3 (by rw [show (wk1 y h dx).id = 1 from rfl, hz]) (by simp)
  rw [show (wk1 y h dx).id = 1 from rfl, hz] at t1 t2 t3
  simp only at t1 t2 t3
  obtain ⟨a1, a2⟩ := alone_leaves h0 (by omega) u1 (show (1 : Int) < 1000 by decide) (by rw [v2]; omega)
  refine ⟨a1, ?_, by rw [hA]; rfl, ?_⟩
  · rw [a2]
    unfold handOf
    rw [v2]
    exact List.perm_singleton.1 (st_perm lessB _)
  · rw [alone_stays h1 (by omega) t1 (by rw [t3]; decide) t2 v4, t3]

end Go.Proofs.YtbblpnmcbifocaaGreat.Fx
