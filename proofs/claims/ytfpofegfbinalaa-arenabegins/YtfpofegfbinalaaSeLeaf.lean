/- Package arena's order of entities, and its sort of a row of its own: what is alike stays in its order. -/
import Derived.Test.YtfpofegfbinalaaGTypEntity
import Derived.Test.YtfpofegfbinalaaCrLeaf
import Derived.Test.YtfpofegfbinalaaSeEnd
namespace Go.Proofs.Ytfpofegfbinalaa.Fx.Se
open Go.ChangeShapes Go.WideShapes Go.ChangeAt Go.RowKit Go.Sort
set_option linter.unusedVariables false
set_option maxRecDepth 100000

/-- Does a stand ahead of b? -/
def idB (a b : Ent) : Bool := decide (a.id < b.id)

theorem idB_swo : SWO idB where
  irrefl x := by simp [idB]
  trans x y z h1 h2 := by simp only [idB, decide_eq_true_eq] at *; omega
  ntrans x y z h1 h2 := by simp only [idB, decide_eq_false_iff_not] at *; omega

def cmpE (a b : Ent) : Int := if a.id < b.id then -1 else if b.id < a.id then 1 else 0

theorem ltOf_cmpE : ltOf cmpE = idB := by
  funext a b
  unfold ltOf cmpE idB
  by_cases h : a.id < b.id
  · simp [h]
  · by_cases h2 : b.id < a.id <;> simp [h, h2]

theorem nan_no (a : Int) (w : World) : Calls Try.prog 20 #[.int .i64 a] w fun e w' => e = .returned (.bool false) ∧ w = w' := by
  go_enter Try.func20, Try.ntmps20
  go_wp2
  go_ret
  exact ⟨by simp, rfl⟩

theorem compare_any (a b : Int) (w : World) : Calls Try.prog 16 #[.int .i64 a, .int .i64 b] w fun e w' => e = .returned (.int .i64 (if a < b then -1 else if b < a then 1 else 0)) ∧ w = w' := by
  have HN := Lib.hid nan_no
  by_cases h1 : a < b
  · have hd1 : decide (a < b) = true := decide_eq_true h1
    rw [if_pos h1]
    go_enter Try.func16, Try.ntmps16
    go_wp2_with fail
    refine (HN.out _ _).mono ?_
    rintro e w' ⟨rfl, rfl⟩
    go_wp2_with fail
    refine (HN.out _ _).mono ?_
    rintro e w' ⟨rfl, rfl⟩
    go_wp2
    go_ret
    exact ⟨rfl, rfl⟩
  · have hd1 : decide (a < b) = false := decide_eq_false h1
    rw [if_neg h1]
    by_cases h2 : b < a
    · have hd2 : decide (b < a) = true := decide_eq_true h2
      rw [if_pos h2]
      go_enter Try.func16, Try.ntmps16
      go_wp2_with fail
      refine (HN.out _ _).mono ?_
      rintro e w' ⟨rfl, rfl⟩
      go_wp2_with fail
      refine (HN.out _ _).mono ?_
      rintro e w' ⟨rfl, rfl⟩
      go_wp2
      go_ret
      exact ⟨rfl, rfl⟩
    · have hd2 : decide (b < a) = false := decide_eq_false h2
      rw [if_neg h2]
      go_enter Try.func16, Try.ntmps16
      go_wp2_with fail
      refine (HN.out _ _).mono ?_
      rintro e w' ⟨rfl, rfl⟩
      go_wp2_with fail
      refine (HN.out _ _).mono ?_
      rintro e w' ⟨rfl, rfl⟩
      go_wp2
      go_ret
      exact ⟨rfl, rfl⟩

set_option maxHeartbeats 1000000 in
theorem order_any (a b : Ent) (w : World) :
    Calls Try.prog 15 #[.agg #[.int .i64 a.id, .int .i64 a.kind, .int .i64 a.x, .int .i64 a.y, .int .i64 a.vx, .int .i64 a.vy, .int .i64 a.health, .int .i64 a.age, .int .i64 a.owner], .agg #[.int .i64 b.id, .int .i64 b.kind, .int .i64 b.x, .int .i64 b.y, .int .i64 b.vx, .int .i64 b.vy, .int .i64 b.health, .int .i64 b.age, .int .i64 b.owner]] w fun e w' => e = .returned (.int .i64 (cmpE a b)) ∧ ∃ os, w' = grow w os := by
  have HC := Lib.hid (fun w => compare_any a.id b.id w)
  have HE := Lib.hid (show cmpE a b = if a.id < b.id then -1 else if b.id < a.id then 1 else 0 from rfl)
  generalize cmpE a b = z at *
  go_enter Try.func15, Try.ntmps15
  go_wp2_with fail
  refine (HC.out _).mono ?_
  rintro e w1 ⟨rfl, rfl⟩
  rw [← HE.out]
  go_wp2
  go_ret
  exact ⟨rfl, _, grown2 _ _ _⟩

/-- The program bears the sort's bodies. -/
theorem stP : StP Try.prog 9 where
  mixed := by kernel_rfl
  t0 := Try.underlying0
  a0 := Try.isAgg0
  z0 := Try.sizeOf0
  v0 := Try.zeroValue0
  t3 := Try.underlying3
  a3 := Try.isAgg3
  z3 := Try.sizeOf3
  v3 := Try.zeroValue3
  t4 := Try.underlying4
  a4 := Try.isAgg4
  z4 := Try.sizeOf4
  v4 := Try.zeroValue4
  t5 := Try.underlying39
  a5 := Try.isAgg39
  z5 := Try.sizeOf39
  v5 := Try.zeroValue39
  t6 := Try.underlying33
  a6 := Try.isAgg33
  z6 := Try.sizeOf33
  v6 := Try.zeroValue33
  t7 := Try.underlying53
  a7 := Try.isAgg53
  z7 := Try.sizeOf53
  v7 := Try.zeroValue53
  aE := Try.isAgg37
  zE := Try.sizeOf37
  swaps := Try.func27
  ins := Try.func24
  rot := Try.func26
  sym := Try.func25
  stb := Try.func19
  top := Try.func14

theorem order_lays (blk off size : Nat) (w : World) : CmpLays Try.prog 15 #[] entC 9 cmpE blk off size w :=
  fun m os dk _ x y => (order_any x y _).mono fun _ _ ⟨he, os', hw⟩ => ⟨he, 0, os', hw⟩

/-- A row of the call's own, as the sort wants it. -/
theorem own_row {w : World} {base t g cap : Nat} {l : List Ent} (h : w.ownsRow base t 9 (.slice (some ⟨g, 0, none⟩) l.length cap) l.length (l.flatMap entC)) : RowK entC 9 w g 0 l.toArray := by
  obtain ⟨cur, hb, hs, -, hc⟩ := Blk.of_own h
  refine ⟨entC_len, entC_one, ?_, hb.lt⟩
  unfold HoldsK
  rw [flat_row entC 9 entC_len]
  intro j hj
  have hj' : j < (l.flatMap entC).length := by simpa using hj
  refine ⟨?_, ?_⟩
  · rw [Nat.zero_add, hb.cell]
    have := hc j _ (List.getElem?_eq_getElem hj')
    rw [this, getElem!_pos _ _ (by simpa using hj')]
    simp
  · rw [Nat.zero_add]; exact hb.frozen j

/-- What the sort leaves: the row sorted; all else as it was. -/
theorem own_sorted {w w' : World} {base t g cap : Nat} {l l' : List Ent} {d' : Array Ent} (h : w.ownsRow base t 9 (.slice (some ⟨g, 0, none⟩) l.length cap) l.length (l.flatMap entC)) (hd : d'.toList = l') (hl : l'.length = l.length)
    (hS : SWK entC 9 w g 0 d' w') : w'.ownsRow base t 9 (.slice (some ⟨g, 0, none⟩) l'.length cap) l'.length (l'.flatMap entC) ∧ w.grownBy w' (some g) := by
  have R := own_row h
  have hds : d'.size = l.toArray.size := by rw [len_of hd]; simpa using hl
  have hH := hS.holds R.hblk R.hH hds
  obtain ⟨m, os, rfl⟩ := hS
  constructor
  · obtain ⟨cur, hb, hs, hbase, hc⟩ := Blk.of_own h
    obtain ⟨cur', hb', hs'⟩ := heap_putRow w m g (flatK entC 9 d') os t cur hb
    refine ⟨entC_length l', Or.inr ⟨g, cap, cur', rfl, hbase, hb', ?_, ?_, by rw [hs', hs], ?_⟩⟩
    · rcases h.2 with ⟨hv, _⟩ | ⟨g', cap', cur2, hv, _, _, hn, _⟩
      · cases hv
      · simp at hv; omega
    · rcases h.2 with ⟨hv, _⟩ | ⟨g', cap', cur2, hv, _, _, hn, hm, _⟩
      · cases hv
      · simp at hv; rw [hv.2]; exact hm
    · have hcap : l.length ≤ cap := by
        rcases h.2 with ⟨hv, _⟩ | ⟨g', cap', cur2, hv, _, _, hn, _⟩
        · cases hv
        · simp at hv; omega
      have hfl : flatK entC 9 d' = (l'.flatMap entC).toArray := by
        rw [← flat_row entC 9 entC_len, ← hd]
      apply List.ext_getElem?
      intro j
      rw [List.getElem?_take]
      have hlen := entC_length l'
      split
      · have hj : j < (flatK entC 9 d').size := by rw [hfl, List.size_toArray, hlen]; assumption
        have := (hH j hj).1
        have hc2 : (sortWorldK entC 9 w g 0 m d' os).cell? ⟨g, j, none⟩ = cur'[j]? := hb'.cell j
        rw [Nat.zero_add, hc2, hfl] at this
        rw [Array.getElem?_toList, this]
        have hj2 : j < (l'.flatMap entC).length := by omega
        rw [List.getElem?_eq_getElem hj2, getElem!_pos _ _ (by simpa using hj2)]
        simp
      · rw [List.getElem?_eq_none (by omega)]
  · refine ⟨rfl, rfl, rfl, ?_, fun k hk hne => ?_⟩
    · unfold sortWorldK putRowK
      rw [size_grow, size_putRow]; show w.heap.size ≤ w.heap.size + _; omega
    · unfold sortWorldK putRowK
      rw [heap_grow_old _ _ (by rw [size_putRow]; exact hk)]
      unfold putRow mapBlock
      simp only [heap_ahead]
      rw [Array.getElem?_modify, if_neg (fun h => hne (by rw [h]))]

theorem sort_nil (w : World) :
    Calls Try.prog 14 #[.slice none 0 0, .func (.func 15) #[] #[]] w fun e w' => e = .returned (.tuple #[]) ∧ w = w' := by
  have HI : ∀ W, Calls Try.prog 24 #[.slice none 0 0, .int .i64 0, .int .i64 0, .func (.func 15) #[] #[]] W fun e w' => e = .returned (.tuple #[]) ∧ W = w' := by
    intro W
    go_enter Try.func24, Try.ntmps24
    go_wp2
    refine wp_loop_rounds 1 ?_
    rw [rounds_succ]
    go_wp2
    go_end0
    exact ⟨rfl, rfl⟩
  have HS : ∀ W, Calls Try.prog 19 #[.slice none 0 0, .int .i64 0, .func (.func 15) #[] #[]] W fun e w' => e = .returned (.tuple #[]) ∧ W = w' := by
    intro W
    go_enter Try.func19, Try.ntmps19
    go_wp2
    refine wp_loop_rounds 1 ?_
    rw [rounds_succ]
    go_wp2_with (go_at_call 24; refine (HI _).mono ?_; rintro e w1 ⟨rfl, rfl⟩)
    refine wp_loop_rounds 1 ?_
    rw [rounds_succ]
    go_wp2
    go_end0
    exact ⟨rfl, rfl⟩
  go_enter Try.func14, Try.ntmps14
  go_wp2_with (go_at_call 19; refine (HS _).mono ?_; rintro e w1 ⟨rfl, rfl⟩)
  go_end0
  exact ⟨rfl, rfl⟩

/-- The sort of a row of the call's own. -/
theorem sort_own (v : Value) (l : List Ent) (base : Nat) (w : World) (hb : base ≤ w.heap.size) (ho : w.ownsRow base 37 9 v l.length (l.flatMap entC)) (hn : l.length ≤ 1000000) :
    Calls Try.prog 14 #[v, .func (.func 15) #[] #[]] w fun e w' => e = .returned (.tuple #[]) ∧ w'.ownsRow base 37 9 v (st idB l).length ((st idB l).flatMap entC) ∧ RowKit.Below base w w' := by
  rcases ho.2 with ⟨rfl, h0⟩ | ⟨g, cap, cur, rfl, hg, -⟩
  · refine (sort_nil w).mono ?_
    rintro e w' ⟨rfl, rfl⟩
    obtain rfl : l = [] := List.eq_nil_of_length_eq_zero h0
    exact ⟨rfl, ho, RowKit.Below.refl _ _⟩
  · have hS := sortStable_any stP entC cmpE (by rw [ltOf_cmpE]; exact idB_swo) 15 #[] g 0 cap l.toArray w (enters_of Try.func15 (by kernel_rfl) rfl) (order_lays _ _ _ _) (own_row ho) (by simp; omega)
    rw [ltOf_cmpE] at hS
    refine Calls.mono (by simpa using hS) ?_
    rintro e w' ⟨rfl, d', hd', hw'⟩
    have := own_sorted ho hd' (st_length _ _) hw'
    rw [st_length] at this ⊢
    exact ⟨rfl, this.1, (RowKit.Below.refl _ _).grown this.2 hb (fun k hk => by cases hk; exact hg)⟩

end Go.Proofs.Ytfpofegfbinalaa.Fx.Se
