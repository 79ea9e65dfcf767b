/- Package cross's order and its sort of a row of its own: which of two stands ahead; a row sorted, what is alike in its order. -/
import Derived.Test.YtfpofegfbinalaaGreatM02
import Derived.Test.YtfpofegfbinalaaGreatM34
namespace Go.Proofs.YtfpofegfbinalaaGreat.Fx
open Go.ChangeShapes Go.WideShapes Go.ChangeAt Go.RowKit Go.Sort
set_option linter.unusedVariables false
set_option maxRecDepth 100000

/-- Does a stand ahead of b? -/
def lessB (a b : Crs) : Bool :=
  if a.dst = b.dst then (if a.kind = b.kind then (if a.kind = 1 then decide (a.e.id < b.e.id) else if a.x = b.x then decide (a.y < b.y) else decide (a.x < b.x)) else decide (a.kind < b.kind)) else decide (a.dst < b.dst)

theorem lessB_iff (a b : Crs) : lessB a b = true ↔ (a.dst < b.dst ∨ a.dst = b.dst ∧ (a.kind < b.kind ∨ a.kind = b.kind ∧ (a.kind = 1 ∧ a.e.id < b.e.id ∨ a.kind ≠ 1 ∧ (a.x < b.x ∨ a.x = b.x ∧ a.y < b.y)))) := by
  unfold lessB
  repeat' split
  all_goals (simp only [decide_eq_true_eq]; omega)

theorem lessB_no (a b : Crs) : lessB a b = false ↔ ¬ (a.dst < b.dst ∨ a.dst = b.dst ∧ (a.kind < b.kind ∨ a.kind = b.kind ∧ (a.kind = 1 ∧ a.e.id < b.e.id ∨ a.kind ≠ 1 ∧ (a.x < b.x ∨ a.x = b.x ∧ a.y < b.y)))) := by
  rw [← lessB_iff]; simp

theorem lessB_swo : SWO lessB where
  irrefl x := by rw [lessB_no]; omega
  trans x y z h1 h2 := by rw [lessB_iff] at *; omega
  ntrans x y z h1 h2 := by rw [lessB_no] at *; omega

/-- Less as a number. -/
def cmpC (a b : Crs) : Int := if lessB a b = true then -1 else if lessB b a = true then 1 else 0

theorem ltOf_cmpC : ltOf cmpC = lessB := by
  funext a b
  unfold ltOf cmpC
  cases h : lessB a b <;> cases h2 : lessB b a <;> simp

theorem grown2 (w : World) (a b : Obj) : (w.alloc a).alloc b = grow w (#[a] ++ #[b]) := by rw [alloc_eq_grow, alloc_eq_grow, grow_grow]

theorem below_grow0 (w : World) (os : Array Obj) : RowKit.Below w.heap.size w (grow w os) :=
  ⟨rfl, rfl, rfl, by rw [size_grow]; omega, fun k hk => heap_grow_old w os hk⟩

set_option maxHeartbeats 1000000 in
theorem less_grow (a b : Crs) (w : World) :
    Calls Tryz.prog 163 #[.agg #[.int .i64 a.kind, .int .i64 a.src, .int .i64 a.dst, .int .i64 a.frame, .int .i64 a.e.id, .int .i64 a.e.kind, .int .i64 a.e.x, .int .i64 a.e.y, .int .i64 a.e.vx, .int .i64 a.e.vy, .int .i64 a.e.health, .int .i64 a.e.age, .int .i64 a.e.owner, .int .i64 a.x, .int .i64 a.y], .agg #[.int .i64 b.kind, .int .i64 b.src, .int .i64 b.dst, .int .i64 b.frame, .int .i64 b.e.id, .int .i64 b.e.kind, .int .i64 b.e.x, .int .i64 b.e.y, .int .i64 b.e.vx, .int .i64 b.e.vy, .int .i64 b.e.health, .int .i64 b.e.age, .int .i64 b.e.owner, .int .i64 b.x, .int .i64 b.y]] w
      fun e w' => e = .returned (.bool (lessB a b)) ∧ ∃ os, w' = grow w os := by
  have HB := Lib.hid (lessB_iff a b)
  go_enter Tryz.func163, Tryz.ntmps163
  go_wp2
  all_goals go_ret
  all_goals (refine ⟨ret_bool ?_, _, grown2 _ _ _⟩; rw [HB.out]; simp only [bne_iff_ne, ne_eq, beq_iff_eq, bne_eq_false_iff_eq, beq_eq_false_iff_ne, decide_eq_true_eq] at *; omega)

set_option maxHeartbeats 1000000 in
theorem less_any (a b : Crs) (w : World) :
    Calls Tryz.prog 163 #[.agg #[.int .i64 a.kind, .int .i64 a.src, .int .i64 a.dst, .int .i64 a.frame, .int .i64 a.e.id, .int .i64 a.e.kind, .int .i64 a.e.x, .int .i64 a.e.y, .int .i64 a.e.vx, .int .i64 a.e.vy, .int .i64 a.e.health, .int .i64 a.e.age, .int .i64 a.e.owner, .int .i64 a.x, .int .i64 a.y], .agg #[.int .i64 b.kind, .int .i64 b.src, .int .i64 b.dst, .int .i64 b.frame, .int .i64 b.e.id, .int .i64 b.e.kind, .int .i64 b.e.x, .int .i64 b.e.y, .int .i64 b.e.vx, .int .i64 b.e.vy, .int .i64 b.e.health, .int .i64 b.e.age, .int .i64 b.e.owner, .int .i64 b.x, .int .i64 b.y]] w
      fun e w' => e = .returned (.bool (lessB a b)) ∧ RowKit.Below w.heap.size w w' :=
  (less_grow a b w).mono fun _ _ ⟨h, os, hw⟩ => ⟨h, by rw [hw]; exact below_grow0 w os⟩

set_option maxHeartbeats 1000000 in
theorem rless_any (a b : Crs) (w : World) :
    Calls Tryz.prog 128 #[.agg #[.int .i64 a.kind, .int .i64 a.src, .int .i64 a.dst, .int .i64 a.frame, .int .i64 a.e.id, .int .i64 a.e.kind, .int .i64 a.e.x, .int .i64 a.e.y, .int .i64 a.e.vx, .int .i64 a.e.vy, .int .i64 a.e.health, .int .i64 a.e.age, .int .i64 a.e.owner, .int .i64 a.x, .int .i64 a.y], .agg #[.int .i64 b.kind, .int .i64 b.src, .int .i64 b.dst, .int .i64 b.frame, .int .i64 b.e.id, .int .i64 b.e.kind, .int .i64 b.e.x, .int .i64 b.e.y, .int .i64 b.e.vx, .int .i64 b.e.vy, .int .i64 b.e.health, .int .i64 b.e.age, .int .i64 b.e.owner, .int .i64 b.x, .int .i64 b.y]] w
      fun e w' => e = .returned (.bool (lessB a b)) ∧ RowKit.Below w.heap.size w w' := by
  have HB := Lib.hid (lessB_iff a b)
  go_enter Tryz.func128, Tryz.ntmps128
  go_wp2
  all_goals go_ret
  all_goals (refine ⟨ret_bool ?_, ((Below.refl _ _).alloc (Nat.le_refl _) _).alloc (by simp) _⟩; rw [HB.out]; simp only [bne_iff_ne, ne_eq, beq_iff_eq, bne_eq_false_iff_eq, beq_eq_false_iff_ne, decide_eq_true_eq] at *; omega)

set_option maxHeartbeats 1000000 in
theorem order_any (a b : Crs) (w : World) :
    Calls Tryz.prog 113 #[.agg #[.int .i64 a.kind, .int .i64 a.src, .int .i64 a.dst, .int .i64 a.frame, .int .i64 a.e.id, .int .i64 a.e.kind, .int .i64 a.e.x, .int .i64 a.e.y, .int .i64 a.e.vx, .int .i64 a.e.vy, .int .i64 a.e.health, .int .i64 a.e.age, .int .i64 a.e.owner, .int .i64 a.x, .int .i64 a.y], .agg #[.int .i64 b.kind, .int .i64 b.src, .int .i64 b.dst, .int .i64 b.frame, .int .i64 b.e.id, .int .i64 b.e.kind, .int .i64 b.e.x, .int .i64 b.e.y, .int .i64 b.e.vx, .int .i64 b.e.vy, .int .i64 b.e.health, .int .i64 b.e.age, .int .i64 b.e.owner, .int .i64 b.x, .int .i64 b.y]] w
      fun e w' => e = .returned (.int .i64 (cmpC a b)) ∧ ∃ os, w' = grow w os := by
  have HL := Lib.hid less_grow
  obtain ⟨x, hx⟩ : ∃ x, lessB a b = x := ⟨_, rfl⟩
  obtain ⟨y, hy⟩ : ∃ y, lessB b a = y := ⟨_, rfl⟩
  have hc : cmpC a b = if x = true then -1 else if y = true then 1 else 0 := by unfold cmpC; rw [hx, hy]
  rw [hc]
  clear hc
  have H1 := Lib.hid (fun W => by have := HL.out a b W; rw [hx] at this; exact this)
  have H2 := Lib.hid (fun W => by have := HL.out b a W; rw [hy] at this; exact this)
  clear hx hy HL
  go_enter Tryz.func113, Tryz.ntmps113
  go_wp2_with fail
  refine (H1.out _).mono ?_
  rintro e w1 ⟨rfl, os1, hw1⟩
  rw [grown2, grow_grow] at hw1
  have W1 := Lib.hid hw1
  cases x
  · skip
    have c0 : w1.cell? ⟨w.heap.size, 0, none⟩ = some (.int .i64 a.kind) := by rw [W1.out, ← grow_grow, cell?_grow _ _ _ (by simp), ← grown2]; simp
    have c1 : w1.cell? ⟨w.heap.size, 1, none⟩ = some (.int .i64 a.src) := by rw [W1.out, ← grow_grow, cell?_grow _ _ _ (by simp), ← grown2]; simp
    have c2 : w1.cell? ⟨w.heap.size, 2, none⟩ = some (.int .i64 a.dst) := by rw [W1.out, ← grow_grow, cell?_grow _ _ _ (by simp), ← grown2]; simp
    have c3 : w1.cell? ⟨w.heap.size, 3, none⟩ = some (.int .i64 a.frame) := by rw [W1.out, ← grow_grow, cell?_grow _ _ _ (by simp), ← grown2]; simp
    have c4 : w1.cell? ⟨w.heap.size, 4, none⟩ = some (.int .i64 a.e.id) := by rw [W1.out, ← grow_grow, cell?_grow _ _ _ (by simp), ← grown2]; simp
    have c5 : w1.cell? ⟨w.heap.size, 5, none⟩ = some (.int .i64 a.e.kind) := by rw [W1.out, ← grow_grow, cell?_grow _ _ _ (by simp), ← grown2]; simp
    have c6 : w1.cell? ⟨w.heap.size, 6, none⟩ = some (.int .i64 a.e.x) := by rw [W1.out, ← grow_grow, cell?_grow _ _ _ (by simp), ← grown2]; simp
    have c7 : w1.cell? ⟨w.heap.size, 7, none⟩ = some (.int .i64 a.e.y) := by rw [W1.out, ← grow_grow, cell?_grow _ _ _ (by simp), ← grown2]; simp
    have c8 : w1.cell? ⟨w.heap.size, 8, none⟩ = some (.int .i64 a.e.vx) := by rw [W1.out, ← grow_grow, cell?_grow _ _ _ (by simp), ← grown2]; simp
    have c9 : w1.cell? ⟨w.heap.size, 9, none⟩ = some (.int .i64 a.e.vy) := by rw [W1.out, ← grow_grow, cell?_grow _ _ _ (by simp), ← grown2]; simp
    have c10 : w1.cell? ⟨w.heap.size, 10, none⟩ = some (.int .i64 a.e.health) := by rw [W1.out, ← grow_grow, cell?_grow _ _ _ (by simp), ← grown2]; simp
    have c11 : w1.cell? ⟨w.heap.size, 11, none⟩ = some (.int .i64 a.e.age) := by rw [W1.out, ← grow_grow, cell?_grow _ _ _ (by simp), ← grown2]; simp
    have c12 : w1.cell? ⟨w.heap.size, 12, none⟩ = some (.int .i64 a.e.owner) := by rw [W1.out, ← grow_grow, cell?_grow _ _ _ (by simp), ← grown2]; simp
    have c13 : w1.cell? ⟨w.heap.size, 13, none⟩ = some (.int .i64 a.x) := by rw [W1.out, ← grow_grow, cell?_grow _ _ _ (by simp), ← grown2]; simp
    have c14 : w1.cell? ⟨w.heap.size, 14, none⟩ = some (.int .i64 a.y) := by rw [W1.out, ← grow_grow, cell?_grow _ _ _ (by simp), ← grown2]; simp
    have d0 : w1.cell? ⟨w.heap.size + 1, 0, none⟩ = some (.int .i64 b.kind) := by rw [W1.out, ← grow_grow, cell?_grow _ _ _ (by simp), ← grown2]; simp
    have d1 : w1.cell? ⟨w.heap.size + 1, 1, none⟩ = some (.int .i64 b.src) := by rw [W1.out, ← grow_grow, cell?_grow _ _ _ (by simp), ← grown2]; simp
    have d2 : w1.cell? ⟨w.heap.size + 1, 2, none⟩ = some (.int .i64 b.dst) := by rw [W1.out, ← grow_grow, cell?_grow _ _ _ (by simp), ← grown2]; simp
    have d3 : w1.cell? ⟨w.heap.size + 1, 3, none⟩ = some (.int .i64 b.frame) := by rw [W1.out, ← grow_grow, cell?_grow _ _ _ (by simp), ← grown2]; simp
    have d4 : w1.cell? ⟨w.heap.size + 1, 4, none⟩ = some (.int .i64 b.e.id) := by rw [W1.out, ← grow_grow, cell?_grow _ _ _ (by simp), ← grown2]; simp
    have d5 : w1.cell? ⟨w.heap.size + 1, 5, none⟩ = some (.int .i64 b.e.kind) := by rw [W1.out, ← grow_grow, cell?_grow _ _ _ (by simp), ← grown2]; simp
    have d6 : w1.cell? ⟨w.heap.size + 1, 6, none⟩ = some (.int .i64 b.e.x) := by rw [W1.out, ← grow_grow, cell?_grow _ _ _ (by simp), ← grown2]; simp
    have d7 : w1.cell? ⟨w.heap.size + 1, 7, none⟩ = some (.int .i64 b.e.y) := by rw [W1.out, ← grow_grow, cell?_grow _ _ _ (by simp), ← grown2]; simp
    have d8 : w1.cell? ⟨w.heap.size + 1, 8, none⟩ = some (.int .i64 b.e.vx) := by rw [W1.out, ← grow_grow, cell?_grow _ _ _ (by simp), ← grown2]; simp
    have d9 : w1.cell? ⟨w.heap.size + 1, 9, none⟩ = some (.int .i64 b.e.vy) := by rw [W1.out, ← grow_grow, cell?_grow _ _ _ (by simp), ← grown2]; simp
    have d10 : w1.cell? ⟨w.heap.size + 1, 10, none⟩ = some (.int .i64 b.e.health) := by rw [W1.out, ← grow_grow, cell?_grow _ _ _ (by simp), ← grown2]; simp
    have d11 : w1.cell? ⟨w.heap.size + 1, 11, none⟩ = some (.int .i64 b.e.age) := by rw [W1.out, ← grow_grow, cell?_grow _ _ _ (by simp), ← grown2]; simp
    have d12 : w1.cell? ⟨w.heap.size + 1, 12, none⟩ = some (.int .i64 b.e.owner) := by rw [W1.out, ← grow_grow, cell?_grow _ _ _ (by simp), ← grown2]; simp
    have d13 : w1.cell? ⟨w.heap.size + 1, 13, none⟩ = some (.int .i64 b.x) := by rw [W1.out, ← grow_grow, cell?_grow _ _ _ (by simp), ← grown2]; simp
    have d14 : w1.cell? ⟨w.heap.size + 1, 14, none⟩ = some (.int .i64 b.y) := by rw [W1.out, ← grow_grow, cell?_grow _ _ _ (by simp), ← grown2]; simp
    clear hw1
    go_wp2_with fail
    refine (H2.out _).mono ?_
    rintro e w2 ⟨rfl, os2, hw2⟩
    rw [W1.out, grow_grow] at hw2
    have W2 := Lib.hid hw2
    clear hw2
    cases y
    · go_wp2
      go_ret
      exact ⟨rfl, _, W2.out⟩
    · go_wp2
      go_ret
      exact ⟨rfl, _, W2.out⟩
  · clear hw1
    go_wp2
    go_ret
    exact ⟨rfl, _, W1.out⟩

/-- The program bears the sort's bodies. -/
theorem stP : StP Tryz.prog 15 where
  mixed := by kernel_rfl
  t0 := Tryz.underlying0
  a0 := Tryz.isAgg0
  z0 := Tryz.sizeOf0
  v0 := Tryz.zeroValue0
  t3 := Tryz.underlying3
  a3 := Tryz.isAgg3
  z3 := Tryz.sizeOf3
  v3 := Tryz.zeroValue3
  t4 := Tryz.underlying4
  a4 := Tryz.isAgg4
  z4 := Tryz.sizeOf4
  v4 := Tryz.zeroValue4
  t5 := Tryz.underlying57
  a5 := Tryz.isAgg57
  z5 := Tryz.sizeOf57
  v5 := Tryz.zeroValue57
  t6 := Tryz.underlying51
  a6 := Tryz.isAgg51
  z6 := Tryz.sizeOf51
  v6 := Tryz.zeroValue51
  t7 := Tryz.underlying141
  a7 := Tryz.isAgg141
  z7 := Tryz.sizeOf141
  v7 := Tryz.zeroValue141
  aE := Tryz.isAgg50
  zE := Tryz.sizeOf50
  swaps := Tryz.func205
  ins := Tryz.func192
  rot := Tryz.func202
  sym := Tryz.func193
  stb := Tryz.func162
  top := Tryz.func112

theorem order_lays (blk off size : Nat) (w : World) : CmpLays Tryz.prog 113 #[] crsC 15 cmpC blk off size w :=
  fun m os dk _ x y => (order_any x y _).mono fun _ _ ⟨he, os', hw⟩ => ⟨he, 0, os', hw⟩

theorem flat_row {α : Type} [Inhabited α] (enc : α → List Value) (k : Nat) (hk : ∀ x, (enc x).length = k) (l : List α) : flatK enc k l.toArray = (l.flatMap enc).toArray := by
  have hlen : (l.flatMap enc).length = l.length * k := flat_len enc k hk l
  refine ext_get! (by simp [hlen]) fun t ht => ?_
  have ht' : t < l.length * k := by simpa using ht
  have k0 : 0 < k := by
    rcases Nat.eq_zero_or_pos k with h | h
    · subst h; simp at ht'
    · exact h
  have hd : t / k < l.length := (Nat.div_lt_iff_lt_mul k0).2 ht'
  have hm : t % k < k := Nat.mod_lt _ k0
  rw [get_flatK _ _ _ t (by simpa using ht')]
  have hg := flat_get enc k hk l (t / k) (t % k) hm
  rw [Nat.div_add_mod'] at hg
  have h1 : l[t / k]? = some l[t / k] := List.getElem?_eq_getElem hd
  rw [h1] at hg
  simp only [Option.bind_some] at hg
  have h2 : (enc l[t / k])[t % k]? = some (enc l[t / k])[t % k]! := by
    rw [List.getElem?_eq_getElem (by rw [hk]; exact hm), getElem!_pos _ _ (by rw [hk]; exact hm)]
  rw [h2] at hg
  have h3 : l.toArray[t / k]! = l[t / k] := by simp [hd]
  rw [h3]
  have h4 : (l.flatMap enc).toArray[t]! = (l.flatMap enc)[t]! := by simp
  rw [h4, show (l.flatMap enc)[t]! = ((l.flatMap enc)[t]?).getD default from List.getElem!_eq_getElem?_getD, hg]
  rfl

/-- A row of the call's own, as the sort wants it. -/
theorem own_row {w : World} {base t g cap : Nat} {l : List Crs} (h : w.ownsRow base t 15 (.slice (some ⟨g, 0, none⟩) l.length cap) l.length (l.flatMap crsC)) : RowK crsC 15 w g 0 l.toArray := by
  obtain ⟨cur, hb, hs, -, hc⟩ := Blk.of_own h
  refine ⟨crsC_len, crsC_one, ?_, hb.lt⟩
  unfold HoldsK
  rw [flat_row crsC 15 crsC_len]
  intro j hj
  have hj' : j < (l.flatMap crsC).length := by simpa using hj
  refine ⟨?_, ?_⟩
  · rw [Nat.zero_add, hb.cell]
    have := hc j _ (List.getElem?_eq_getElem hj')
    rw [this, getElem!_pos _ _ (by simpa using hj')]
    simp
  · rw [Nat.zero_add]; exact hb.frozen j

theorem heap_putRow (w : World) (m g : Nat) (F : Array Value) (os : Array Obj) (t : TypeId) (cur : Array Value) (h : Blk w g t cur) : ∃ cur', Blk (grow (putRow id (Sort.ahead w m) g 0 F) os) g t cur' ∧ cur'.size = cur.size := by
  refine ⟨putCells id 0 F cur, ?_, by simp [putCells]⟩
  have hlt := h.lt
  unfold Blk at h ⊢
  rw [heap_grow_old _ _ (by rw [size_putRow]; exact hlt)]
  unfold putRow mapBlock
  simp only [heap_ahead]
  rw [Array.getElem?_modify, if_pos rfl, h]
  rfl

/-- What the sort leaves: the row sorted; all else as it was. -/
theorem own_sorted {w w' : World} {base t g cap : Nat} {l l' : List Crs} {d' : Array Crs} (h : w.ownsRow base t 15 (.slice (some ⟨g, 0, none⟩) l.length cap) l.length (l.flatMap crsC)) (hd : d'.toList = l') (hl : l'.length = l.length)
    (hS : SWK crsC 15 w g 0 d' w') : w'.ownsRow base t 15 (.slice (some ⟨g, 0, none⟩) l'.length cap) l'.length (l'.flatMap crsC) ∧ w.grownBy w' (some g) := by
  have R := own_row h
  have hds : d'.size = l.toArray.size := by rw [len_of hd]; simpa using hl
  have hH := hS.holds R.hblk R.hH hds
  obtain ⟨m, os, rfl⟩ := hS
  constructor
  · obtain ⟨cur, hb, hs, hbase, hc⟩ := Blk.of_own h
    obtain ⟨cur', hb', hs'⟩ := heap_putRow w m g (flatK crsC 15 d') os t cur hb
    refine ⟨crsC_length l', Or.inr ⟨g, cap, cur', rfl, hbase, hb', ?_, ?_, by rw [hs', hs], ?_⟩⟩
    · rcases h.2 with ⟨hv, _⟩ | ⟨g', cap', cur2, hv, _, _, hn, _⟩
      · cases hv
      · simp at hv; omega
    · rcases h.2 with ⟨hv, _⟩ | ⟨g', cap', cur2, hv, _, _, hn, hm, _⟩
      · cases hv
      · simp at hv; rw [hv.2]; exact hm
    · have hcap : l.length ≤ cap := by
        rcases h.2 with ⟨hv, _⟩ | ⟨g', cap', cur2, hv, _, _, hn, _⟩
        · cases hv
        · simp at hv; omega
      have hfl : flatK crsC 15 d' = (l'.flatMap crsC).toArray := by
        rw [← flat_row crsC 15 crsC_len, ← hd]
      apply List.ext_getElem?
      intro j
      rw [List.getElem?_take]
      have hlen := crsC_length l'
      split
      · have hj : j < (flatK crsC 15 d').size := by rw [hfl, List.size_toArray, hlen]; assumption
        have := (hH j hj).1
        have hc2 : (sortWorldK crsC 15 w g 0 m d' os).cell? ⟨g, j, none⟩ = cur'[j]? := hb'.cell j
        rw [Nat.zero_add, hc2, hfl] at this
        rw [Array.getElem?_toList, this]
        have hj2 : j < (l'.flatMap crsC).length := by omega
        rw [List.getElem?_eq_getElem hj2, getElem!_pos _ _ (by simpa using hj2)]
        simp
      · rw [List.getElem?_eq_none (by omega)]
  · refine ⟨rfl, rfl, rfl, ?_, fun k hk hne => ?_⟩
    · unfold sortWorldK putRowK
      rw [size_grow, size_putRow]; show w.heap.size ≤ w.heap.size + _; omega
    · unfold sortWorldK putRowK
      rw [heap_grow_old _ _ (by rw [size_putRow]; exact hk)]
      unfold putRow mapBlock
      simp only [heap_ahead]
      rw [Array.getElem?_modify, if_neg (fun h => hne (by rw [h]))]

theorem sort_nil (w : World) :
    Calls Tryz.prog 112 #[.slice none 0 0, .func (.func 113) #[] #[]] w fun e w' => e = .returned (.tuple #[]) ∧ w = w' := by
  have HI : ∀ W, Calls Tryz.prog 192 #[.slice none 0 0, .int .i64 0, .int .i64 0, .func (.func 113) #[] #[]] W fun e w' => e = .returned (.tuple #[]) ∧ W = w' := by
    intro W
    go_enter Tryz.func192, Tryz.ntmps192
    go_wp2
    refine wp_loop_rounds 1 ?_
    rw [rounds_succ]
    go_wp2
    go_end0
    exact ⟨rfl, rfl⟩
  have HS : ∀ W, Calls Tryz.prog 162 #[.slice none 0 0, .int .i64 0, .func (.func 113) #[] #[]] W fun e w' => e = .returned (.tuple #[]) ∧ W = w' := by
    intro W
    go_enter Tryz.func162, Tryz.ntmps162
    go_wp2
    refine wp_loop_rounds 1 ?_
    rw [rounds_succ]
    go_wp2_with (go_at_call 192; refine (HI _).mono ?_; rintro e w1 ⟨rfl, rfl⟩)
    refine wp_loop_rounds 1 ?_
    rw [rounds_succ]
    go_wp2
    go_end0
    exact ⟨rfl, rfl⟩
  go_enter Tryz.func112, Tryz.ntmps112
  go_wp2_with (go_at_call 162; refine (HS _).mono ?_; rintro e w1 ⟨rfl, rfl⟩)
  go_end0
  exact ⟨rfl, rfl⟩

/-- The sort of a row of the call's own. -/
theorem sort_own (v : Value) (l : List Crs) (base : Nat) (w : World) (hb : base ≤ w.heap.size) (ho : w.ownsRow base 50 15 v l.length (l.flatMap crsC)) (hn : l.length ≤ 1000000) :
    Calls Tryz.prog 112 #[v, .func (.func 113) #[] #[]] w fun e w' => e = .returned (.tuple #[]) ∧ w'.ownsRow base 50 15 v (st lessB l).length ((st lessB l).flatMap crsC) ∧ RowKit.Below base w w' := by
  rcases ho.2 with ⟨rfl, h0⟩ | ⟨g, cap, cur, rfl, hg, -⟩
  · refine (sort_nil w).mono ?_
    rintro e w' ⟨rfl, rfl⟩
    obtain rfl : l = [] := List.eq_nil_of_length_eq_zero h0
    exact ⟨rfl, ho, RowKit.Below.refl _ _⟩
  · have hS := sortStable_any stP crsC cmpC (by rw [ltOf_cmpC]; exact lessB_swo) 113 #[] g 0 cap l.toArray w (enters_of Tryz.func113 (by kernel_rfl) rfl) (order_lays _ _ _ _) (own_row ho) (by simp; omega)
    rw [ltOf_cmpC] at hS
    refine Calls.mono (by simpa using hS) ?_
    rintro e w' ⟨rfl, d', hd', hw'⟩
    have := own_sorted ho hd' (st_length _ _) hw'
    rw [st_length] at this ⊢
    exact ⟨rfl, this.1, (RowKit.Below.refl _ _).grown this.2 hb (fun k hk => by cases hk; exact hg)⟩

end Go.Proofs.YtfpofegfbinalaaGreat.Fx
