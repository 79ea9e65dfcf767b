/- What is read of bytes, plainly; that what was written is read. Entity: its values, its cells, when two are equal; slices of them. Cross: its values, its cells, when two are equal; slices of them. -/
import Derived.Test.YtlpkaljepaclpaaGreatM02
import Derived.Laws.Bits64b
import Derived.Laws.StructEq
namespace Go.Proofs.YtlpkaljepaclpaaGreat.Fx
open Go.ChangeShapes Go.WideShapes Go.ChangeAt Go.RowKit
set_option linter.unusedVariables false
set_option maxRecDepth 100000

/-- How many bytes the number at the beginning has, or 0. -/
def nlen (l : List Int) : Nat := match l.findIdx? (fun c => decide (c < 128)) with | some k => k + 1 | none => 0
/-- The number of such bytes. -/
def numV : List Int → Int
  | [] => 0
  | x :: r => x % 128 + 128 * numV r

/-- A reader: what is left, and what is wrong. -/
structure Rd where
  l : List Int
  e : Int

def Rd.int (r : Rd) : Int × Rd :=
  if r.e ≠ 0 then (0, r)
  else if nlen r.l = 0 then (0, ⟨[], 5⟩)
  else if 9 < nlen r.l ∨ (1 < nlen r.l ∧ gi r.l (nlen r.l - 1) = 0) then (0, ⟨[], 4⟩)
  else (zag (numV (r.l.take (nlen r.l))), ⟨r.l.drop (nlen r.l), 0⟩)

def Rd.count (r : Rd) (most : Int) : Int × Rd :=
  if r.int.2.e = 0 ∧ (r.int.1 < 0 ∨ most < r.int.1) then (0, ⟨[], 4⟩) else r.int

def Rd.raw (r : Rd) : List Int × Rd :=
  if r.int.2.e ≠ 0 then ([], r.int.2)
  else if r.int.1 < 0 then ([], ⟨[], 4⟩)
  else if (r.int.2.l.length : Int) < r.int.1 then ([], ⟨[], 5⟩)
  else (r.int.2.l.take r.int.1.toNat, ⟨r.int.2.l.drop r.int.1.toNat, 0⟩)

theorem nlen_le (l : List Int) : nlen l ≤ l.length := by
  unfold nlen
  cases h : l.findIdx? (fun c => decide (c < 128)) with
  | none => simp
  | some k =>
    have := (List.findIdx?_eq_some_iff_findIdx_eq.1 h).1
    show k + 1 ≤ _
    omega

theorem nlen_lt {x : Int} {r : List Int} (h : x < 128) : nlen (x :: r) = 1 := by simp [nlen, List.findIdx?_cons, h]
theorem nlen_ge {x : Int} {r : List Int} (h : ¬ x < 128) (hr : nlen r ≠ 0) : nlen (x :: r) = nlen r + 1 := by
  unfold nlen at *
  rw [List.findIdx?_cons, if_neg (by simpa using h)]
  cases h : r.findIdx? (fun c => decide (c < 128)) with
  | none => rw [h] at hr; simp at hr
  | some k => simp

theorem nlen_num (u : Nat) (r : List Int) : nlen (num u ++ r) = (num u).length := by
  induction u using Nat.strongRecOn with
  | _ u ih =>
    by_cases h : u < 128
    · rw [num_lt h, List.singleton_append, nlen_lt (by omega)]; rfl
    · rw [num_ge (by omega), List.cons_append, nlen_ge (by omega) (by rw [ih _ (by omega)]; have := num_pos (u / 128); omega), ih _ (by omega), List.length_cons]

theorem numV_num (u : Nat) : numV (num u) = u := by
  induction u using Nat.strongRecOn with
  | _ u ih =>
    by_cases h : u < 128
    · rw [num_lt h]; simp only [numV]; omega
    · rw [num_ge (by omega)]; simp only [numV]; rw [ih _ (by omega)]; omega

/-- The last byte of a number that has several is not 0. -/
theorem num_last (u : Nat) (h : 128 ≤ u) (r : List Int) : gi (num u ++ r) ((num u).length - 1) ≠ 0 := by
  induction u using Nat.strongRecOn with
  | _ u ih =>
    rw [num_ge h, List.cons_append, List.length_cons, Nat.add_sub_cancel]
    have hp := num_pos (u / 128)
    rw [show (num (u / 128)).length = ((num (u / 128)).length - 1) + 1 by omega]
    show gi _ _ ≠ 0
    rw [show gi (((u % 128 + 128 : Nat) : Int) :: (num (u / 128) ++ r)) ((num (u / 128)).length - 1 + 1) = gi (num (u / 128) ++ r) ((num (u / 128)).length - 1) from by simp [gi]]
    by_cases h2 : 128 ≤ u / 128
    · exact ih _ (by omega) h2
    · rw [num_lt (by omega)]
      simp [gi]
      omega

theorem num_one {u : Nat} (h : 1 < (num u).length) : 128 ≤ u := by
  apply Nat.le_of_not_lt
  intro hu
  rw [num_lt hu] at h
  simp at h

/-- What was written is read. -/
theorem int_nums (v : Int) (r : List Int) : (Rd.mk (nums v ++ r) 0).int = (hold v, ⟨r, 0⟩) := by
  have h9 := nums_len v
  have hz := zig_bd (hold_bd v)
  unfold nums at h9 ⊢
  unfold Rd.int
  simp only [nlen_num]
  rw [if_neg (by simp), if_neg (by omega), if_neg, List.take_left' rfl, List.drop_left' rfl, numV_num, Int.toNat_of_nonneg hz.1, zag_zig]
  rintro (h | ⟨h1, h2⟩)
  · omega
  · exact num_last _ (num_one h1) r h2

theorem numV_snoc (l : List Int) (x : Int) : numV (l ++ [x]) = numV l + 128 ^ l.length * (x % 128) := by
  induction l with
  | nil => simp [numV]
  | cons y l ih => rw [List.cons_append]; simp only [numV]; rw [ih, List.length_cons, Int.pow_succ]; grind

theorem numV_bd (l : List Int) : 0 ≤ numV l ∧ numV l < 128 ^ l.length := by
  induction l with
  | nil => simp [numV]
  | cons x l ih => simp only [numV]; rw [List.length_cons, Int.pow_succ]; omega

theorem or_i64_nat (a b : Nat) (ha : a < 9223372036854775808) (hb : b < 9223372036854775808) : bits .or .i64 (a : Int) (b : Int) = ((a ||| b : Nat) : Int) := by
  have hx : a ||| b < 2 ^ 63 := Nat.or_lt_two_pow (by omega) (by omega)
  have h1 : (BitVec.ofInt 64 (a : Int)).toNat = a := by
    rw [BitVec.ofInt_natCast, BitVec.toNat_ofNat]; exact Nat.mod_eq_of_lt (by omega)
  have h2 : (BitVec.ofInt 64 (b : Int)).toNat = b := by
    rw [BitVec.ofInt_natCast, BitVec.toNat_ofNat]; exact Nat.mod_eq_of_lt (by omega)
  show IntKind.i64.wrap ((BitVec.ofInt 64 (a : Int) ||| BitVec.ofInt 64 (b : Int)).toNat : Int) = _
  rw [BitVec.toNat_or, h1, h2, IntKind.wrap_i64]
  omega

/-- Seven bits more. -/
theorem or_seven (k : Nat) (hk : k ≤ 8) (s d : Int) (hs : 0 ≤ s ∧ s < 128 ^ k) (hd : 0 ≤ d ∧ d < 128) : bits .or .i64 s (wrap64 (d * 2 ^ (7 * k))) = s + 128 ^ k * d := by
  obtain ⟨a, rfl⟩ := Int.eq_ofNat_of_zero_le hs.1
  obtain ⟨e, rfl⟩ := Int.eq_ofNat_of_zero_le hd.1
  have hp : (128 : Nat) ^ k = 2 ^ (7 * k) := by rw [Nat.pow_mul]
  have hpi : (128 : Int) ^ k = ((2 ^ (7 * k) : Nat) : Int) := by rw [← hp]; simp
  have hpj : (2 : Int) ^ (7 * k) = ((2 ^ (7 * k) : Nat) : Int) := by simp
  rw [hpi] at hs ⊢
  rw [hpj]
  have hle : 2 ^ (7 * k) ≤ 2 ^ 56 := Nat.pow_le_pow_right (by omega) (by omega)
  generalize hP : 2 ^ (7 * k) = p at *
  have he : e * p < 9223372036854775808 := by
    have : e * p ≤ 127 * 2 ^ 56 := Nat.mul_le_mul (by omega) hle
    omega
  have ha : a < p := by omega
  have hw : wrap64 ((e : Int) * (p : Int)) = ((e * p : Nat) : Int) := by
    rw [show (e : Int) * (p : Int) = ((e * p : Nat) : Int) by simp]
    exact IntWalk.wrap64_in _ (by omega)
  rw [hw, or_i64_nat a (e * p) (by omega) he, Nat.or_comm, show e * p = e <<< (7 * k) by rw [Nat.shiftLeft_eq, hP], ← Nat.shiftLeft_add_eq_or_of_lt (by rw [hP]; exact ha), Nat.shiftLeft_eq, hP]
  simp
  grind

end Go.Proofs.YtlpkaljepaclpaaGreat.Fx
namespace Go.Proofs.YtlpkaljepaclpaaGreat.Fx
open Go.ChangeShapes Go.WideShapes Go.ChangeAt Go.RowKit
set_option linter.unusedVariables false
set_option maxRecDepth 100000

structure Ent where
  id : Int
  kind : Int
  x : Int
  y : Int
  vx : Int
  vy : Int
  health : Int
  age : Int
  owner : Int
  deriving DecidableEq

/-- Its cells. -/
def entC (e : Ent) : List Value := [.int .i64 e.id, .int .i64 e.kind, .int .i64 e.x, .int .i64 e.y, .int .i64 e.vx, .int .i64 e.vy, .int .i64 e.health, .int .i64 e.age, .int .i64 e.owner]

/-- Every number of it fits its kind. -/
def Ent.ok (e : Ent) : Prop := (Lit.int .i64 e.id).wf = true ∧ (Lit.int .i64 e.kind).wf = true ∧ (Lit.int .i64 e.x).wf = true ∧ (Lit.int .i64 e.y).wf = true ∧ (Lit.int .i64 e.vx).wf = true ∧ (Lit.int .i64 e.vy).wf = true ∧ (Lit.int .i64 e.health).wf = true ∧ (Lit.int .i64 e.age).wf = true ∧ (Lit.int .i64 e.owner).wf = true

instance : Inhabited Ent := ⟨⟨0, 0, 0, 0, 0, 0, 0, 0, 0⟩⟩

theorem entC_len (e : Ent) : (entC e).length = 9 := rfl

theorem entC_one (e : Ent) : ∀ u ∈ entC e, u.oneCell' = true := by simp [entC, Value.oneCell']

theorem entC_flat (es : List Ent) : ∀ u ∈ es.flatMap entC, u.oneCell' = true := by
  intro u hu
  obtain ⟨e, -, he⟩ := List.mem_flatMap.1 hu
  exact entC_one e u he

theorem entC_length (es : List Ent) : (es.flatMap entC).length = es.length * 9 := flat_len entC 9 entC_len es

theorem info_Ent : (Tryz.prog.info? 45).map (fun i => (i.zero, i.size, i.bytes)) = some (some (.agg #[.int .i64 0, .int .i64 0, .int .i64 0, .int .i64 0, .int .i64 0, .int .i64 0, .int .i64 0, .int .i64 0, .int .i64 0]), 9, 72) := by kernel_rfl

/-- Are two the same? -/
def eqEnt (a b : Ent) : Bool := decide (a = b)

@[go_sem] theorem eqEnt_self (a : Ent) : eqEnt a a = true := by simp [eqEnt]

theorem equal_Ent (a b : Ent) (w : World) : (Op.equalIn 10000 45 (.agg #[.int .i64 a.id, .int .i64 a.kind, .int .i64 a.x, .int .i64 a.y, .int .i64 a.vx, .int .i64 a.vy, .int .i64 a.health, .int .i64 a.age, .int .i64 a.owner]) (.agg #[.int .i64 b.id, .int .i64 b.kind, .int .i64 b.x, .int .i64 b.y, .int .i64 b.vx, .int .i64 b.vy, .int .i64 b.health, .int .i64 b.age, .int .i64 b.owner])).run Tryz.prog w = .ok (eqEnt a b) w := by
  have hS : Tryz.prog.underlying 45 = some (.struct (Tryz.prog.fieldsOf 45)) := by kernel_rfl
  have hp : Tryz.prog.stoodInHeld 45 = false := by kernel_rfl
  rw [show (10000 : Nat) = 9999 + 1 from rfl, run_equalIn_agg w 9999 45 _ _ hS hp]
  simp only [Program.fieldsOf, Tryz.underlying45]
  go_simp
  unfold eqEnt
  obtain ⟨a_id, a_kind, a_x, a_y, a_vx, a_vy, a_health, a_age, a_owner⟩ := a
  obtain ⟨b_id, b_kind, b_x, b_y, b_vx, b_vy, b_health, b_age, b_owner⟩ := b
  by_cases h0 : a_id = b_id
  rotate_left 1
  · simp [h0]
  by_cases h1 : a_kind = b_kind
  rotate_left 1
  · simp [h1, h0]
  by_cases h2 : a_x = b_x
  rotate_left 1
  · simp [h2, h0, h1]
  by_cases h3 : a_y = b_y
  rotate_left 1
  · simp [h3, h0, h1, h2]
  by_cases h4 : a_vx = b_vx
  rotate_left 1
  · simp [h4, h0, h1, h2, h3]
  by_cases h5 : a_vy = b_vy
  rotate_left 1
  · simp [h5, h0, h1, h2, h3, h4]
  by_cases h6 : a_health = b_health
  rotate_left 1
  · simp [h6, h0, h1, h2, h3, h4, h5]
  by_cases h7 : a_age = b_age
  rotate_left 1
  · simp [h7, h0, h1, h2, h3, h4, h5, h6]
  by_cases h8 : a_owner = b_owner
  rotate_left 1
  · simp [h8, h0, h1, h2, h3, h4, h5, h6, h7]
  subst h0 h1 h2 h3 h4 h5 h6 h7 h8
  simp

@[go_sem high] theorem eql_Ent (a b : Ent) (w : World) : (binOp .eql 45 (.agg #[.int .i64 a.id, .int .i64 a.kind, .int .i64 a.x, .int .i64 a.y, .int .i64 a.vx, .int .i64 a.vy, .int .i64 a.health, .int .i64 a.age, .int .i64 a.owner]) (.agg #[.int .i64 b.id, .int .i64 b.kind, .int .i64 b.x, .int .i64 b.y, .int .i64 b.vx, .int .i64 b.vy, .int .i64 b.health, .int .i64 b.age, .int .i64 b.owner])).run Tryz.prog w = .ok (.bool (eqEnt a b)) w := by
  rw [run_eql_struct, equal_Ent]; rfl

@[go_sem high] theorem neq_Ent (a b : Ent) (w : World) : (binOp .neq 45 (.agg #[.int .i64 a.id, .int .i64 a.kind, .int .i64 a.x, .int .i64 a.y, .int .i64 a.vx, .int .i64 a.vy, .int .i64 a.health, .int .i64 a.age, .int .i64 a.owner]) (.agg #[.int .i64 b.id, .int .i64 b.kind, .int .i64 b.x, .int .i64 b.y, .int .i64 b.vx, .int .i64 b.vy, .int .i64 b.health, .int .i64 b.age, .int .i64 b.owner])).run Tryz.prog w = .ok (.bool (!eqEnt a b)) w := by
  rw [run_neq_struct, equal_Ent]; rfl

/-- The cells of an element. -/
theorem elem_Ent {w : World} {A : Option Addr} {es : List Ent} (h : CellsAt w A (es.flatMap entC)) {k : Nat} {e : Ent} (hk : es[k]? = some e) :
    ∃ b off, A = some ⟨b, off, none⟩ ∧ (w.cell? ⟨b, off + k * 9, none⟩ = some (.int .i64 e.id) ∧ w.cell? ⟨b, off + k * 9 + 1, none⟩ = some (.int .i64 e.kind) ∧ w.cell? ⟨b, off + k * 9 + 2, none⟩ = some (.int .i64 e.x) ∧ w.cell? ⟨b, off + k * 9 + 3, none⟩ = some (.int .i64 e.y) ∧ w.cell? ⟨b, off + k * 9 + 4, none⟩ = some (.int .i64 e.vx) ∧ w.cell? ⟨b, off + k * 9 + 5, none⟩ = some (.int .i64 e.vy) ∧ w.cell? ⟨b, off + k * 9 + 6, none⟩ = some (.int .i64 e.health) ∧ w.cell? ⟨b, off + k * 9 + 7, none⟩ = some (.int .i64 e.age) ∧ w.cell? ⟨b, off + k * 9 + 8, none⟩ = some (.int .i64 e.owner)) := by
  obtain ⟨b, off, hA, hc⟩ := h.elem 9 entC_len (by omega) hk
  exact ⟨b, off, hA, hc 0 _ rfl, hc 1 _ rfl, hc 2 _ rfl, hc 3 _ rfl, hc 4 _ rfl, hc 5 _ rfl, hc 6 _ rfl, hc 7 _ rfl, hc 8 _ rfl⟩

/-- 'append' of a list to a row of the call's own. -/
theorem app_Ent {w : World} {o : Oper} {a : Act} {K : Act → World → Prop} {Q : Exit → Act → World → Prop} (s x : Operand)
    (ho : o.op = .call { callee := .builtin .append, args := #[s, x], argTypes := #[46, 46] }) (base : Nat) (v : Value) (es : List Ent) (hs : a.eval s = v) (hown : w.ownsRow base 45 9 v es.length (es.flatMap entC))
    (u : Value) (fs : List Ent) (hx : a.eval x = u) (hu : IsSl entC w u fs) (hlen : es.length + fs.length ≤ 1000000000) (hbase : base ≤ w.heap.size)
    (h : ∀ v' w', w'.ownsRow base 45 9 v' (es ++ fs).length ((es ++ fs).flatMap entC) → Below base w w' → w.grownBy w' v.ownBlock → K (a.put o.dst v') w') : o.wp Tryz.prog a w K Q := by
  obtain ⟨i0, hi, hz0, hz1, hz2⟩ := info_parts info_Ent
  obtain ⟨A, c, rfl, hA, hc, hat⟩ := hu
  exact wp_app s x 46 ho base 45 i0 _ 9 72 Tryz.underlying46 hi hz0 hz1 hz2 rfl (by omega) v es.length _ hs hown A fs.length c (fs.flatMap entC) hx (entC_length fs) hA hat.cells (entC_flat fs) (by unfold maxLen; omega) (by omega) hbase
    fun v' w' h1 h2 h3 => h v' w' (by rw [List.length_append, List.flatMap_append]; exact h1) h2 h3

theorem appL_Ent {w : World} {ops : Array Oper} {rest : List Oper} {o : Oper} {a : Act} {Q : Exit → Act → World → Prop} (hgd : o.guard = none) (s x : Operand)
    (ho : o.op = .call { callee := .builtin .append, args := #[s, x], argTypes := #[46, 46] }) (base : Nat) (v : Value) (es : List Ent) (hs : a.eval s = v) (hown : w.ownsRow base 45 9 v es.length (es.flatMap entC))
    (u : Value) (fs : List Ent) (hx : a.eval x = u) (hu : IsSl entC w u fs) (hlen : es.length + fs.length ≤ 1000000000) (hbase : base ≤ w.heap.size)
    (h : ∀ v' w', w'.ownsRow base 45 9 v' (es ++ fs).length ((es ++ fs).flatMap entC) → Below base w w' → w.grownBy w' v.ownBlock → wpList Tryz.prog ops Q rest (a.put o.dst v') w') : wpList Tryz.prog ops Q (o :: rest) a w :=
  wpList_plain hgd fun _ hK => app_Ent s x ho base v es hs hown u fs hx hu hlen hbase fun v' w' h1 h2 h3 => hK _ _ (h v' w' h1 h2 h3)

/-- One that was built in a new block. -/
theorem one_Ent (w : World) (e : Ent) (g c : Nat) (hg : g = w.heap.size) (hc : 1 ≤ c) : IsSl entC (w.alloc (.cells (entC e).toArray 45)) (.slice (some ⟨g, 0, none⟩) 1 c) [e] := by
  subst hg
  refine ⟨_, _, rfl, fun h => (by cases h), hc, fun _ => ⟨_, _, rfl, fun i v hv => ?_⟩⟩
  rw [Nat.zero_add, World.cell?_alloc_new]
  simpa using hv

@[go_sem high] theorem slTo_Ent (A : Option Addr) (n c : Nat) (h : Int) (h0 : 0 ≤ h) (h2 : h ≤ c) (w : World) : (Instr.slice 46 (.slice A n c) none (some (.int .i64 h)) none).run Tryz.prog w = .ok (slTo 9 (.slice A n c) h.toNat) w := by
  rw [run_slice_h _ _ _ _ _ (by kernel_rfl) _ _ h0 h2]
  rw [show Tryz.prog.elem 46 = 45 by kernel_rfl, Tryz.sizeOf45]
  rfl

@[go_sem high] theorem slFrom_Ent (A : Option Addr) (n c : Nat) (h : Int) (h0 : 0 ≤ h) (h2 : h ≤ n) (w : World) : (Instr.slice 46 (.slice A n c) (some (.int .i64 h)) none none).run Tryz.prog w = .ok (slFrom 9 (.slice A n c) h.toNat) w := by
  rw [run_slice_l _ _ _ _ _ (by kernel_rfl) _ _ h0 h2]
  rw [show Tryz.prog.elem 46 = 45 by kernel_rfl, Tryz.sizeOf45]
  rfl

end Go.Proofs.YtlpkaljepaclpaaGreat.Fx
namespace Go.Proofs.YtlpkaljepaclpaaGreat.Fx
open Go.ChangeShapes Go.WideShapes Go.ChangeAt Go.RowKit
set_option linter.unusedVariables false
set_option maxRecDepth 100000

structure Crs where
  kind : Int
  src : Int
  dst : Int
  frame : Int
  e : Ent
  x : Int
  y : Int
  deriving DecidableEq

/-- Its cells. -/
def crsC (e : Crs) : List Value := [.int .i64 e.kind, .int .i64 e.src, .int .i64 e.dst, .int .i64 e.frame, .int .i64 e.e.id, .int .i64 e.e.kind, .int .i64 e.e.x, .int .i64 e.e.y, .int .i64 e.e.vx, .int .i64 e.e.vy, .int .i64 e.e.health, .int .i64 e.e.age, .int .i64 e.e.owner, .int .i64 e.x, .int .i64 e.y]

/-- Every number of it fits its kind. -/
def Crs.ok (e : Crs) : Prop := (Lit.int .i64 e.kind).wf = true ∧ (Lit.int .i64 e.src).wf = true ∧ (Lit.int .i64 e.dst).wf = true ∧ (Lit.int .i64 e.frame).wf = true ∧ (Lit.int .i64 e.e.id).wf = true ∧ (Lit.int .i64 e.e.kind).wf = true ∧ (Lit.int .i64 e.e.x).wf = true ∧ (Lit.int .i64 e.e.y).wf = true ∧ (Lit.int .i64 e.e.vx).wf = true ∧ (Lit.int .i64 e.e.vy).wf = true ∧ (Lit.int .i64 e.e.health).wf = true ∧ (Lit.int .i64 e.e.age).wf = true ∧ (Lit.int .i64 e.e.owner).wf = true ∧ (Lit.int .i64 e.x).wf = true ∧ (Lit.int .i64 e.y).wf = true

instance : Inhabited Crs := ⟨⟨0, 0, 0, 0, ⟨0, 0, 0, 0, 0, 0, 0, 0, 0⟩, 0, 0⟩⟩

theorem crsC_len (e : Crs) : (crsC e).length = 15 := rfl

theorem crsC_one (e : Crs) : ∀ u ∈ crsC e, u.oneCell' = true := by simp [crsC, Value.oneCell']

theorem crsC_flat (es : List Crs) : ∀ u ∈ es.flatMap crsC, u.oneCell' = true := by
  intro u hu
  obtain ⟨e, -, he⟩ := List.mem_flatMap.1 hu
  exact crsC_one e u he

theorem crsC_length (es : List Crs) : (es.flatMap crsC).length = es.length * 15 := flat_len crsC 15 crsC_len es

theorem info_Crs : (Tryz.prog.info? 50).map (fun i => (i.zero, i.size, i.bytes)) = some (some (.agg #[.int .i64 0, .int .i64 0, .int .i64 0, .int .i64 0, .int .i64 0, .int .i64 0, .int .i64 0, .int .i64 0, .int .i64 0, .int .i64 0, .int .i64 0, .int .i64 0, .int .i64 0, .int .i64 0, .int .i64 0]), 15, 120) := by kernel_rfl

/-- Are two the same? -/
def eqCrs (a b : Crs) : Bool := decide (a = b)

@[go_sem] theorem eqCrs_self (a : Crs) : eqCrs a a = true := by simp [eqCrs]

theorem equal_Crs (a b : Crs) (w : World) : (Op.equalIn 10000 50 (.agg #[.int .i64 a.kind, .int .i64 a.src, .int .i64 a.dst, .int .i64 a.frame, .int .i64 a.e.id, .int .i64 a.e.kind, .int .i64 a.e.x, .int .i64 a.e.y, .int .i64 a.e.vx, .int .i64 a.e.vy, .int .i64 a.e.health, .int .i64 a.e.age, .int .i64 a.e.owner, .int .i64 a.x, .int .i64 a.y]) (.agg #[.int .i64 b.kind, .int .i64 b.src, .int .i64 b.dst, .int .i64 b.frame, .int .i64 b.e.id, .int .i64 b.e.kind, .int .i64 b.e.x, .int .i64 b.e.y, .int .i64 b.e.vx, .int .i64 b.e.vy, .int .i64 b.e.health, .int .i64 b.e.age, .int .i64 b.e.owner, .int .i64 b.x, .int .i64 b.y])).run Tryz.prog w = .ok (eqCrs a b) w := by
  have hS : Tryz.prog.underlying 50 = some (.struct (Tryz.prog.fieldsOf 50)) := by kernel_rfl
  have hp : Tryz.prog.stoodInHeld 50 = false := by kernel_rfl
  rw [show (10000 : Nat) = 9999 + 1 from rfl, run_equalIn_agg w 9999 50 _ _ hS hp]
  simp only [Program.fieldsOf, Tryz.underlying50]
  go_simp
  unfold eqCrs
  obtain ⟨a_kind, a_src, a_dst, a_frame, ⟨a_e_id, a_e_kind, a_e_x, a_e_y, a_e_vx, a_e_vy, a_e_health, a_e_age, a_e_owner⟩, a_x, a_y⟩ := a
  obtain ⟨b_kind, b_src, b_dst, b_frame, ⟨b_e_id, b_e_kind, b_e_x, b_e_y, b_e_vx, b_e_vy, b_e_health, b_e_age, b_e_owner⟩, b_x, b_y⟩ := b
  by_cases h0 : a_kind = b_kind
  rotate_left 1
  · simp [h0]
  by_cases h1 : a_src = b_src
  rotate_left 1
  · simp [h1, h0]
  by_cases h2 : a_dst = b_dst
  rotate_left 1
  · simp [h2, h0, h1]
  by_cases h3 : a_frame = b_frame
  rotate_left 1
  · simp [h3, h0, h1, h2]
  by_cases h4 : a_e_id = b_e_id
  rotate_left 1
  · simp [h4, h0, h1, h2, h3]
  by_cases h5 : a_e_kind = b_e_kind
  rotate_left 1
  · simp [h5, h0, h1, h2, h3, h4]
  by_cases h6 : a_e_x = b_e_x
  rotate_left 1
  · simp [h6, h0, h1, h2, h3, h4, h5]
  by_cases h7 : a_e_y = b_e_y
  rotate_left 1
  · simp [h7, h0, h1, h2, h3, h4, h5, h6]
  by_cases h8 : a_e_vx = b_e_vx
  rotate_left 1
  · simp [h8, h0, h1, h2, h3, h4, h5, h6, h7]
  by_cases h9 : a_e_vy = b_e_vy
  rotate_left 1
  · simp [h9, h0, h1, h2, h3, h4, h5, h6, h7, h8]
  by_cases h10 : a_e_health = b_e_health
  rotate_left 1
  · simp [h10, h0, h1, h2, h3, h4, h5, h6, h7, h8, h9]
  by_cases h11 : a_e_age = b_e_age
  rotate_left 1
  · simp [h11, h0, h1, h2, h3, h4, h5, h6, h7, h8, h9, h10]
  by_cases h12 : a_e_owner = b_e_owner
  rotate_left 1
  · simp [h12, h0, h1, h2, h3, h4, h5, h6, h7, h8, h9, h10, h11]
  by_cases h13 : a_x = b_x
  rotate_left 1
  · simp [h13, h0, h1, h2, h3, h4, h5, h6, h7, h8, h9, h10, h11, h12]
  by_cases h14 : a_y = b_y
  rotate_left 1
  · simp [h14, h0, h1, h2, h3, h4, h5, h6, h7, h8, h9, h10, h11, h12, h13]
  subst h0 h1 h2 h3 h4 h5 h6 h7 h8 h9 h10 h11 h12 h13 h14
  simp

@[go_sem high] theorem eql_Crs (a b : Crs) (w : World) : (binOp .eql 50 (.agg #[.int .i64 a.kind, .int .i64 a.src, .int .i64 a.dst, .int .i64 a.frame, .int .i64 a.e.id, .int .i64 a.e.kind, .int .i64 a.e.x, .int .i64 a.e.y, .int .i64 a.e.vx, .int .i64 a.e.vy, .int .i64 a.e.health, .int .i64 a.e.age, .int .i64 a.e.owner, .int .i64 a.x, .int .i64 a.y]) (.agg #[.int .i64 b.kind, .int .i64 b.src, .int .i64 b.dst, .int .i64 b.frame, .int .i64 b.e.id, .int .i64 b.e.kind, .int .i64 b.e.x, .int .i64 b.e.y, .int .i64 b.e.vx, .int .i64 b.e.vy, .int .i64 b.e.health, .int .i64 b.e.age, .int .i64 b.e.owner, .int .i64 b.x, .int .i64 b.y])).run Tryz.prog w = .ok (.bool (eqCrs a b)) w := by
  rw [run_eql_struct, equal_Crs]; rfl

@[go_sem high] theorem neq_Crs (a b : Crs) (w : World) : (binOp .neq 50 (.agg #[.int .i64 a.kind, .int .i64 a.src, .int .i64 a.dst, .int .i64 a.frame, .int .i64 a.e.id, .int .i64 a.e.kind, .int .i64 a.e.x, .int .i64 a.e.y, .int .i64 a.e.vx, .int .i64 a.e.vy, .int .i64 a.e.health, .int .i64 a.e.age, .int .i64 a.e.owner, .int .i64 a.x, .int .i64 a.y]) (.agg #[.int .i64 b.kind, .int .i64 b.src, .int .i64 b.dst, .int .i64 b.frame, .int .i64 b.e.id, .int .i64 b.e.kind, .int .i64 b.e.x, .int .i64 b.e.y, .int .i64 b.e.vx, .int .i64 b.e.vy, .int .i64 b.e.health, .int .i64 b.e.age, .int .i64 b.e.owner, .int .i64 b.x, .int .i64 b.y])).run Tryz.prog w = .ok (.bool (!eqCrs a b)) w := by
  rw [run_neq_struct, equal_Crs]; rfl

/-- The cells of an element. -/
theorem elem_Crs {w : World} {A : Option Addr} {es : List Crs} (h : CellsAt w A (es.flatMap crsC)) {k : Nat} {e : Crs} (hk : es[k]? = some e) :
    ∃ b off, A = some ⟨b, off, none⟩ ∧ (w.cell? ⟨b, off + k * 15, none⟩ = some (.int .i64 e.kind) ∧ w.cell? ⟨b, off + k * 15 + 1, none⟩ = some (.int .i64 e.src) ∧ w.cell? ⟨b, off + k * 15 + 2, none⟩ = some (.int .i64 e.dst) ∧ w.cell? ⟨b, off + k * 15 + 3, none⟩ = some (.int .i64 e.frame) ∧ w.cell? ⟨b, off + k * 15 + 4, none⟩ = some (.int .i64 e.e.id) ∧ w.cell? ⟨b, off + k * 15 + 5, none⟩ = some (.int .i64 e.e.kind) ∧ w.cell? ⟨b, off + k * 15 + 6, none⟩ = some (.int .i64 e.e.x) ∧ w.cell? ⟨b, off + k * 15 + 7, none⟩ = some (.int .i64 e.e.y) ∧ w.cell? ⟨b, off + k * 15 + 8, none⟩ = some (.int .i64 e.e.vx) ∧ w.cell? ⟨b, off + k * 15 + 9, none⟩ = some (.int .i64 e.e.vy) ∧ w.cell? ⟨b, off + k * 15 + 10, none⟩ = some (.int .i64 e.e.health) ∧ w.cell? ⟨b, off + k * 15 + 11, none⟩ = some (.int .i64 e.e.age) ∧ w.cell? ⟨b, off + k * 15 + 12, none⟩ = some (.int .i64 e.e.owner) ∧ w.cell? ⟨b, off + k * 15 + 13, none⟩ = some (.int .i64 e.x) ∧ w.cell? ⟨b, off + k * 15 + 14, none⟩ = some (.int .i64 e.y)) := by
  obtain ⟨b, off, hA, hc⟩ := h.elem 15 crsC_len (by omega) hk
  exact ⟨b, off, hA, hc 0 _ rfl, hc 1 _ rfl, hc 2 _ rfl, hc 3 _ rfl, hc 4 _ rfl, hc 5 _ rfl, hc 6 _ rfl, hc 7 _ rfl, hc 8 _ rfl, hc 9 _ rfl, hc 10 _ rfl, hc 11 _ rfl, hc 12 _ rfl, hc 13 _ rfl, hc 14 _ rfl⟩

/-- 'append' of a list to a row of the call's own. -/
theorem app_Crs {w : World} {o : Oper} {a : Act} {K : Act → World → Prop} {Q : Exit → Act → World → Prop} (s x : Operand)
    (ho : o.op = .call { callee := .builtin .append, args := #[s, x], argTypes := #[51, 51] }) (base : Nat) (v : Value) (es : List Crs) (hs : a.eval s = v) (hown : w.ownsRow base 50 15 v es.length (es.flatMap crsC))
    (u : Value) (fs : List Crs) (hx : a.eval x = u) (hu : IsSl crsC w u fs) (hlen : es.length + fs.length ≤ 1000000000) (hbase : base ≤ w.heap.size)
    (h : ∀ v' w', w'.ownsRow base 50 15 v' (es ++ fs).length ((es ++ fs).flatMap crsC) → Below base w w' → w.grownBy w' v.ownBlock → K (a.put o.dst v') w') : o.wp Tryz.prog a w K Q := by
  obtain ⟨i0, hi, hz0, hz1, hz2⟩ := info_parts info_Crs
  obtain ⟨A, c, rfl, hA, hc, hat⟩ := hu
  exact wp_app s x 51 ho base 50 i0 _ 15 120 Tryz.underlying51 hi hz0 hz1 hz2 rfl (by omega) v es.length _ hs hown A fs.length c (fs.flatMap crsC) hx (crsC_length fs) hA hat.cells (crsC_flat fs) (by unfold maxLen; omega) (by omega) hbase
    fun v' w' h1 h2 h3 => h v' w' (by rw [List.length_append, List.flatMap_append]; exact h1) h2 h3

theorem appL_Crs {w : World} {ops : Array Oper} {rest : List Oper} {o : Oper} {a : Act} {Q : Exit → Act → World → Prop} (hgd : o.guard = none) (s x : Operand)
    (ho : o.op = .call { callee := .builtin .append, args := #[s, x], argTypes := #[51, 51] }) (base : Nat) (v : Value) (es : List Crs) (hs : a.eval s = v) (hown : w.ownsRow base 50 15 v es.length (es.flatMap crsC))
    (u : Value) (fs : List Crs) (hx : a.eval x = u) (hu : IsSl crsC w u fs) (hlen : es.length + fs.length ≤ 1000000000) (hbase : base ≤ w.heap.size)
    (h : ∀ v' w', w'.ownsRow base 50 15 v' (es ++ fs).length ((es ++ fs).flatMap crsC) → Below base w w' → w.grownBy w' v.ownBlock → wpList Tryz.prog ops Q rest (a.put o.dst v') w') : wpList Tryz.prog ops Q (o :: rest) a w :=
  wpList_plain hgd fun _ hK => app_Crs s x ho base v es hs hown u fs hx hu hlen hbase fun v' w' h1 h2 h3 => hK _ _ (h v' w' h1 h2 h3)

/-- One that was built in a new block. -/
theorem one_Crs (w : World) (e : Crs) (g c : Nat) (hg : g = w.heap.size) (hc : 1 ≤ c) : IsSl crsC (w.alloc (.cells (crsC e).toArray 50)) (.slice (some ⟨g, 0, none⟩) 1 c) [e] := by
  subst hg
  refine ⟨_, _, rfl, fun h => (by cases h), hc, fun _ => ⟨_, _, rfl, fun i v hv => ?_⟩⟩
  rw [Nat.zero_add, World.cell?_alloc_new]
  simpa using hv

@[go_sem high] theorem slTo_Crs (A : Option Addr) (n c : Nat) (h : Int) (h0 : 0 ≤ h) (h2 : h ≤ c) (w : World) : (Instr.slice 51 (.slice A n c) none (some (.int .i64 h)) none).run Tryz.prog w = .ok (slTo 15 (.slice A n c) h.toNat) w := by
  rw [run_slice_h _ _ _ _ _ (by kernel_rfl) _ _ h0 h2]
  rw [show Tryz.prog.elem 51 = 50 by kernel_rfl, Tryz.sizeOf50]
  rfl

@[go_sem high] theorem slFrom_Crs (A : Option Addr) (n c : Nat) (h : Int) (h0 : 0 ≤ h) (h2 : h ≤ n) (w : World) : (Instr.slice 51 (.slice A n c) (some (.int .i64 h)) none none).run Tryz.prog w = .ok (slFrom 15 (.slice A n c) h.toNat) w := by
  rw [run_slice_l _ _ _ _ _ (by kernel_rfl) _ _ h0 h2]
  rw [show Tryz.prog.elem 51 = 50 by kernel_rfl, Tryz.sizeOf50]
  rfl

end Go.Proofs.YtlpkaljepaclpaaGreat.Fx
