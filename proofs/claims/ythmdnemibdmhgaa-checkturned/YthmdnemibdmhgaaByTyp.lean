/- Slices of bytes: append, v[:k] and v[k:], slices.Grow, slices.Concat, slices.Reverse over slices of bytes. -/
import Derived.Test.YthmdnemibdmhgaaByNum
import Derived.Test.YthmdnemibdmhgaaGCopy
import Derived.Test.YthmdnemibdmhgaaGLst
import Derived.Lib.AppendZerosOnto
import Derived.Shelf.RegionOpenPlain
namespace Go.Proofs.Ythmdnemibdmhgaa.Fx
open Go.ChangeShapes Go.WideShapes Go.ChangeAt Go.RowKit
set_option linter.unusedVariables false
set_option maxRecDepth 100000

theorem byC_len (x : Int) : (byC x).length = 1 := rfl

theorem byC_length (es : List Int) : (es.flatMap byC).length = es.length * 1 := flat_len byC 1 byC_len es

theorem byC_flat (es : List Int) : ∀ u ∈ es.flatMap byC, u.oneCell' = true := by
  intro u hu
  obtain ⟨e, -, he⟩ := List.mem_flatMap.1 hu
  simp [byC] at he
  subst he
  rfl

theorem ownB.flat {base : Nat} {w : World} {v : Value} {l : List Int} (h : ownB base w v l) : w.ownsRow base 5 1 v l.length (l.flatMap byC) := by rw [byC_map]; exact h

theorem IsSl.by {w : World} {A : Option Addr} {n c : Nat} {es : List Int} (h : IsSl byC w (.slice A n c) es) {k : Nat} {x : Int} (hk : es[k]? = some x) : ∃ b off, A = some ⟨b, off, none⟩ ∧ w.cell? ⟨b, off + k, none⟩ = some (.int .u8 x) := by
  obtain ⟨b, off, hA, hc⟩ := h.at.elem 1 byC_len (by omega) hk
  exact ⟨b, off, hA, by have := hc 0 _ rfl; simpa using this⟩

/-- 'append' of bytes to a row of the call's own. -/
theorem app_by {w : World} {o : Oper} {a : Act} {K : Act → World → Prop} {Q : Exit → Act → World → Prop} (s x : Operand)
    (ho : o.op = .call { callee := .builtin .append, args := #[s, x], argTypes := #[22, 22] }) (base : Nat) (v : Value) (es : List Int) (hs : a.eval s = v) (hown : ownB base w v es)
    (u : Value) (fs : List Int) (hx : a.eval x = u) (hu : IsSl byC w u fs) (hlen : es.length + fs.length ≤ 1000000000) (hbase : base ≤ w.heap.size)
    (h : ∀ v' w', ownB base w' v' (es ++ fs) → Below base w w' → w.grownBy w' v.ownBlock → K (a.put o.dst v') w') : o.wp Try.prog a w K Q := by
  obtain ⟨i0, hi, hz0, hz1, hz2⟩ := info_parts info_u8
  obtain ⟨A, c, rfl, hA, hc, hat⟩ := hu
  exact wp_app s x 22 ho base 5 i0 _ 1 1 Try.underlying22 hi hz0 hz1 hz2 rfl (by omega) v es.length _ hs hown.flat A fs.length c (fs.flatMap byC) hx (byC_length fs) hA hat.cells (byC_flat fs) (by unfold maxLen; omega) (by omega) hbase
    fun v' w' h1 h2 h3 => h v' w' (by unfold ownB; rw [List.length_append, ← byC_map, List.flatMap_append]; exact h1) h2 h3

theorem appL_by {w : World} {ops : Array Oper} {rest : List Oper} {o : Oper} {a : Act} {Q : Exit → Act → World → Prop} (hgd : o.guard = none) (s x : Operand)
    (ho : o.op = .call { callee := .builtin .append, args := #[s, x], argTypes := #[22, 22] }) (base : Nat) (v : Value) (es : List Int) (hs : a.eval s = v) (hown : ownB base w v es)
    (u : Value) (fs : List Int) (hx : a.eval x = u) (hu : IsSl byC w u fs) (hlen : es.length + fs.length ≤ 1000000000) (hbase : base ≤ w.heap.size)
    (h : ∀ v' w', ownB base w' v' (es ++ fs) → Below base w w' → w.grownBy w' v.ownBlock → wpList Try.prog ops Q rest (a.put o.dst v') w') : wpList Try.prog ops Q (o :: rest) a w :=
  wpList_plain hgd fun _ hK => app_by s x ho base v es hs hown u fs hx hu hlen hbase fun v' w' h1 h2 h3 => hK _ _ (h v' w' h1 h2 h3)

/-- Bytes that were built in a new block. -/
theorem new_by (w : World) (l : List Int) (g c : Nat) (hg : g = w.heap.size) (hc : l.length ≤ c) : IsSl byC (w.alloc (.cells (l.map (Value.int .u8)).toArray 5)) (.slice (some ⟨g, 0, none⟩) l.length c) l := by
  subst hg
  refine ⟨_, _, rfl, fun h => (by cases h), hc, fun _ => ⟨_, _, rfl, fun i v hv => ?_⟩⟩
  rw [Nat.zero_add, World.cell?_alloc_new]
  rw [byC_map] at hv
  simpa using hv

@[go_sem high] theorem slTo_by (A : Option Addr) (n c : Nat) (h : Int) (h0 : 0 ≤ h) (h2 : h ≤ c) (w : World) : (Instr.slice 22 (.slice A n c) none (some (.int .i64 h)) none).run Try.prog w = .ok (slTo 1 (.slice A n c) h.toNat) w := by
  rw [run_slice_h _ _ _ _ _ (by kernel_rfl) _ _ h0 h2]
  rw [show Try.prog.elem 22 = 5 by kernel_rfl, Try.sizeOf5]
  rfl

@[go_sem high] theorem slFrom_by (A : Option Addr) (n c : Nat) (h : Int) (h0 : 0 ≤ h) (h2 : h ≤ n) (w : World) : (Instr.slice 22 (.slice A n c) (some (.int .i64 h)) none none).run Try.prog w = .ok (slFrom 1 (.slice A n c) h.toNat) w := by
  rw [run_slice_l _ _ _ _ _ (by kernel_rfl) _ _ h0 h2]
  rw [show Try.prog.elem 22 = 5 by kernel_rfl, Try.sizeOf5]
  rfl

/-- Bytes that come back in memory of the call's own. -/
def RetBy (l : List Int) (w : World) (e : Ending) (w' : World) : Prop := ∃ v, e = .returned v ∧ ownB w.heap.size w' v l ∧ Below w.heap.size w w'

def oneB (v : Value) : List Value := [v]

theorem flat_oneB (vs : List Value) : vs.flatMap oneB = vs := by
  induction vs with
  | nil => rfl
  | cons v vs ih => rw [List.flatMap_cons, ih]; rfl

/-- Values that read as bytes. -/
def AllBy (w : World) (vs : List Value) (ls : List (List Int)) : Prop := vs.length = ls.length ∧ ∀ (i : Nat) v l, vs[i]? = some v → ls[i]? = some l → IsSl byC w v l

theorem AllBy.below {w w' : World} {vs : List Value} {ls : List (List Int)} (h : AllBy w vs ls) (hb : Below w.heap.size w w') : AllBy w' vs ls := ⟨h.1, fun i v l h1 h2 => (h.2 i v l h1 h2).below hb⟩

end Go.Proofs.Ythmdnemibdmhgaa.Fx
