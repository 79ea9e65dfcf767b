/- slices.Clone and slices.Insert of one, at slices of Entity: what they return; memory that is not the row's own stays. -/
import Derived.Test.YtdhahlghldgggaaGTypEntity
import Derived.Test.YtdhahlghldgggaaGCopy
import Derived.Test.YtdhahlghldgggaaGSeq
import Derived.Maps.AppendAt
import Derived.Deep.DeepMust
import Derived.Deep.RegionLaw
import Derived.Deep.Onto
namespace Go.Proofs.Ytdhahlghldgggaa.Fx
open Go.ChangeShapes Go.WideShapes Go.ChangeAt Go.RowKit
set_option linter.unusedVariables false

theorem clone_Ent (v : Value) (l : List Ent) (w : World) (hv : IsSl entC w v l) (hn : l.length ≤ 1000000) :
    Calls Try.prog 13 #[v] w fun e w' => ∃ v', e = .returned v' ∧ w'.ownsRow w.heap.size 28 9 v' l.length (l.flatMap entC) ∧ Below w.heap.size w w' := by
  have HV := Lib.hid hv
  obtain ⟨A, c, rfl, hA, hcap, hat⟩ := hv
  have HA := Lib.hid hA
  cases A with
  | none =>
    obtain ⟨h0, rfl⟩ := hA rfl
    obtain rfl : l = [] := List.eq_nil_of_length_eq_zero h0
    clear hat HV HA hA hcap h0
    simp only [List.length_nil]
    go_enter Try.func13, Try.ntmps13
    go_wp2
    go_ret
    exact ⟨_, rfl, World.ownsRow_nil _ _ _ _, Below.refl _ _⟩
  | some a =>
    have Hcap := Lib.hid hcap
    clear hat hA hcap
    go_enter Try.func13, Try.ntmps13
    go_wp2_with (at_builtin; go_must (refine appL_Ent (by rfl) (.tmp 5) (.tmp 6) (by rfl) w.heap.size _ [] (by rfl) (by first | exact World.ownsRow_made w #[] 0 (Nat.le_refl _) (by unfold maxLen; omega) (by simp)) _ l (by rfl) (HV.out.keep fun p u hp => by rw [World.cell?_alloc_lt _ _ _ (World.block_lt_of_cell? _ _ hp)]; exact hp) (by simp; omega) (by simp) ?_))
    intro v' w1 ho hb hg
    have HO := Lib.hid (show w1.ownsRow w.heap.size 28 9 v' l.length (l.flatMap entC) from by simpa using ho)
    have HB := Lib.hid ((Below.refl _ w).alloc (Nat.le_refl _) _ |>.trans hb)
    clear ho hb hg
    go_wp2
    go_ret
    exact ⟨_, rfl, HO.out, HB.out⟩

/-- A list with one more, at place i. -/
def insEnt (es : List Ent) (i : Nat) (y : Ent) : List Ent := es.take i ++ [y] ++ es.drop i

theorem insEnt_len (es : List Ent) (i : Nat) (y : Ent) : (insEnt es i y).length = es.length + 1 := by
  simp [insEnt]; omega

theorem insEnt_flat (es : List Ent) (i : Nat) (y : Ent) : (insEnt es i y).flatMap entC = (es.take i).flatMap entC ++ entC y ++ (es.drop i).flatMap entC := by
  simp [insEnt, List.flatMap_append]

/-- What slices.Insert leaves. -/
def RetInsEnt (base : Nat) (w : World) (row : Option Nat) (l : List Ent) (e : Ending) (w' : World) : Prop :=
  ∃ v', e = .returned v' ∧ w'.ownsRow base 28 9 v' l.length (l.flatMap entC) ∧ Below base w w' ∧ w.grownBy w' row

theorem blk_Ent {w : World} {g : Nat} {y : Ent} (h : Blk w g 28 (entC y).toArray) (c : Nat) (hc : 1 ≤ c) : IsSl entC w (.slice (some ⟨g, 0, none⟩) 1 c) [y] := by
  refine ⟨_, _, rfl, fun h => (by cases h), hc, fun _ => ⟨_, _, rfl, fun i v hv => ?_⟩⟩
  rw [Nat.zero_add, h.cell]
  simpa using hv

end Go.Proofs.Ytdhahlghldgggaa.Fx
