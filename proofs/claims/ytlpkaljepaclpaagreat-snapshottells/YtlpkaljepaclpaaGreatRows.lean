/-
  No cell of these rows narrows 'for every input' (looked for: loops, veiled, ifaces, maps, wideKeys, modest, calm, conditions, laid).
  DERIVED. THE GIVEN ROWS OF THIS SEAT. 5 by the template 'for every input the law returns true; each argument reads behind the call as it read before'; 0 by the template 'total and deterministic' (their statements: YtlpkaljepaclpaaGreatTotals.lean).
  GIVEN WITH THE SEED: the statements are not yours to turn. If you find one false, say at which input.
  Laid BY PROGRAM, IN A SANDBOX (cutbox-rows.mjs): the forced cells as the released guide's own fill.sh prints them over the translation 310dbef879f3a150… (all of the seat's roots in one cut). By AI agents, Wed Nov 11 2026. No macro, syntax, notation, axiom, sorry.
-/
import Derived.Test.YtlpkaljepaclpaaGreatChecked
import GoSem.Claim
import GoSem.ClaimJoined
import GoSem.ClaimMapViews
import Derived.JoinedTies
import Derived.KernelRfl
namespace Go.Proofs.YtlpkaljepaclpaaGreat
/- THE CELL 'sum', in the pinned program and in every row, IS THE sha256 OF THE DUMP (.gsa) THAT YtlpkaljepaclpaaGreatProg.lean LOADS. Nothing in Lean hashes anything: it is a label: what it is worth is what the hold of that sum in a sandbox is worth. -/
noncomputable def Tryz.pinned : Pinned := { name := "ytlpkaljepaclpaagreat", sum := "310dbef879f3a1507e24a762bf6d0bf1838fcf17ec07693ea45df66d91eddf41", checked := Tryz.checked }
namespace Rows
def none {H : Type} : Left H := { results := [], args := [] }

/-- 'joustlaw10.ArenaRuns': WHATEVER THE INPUT: true; the input reads as it did. -/
def arenaRunsSpec : ChangeSpec := { name := "arenaRuns", fn := fun _ => fun
  | [d1, d2, d3, d4] => { results := [.lit (.bool true)], args := [d1, d2, d3, d4] }
  | _ => none }
def arenaRunsRow : OpenClaim := { program := "ytlpkaljepaclpaagreat", sum := "310dbef879f3a1507e24a762bf6d0bf1838fcf17ec07693ea45df66d91eddf41", func := "joust/joustlaw10.ArenaRuns", spec := "arenaRuns", inPlace := ["slices.overlaps[joust/api.Entity]"], unfollowed := true, recurses := true, apart := false }
def ArenaRunsSaid : Prop := arenaRunsRow.holds Tryz.pinned (OpenSpec.ofChange arenaRunsSpec)

/-- ITS FALSE NEIGHBOUR: 'it returns false'. Refute it at one input. -/
def arenaRunsWrong : ChangeSpec := { name := "arenaRuns", fn := fun _ => fun
  | [d1, d2, d3, d4] => { results := [.lit (.bool false)], args := [d1, d2, d3, d4] }
  | _ => none }
def ArenaRunsWrongFalsely : Prop := arenaRunsRow.holds Tryz.pinned (OpenSpec.ofChange arenaRunsWrong)

/-- 'joustlaw10.ArenaSteps': WHATEVER THE INPUT: true; the input reads as it did. -/
def arenaStepsSpec : ChangeSpec := { name := "arenaSteps", fn := fun _ => fun
  | [d1, d2, d3, d4] => { results := [.lit (.bool true)], args := [d1, d2, d3, d4] }
  | _ => none }
def arenaStepsRow : OpenClaim := { program := "ytlpkaljepaclpaagreat", sum := "310dbef879f3a1507e24a762bf6d0bf1838fcf17ec07693ea45df66d91eddf41", func := "joust/joustlaw10.ArenaSteps", spec := "arenaSteps", inPlace := ["slices.overlaps[joust/api.Entity]"], unfollowed := true, recurses := true, apart := false }
def ArenaStepsSaid : Prop := arenaStepsRow.holds Tryz.pinned (OpenSpec.ofChange arenaStepsSpec)

/-- ITS FALSE NEIGHBOUR: 'it returns false'. Refute it at one input. -/
def arenaStepsWrong : ChangeSpec := { name := "arenaSteps", fn := fun _ => fun
  | [d1, d2, d3, d4] => { results := [.lit (.bool false)], args := [d1, d2, d3, d4] }
  | _ => none }
def ArenaStepsWrongFalsely : Prop := arenaStepsRow.holds Tryz.pinned (OpenSpec.ofChange arenaStepsWrong)

/-- 'joustlaw12.SnapshotTells': WHATEVER THE INPUT: true; the input reads as it did. -/
def snapshotTellsSpec : ChangeSpec := { name := "snapshotTells", fn := fun _ => fun
  | [d1, d2, d3, d4, d5] => { results := [.lit (.bool true)], args := [d1, d2, d3, d4, d5] }
  | _ => none }
def snapshotTellsRow : OpenClaim := { program := "ytlpkaljepaclpaagreat", sum := "310dbef879f3a1507e24a762bf6d0bf1838fcf17ec07693ea45df66d91eddf41", func := "joust/joustlaw12.SnapshotTells", spec := "snapshotTells", unfollowed := true, recurses := true, apart := false }
def SnapshotTellsSaid : Prop := snapshotTellsRow.holds Tryz.pinned (OpenSpec.ofChange snapshotTellsSpec)

/-- ITS FALSE NEIGHBOUR: 'it returns false'. Refute it at one input. -/
def snapshotTellsWrong : ChangeSpec := { name := "snapshotTells", fn := fun _ => fun
  | [d1, d2, d3, d4, d5] => { results := [.lit (.bool false)], args := [d1, d2, d3, d4, d5] }
  | _ => none }
def SnapshotTellsWrongFalsely : Prop := snapshotTellsRow.holds Tryz.pinned (OpenSpec.ofChange snapshotTellsWrong)

/-- 'joustlaw12.SnapshotBack': WHATEVER THE INPUT: true; the input reads as it did. -/
def snapshotBackSpec : ChangeSpec := { name := "snapshotBack", fn := fun _ => fun
  | [d1, d2, d3, d4] => { results := [.lit (.bool true)], args := [d1, d2, d3, d4] }
  | _ => none }
def snapshotBackRow : OpenClaim := { program := "ytlpkaljepaclpaagreat", sum := "310dbef879f3a1507e24a762bf6d0bf1838fcf17ec07693ea45df66d91eddf41", func := "joust/joustlaw12.SnapshotBack", spec := "snapshotBack", unfollowed := true, recurses := true, apart := false }
def SnapshotBackSaid : Prop := snapshotBackRow.holds Tryz.pinned (OpenSpec.ofChange snapshotBackSpec)

/-- ITS FALSE NEIGHBOUR: 'it returns false'. Refute it at one input. -/
def snapshotBackWrong : ChangeSpec := { name := "snapshotBack", fn := fun _ => fun
  | [d1, d2, d3, d4] => { results := [.lit (.bool false)], args := [d1, d2, d3, d4] }
  | _ => none }
def SnapshotBackWrongFalsely : Prop := snapshotBackRow.holds Tryz.pinned (OpenSpec.ofChange snapshotBackWrong)

/-- 'joustlaw12.SnapshotTurned': WHATEVER THE INPUT: true; the input reads as it did. -/
def snapshotTurnedSpec : ChangeSpec := { name := "snapshotTurned", fn := fun _ => fun
  | [d1, d2, d3, d4, d5] => { results := [.lit (.bool true)], args := [d1, d2, d3, d4, d5] }
  | _ => none }
def snapshotTurnedRow : OpenClaim := { program := "ytlpkaljepaclpaagreat", sum := "310dbef879f3a1507e24a762bf6d0bf1838fcf17ec07693ea45df66d91eddf41", func := "joust/joustlaw12.SnapshotTurned", spec := "snapshotTurned", unfollowed := true, recurses := true, apart := false }
def SnapshotTurnedSaid : Prop := snapshotTurnedRow.holds Tryz.pinned (OpenSpec.ofChange snapshotTurnedSpec)

/-- ITS FALSE NEIGHBOUR: 'it returns false'. Refute it at one input. -/
def snapshotTurnedWrong : ChangeSpec := { name := "snapshotTurned", fn := fun _ => fun
  | [d1, d2, d3, d4, d5] => { results := [.lit (.bool false)], args := [d1, d2, d3, d4, d5] }
  | _ => none }
def SnapshotTurnedWrongFalsely : Prop := snapshotTurnedRow.holds Tryz.pinned (OpenSpec.ofChange snapshotTurnedWrong)

/- THE SECOND FORM. 'bulk': how many values and letters a reading holds, each counted each time it is reached (what is shared counts as often as it is met; a slice's spare places count too). A statement '..UptoSaid' is the law's where the arguments, and the package variables that the reading takes, are together of bulk at most 1048576: NARROWER than '..Said'. Prove '..Said' where nothing that the law and all that it calls make is longer than what came in: it says more and counts as full. Else prove '..UptoSaid'. A law counts once. -/
mutual
def uptoBulk {H : Type} : DataW H → Nat
  | .lit (.string bytes) => bytes.length + 1
  | .lit _ => 1
  | .nil => 1
  | .ptr d => uptoBulk d + 1
  | .slice elems spare => uptoBulkAll elems + uptoBulkAll spare + 1
  | .agg parts => uptoBulkAll parts + 1
  | .iface _ d => uptoBulk d + 1
  | .map entries => uptoBulkEntries entries + 1
  | .held _ => 1
def uptoBulkAll {H : Type} : List (DataW H) → Nat
  | [] => 0
  | d :: r => uptoBulk d + uptoBulkAll r
def uptoBulkEntries {H : Type} : List (Lit × DataW H) → Nat
  | [] => 0
  | x :: r => uptoBulkEntry x + uptoBulkEntries r
def uptoBulkEntry {H : Type} : Lit × DataW H → Nat
  | (.string bytes, d) => bytes.length + uptoBulk d + 1
  | (_, d) => uptoBulk d + 1
 end
def uptoSmall : (H : Type) → List (DataW H) → Bool := fun _ ds => decide (uptoBulkAll ds ≤ 1048576)
def OpenSpec.upto (s : _root_.Go.ChangeSpec) : _root_.Go.OpenSpec := { _root_.Go.OpenSpec.ofChange s with cond := some uptoSmall }

/-- 'joustlaw10.ArenaRuns', WHERE WHAT IT READS IS OF BULK AT MOST 1048576: true; the input reads as it did. -/
def arenaRunsUptoRow : OpenClaim := { program := "ytlpkaljepaclpaagreat", sum := "310dbef879f3a1507e24a762bf6d0bf1838fcf17ec07693ea45df66d91eddf41", func := "joust/joustlaw10.ArenaRuns", spec := "arenaRuns", inPlace := ["slices.overlaps[joust/api.Entity]"], unfollowed := true, recurses := true, apart := false, narrowed := true }
def ArenaRunsUptoSaid : Prop := arenaRunsUptoRow.holds Tryz.pinned (OpenSpec.upto arenaRunsSpec)

/-- 'joustlaw10.ArenaSteps', WHERE WHAT IT READS IS OF BULK AT MOST 1048576: true; the input reads as it did. -/
def arenaStepsUptoRow : OpenClaim := { program := "ytlpkaljepaclpaagreat", sum := "310dbef879f3a1507e24a762bf6d0bf1838fcf17ec07693ea45df66d91eddf41", func := "joust/joustlaw10.ArenaSteps", spec := "arenaSteps", inPlace := ["slices.overlaps[joust/api.Entity]"], unfollowed := true, recurses := true, apart := false, narrowed := true }
def ArenaStepsUptoSaid : Prop := arenaStepsUptoRow.holds Tryz.pinned (OpenSpec.upto arenaStepsSpec)

/-- 'joustlaw12.SnapshotTells', WHERE WHAT IT READS IS OF BULK AT MOST 1048576: true; the input reads as it did. -/
def snapshotTellsUptoRow : OpenClaim := { program := "ytlpkaljepaclpaagreat", sum := "310dbef879f3a1507e24a762bf6d0bf1838fcf17ec07693ea45df66d91eddf41", func := "joust/joustlaw12.SnapshotTells", spec := "snapshotTells", unfollowed := true, recurses := true, apart := false, narrowed := true }
def SnapshotTellsUptoSaid : Prop := snapshotTellsUptoRow.holds Tryz.pinned (OpenSpec.upto snapshotTellsSpec)

/-- 'joustlaw12.SnapshotBack', WHERE WHAT IT READS IS OF BULK AT MOST 1048576: true; the input reads as it did. -/
def snapshotBackUptoRow : OpenClaim := { program := "ytlpkaljepaclpaagreat", sum := "310dbef879f3a1507e24a762bf6d0bf1838fcf17ec07693ea45df66d91eddf41", func := "joust/joustlaw12.SnapshotBack", spec := "snapshotBack", unfollowed := true, recurses := true, apart := false, narrowed := true }
def SnapshotBackUptoSaid : Prop := snapshotBackUptoRow.holds Tryz.pinned (OpenSpec.upto snapshotBackSpec)

/-- 'joustlaw12.SnapshotTurned', WHERE WHAT IT READS IS OF BULK AT MOST 1048576: true; the input reads as it did. -/
def snapshotTurnedUptoRow : OpenClaim := { program := "ytlpkaljepaclpaagreat", sum := "310dbef879f3a1507e24a762bf6d0bf1838fcf17ec07693ea45df66d91eddf41", func := "joust/joustlaw12.SnapshotTurned", spec := "snapshotTurned", unfollowed := true, recurses := true, apart := false, narrowed := true }
def SnapshotTurnedUptoSaid : Prop := snapshotTurnedUptoRow.holds Tryz.pinned (OpenSpec.upto snapshotTurnedSpec)

end Rows
end Go.Proofs.YtlpkaljepaclpaaGreat
