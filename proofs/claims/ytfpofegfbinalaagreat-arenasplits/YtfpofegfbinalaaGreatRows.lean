/-
  No cell of these rows narrows 'for every input' (looked for: loops, veiled, ifaces, maps, wideKeys, modest, calm, conditions, laid).
  DERIVED. THE GIVEN ROWS OF THIS SEAT. 5 by the template 'for every input the law returns true; each argument reads behind the call as it read before'; 0 by the template 'total and deterministic' (their statements: YtfpofegfbinalaaGreatTotals.lean).
  GIVEN WITH THE SEED: the statements are not yours to turn. If you find one false, say at which input.
  Laid BY PROGRAM, IN A SANDBOX (cutbox-rows.mjs): the forced cells as the released guide's own fill.sh prints them over the translation 872f7fda68cd24c5… (all of the seat's roots in one cut). By AI agents, Wed Nov 11 2026. No macro, syntax, notation, axiom, sorry.
-/
import Derived.Test.YtfpofegfbinalaaGreatChecked
import GoSem.Claim
import GoSem.ClaimJoined
import GoSem.ClaimMapViews
import Derived.JoinedTies
import Derived.KernelRfl
namespace Go.Proofs.YtfpofegfbinalaaGreat
/- THE CELL 'sum', in the pinned program and in every row, IS THE sha256 OF THE DUMP (.gsa) THAT YtfpofegfbinalaaGreatProg.lean LOADS. Nothing in Lean hashes anything: it is a label: what it is worth is what the hold of that sum in a sandbox is worth. -/
noncomputable def Tryz.pinned : Pinned := { name := "ytfpofegfbinalaagreat", sum := "872f7fda68cd24c52ad56d4ffa7e41336a82e33acdbe7a9b86cfaab20a41e1ba", checked := Tryz.checked }
namespace Rows
def none {H : Type} : Left H := { results := [], args := [] }

/-- 'joustlaw10.ArenaRuns': WHATEVER THE INPUT: true; the input reads as it did. -/
def arenaRunsSpec : ChangeSpec := { name := "arenaRuns", fn := fun _ => fun
  | [d1, d2, d3, d4] => { results := [.lit (.bool true)], args := [d1, d2, d3, d4] }
  | _ => none }
def arenaRunsRow : OpenClaim := { program := "ytfpofegfbinalaagreat", sum := "872f7fda68cd24c52ad56d4ffa7e41336a82e33acdbe7a9b86cfaab20a41e1ba", func := "joust/joustlaw10.ArenaRuns", spec := "arenaRuns", inPlace := ["slices.overlaps[joust/api.Entity]"], unfollowed := true, recurses := true, apart := false }
def ArenaRunsSaid : Prop := arenaRunsRow.holds Tryz.pinned (OpenSpec.ofChange arenaRunsSpec)

/-- ITS FALSE NEIGHBOUR: 'it returns false'. Refute it at one input. -/
def arenaRunsWrong : ChangeSpec := { name := "arenaRuns", fn := fun _ => fun
  | [d1, d2, d3, d4] => { results := [.lit (.bool false)], args := [d1, d2, d3, d4] }
  | _ => none }
def ArenaRunsWrongFalsely : Prop := arenaRunsRow.holds Tryz.pinned (OpenSpec.ofChange arenaRunsWrong)

/-- 'joustlaw10.ArenaSteps': WHATEVER THE INPUT: true; the input reads as it did. -/
def arenaStepsSpec : ChangeSpec := { name := "arenaSteps", fn := fun _ => fun
  | [d1, d2, d3, d4] => { results := [.lit (.bool true)], args := [d1, d2, d3, d4] }
  | _ => none }
def arenaStepsRow : OpenClaim := { program := "ytfpofegfbinalaagreat", sum := "872f7fda68cd24c52ad56d4ffa7e41336a82e33acdbe7a9b86cfaab20a41e1ba", func := "joust/joustlaw10.ArenaSteps", spec := "arenaSteps", inPlace := ["slices.overlaps[joust/api.Entity]"], unfollowed := true, recurses := true, apart := false }
def ArenaStepsSaid : Prop := arenaStepsRow.holds Tryz.pinned (OpenSpec.ofChange arenaStepsSpec)

/-- ITS FALSE NEIGHBOUR: 'it returns false'. Refute it at one input. -/
def arenaStepsWrong : ChangeSpec := { name := "arenaSteps", fn := fun _ => fun
  | [d1, d2, d3, d4] => { results := [.lit (.bool false)], args := [d1, d2, d3, d4] }
  | _ => none }
def ArenaStepsWrongFalsely : Prop := arenaStepsRow.holds Tryz.pinned (OpenSpec.ofChange arenaStepsWrong)

/-- 'joustlaw10.ArenaPlayers': WHATEVER THE INPUT: true; the input reads as it did. -/
def arenaPlayersSpec : ChangeSpec := { name := "arenaPlayers", fn := fun _ => fun
  | [d1, d2] => { results := [.lit (.bool true)], args := [d1, d2] }
  | _ => none }
def arenaPlayersRow : OpenClaim := { program := "ytfpofegfbinalaagreat", sum := "872f7fda68cd24c52ad56d4ffa7e41336a82e33acdbe7a9b86cfaab20a41e1ba", func := "joust/joustlaw10.ArenaPlayers", spec := "arenaPlayers", inPlace := ["slices.overlaps[joust/api.Entity]"], unfollowed := true, recurses := true, apart := false }
def ArenaPlayersSaid : Prop := arenaPlayersRow.holds Tryz.pinned (OpenSpec.ofChange arenaPlayersSpec)

/-- ITS FALSE NEIGHBOUR: 'it returns false'. Refute it at one input. -/
def arenaPlayersWrong : ChangeSpec := { name := "arenaPlayers", fn := fun _ => fun
  | [d1, d2] => { results := [.lit (.bool false)], args := [d1, d2] }
  | _ => none }
def ArenaPlayersWrongFalsely : Prop := arenaPlayersRow.holds Tryz.pinned (OpenSpec.ofChange arenaPlayersWrong)

/-- 'joustlaw10.ArenaSplits': WHATEVER THE INPUT: true; the input reads as it did. -/
def arenaSplitsSpec : ChangeSpec := { name := "arenaSplits", fn := fun _ => fun
  | [d1, d2] => { results := [.lit (.bool true)], args := [d1, d2] }
  | _ => none }
def arenaSplitsRow : OpenClaim := { program := "ytfpofegfbinalaagreat", sum := "872f7fda68cd24c52ad56d4ffa7e41336a82e33acdbe7a9b86cfaab20a41e1ba", func := "joust/joustlaw10.ArenaSplits", spec := "arenaSplits", inPlace := ["slices.overlaps[joust/api.Entity]"], unfollowed := true, recurses := true, apart := false }
def ArenaSplitsSaid : Prop := arenaSplitsRow.holds Tryz.pinned (OpenSpec.ofChange arenaSplitsSpec)

/-- ITS FALSE NEIGHBOUR: 'it returns false'. Refute it at one input. -/
def arenaSplitsWrong : ChangeSpec := { name := "arenaSplits", fn := fun _ => fun
  | [d1, d2] => { results := [.lit (.bool false)], args := [d1, d2] }
  | _ => none }
def ArenaSplitsWrongFalsely : Prop := arenaSplitsRow.holds Tryz.pinned (OpenSpec.ofChange arenaSplitsWrong)

/-- 'joustlaw10.ArenaPrefix': WHATEVER THE INPUT: true; the input reads as it did. -/
def arenaPrefixSpec : ChangeSpec := { name := "arenaPrefix", fn := fun _ => fun
  | [d1, d2, d3] => { results := [.lit (.bool true)], args := [d1, d2, d3] }
  | _ => none }
def arenaPrefixRow : OpenClaim := { program := "ytfpofegfbinalaagreat", sum := "872f7fda68cd24c52ad56d4ffa7e41336a82e33acdbe7a9b86cfaab20a41e1ba", func := "joust/joustlaw10.ArenaPrefix", spec := "arenaPrefix", inPlace := ["slices.overlaps[joust/api.Entity]"], unfollowed := true, recurses := true, apart := false }
def ArenaPrefixSaid : Prop := arenaPrefixRow.holds Tryz.pinned (OpenSpec.ofChange arenaPrefixSpec)

/-- ITS FALSE NEIGHBOUR: 'it returns false'. Refute it at one input. -/
def arenaPrefixWrong : ChangeSpec := { name := "arenaPrefix", fn := fun _ => fun
  | [d1, d2, d3] => { results := [.lit (.bool false)], args := [d1, d2, d3] }
  | _ => none }
def ArenaPrefixWrongFalsely : Prop := arenaPrefixRow.holds Tryz.pinned (OpenSpec.ofChange arenaPrefixWrong)

/- THE SECOND FORM. 'bulk': how many values and letters a reading holds, each counted each time it is reached (what is shared counts as often as it is met; a slice's spare places count too). A statement '..UptoSaid' is the law's where the arguments, and the package variables that the reading takes, are together of bulk at most 1048576: NARROWER than '..Said'. Prove '..Said' where nothing that the law and all that it calls make is longer than what came in: it says more and counts as full. Else prove '..UptoSaid'. A law counts once. -/
mutual
def uptoBulk {H : Type} : DataW H → Nat
  | .lit (.string bytes) => bytes.length + 1
  | .lit _ => 1
  | .nil => 1
  | .ptr d => uptoBulk d + 1
  | .slice elems spare => uptoBulkAll elems + uptoBulkAll spare + 1
  | .agg parts => uptoBulkAll parts + 1
  | .iface _ d => uptoBulk d + 1
  | .map entries => uptoBulkEntries entries + 1
  | .held _ => 1
def uptoBulkAll {H : Type} : List (DataW H) → Nat
  | [] => 0
  | d :: r => uptoBulk d + uptoBulkAll r
def uptoBulkEntries {H : Type} : List (Lit × DataW H) → Nat
  | [] => 0
  | x :: r => uptoBulkEntry x + uptoBulkEntries r
def uptoBulkEntry {H : Type} : Lit × DataW H → Nat
  | (.string bytes, d) => bytes.length + uptoBulk d + 1
  | (_, d) => uptoBulk d + 1
 end
def uptoSmall : (H : Type) → List (DataW H) → Bool := fun _ ds => decide (uptoBulkAll ds ≤ 1048576)
def OpenSpec.upto (s : _root_.Go.ChangeSpec) : _root_.Go.OpenSpec := { _root_.Go.OpenSpec.ofChange s with cond := some uptoSmall }

/-- 'joustlaw10.ArenaRuns', WHERE WHAT IT READS IS OF BULK AT MOST 1048576: true; the input reads as it did. -/
def arenaRunsUptoRow : OpenClaim := { program := "ytfpofegfbinalaagreat", sum := "872f7fda68cd24c52ad56d4ffa7e41336a82e33acdbe7a9b86cfaab20a41e1ba", func := "joust/joustlaw10.ArenaRuns", spec := "arenaRuns", inPlace := ["slices.overlaps[joust/api.Entity]"], unfollowed := true, recurses := true, apart := false, narrowed := true }
def ArenaRunsUptoSaid : Prop := arenaRunsUptoRow.holds Tryz.pinned (OpenSpec.upto arenaRunsSpec)

/-- 'joustlaw10.ArenaSteps', WHERE WHAT IT READS IS OF BULK AT MOST 1048576: true; the input reads as it did. -/
def arenaStepsUptoRow : OpenClaim := { program := "ytfpofegfbinalaagreat", sum := "872f7fda68cd24c52ad56d4ffa7e41336a82e33acdbe7a9b86cfaab20a41e1ba", func := "joust/joustlaw10.ArenaSteps", spec := "arenaSteps", inPlace := ["slices.overlaps[joust/api.Entity]"], unfollowed := true, recurses := true, apart := false, narrowed := true }
def ArenaStepsUptoSaid : Prop := arenaStepsUptoRow.holds Tryz.pinned (OpenSpec.upto arenaStepsSpec)

/-- 'joustlaw10.ArenaPlayers', WHERE WHAT IT READS IS OF BULK AT MOST 1048576: true; the input reads as it did. -/
def arenaPlayersUptoRow : OpenClaim := { program := "ytfpofegfbinalaagreat", sum := "872f7fda68cd24c52ad56d4ffa7e41336a82e33acdbe7a9b86cfaab20a41e1ba", func := "joust/joustlaw10.ArenaPlayers", spec := "arenaPlayers", inPlace := ["slices.overlaps[joust/api.Entity]"], unfollowed := true, recurses := true, apart := false, narrowed := true }
def ArenaPlayersUptoSaid : Prop := arenaPlayersUptoRow.holds Tryz.pinned (OpenSpec.upto arenaPlayersSpec)

/-- 'joustlaw10.ArenaSplits', WHERE WHAT IT READS IS OF BULK AT MOST 1048576: true; the input reads as it did. -/
def arenaSplitsUptoRow : OpenClaim := { program := "ytfpofegfbinalaagreat", sum := "872f7fda68cd24c52ad56d4ffa7e41336a82e33acdbe7a9b86cfaab20a41e1ba", func := "joust/joustlaw10.ArenaSplits", spec := "arenaSplits", inPlace := ["slices.overlaps[joust/api.Entity]"], unfollowed := true, recurses := true, apart := false, narrowed := true }
def ArenaSplitsUptoSaid : Prop := arenaSplitsUptoRow.holds Tryz.pinned (OpenSpec.upto arenaSplitsSpec)

/-- 'joustlaw10.ArenaPrefix', WHERE WHAT IT READS IS OF BULK AT MOST 1048576: true; the input reads as it did. -/
def arenaPrefixUptoRow : OpenClaim := { program := "ytfpofegfbinalaagreat", sum := "872f7fda68cd24c52ad56d4ffa7e41336a82e33acdbe7a9b86cfaab20a41e1ba", func := "joust/joustlaw10.ArenaPrefix", spec := "arenaPrefix", inPlace := ["slices.overlaps[joust/api.Entity]"], unfollowed := true, recurses := true, apart := false, narrowed := true }
def ArenaPrefixUptoSaid : Prop := arenaPrefixUptoRow.holds Tryz.pinned (OpenSpec.upto arenaPrefixSpec)

end Rows
end Go.Proofs.YtfpofegfbinalaaGreat
