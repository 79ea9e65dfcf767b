/-
  No cell of these rows narrows 'for every input' (looked for: loops, veiled, ifaces, maps, wideKeys, modest, calm, conditions, laid).
  DERIVED. THE GIVEN ROWS OF THIS SEAT. 7 by the template 'for every input the law returns true; each argument reads behind the call as it read before'; 0 by the template 'total and deterministic' (their statements: YtocoddeaoljoeaaGreatTotals.lean).
  GIVEN WITH THE SEED: the statements are not yours to turn. If you find one false, say at which input.
  Laid BY PROGRAM, IN A SANDBOX (cutbox-rows.mjs): the forced cells as the released guide's own fill.sh prints them over the translation b4bf247c151d284c… (all of the seat's roots in one cut). By AI agents, Wed Nov 11 2026. No macro, syntax, notation, axiom, sorry.
-/
import Derived.Test.YtocoddeaoljoeaaGreatChecked
import GoSem.Claim
import GoSem.ClaimJoined
import GoSem.ClaimMapViews
import Derived.JoinedTies
import Derived.KernelRfl
namespace Go.Proofs.YtocoddeaoljoeaaGreat
/- THE CELL 'sum', in the pinned program and in every row, IS THE sha256 OF THE DUMP (.gsa) THAT YtocoddeaoljoeaaGreatProg.lean LOADS. Nothing in Lean hashes anything: it is a label: what it is worth is what the hold of that sum in a sandbox is worth. -/
noncomputable def Tryz.pinned : Pinned := { name := "ytocoddeaoljoeaagreat", sum := "b4bf247c151d284caedd34663d4985d4b4a6538ab43f1dca5b50c873186b9887", checked := Tryz.checked }
namespace Rows
def none {H : Type} : Left H := { results := [], args := [] }

/-- 'joustlaw09.RegionRight': WHATEVER THE INPUT: true; the input reads as it did. -/
def regionRightSpec : ChangeSpec := { name := "regionRight", fn := fun _ => fun
  | [d1, d2, d3, d4, d5, d6] => { results := [.lit (.bool true)], args := [d1, d2, d3, d4, d5, d6] }
  | _ => none }
def regionRightRow : OpenClaim := { program := "ytocoddeaoljoeaagreat", sum := "b4bf247c151d284caedd34663d4985d4b4a6538ab43f1dca5b50c873186b9887", func := "joust/joustlaw09.RegionRight", spec := "regionRight", inPlace := ["slices.overlaps[joust/api.Entity]"], unfollowed := true, recurses := true, apart := false }
def RegionRightSaid : Prop := regionRightRow.holds Tryz.pinned (OpenSpec.ofChange regionRightSpec)

/-- ITS FALSE NEIGHBOUR: 'it returns false'. Refute it at one input. -/
def regionRightWrong : ChangeSpec := { name := "regionRight", fn := fun _ => fun
  | [d1, d2, d3, d4, d5, d6] => { results := [.lit (.bool false)], args := [d1, d2, d3, d4, d5, d6] }
  | _ => none }
def RegionRightWrongFalsely : Prop := regionRightRow.holds Tryz.pinned (OpenSpec.ofChange regionRightWrong)

/-- 'joustlaw09.RegionKeeps': WHATEVER THE INPUT: true; the input reads as it did. -/
def regionKeepsSpec : ChangeSpec := { name := "regionKeeps", fn := fun _ => fun
  | [d1, d2, d3, d4, d5, d6] => { results := [.lit (.bool true)], args := [d1, d2, d3, d4, d5, d6] }
  | _ => none }
def regionKeepsRow : OpenClaim := { program := "ytocoddeaoljoeaagreat", sum := "b4bf247c151d284caedd34663d4985d4b4a6538ab43f1dca5b50c873186b9887", func := "joust/joustlaw09.RegionKeeps", spec := "regionKeeps", inPlace := ["slices.overlaps[joust/api.Entity]"], unfollowed := true, recurses := true, apart := false }
def RegionKeepsSaid : Prop := regionKeepsRow.holds Tryz.pinned (OpenSpec.ofChange regionKeepsSpec)

/-- ITS FALSE NEIGHBOUR: 'it returns false'. Refute it at one input. -/
def regionKeepsWrong : ChangeSpec := { name := "regionKeeps", fn := fun _ => fun
  | [d1, d2, d3, d4, d5, d6] => { results := [.lit (.bool false)], args := [d1, d2, d3, d4, d5, d6] }
  | _ => none }
def RegionKeepsWrongFalsely : Prop := regionKeepsRow.holds Tryz.pinned (OpenSpec.ofChange regionKeepsWrong)

/-- 'joustlaw09.RegionRefuses': WHATEVER THE INPUT: true; the input reads as it did. -/
def regionRefusesSpec : ChangeSpec := { name := "regionRefuses", fn := fun _ => fun
  | [d] => { results := [.lit (.bool true)], args := [d] }
  | _ => none }
def regionRefusesRow : OpenClaim := { program := "ytocoddeaoljoeaagreat", sum := "b4bf247c151d284caedd34663d4985d4b4a6538ab43f1dca5b50c873186b9887", func := "joust/joustlaw09.RegionRefuses", spec := "regionRefuses", inPlace := ["slices.overlaps[joust/api.Entity]"], unfollowed := true, recurses := true, apart := false }
def RegionRefusesSaid : Prop := regionRefusesRow.holds Tryz.pinned (OpenSpec.ofChange regionRefusesSpec)

/-- ITS FALSE NEIGHBOUR: 'it returns false'. Refute it at one input. -/
def regionRefusesWrong : ChangeSpec := { name := "regionRefuses", fn := fun _ => fun
  | [d] => { results := [.lit (.bool false)], args := [d] }
  | _ => none }
def RegionRefusesWrongFalsely : Prop := regionRefusesRow.holds Tryz.pinned (OpenSpec.ofChange regionRefusesWrong)

/-- 'joustlaw09.RegionBlasts': WHATEVER THE INPUT: true; the input reads as it did. -/
def regionBlastsSpec : ChangeSpec := { name := "regionBlasts", fn := fun _ => fun
  | [d1, d2, d3, d4, d5, d6] => { results := [.lit (.bool true)], args := [d1, d2, d3, d4, d5, d6] }
  | _ => none }
def regionBlastsRow : OpenClaim := { program := "ytocoddeaoljoeaagreat", sum := "b4bf247c151d284caedd34663d4985d4b4a6538ab43f1dca5b50c873186b9887", func := "joust/joustlaw09.RegionBlasts", spec := "regionBlasts", inPlace := ["slices.overlaps[joust/api.Entity]"], unfollowed := true, recurses := true, apart := false }
def RegionBlastsSaid : Prop := regionBlastsRow.holds Tryz.pinned (OpenSpec.ofChange regionBlastsSpec)

/-- ITS FALSE NEIGHBOUR: 'it returns false'. Refute it at one input. -/
def regionBlastsWrong : ChangeSpec := { name := "regionBlasts", fn := fun _ => fun
  | [d1, d2, d3, d4, d5, d6] => { results := [.lit (.bool false)], args := [d1, d2, d3, d4, d5, d6] }
  | _ => none }
def RegionBlastsWrongFalsely : Prop := regionBlastsRow.holds Tryz.pinned (OpenSpec.ofChange regionBlastsWrong)

/-- 'joustlaw09.RegionEmpty': WHATEVER THE INPUT: true; the input reads as it did. -/
def regionEmptySpec : ChangeSpec := { name := "regionEmpty", fn := fun _ => fun
  | [d1, d2, d3] => { results := [.lit (.bool true)], args := [d1, d2, d3] }
  | _ => none }
def regionEmptyRow : OpenClaim := { program := "ytocoddeaoljoeaagreat", sum := "b4bf247c151d284caedd34663d4985d4b4a6538ab43f1dca5b50c873186b9887", func := "joust/joustlaw09.RegionEmpty", spec := "regionEmpty", inPlace := ["slices.overlaps[joust/api.Entity]"], unfollowed := true, recurses := true, apart := false }
def RegionEmptySaid : Prop := regionEmptyRow.holds Tryz.pinned (OpenSpec.ofChange regionEmptySpec)

/-- ITS FALSE NEIGHBOUR: 'it returns false'. Refute it at one input. -/
def regionEmptyWrong : ChangeSpec := { name := "regionEmpty", fn := fun _ => fun
  | [d1, d2, d3] => { results := [.lit (.bool false)], args := [d1, d2, d3] }
  | _ => none }
def RegionEmptyWrongFalsely : Prop := regionEmptyRow.holds Tryz.pinned (OpenSpec.ofChange regionEmptyWrong)

/-- 'joustlaw09.RegionOthers': WHATEVER THE INPUT: true; the input reads as it did. -/
def regionOthersSpec : ChangeSpec := { name := "regionOthers", fn := fun _ => fun
  | [d1, d2, d3, d4, d5, d6] => { results := [.lit (.bool true)], args := [d1, d2, d3, d4, d5, d6] }
  | _ => none }
def regionOthersRow : OpenClaim := { program := "ytocoddeaoljoeaagreat", sum := "b4bf247c151d284caedd34663d4985d4b4a6538ab43f1dca5b50c873186b9887", func := "joust/joustlaw09.RegionOthers", spec := "regionOthers", inPlace := ["slices.overlaps[joust/api.Entity]"], unfollowed := true, recurses := true, apart := false }
def RegionOthersSaid : Prop := regionOthersRow.holds Tryz.pinned (OpenSpec.ofChange regionOthersSpec)

/-- ITS FALSE NEIGHBOUR: 'it returns false'. Refute it at one input. -/
def regionOthersWrong : ChangeSpec := { name := "regionOthers", fn := fun _ => fun
  | [d1, d2, d3, d4, d5, d6] => { results := [.lit (.bool false)], args := [d1, d2, d3, d4, d5, d6] }
  | _ => none }
def RegionOthersWrongFalsely : Prop := regionOthersRow.holds Tryz.pinned (OpenSpec.ofChange regionOthersWrong)

/-- 'joustlaw09.RegionLeaves': WHATEVER THE INPUT: true; the input reads as it did. -/
def regionLeavesSpec : ChangeSpec := { name := "regionLeaves", fn := fun _ => fun
  | [d1, d2, d3, d4] => { results := [.lit (.bool true)], args := [d1, d2, d3, d4] }
  | _ => none }
def regionLeavesRow : OpenClaim := { program := "ytocoddeaoljoeaagreat", sum := "b4bf247c151d284caedd34663d4985d4b4a6538ab43f1dca5b50c873186b9887", func := "joust/joustlaw09.RegionLeaves", spec := "regionLeaves", inPlace := ["slices.overlaps[joust/api.Entity]"], unfollowed := true, recurses := true, apart := false }
def RegionLeavesSaid : Prop := regionLeavesRow.holds Tryz.pinned (OpenSpec.ofChange regionLeavesSpec)

/-- ITS FALSE NEIGHBOUR: 'it returns false'. Refute it at one input. -/
def regionLeavesWrong : ChangeSpec := { name := "regionLeaves", fn := fun _ => fun
  | [d1, d2, d3, d4] => { results := [.lit (.bool false)], args := [d1, d2, d3, d4] }
  | _ => none }
def RegionLeavesWrongFalsely : Prop := regionLeavesRow.holds Tryz.pinned (OpenSpec.ofChange regionLeavesWrong)

/- THE SECOND FORM. 'bulk': how many values and letters a reading holds, each counted each time it is reached (what is shared counts as often as it is met; a slice's spare places count too). A statement '..UptoSaid' is the law's where the arguments, and the package variables that the reading takes, are together of bulk at most 1048576: NARROWER than '..Said'. Prove '..Said' where nothing that the law and all that it calls make is longer than what came in: it says more and counts as full. Else prove '..UptoSaid'. A law counts once. -/
mutual
def uptoBulk {H : Type} : DataW H → Nat
  | .lit (.string bytes) => bytes.length + 1
  | .lit _ => 1
  | .nil => 1
  | .ptr d => uptoBulk d + 1
  | .slice elems spare => uptoBulkAll elems + uptoBulkAll spare + 1
  | .agg parts => uptoBulkAll parts + 1
  | .iface _ d => uptoBulk d + 1
  | .map entries => uptoBulkEntries entries + 1
  | .held _ => 1
def uptoBulkAll {H : Type} : List (DataW H) → Nat
  | [] => 0
  | d :: r => uptoBulk d + uptoBulkAll r
def uptoBulkEntries {H : Type} : List (Lit × DataW H) → Nat
  | [] => 0
  | x :: r => uptoBulkEntry x + uptoBulkEntries r
def uptoBulkEntry {H : Type} : Lit × DataW H → Nat
  | (.string bytes, d) => bytes.length + uptoBulk d + 1
  | (_, d) => uptoBulk d + 1
 end
def uptoSmall : (H : Type) → List (DataW H) → Bool := fun _ ds => decide (uptoBulkAll ds ≤ 1048576)
def OpenSpec.upto (s : _root_.Go.ChangeSpec) : _root_.Go.OpenSpec := { _root_.Go.OpenSpec.ofChange s with cond := some uptoSmall }

/-- 'joustlaw09.RegionRight', WHERE WHAT IT READS IS OF BULK AT MOST 1048576: true; the input reads as it did. -/
def regionRightUptoRow : OpenClaim := { program := "ytocoddeaoljoeaagreat", sum := "b4bf247c151d284caedd34663d4985d4b4a6538ab43f1dca5b50c873186b9887", func := "joust/joustlaw09.RegionRight", spec := "regionRight", inPlace := ["slices.overlaps[joust/api.Entity]"], unfollowed := true, recurses := true, apart := false, narrowed := true }
def RegionRightUptoSaid : Prop := regionRightUptoRow.holds Tryz.pinned (OpenSpec.upto regionRightSpec)

/-- 'joustlaw09.RegionKeeps', WHERE WHAT IT READS IS OF BULK AT MOST 1048576: true; the input reads as it did. -/
def regionKeepsUptoRow : OpenClaim := { program := "ytocoddeaoljoeaagreat", sum := "b4bf247c151d284caedd34663d4985d4b4a6538ab43f1dca5b50c873186b9887", func := "joust/joustlaw09.RegionKeeps", spec := "regionKeeps", inPlace := ["slices.overlaps[joust/api.Entity]"], unfollowed := true, recurses := true, apart := false, narrowed := true }
def RegionKeepsUptoSaid : Prop := regionKeepsUptoRow.holds Tryz.pinned (OpenSpec.upto regionKeepsSpec)

/-- 'joustlaw09.RegionRefuses', WHERE WHAT IT READS IS OF BULK AT MOST 1048576: true; the input reads as it did. -/
def regionRefusesUptoRow : OpenClaim := { program := "ytocoddeaoljoeaagreat", sum := "b4bf247c151d284caedd34663d4985d4b4a6538ab43f1dca5b50c873186b9887", func := "joust/joustlaw09.RegionRefuses", spec := "regionRefuses", inPlace := ["slices.overlaps[joust/api.Entity]"], unfollowed := true, recurses := true, apart := false, narrowed := true }
def RegionRefusesUptoSaid : Prop := regionRefusesUptoRow.holds Tryz.pinned (OpenSpec.upto regionRefusesSpec)

/-- 'joustlaw09.RegionBlasts', WHERE WHAT IT READS IS OF BULK AT MOST 1048576: true; the input reads as it did. -/
def regionBlastsUptoRow : OpenClaim := { program := "ytocoddeaoljoeaagreat", sum := "b4bf247c151d284caedd34663d4985d4b4a6538ab43f1dca5b50c873186b9887", func := "joust/joustlaw09.RegionBlasts", spec := "regionBlasts", inPlace := ["slices.overlaps[joust/api.Entity]"], unfollowed := true, recurses := true, apart := false, narrowed := true }
def RegionBlastsUptoSaid : Prop := regionBlastsUptoRow.holds Tryz.pinned (OpenSpec.upto regionBlastsSpec)

/-- 'joustlaw09.RegionEmpty', WHERE WHAT IT READS IS OF BULK AT MOST 1048576: true; the input reads as it did. -/
def regionEmptyUptoRow : OpenClaim := { program := "ytocoddeaoljoeaagreat", sum := "b4bf247c151d284caedd34663d4985d4b4a6538ab43f1dca5b50c873186b9887", func := "joust/joustlaw09.RegionEmpty", spec := "regionEmpty", inPlace := ["slices.overlaps[joust/api.Entity]"], unfollowed := true, recurses := true, apart := false, narrowed := true }
def RegionEmptyUptoSaid : Prop := regionEmptyUptoRow.holds Tryz.pinned (OpenSpec.upto regionEmptySpec)

/-- 'joustlaw09.RegionOthers', WHERE WHAT IT READS IS OF BULK AT MOST 1048576: true; the input reads as it did. -/
def regionOthersUptoRow : OpenClaim := { program := "ytocoddeaoljoeaagreat", sum := "b4bf247c151d284caedd34663d4985d4b4a6538ab43f1dca5b50c873186b9887", func := "joust/joustlaw09.RegionOthers", spec := "regionOthers", inPlace := ["slices.overlaps[joust/api.Entity]"], unfollowed := true, recurses := true, apart := false, narrowed := true }
def RegionOthersUptoSaid : Prop := regionOthersUptoRow.holds Tryz.pinned (OpenSpec.upto regionOthersSpec)

/-- 'joustlaw09.RegionLeaves', WHERE WHAT IT READS IS OF BULK AT MOST 1048576: true; the input reads as it did. -/
def regionLeavesUptoRow : OpenClaim := { program := "ytocoddeaoljoeaagreat", sum := "b4bf247c151d284caedd34663d4985d4b4a6538ab43f1dca5b50c873186b9887", func := "joust/joustlaw09.RegionLeaves", spec := "regionLeaves", inPlace := ["slices.overlaps[joust/api.Entity]"], unfollowed := true, recurses := true, apart := false, narrowed := true }
def RegionLeavesUptoSaid : Prop := regionLeavesUptoRow.holds Tryz.pinned (OpenSpec.upto regionLeavesSpec)

end Rows
end Go.Proofs.YtocoddeaoljoeaaGreat
