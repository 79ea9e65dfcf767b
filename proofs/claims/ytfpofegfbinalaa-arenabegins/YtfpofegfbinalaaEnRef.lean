/- Contracts of the document's answers on lists of entities (joustref05): what each returns, for every list; old memory stays. -/
import Derived.Test.YtfpofegfbinalaaGTypEntity
import Derived.Test.YtfpofegfbinalaaGSeq
import Derived.Test.YtfpofegfbinalaaGrLeaf
import Derived.Test.YtfpofegfbinalaaGIn
import Derived.Test.YtfpofegfbinalaaGLst
import Derived.Maps.AppendAt
import Derived.Deep.DeepMust
import Derived.Deep.DeepCutAuto
namespace Go.Proofs.Ytfpofegfbinalaa.Fx
open Go.ChangeShapes Go.WideShapes Go.ChangeAt Go.RowKit
set_option linter.unusedVariables false
set_option maxRecDepth 100000

/-- The first one's place. -/
def fndI : List Ent → Int → Nat → Int
  | [], _, _ => -1
  | e :: r, id, k => if e.id = id then (k : Int) else fndI r id (k + 1)

def fnd (l : List Ent) (id : Int) : Int := fndI l id 0

/-- How many are no players. -/
def things : List Ent → Int
  | [] => 0
  | e :: r => (if e.kind = 1 then 0 else 1) + things r

theorem things_bd (l : List Ent) : 0 ≤ things l ∧ things l ≤ l.length := by
  induction l with
  | nil => simp [things]
  | cons e r ih => rw [things, List.length_cons]; split <;> omega

/-- Do the numbers rise? -/
def srtI : Int → List Ent → Bool
  | _, [] => true
  | p, e :: r => decide (p < e.id) && srtI e.id r

def srt : List Ent → Bool
  | [] => true
  | e :: r => srtI e.id r

/-- Those whose number is none of ids. -/
def drp (l : List Ent) (ids : List Int) : List Ent := l.filter fun e => !inB ids e.id

/-- A list that comes back in memory. -/
def RetEnts (l : List Ent) (w : World) (e : Ending) (w' : World) : Prop := ∃ v, e = .returned v ∧ IsSl entC w' v l ∧ Below w.heap.size w w'

/-- How many at the head are of less than a number. -/
def pos : List Ent → Int → Nat
  | [], _ => 0
  | e :: r, id => if e.id < id then pos r id + 1 else 0

theorem pos_le (l : List Ent) (id : Int) : pos l id ≤ l.length := by
  induction l with
  | nil => simp [pos]
  | cons e r ih => rw [pos, List.length_cons]; split <;> omega

/-- One is put into a list. -/
def put (l : List Ent) (e : Ent) : List Ent := if 0 ≤ fnd l e.id then l else l.take (pos l e.id) ++ [e] ++ l.drop (pos l e.id)

theorem put_len (l : List Ent) (e : Ent) : (put l e).length ≤ l.length + 1 := by
  unfold put
  have := pos_le l e.id
  split
  · omega
  · simp; omega

end Go.Proofs.Ytfpofegfbinalaa.Fx
