/- What package entity answers, said once: the contracts that the statements' walks lean on. -/
import Derived.Test.YtcpmicghhmoefaaEnRight
import Derived.Test.YtcpmicghhmoefaaEnList
namespace Go.Proofs.Ytcpmicghhmoefaa.Fx
open Go.ChangeShapes Go.WideShapes Go.ChangeAt Go.RowKit

/-- Package entity's calls. -/
structure EnC : Prop where
  right : ∀ (a b p n s : Int) (y : Ent) (w : World), Calls Try.prog 11 #[.agg #[.int .i64 a, .int .i64 b, .int .i64 p, .int .i64 n, .int .u64 s], .agg #[.int .i64 y.id, .int .i64 y.kind, .int .i64 y.x, .int .i64 y.y, .int .i64 y.vx, .int .i64 y.vy, .int .i64 y.health, .int .i64 y.age, .int .i64 y.owner]] w
    fun e w' => e = .returned (.bool (erightB a b p n y)) ∧ Below w.heap.size w w'
  find : ∀ (v : Value) (l : List Ent) (id : Int) (w : World), IsSl entC w v l → l.length ≤ 1000 → Calls Try.prog 13 #[v, .int .i64 id] w fun e w' => e = .returned (.int .i64 (fnd l id)) ∧ Below w.heap.size w w'
  puts : ∀ (v : Value) (l : List Ent) (u : Value) (m : List Ent) (w : World), IsSl entC w v l → l.length ≤ 400 → IsSl entC w u m → m.length ≤ 400 → Calls Try.prog 16 #[v, u] w (RetEnts (Fx.puts l m) w)
  drops : ∀ (v : Value) (l : List Ent) (B : Option Addr) (m d : Nat) (ids : List Int) (w : World), IsSl entC w v l → l.length ≤ 1000 → IntsAt w B m ids → m ≤ 1000 → Calls Try.prog 17 #[v, .slice B m d] w (RetEnts (drp l ids) w)
  things : ∀ (v : Value) (l : List Ent) (w : World), IsSl entC w v l → l.length ≤ 1000 → Calls Try.prog 19 #[v] w fun e w' => e = .returned (.int .i64 (Fx.things l)) ∧ Below w.heap.size w w'
  sorted : ∀ (v : Value) (l : List Ent) (w : World), IsSl entC w v l → l.length ≤ 1000 → Calls Try.prog 21 #[v] w fun e w' => e = .returned (.bool (srt l)) ∧ Below w.heap.size w w'

end Go.Proofs.Ytcpmicghhmoefaa.Fx
