/- What the laws of layer 7 ask for beside the contracts. -/
import Derived.Test.YthkgbengmfedjaaMvAwake
import Derived.Test.YthkgbengmfedjaaMvGoM
import Derived.Test.YthkgbengmfedjaaGrNew
import Derived.Test.YthkgbengmfedjaaGBoxNEntity
import Derived.Test.YthkgbengmfedjaaGBoxNInput
import Derived.Test.YthkgbengmfedjaaGBoxNConfig
namespace Go.Proofs.Ythkgbengmfedjaa.Fx
open Go.ChangeShapes Go.WideShapes Go.ChangeAt Go.RowKit
set_option linter.unusedVariables false

theorem below_nxa {w0 w w' W : World} {o : Obj} (h : Below w0.heap.size w0 w) (hb : Below w.heap.size w w') (hW : w'.alloc o = W) : Below w0.heap.size w0 W := by
  subst hW
  exact (nextW h hb).alloc (nextW h hb).size _

@[go_sem high] theorem eql_Ent0 (a : Ent) (w : World) : (binOp .eql 26 (.agg #[.int .i64 a.id, .int .i64 a.kind, .int .i64 a.x, .int .i64 a.y, .int .i64 a.vx, .int .i64 a.vy, .int .i64 a.health, .int .i64 a.age, .int .i64 a.owner]) (.agg #[.int .i64 0, .int .i64 0, .int .i64 0, .int .i64 0, .int .i64 0, .int .i64 0, .int .i64 0, .int .i64 0, .int .i64 0])).run Try.prog w = .ok (.bool (eqEnt a nobody)) w := eql_Ent a nobody w

theorem zbox (w : World) (t : TypeId) : EntBox (w.alloc (.cells #[.int .i64 0, .int .i64 0, .int .i64 0, .int .i64 0, .int .i64 0, .int .i64 0, .int .i64 0, .int .i64 0, .int .i64 0] t)) w.heap.size nobody := EntBox.n1 _ _ _ rfl

theorem ins_no {a b p n : Int} (h : rt a b p n = false) (x y : Int) : ins a b p n x y = false := by
  unfold ins wid hei
  rw [h]
  exact decide_eq_false (by simp)

theorem eright_no {a b p n : Int} (h : rt a b p n = false) (y : Ent) : erightB a b p n y = false := by
  unfold erightB
  rw [ins_no h]
  rfl

/-- grid.New: a grid on which an entity goes as it goes by the config. -/
theorem new_mv (c : Cfg) (y : Ent) (w : World) :
    Calls Try.prog 8 #[.agg #[.int .i64 c.cols, .int .i64 c.rows, .int .i64 c.players, .int .i64 c.window, .int .u64 c.seed]] w fun e w' => ∃ (g : Cfg) (q : Int), e = .returned (.tuple #[.agg #[.int .i64 g.cols, .int .i64 g.rows, .int .i64 g.players, .int .i64 g.window, .int .u64 g.seed], .int .i64 q]) ∧ goE g.cols g.rows g.players g.window y = goE c.cols c.rows c.players c.window y ∧ goB g.cols g.rows g.players g.window y = goB c.cols c.rows c.players c.window y ∧ Below w.heap.size w w' := by
  by_cases h : rt c.cols c.rows c.players c.window = true
  · exact (new_yes _ _ _ _ _ w h).mono fun e w' ⟨h1, h2⟩ => ⟨c, 0, h1, rfl, rfl, h2⟩
  · rw [Bool.not_eq_true] at h
    obtain ⟨e1, e2⟩ := go_no (eright_no h y)
    obtain ⟨e3, e4⟩ := go_no (eright_no (show rt 0 0 0 0 = false from by decide) y)
    exact (new_no _ _ _ _ _ w h).mono fun e w' ⟨h1, h2⟩ => ⟨⟨0, 0, 0, 0, 0⟩, 10, h1, e3.trans e1.symm, e4.trans e2.symm, h2⟩

end Go.Proofs.Ythkgbengmfedjaa.Fx
