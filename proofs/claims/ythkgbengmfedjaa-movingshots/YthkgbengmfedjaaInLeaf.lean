/- Contracts of package input's small functions and of the document's answers beside them: what each returns, for every input; old memory stays. -/
import Derived.Test.YthkgbengmfedjaaGBase
import Derived.Laws.StructEq
namespace Go.Proofs.Ythkgbengmfedjaa.Fx
open Go.ChangeShapes Go.WideShapes Go.ChangeAt Go.RowKit
set_option linter.unusedVariables false

/-- Are two inputs the same? -/
def same (a b : Int) (f : Bool) (c d : Int) (g : Bool) : Bool := decide (a = c ∧ b = d ∧ f = g)

@[go_sem] theorem same_self (a b : Int) (f : Bool) : same a b f a b f = true := by simp [same]

theorem eq_input (a b c d : Int) (f g : Bool) (w : World) : (Op.equalIn 10000 28 (.agg #[.int .i64 a, .int .i64 b, .bool f]) (.agg #[.int .i64 c, .int .i64 d, .bool g])).run Try.prog w = .ok (same a b f c d g) w := by
  have hS : Try.prog.underlying 28 = some (.struct (Try.prog.fieldsOf 28)) := by kernel_rfl
  have hp : Try.prog.stoodInHeld 28 = false := by kernel_rfl
  rw [show (10000 : Nat) = 9999 + 1 from rfl, run_equalIn_agg w 9999 28 _ _ hS hp]
  simp only [Program.fieldsOf, Try.underlying28]
  go_simp
  by_cases h1 : a = c <;> by_cases h2 : b = d <;> cases f <;> cases g <;> simp [h1, h2, same]

@[go_sem high] theorem eql_input (a b c d : Int) (f g : Bool) (w : World) : (binOp .eql 28 (.agg #[.int .i64 a, .int .i64 b, .bool f]) (.agg #[.int .i64 c, .int .i64 d, .bool g])).run Try.prog w = .ok (.bool (same a b f c d g)) w := by
  rw [run_eql_struct, eq_input]; rfl

@[go_sem high] theorem neq_input (a b c d : Int) (f g : Bool) (w : World) : (binOp .neq 28 (.agg #[.int .i64 a, .int .i64 b, .bool f]) (.agg #[.int .i64 c, .int .i64 d, .bool g])).run Try.prog w = .ok (.bool (!same a b f c d g)) w := by
  rw [run_neq_struct, eq_input]; rfl

def nr2 (v : Int) : Bool := decide (-2 ≤ v ∧ v ≤ 2)

/-- Is an input right? -/
def irt (x y : Int) : Bool := decide (-2 ≤ x ∧ x ≤ 2 ∧ -2 ≤ y ∧ y ≤ 2)

theorem irt_nr (x y : Int) : irt x y = (nr2 x && nr2 y) := by rw [Bool.eq_iff_iff]; simp [irt, nr2]; omega

theorem near_in (v : Int) (w : World) :
    Calls Try.prog 41 #[.int .i64 v] w fun e w' => e = .returned (.bool (nr2 v)) ∧ w = w' := by
  by_cases h1 : -2 ≤ v
  · by_cases h2 : v ≤ 2
    · go_enter Try.func41, Try.ntmps41
      go_wp2
      go_ret
      exact ⟨by simp [nr2, h1, h2], rfl⟩
    · have h3 : decide (v ≤ 2) = false := by simpa using h2
      go_enter Try.func41, Try.ntmps41
      go_wp2
      go_ret
      exact ⟨by simp [nr2, h1, h2], rfl⟩
  · have h3 : decide (-2 ≤ v) = false := by simpa using h1
    go_enter Try.func41, Try.ntmps41
    go_wp2
    go_ret
    exact ⟨by simp [nr2]; omega, rfl⟩

theorem right_in (x y : Int) (f : Bool) (w : World) :
    Calls Try.prog 25 #[.agg #[.int .i64 x, .int .i64 y, .bool f]] w fun e w' => e = .returned (.bool (irt x y)) ∧ Below w.heap.size w w' := by
  have HR := Lib.hid (irt_nr x y)
  have H1 := Lib.hid (fun w => near_in x w)
  have H2 := Lib.hid (fun w => near_in y w)
  generalize irt x y = r at HR ⊢
  generalize nr2 x = x1 at HR H1
  generalize nr2 y = x2 at HR H2
  cases x1
  · go_enter Try.func25, Try.ntmps25
    go_wp2_with fail
    refine (H1.out _).mono ?_
    rintro e w' ⟨rfl, rfl⟩
    go_wp2
    go_ret
    exact ⟨by rw [HR.out]; rfl, (Below.refl _ _).alloc (Nat.le_refl _) _⟩
  · go_enter Try.func25, Try.ntmps25
    go_wp2_with fail
    refine (H1.out _).mono ?_
    rintro e w' ⟨rfl, rfl⟩
    go_wp2_with fail
    refine (H2.out _).mono ?_
    rintro e w' ⟨rfl, rfl⟩
    go_wp2
    go_ret
    exact ⟨by rw [HR.out]; rfl, (Below.refl _ _).alloc (Nat.le_refl _) _⟩

theorem rinput_in (x y : Int) (f : Bool) (w : World) :
    Calls Try.prog 27 #[.agg #[.int .i64 x, .int .i64 y, .bool f]] w fun e w' => e = .returned (.bool (irt x y)) ∧ Below w.heap.size w w' := by
  go_enter Try.func27, Try.ntmps27
  go_wp2
  all_goals go_ret
  all_goals refine ⟨?_, (Below.refl _ _).alloc (Nat.le_refl _) _⟩
  all_goals (refine ret_bool ?_; simp [irt]; omega)

/-- A step that is guessed. -/
def gs (x y : Int) (k : Bool) (v : Int) : Int := if k && irt x y then v else 0

/-- The code of an input. -/
def cod (x y : Int) (f : Bool) : Int := if irt x y then (x + 2) * 10 + (y + 2) * 2 + (if f then 1 else 0) else 0

theorem irt_bd {x y : Int} (h : irt x y = true) : -2 ≤ x ∧ x ≤ 2 ∧ -2 ≤ y ∧ y ≤ 2 := by simpa [irt] using h

/-- The input of a code. -/
def fcx (b : Int) : Int := if b ≤ 49 then b / 10 - 2 else 0

def fcy (b : Int) : Int := if b ≤ 49 then b % 10 / 2 - 2 else 0

def fcf (b : Int) : Bool := decide (b ≤ 49 ∧ b % 2 = 1)

end Go.Proofs.Ythkgbengmfedjaa.Fx
