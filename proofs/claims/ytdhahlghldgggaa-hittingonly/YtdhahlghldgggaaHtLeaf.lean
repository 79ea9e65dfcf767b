/- Package hitting's small calls: who is reached, hit, and picks up; what becomes of a health. -/
import Derived.Test.YtdhahlghldgggaaHtPure
import Derived.Test.YtdhahlghldgggaaGBase
import Derived.Test.YtdhahlghldgggaaGBoxEntity
import Derived.Lib.Hide
import Derived.Lib.MinMax
import Derived.Shelf.Abstract
namespace Go.Proofs.Ytdhahlghldgggaa.Fx
open Go.ChangeShapes Go.WideShapes Go.ChangeAt Go.RowKit
set_option linter.unusedVariables false

/-- Is e a player so far at most? -/
def rchB (x y r : Int) (e : Ent) : Bool := decide (e.kind = 1) && decide (far e.x e.y x y ≤ r)

theorem reached_any (y : Ent) (a b r : Int) (w : World) :
    Calls Try.prog 16 #[.agg #[.int .i64 y.id, .int .i64 y.kind, .int .i64 y.x, .int .i64 y.y, .int .i64 y.vx, .int .i64 y.vy, .int .i64 y.health, .int .i64 y.age, .int .i64 y.owner], .int .i64 a, .int .i64 b, .int .i64 r] w fun z w' => z = .returned (.bool (rchB a b r y)) ∧ Below w.heap.size w w' := by
  have HF := Lib.hid (fun w => far_any y.x y.y a b w)
  have HB := Lib.hid (show rchB a b r y = (decide (y.kind = 1) && decide (far y.x y.y a b ≤ r)) from rfl)
  generalize rchB a b r y = q at *
  generalize far y.x y.y a b = d at *
  by_cases hk : y.kind = 1
  · have hk' : decide (y.kind = 1) = true := decide_eq_true hk
    go_enter Try.func16, Try.ntmps16
    go_wp2_with fail
    refine (HF.out _).mono ?_
    rintro e w' ⟨rfl, rfl⟩
    go_wp2
    go_ret
    exact ⟨ret_bool (by rw [HB.out]; simp [hk]), (Below.refl _ _).alloc (Nat.le_refl _) _⟩
  · have hk' : (y.kind == 1) = false := by simpa using hk
    go_enter Try.func16, Try.ntmps16
    go_wp2
    go_ret
    exact ⟨ret_bool (by rw [HB.out]; simp [hk]), (Below.refl _ _).alloc (Nat.le_refl _) _⟩

def shotM (t e : Ent) : Bool := decide (¬ e.id = t.owner) && rchB t.x t.y 24 e

def gemM (t e : Ent) : Bool := rchB t.x t.y 32 e

theorem shot_hit {t : Ent} (h : t.kind = 2) (e : Ent) : shotM t e = hitB 24 t e := by
  unfold shotM hitB rchB
  rw [h]
  cases decide (¬ e.id = t.owner) <;> simp

theorem gem_hit {t : Ent} (h : t.kind = 3) (e : Ent) : gemM t e = hitB 32 t e := by
  unfold gemM hitB rchB
  rw [h]
  simp

/-- A test that is handed on. -/
def Asks (F : Nat) (m : Ent → Ent → Bool) : Prop := Enters Try.prog F ∧ ∀ (t y : Ent) (w : World), Calls Try.prog F #[.agg #[.int .i64 t.id, .int .i64 t.kind, .int .i64 t.x, .int .i64 t.y, .int .i64 t.vx, .int .i64 t.vy, .int .i64 t.health, .int .i64 t.age, .int .i64 t.owner], .agg #[.int .i64 y.id, .int .i64 y.kind, .int .i64 y.x, .int .i64 y.y, .int .i64 y.vx, .int .i64 y.vy, .int .i64 y.health, .int .i64 y.age, .int .i64 y.owner]] w fun z w' => z = .returned (.bool (m t y)) ∧ Below w.heap.size w w'

/-- A turn of a health that is handed on. -/
def Turns (G : Nat) (f : Int → Int) : Prop := Enters Try.prog G ∧ ∀ (h : Int) (w : World), Calls Try.prog G #[.int .i64 h] w fun z w' => z = .returned (.int .i64 (f h)) ∧ Below w.heap.size w w'

theorem gems_asks : Asks 15 gemM := by
  refine ⟨enters_of Try.func15 (by kernel_rfl) rfl, ?_⟩
  intro t y w
  have HR := Lib.hid (fun w => reached_any y t.x t.y 32 w)
  have HB := Lib.hid (show gemM t y = rchB t.x t.y 32 y from rfl)
  rw [HB.out]
  generalize rchB t.x t.y 32 y = q at *
  go_enter Try.func15, Try.ntmps15
  go_wp2_with fail
  refine (HR.out _).mono ?_
  rintro e w1 ⟨rfl, hb⟩
  have Hb := Lib.hid (unbox (unbox hb))
  clear hb
  go_wp2
  go_ret
  exact ⟨rfl, Hb.out⟩

theorem shots_asks : Asks 20 shotM := by
  refine ⟨enters_of Try.func20 (by kernel_rfl) rfl, ?_⟩
  intro t y w
  have HR := Lib.hid (fun w => reached_any y t.x t.y 24 w)
  have HB := Lib.hid (show shotM t y = (decide (¬ y.id = t.owner) && rchB t.x t.y 24 y) from rfl)
  generalize shotM t y = r at *
  generalize rchB t.x t.y 24 y = q at *
  by_cases hk : y.id = t.owner
  · have hk' : (y.id != t.owner) = false := by simpa using hk
    go_enter Try.func20, Try.ntmps20
    go_wp2
    go_ret
    exact ⟨ret_bool (by rw [HB.out]; simp [hk]), ((Below.refl _ _).alloc (Nat.le_refl _) _).alloc (by simp) _⟩
  · have hk' : (y.id != t.owner) = true := by simpa using hk
    go_enter Try.func20, Try.ntmps20
    go_wp2_with fail
    refine (HR.out _).mono ?_
    rintro e w1 ⟨rfl, hb⟩
    have Hb := Lib.hid (unbox (unbox hb))
    clear hb
    go_wp2
    go_ret
    exact ⟨ret_bool (by rw [HB.out]; simp [hk]), Hb.out⟩

theorem shots_turns : Turns 21 (fun h => sub h 20) := by
  refine ⟨enters_of Try.func21 (by kernel_rfl) rfl, ?_⟩
  intro h w
  have HR := Lib.hid (fun w => sub_any h 20 w)
  show Calls _ _ _ _ fun z w' => z = .returned (.int .i64 (sub h 20)) ∧ Below w.heap.size w w'
  generalize sub h 20 = q at *
  go_enter Try.func21, Try.ntmps21
  go_wp2_with fail
  refine (HR.out _).mono ?_
  rintro e w1 ⟨rfl, rfl⟩
  go_wp2
  go_ret
  exact ⟨rfl, Below.refl _ _⟩

theorem gems_turns : Turns 17 (fun h => min 100 (addl [h, 25])) := by
  refine ⟨enters_of Try.func17 (by kernel_rfl) rfl, ?_⟩
  intro h w
  have HR := Lib.hid (fun A c w hl => add_any A 2 c [h, 25] w hl (by omega))
  have HB := Lib.hid (addl_bd [h, 25])
  show Calls _ _ _ _ fun z w' => z = .returned (.int .i64 (min 100 (addl [h, 25]))) ∧ Below w.heap.size w w'
  generalize addl [h, 25] = q at *
  go_enter Try.func17, Try.ntmps17
  go_wp2_with fail
  refine (HR.out _ _ _ (ints_new2 _ _ _ _ _ (by simp))).mono ?_
  rintro e w1 ⟨rfl, rfl⟩
  go_wp2
  go_ret
  exact ⟨ret_int (by omega), (Below.refl _ _).alloc (Nat.le_refl _) _⟩

end Go.Proofs.Ytdhahlghldgggaa.Fx
