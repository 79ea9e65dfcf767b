/- Contracts of package input's small functions and of the document's answers beside them: what each returns, for every input; old memory stays. -/
import Derived.Test.YtaoncmgcpegogaaGBase
import Derived.Laws.StructEq
namespace Go.Proofs.Ytaoncmgcpegogaa.Fx
open Go.ChangeShapes Go.WideShapes Go.ChangeAt Go.RowKit
set_option linter.unusedVariables false

/-- Are two inputs the same? -/
def same (a b : Int) (f : Bool) (c d : Int) (g : Bool) : Bool := decide (a = c ∧ b = d ∧ f = g)

@[go_sem] theorem same_self (a b : Int) (f : Bool) : same a b f a b f = true := by simp [same]

theorem eq_input (a b c d : Int) (f g : Bool) (w : World) : (Op.equalIn 10000 23 (.agg #[.int .i64 a, .int .i64 b, .bool f]) (.agg #[.int .i64 c, .int .i64 d, .bool g])).run Try.prog w = .ok (same a b f c d g) w := by
  have hS : Try.prog.underlying 23 = some (.struct (Try.prog.fieldsOf 23)) := by kernel_rfl
  have hp : Try.prog.stoodInHeld 23 = false := by kernel_rfl
  rw [show (10000 : Nat) = 9999 + 1 from rfl, run_equalIn_agg w 9999 23 _ _ hS hp]
  simp only [Program.fieldsOf, Try.underlying23]
  go_simp
  by_cases h1 : a = c <;> by_cases h2 : b = d <;> cases f <;> cases g <;> simp [h1, h2, same]

@[go_sem high] theorem eql_input (a b c d : Int) (f g : Bool) (w : World) : (binOp .eql 23 (.agg #[.int .i64 a, .int .i64 b, .bool f]) (.agg #[.int .i64 c, .int .i64 d, .bool g])).run Try.prog w = .ok (.bool (same a b f c d g)) w := by
  rw [run_eql_struct, eq_input]; rfl

@[go_sem high] theorem neq_input (a b c d : Int) (f g : Bool) (w : World) : (binOp .neq 23 (.agg #[.int .i64 a, .int .i64 b, .bool f]) (.agg #[.int .i64 c, .int .i64 d, .bool g])).run Try.prog w = .ok (.bool (!same a b f c d g)) w := by
  rw [run_neq_struct, eq_input]; rfl

def nr2 (v : Int) : Bool := decide (-2 ≤ v ∧ v ≤ 2)

/-- Is an input right? -/
def irt (x y : Int) : Bool := decide (-2 ≤ x ∧ x ≤ 2 ∧ -2 ≤ y ∧ y ≤ 2)

theorem irt_nr (x y : Int) : irt x y = (nr2 x && nr2 y) := by rw [Bool.eq_iff_iff]; simp [irt, nr2]; omega

theorem near_in (v : Int) (w : World) :
    Calls Try.prog 18 #[.int .i64 v] w fun e w' => e = .returned (.bool (nr2 v)) ∧ w = w' := by
  by_cases h1 : -2 ≤ v
  · by_cases h2 : v ≤ 2
    · go_enter Try.func18, Try.ntmps18
      go_wp2
      go_ret
      exact ⟨by simp [nr2, h1, h2], rfl⟩
    · have h3 : decide (v ≤ 2) = false := by simpa using h2
      go_enter Try.func18, Try.ntmps18
      go_wp2
      go_ret
      exact ⟨by simp [nr2, h1, h2], rfl⟩
  · have h3 : decide (-2 ≤ v) = false := by simpa using h1
    go_enter Try.func18, Try.ntmps18
    go_wp2
    go_ret
    exact ⟨by simp [nr2]; omega, rfl⟩

theorem right_in (x y : Int) (f : Bool) (w : World) :
    Calls Try.prog 11 #[.agg #[.int .i64 x, .int .i64 y, .bool f]] w fun e w' => e = .returned (.bool (irt x y)) ∧ Below w.heap.size w w' := by
  have HR := Lib.hid (irt_nr x y)
  have H1 := Lib.hid (fun w => near_in x w)
  have H2 := Lib.hid (fun w => near_in y w)
  generalize irt x y = r at HR ⊢
  generalize nr2 x = x1 at HR H1
  generalize nr2 y = x2 at HR H2
  cases x1
  · go_enter Try.func11, Try.ntmps11
    go_wp2_with fail
    refine (H1.out _).mono ?_
    rintro e w' ⟨rfl, rfl⟩
    go_wp2
    go_ret
    exact ⟨by rw [HR.out]; rfl, (Below.refl _ _).alloc (Nat.le_refl _) _⟩
  · go_enter Try.func11, Try.ntmps11
    go_wp2_with fail
    refine (H1.out _).mono ?_
    rintro e w' ⟨rfl, rfl⟩
    go_wp2_with fail
    refine (H2.out _).mono ?_
    rintro e w' ⟨rfl, rfl⟩
    go_wp2
    go_ret
    exact ⟨by rw [HR.out]; rfl, (Below.refl _ _).alloc (Nat.le_refl _) _⟩

theorem rinput_in (x y : Int) (f : Bool) (w : World) :
    Calls Try.prog 12 #[.agg #[.int .i64 x, .int .i64 y, .bool f]] w fun e w' => e = .returned (.bool (irt x y)) ∧ Below w.heap.size w w' := by
  go_enter Try.func12, Try.ntmps12
  go_wp2
  all_goals go_ret
  all_goals refine ⟨?_, (Below.refl _ _).alloc (Nat.le_refl _) _⟩
  all_goals (refine ret_bool ?_; simp [irt]; omega)

/-- A step that is guessed. -/
def gs (x y : Int) (k : Bool) (v : Int) : Int := if k && irt x y then v else 0

theorem guess_in (x y : Int) (f k : Bool) (w : World) :
    Calls Try.prog 15 #[.agg #[.int .i64 x, .int .i64 y, .bool f], .bool k] w fun e w' => e = .returned (.agg #[.int .i64 (gs x y k x), .int .i64 (gs x y k y), .bool false]) ∧ Below w.heap.size w w' := by
  have HT := Lib.hid (fun w => right_in x y f w)
  cases k
  · have h1 : gs x y false x = 0 := rfl
    have h2 : gs x y false y = 0 := rfl
    rw [h1, h2]
    clear h1 h2
    go_enter Try.func15, Try.ntmps15
    go_wp2
    refine bodyPost_ret (v := .agg #[.int .i64 0, .int .i64 0, .bool false]) (by simp [results, Try.results15, go_sem]) rfl ⟨rfl, ?_⟩
    exact ((Below.refl _ _).alloc (Nat.le_refl _) _).alloc (by simp) _
  · by_cases h : irt x y = true
    · have h1 : gs x y true x = x := by unfold gs; rw [h]; rfl
      have h2 : gs x y true y = y := by unfold gs; rw [h]; rfl
      rw [h1, h2]
      rw [h] at HT
      clear h1 h2 h
      go_enter Try.func15, Try.ntmps15
      go_wp2_with fail
      refine (HT.out _).mono ?_
      rintro e w1 ⟨rfl, hbw1⟩
      obtain ⟨hcw1, hfw1⟩ := bcell hbw1
      have hzw1 : w.heap.size < w1.heap.size := by have := hbw1.size; (try simp at this); omega
      have hzw1_1 : w.heap.size + 1 < w1.heap.size := by have := hbw1.size; (try simp at this); omega
      have Hbw1 := Lib.hid hbw1
      clear hbw1
      have c0 : w1.cell? ⟨w.heap.size, 0, none⟩ = some (.int .i64 x) := by rw [hcw1 _ _ (by simp; omega)]; simp
      have c1 : w1.cell? ⟨w.heap.size, 1, none⟩ = some (.int .i64 y) := by rw [hcw1 _ _ (by simp; omega)]; simp
      have c2 : w1.cell? ⟨w.heap.size, 2, none⟩ = some (.bool f) := by rw [hcw1 _ _ (by simp; omega)]; simp
      go_wp2
      refine bodyPost_ret (v := .agg #[.int .i64 x, .int .i64 y, .bool false]) (by simp [results, Try.results15, go_sem, hcw1]) rfl ⟨rfl, ?_⟩
      exact ((((unbox (unbox Hbw1.out)).setCell (Nat.le_refl _) _).setCell (Nat.le_succ _) _).setCell (Nat.le_succ _) _).setCell (Nat.le_succ _) _
    · rw [Bool.not_eq_true] at h
      have h1 : gs x y true x = 0 := by unfold gs; rw [h]; rfl
      have h2 : gs x y true y = 0 := by unfold gs; rw [h]; rfl
      rw [h1, h2]
      rw [h] at HT
      clear h1 h2 h
      go_enter Try.func15, Try.ntmps15
      go_wp2_with fail
      refine (HT.out _).mono ?_
      rintro e w1 ⟨rfl, hbw1⟩
      obtain ⟨hcw1, hfw1⟩ := bcell hbw1
      have hzw1 : w.heap.size < w1.heap.size := by have := hbw1.size; (try simp at this); omega
      have hzw1_1 : w.heap.size + 1 < w1.heap.size := by have := hbw1.size; (try simp at this); omega
      have Hbw1 := Lib.hid hbw1
      clear hbw1
      go_wp2
      refine bodyPost_ret (v := .agg #[.int .i64 0, .int .i64 0, .bool false]) (by simp [results, Try.results15, go_sem, hcw1]) rfl ⟨rfl, ?_⟩
      exact (((unbox (unbox Hbw1.out)).setCell (Nat.le_succ _) _).setCell (Nat.le_succ _) _).setCell (Nat.le_succ _) _

theorem rguess_in (x y : Int) (f k : Bool) (w : World) :
    Calls Try.prog 16 #[.agg #[.int .i64 x, .int .i64 y, .bool f], .bool k] w fun e w' => e = .returned (.agg #[.int .i64 (gs x y k x), .int .i64 (gs x y k y), .bool false]) ∧ Below w.heap.size w w' := by
  have HT := Lib.hid (fun w => rinput_in x y f w)
  cases k
  · have h1 : gs x y false x = 0 := rfl
    have h2 : gs x y false y = 0 := rfl
    rw [h1, h2]
    clear h1 h2
    go_enter Try.func16, Try.ntmps16
    go_wp2
    refine bodyPost_ret (v := .agg #[.int .i64 0, .int .i64 0, .bool false]) (by simp [results, Try.results16, go_sem]) rfl ⟨rfl, ?_⟩
    exact ((Below.refl _ _).alloc (Nat.le_refl _) _).alloc (by simp) _
  · by_cases h : irt x y = true
    · have h1 : gs x y true x = x := by unfold gs; rw [h]; rfl
      have h2 : gs x y true y = y := by unfold gs; rw [h]; rfl
      rw [h1, h2]
      rw [h] at HT
      clear h1 h2 h
      go_enter Try.func16, Try.ntmps16
      go_wp2_with fail
      refine (HT.out _).mono ?_
      rintro e w1 ⟨rfl, hbw1⟩
      obtain ⟨hcw1, hfw1⟩ := bcell hbw1
      have hzw1 : w.heap.size < w1.heap.size := by have := hbw1.size; (try simp at this); omega
      have hzw1_1 : w.heap.size + 1 < w1.heap.size := by have := hbw1.size; (try simp at this); omega
      have Hbw1 := Lib.hid hbw1
      clear hbw1
      have c0 : w1.cell? ⟨w.heap.size, 0, none⟩ = some (.int .i64 x) := by rw [hcw1 _ _ (by simp; omega)]; simp
      have c1 : w1.cell? ⟨w.heap.size, 1, none⟩ = some (.int .i64 y) := by rw [hcw1 _ _ (by simp; omega)]; simp
      have c2 : w1.cell? ⟨w.heap.size, 2, none⟩ = some (.bool f) := by rw [hcw1 _ _ (by simp; omega)]; simp
      go_wp2
      refine bodyPost_ret (v := .agg #[.int .i64 x, .int .i64 y, .bool false]) (by simp [results, Try.results16, go_sem, hcw1]) rfl ⟨rfl, ?_⟩
      exact ((((unbox (unbox Hbw1.out)).setCell (Nat.le_refl _) _).setCell (Nat.le_succ _) _).setCell (Nat.le_succ _) _).setCell (Nat.le_succ _) _
    · rw [Bool.not_eq_true] at h
      have h1 : gs x y true x = 0 := by unfold gs; rw [h]; rfl
      have h2 : gs x y true y = 0 := by unfold gs; rw [h]; rfl
      rw [h1, h2]
      rw [h] at HT
      clear h1 h2 h
      go_enter Try.func16, Try.ntmps16
      go_wp2_with fail
      refine (HT.out _).mono ?_
      rintro e w1 ⟨rfl, hbw1⟩
      obtain ⟨hcw1, hfw1⟩ := bcell hbw1
      have hzw1 : w.heap.size < w1.heap.size := by have := hbw1.size; (try simp at this); omega
      have hzw1_1 : w.heap.size + 1 < w1.heap.size := by have := hbw1.size; (try simp at this); omega
      have Hbw1 := Lib.hid hbw1
      clear hbw1
      go_wp2
      refine bodyPost_ret (v := .agg #[.int .i64 0, .int .i64 0, .bool false]) (by simp [results, Try.results16, go_sem, hcw1]) rfl ⟨rfl, ?_⟩
      exact (((unbox (unbox Hbw1.out)).setCell (Nat.le_succ _) _).setCell (Nat.le_succ _) _).setCell (Nat.le_succ _) _

/-- The code of an input. -/
def cod (x y : Int) (f : Bool) : Int := if irt x y then (x + 2) * 10 + (y + 2) * 2 + (if f then 1 else 0) else 0

theorem irt_bd {x y : Int} (h : irt x y = true) : -2 ≤ x ∧ x ≤ 2 ∧ -2 ≤ y ∧ y ≤ 2 := by simpa [irt] using h

theorem rcode_in (x y : Int) (f : Bool) (w : World) :
    Calls Try.prog 14 #[.agg #[.int .i64 x, .int .i64 y, .bool f]] w fun e w' => e = .returned (.int .u8 (cod x y f)) ∧ Below w.heap.size w w' := by
  have HT := Lib.hid (fun w => rinput_in x y f w)
  by_cases h : irt x y = true
  · have hb := irt_bd h
    rw [h] at HT
    have hc : cod x y f = (x + 2) * 10 + (y + 2) * 2 + (if f then 1 else 0) := by unfold cod; rw [if_pos h]
    rw [hc]
    clear hc h
    cases f
    · go_enter Try.func14, Try.ntmps14
      go_wp2_with fail
      refine (HT.out _).mono ?_
      rintro e w1 ⟨rfl, hbw1⟩
      obtain ⟨hcw1, hfw1⟩ := bcell hbw1
      have hzw1 : w.heap.size < w1.heap.size := by have := hbw1.size; (try simp at this); omega
      have Hbw1 := Lib.hid hbw1
      clear hbw1
      go_wp2
      go_ret
      exact ⟨ret_int (by simp), unbox Hbw1.out⟩
    · go_enter Try.func14, Try.ntmps14
      go_wp2_with fail
      refine (HT.out _).mono ?_
      rintro e w1 ⟨rfl, hbw1⟩
      obtain ⟨hcw1, hfw1⟩ := bcell hbw1
      have hzw1 : w.heap.size < w1.heap.size := by have := hbw1.size; (try simp at this); omega
      have Hbw1 := Lib.hid hbw1
      clear hbw1
      go_wp2
      go_ret
      exact ⟨ret_int (by simp), unbox Hbw1.out⟩
  · rw [Bool.not_eq_true] at h
    have hc : cod x y f = 0 := by unfold cod; rw [if_neg (by simp [h])]
    rw [h] at HT
    rw [hc]
    clear hc h
    go_enter Try.func14, Try.ntmps14
    go_wp2_with fail
    refine (HT.out _).mono ?_
    rintro e w1 ⟨rfl, hbw1⟩
    obtain ⟨hcw1, hfw1⟩ := bcell hbw1
    have hzw1 : w.heap.size < w1.heap.size := by have := hbw1.size; (try simp at this); omega
    have Hbw1 := Lib.hid hbw1
    clear hbw1
    go_wp2
    go_ret
    exact ⟨rfl, unbox Hbw1.out⟩

/-- The input of a code. -/
def fcx (b : Int) : Int := if b ≤ 49 then b / 10 - 2 else 0

def fcy (b : Int) : Int := if b ≤ 49 then b % 10 / 2 - 2 else 0

def fcf (b : Int) : Bool := decide (b ≤ 49 ∧ b % 2 = 1)

theorem rfrom_in (b : Int) (w : World) (h0 : 0 ≤ b) (h1 : b ≤ 255) :
    Calls Try.prog 9 #[.int .u8 b] w fun e w' => e = .returned (.tuple #[.agg #[.int .i64 (fcx b), .int .i64 (fcy b), .bool (fcf b)], .bool (decide (b ≤ 49))]) ∧ Below w.heap.size w w' := by
  by_cases h : b ≤ 49
  · have e1 : fcx b = b / 10 - 2 := by unfold fcx; rw [if_pos h]
    have e2 : fcy b = b % 10 / 2 - 2 := by unfold fcy; rw [if_pos h]
    have e3 : fcf b = (b % 2 == 1) := by rw [Bool.eq_iff_iff]; simp [fcf, h]
    rw [e1, e2, e3, decide_eq_true h]
    clear e1 e2 e3
    go_enter Try.func9, Try.ntmps9
    go_wp2
    refine bodyPost_ret (v := .tuple #[.agg #[.int .i64 (b / 10 - 2), .int .i64 (b % 10 / 2 - 2), .bool (b % 2 == 1)], .bool true]) (by simp [results, Try.results9, go_sem]) rfl ⟨rfl, ?_⟩
    exact (Below.refl _ _).alloc (Nat.le_refl _) _
  · have e1 : fcx b = 0 := by unfold fcx; rw [if_neg h]
    have e2 : fcy b = 0 := by unfold fcy; rw [if_neg h]
    have e3 : fcf b = false := by simp [fcf, h]
    rw [e1, e2, e3, decide_eq_false h]
    clear e1 e2 e3
    go_enter Try.func9, Try.ntmps9
    go_wp2
    refine bodyPost_ret (v := .tuple #[.agg #[.int .i64 0, .int .i64 0, .bool false], .bool false]) (by simp [results, Try.results9, go_sem]) rfl ⟨rfl, ?_⟩
    exact (Below.refl _ _).alloc (Nat.le_refl _) _

end Go.Proofs.Ytaoncmgcpegogaa.Fx
