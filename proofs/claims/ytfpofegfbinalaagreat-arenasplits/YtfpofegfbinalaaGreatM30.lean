/- Package region: what may be asked (rightInputs, rightInbox, refusal). -/
import Derived.Test.YtfpofegfbinalaaGreatM29
import Derived.Test.YtfpofegfbinalaaGreatM16
namespace Go.Proofs.YtfpofegfbinalaaGreat.Fx
open Go.ChangeShapes Go.WideShapes Go.ChangeAt Go.RowKit
set_option linter.unusedVariables false
set_option maxRecDepth 100000

def irtI (i : Inp) : Bool := irt i.dx i.dy

theorem wrongI_any (i : Inp) (w : World) :
    Calls Tryz.prog 134 #[.agg #[.int .i64 i.dx, .int .i64 i.dy, .bool i.fire]] w fun z w' => z = .returned (.bool (!irtI i)) ∧ Below w.heap.size w w' := by
  have HR := Lib.hid (fun w => right_in i.dx i.dy i.fire w)
  have HQ := Lib.hid (show irtI i = irt i.dx i.dy from rfl)
  generalize irt i.dx i.dy = q at *
  generalize irtI i = q' at *
  go_enter Tryz.func134, Tryz.ntmps134
  go_wp2_with fail
  refine (HR.out _).mono ?_
  rintro e w1 ⟨rfl, hb1⟩
  have HB := Lib.hid (unbox hb1)
  clear hb1
  go_wp2
  go_ret
  exact ⟨ret_bool (by rw [HQ.out]), HB.out⟩

set_option maxHeartbeats 2000000 in
theorem anywrongI_any (v : Value) (l : List Inp) (w : World) (hv : IsSl inpC w v l) (hn : l.length ≤ 1000000) :
    Calls Tryz.prog 136 #[v, .func (.func 134) #[] #[]] w fun z w' => z = .returned (.bool (!l.all irtI)) ∧ Below w.heap.size w w' := by
  obtain ⟨A, c, rfl, -, -, hat⟩ := hv
  have Hat := Lib.hid hat
  obtain ⟨N, hnn⟩ : ∃ N, l.length = N := ⟨_, rfl⟩
  rw [hnn] at hn ⊢
  have Hn := Lib.hid hnn
  clear hat hnn
  have HF := Lib.hid (show l.all irtI = (l.drop 0).all irtI from by simp)
  generalize l.all irtI = q at *
  have HT := Lib.hid wrongI_any
  go_enter Tryz.func136, Tryz.ntmps136
  go_wp2_with (go_at_call 178; go_in)
  go_loopw [8] (fun i wr => ∃ k : Nat, k ≤ N ∧ i = .int .i64 k ∧ q = (l.drop k).all irtI ∧ Below w.heap.size w wr) (fun i _ => N - (intOf i).toNat)
  case atStart => exact ⟨0, Nat.zero_le _, rfl, HF.out, Below.refl _ _⟩
  case round =>
    obtain ⟨k, hk, rfl, hr, hbel⟩ := hrel
    have Hr := Lib.hid hr
    have Hbel := Lib.hid hbel
    clear hr hbel
    by_cases hlt : k < N
    · obtain ⟨x, hx⟩ := getE l k N Hn.out hlt
      have HX := Lib.hid (drop_at hx)
      obtain ⟨bb, off, rfl, hc⟩ := elem_Inp (Hat.out.below Hbel.out) hx
      obtain ⟨c0, c1, c2⟩ := hc
      clear hx
      go_wp2_with fail
      refine (HT.out x _).mono ?_
      rintro e w4 ⟨rfl, hb4⟩
      have Hb4 := Lib.hid (nextW Hbel.out hb4)
      clear hb4 c0 c1 c2 HT
      cases hxy : irtI x with
      | false =>
        have Hxy := Lib.hid hxy
        clear hxy
        go_wp2
        go_ret
        exact ⟨ret_bool (by rw [Hr.out, HX.out, List.all_cons, Hxy.out]; simp), Hb4.out⟩
      | true =>
        have Hxy := Lib.hid hxy
        clear hxy
        go_wp2
        go_roundw
        case rel => exact ⟨k + 1, by omega, by go_num, by rw [Hr.out, HX.out, List.all_cons, Hxy.out, Bool.true_and], Hb4.out⟩
        case measure => simp [intOf]; omega
    · obtain rfl : k = N := by omega
      go_wp2
      go_ret
      exact ⟨ret_bool (by rw [Hr.out, List.drop_eq_nil_of_le (by have := Hn.out; omega)]; simp), Hbel.out⟩

/-- Are there as many inputs as players, each right? -/
def inpsB (p : Int) (l : List Inp) : Bool := decide ((l.length : Int) = p) && l.all irtI

theorem rightInputs_any (a b p n s : Int) (v : Value) (l : List Inp) (w : World) (hv : IsSl inpC w v l) (hn : l.length ≤ 1000000) :
    Calls Tryz.prog 90 #[.agg #[.int .i64 a, .int .i64 b, .int .i64 p, .int .i64 n, .int .u64 s], v] w fun z w' => z = .returned (.bool (inpsB p l)) ∧ Below w.heap.size w w' := by
  have HA := Lib.hid (fun w1 (hb : Below w.heap.size w w1) => anywrongI_any v l w1 (hv.below hb) hn)
  have HQ := Lib.hid (show inpsB p l = (decide ((l.length : Int) = p) && l.all irtI) from rfl)
  generalize inpsB p l = z at *
  generalize l.all irtI = q at *
  obtain ⟨A, c, rfl, -⟩ := hv
  generalize l.length = N at *
  by_cases hp : (N : Int) = p
  · have hp' : ((N : Int) == p) = true := by simpa using hp
    rw [decide_eq_true hp] at HQ
    clear hp
    go_enter Tryz.func90, Tryz.ntmps90
    go_wp2_with fail
    refine (HA.out _ ((Below.refl _ _).alloc (Nat.le_refl _) _)).mono ?_
    rintro e w1 ⟨rfl, hb1⟩
    have HB := Lib.hid (unbox hb1)
    clear hb1
    go_wp2
    go_ret
    exact ⟨ret_bool (by rw [HQ.out]; simp), HB.out⟩
  · have hp' : ((N : Int) == p) = false := by simpa using hp
    rw [decide_eq_false hp] at HQ
    clear hp
    go_enter Tryz.func90, Tryz.ntmps90
    go_wp2
    go_ret
    exact ⟨ret_bool (by rw [HQ.out]; simp), (Below.refl _ _).alloc (Nat.le_refl _) _⟩

/-- May a message come into the region r, in the frame f? -/
def inOk (a b p n r f : Int) (c : Crs) : Bool := crightB a b p n c && decide (c.dst = r) && decide (c.frame = f - 1)

set_option maxHeartbeats 2000000 in
theorem wrongC_any (a b p n s r f : Int) (hf : 0 ≤ f ∧ f ≤ 10000) (y : Crs) (g h i : Nat) (w : World) (hg : CfgBox w g ⟨a, b, p, n, s⟩) (hh : w.cell? ⟨h, 0, none⟩ = some (.int .i64 r)) (hi : w.cell? ⟨i, 0, none⟩ = some (.int .i64 f)) :
    Calls Tryz.prog 137 #[.agg #[.int .i64 y.kind, .int .i64 y.src, .int .i64 y.dst, .int .i64 y.frame, .int .i64 y.e.id, .int .i64 y.e.kind, .int .i64 y.e.x, .int .i64 y.e.y, .int .i64 y.e.vx, .int .i64 y.e.vy, .int .i64 y.e.health, .int .i64 y.e.age, .int .i64 y.e.owner, .int .i64 y.x, .int .i64 y.y], .pointer (some ⟨g, 0, none⟩), .pointer (some ⟨h, 0, none⟩), .pointer (some ⟨i, 0, none⟩)] w fun z w' => z = .returned (.bool (!inOk a b p n r f y)) ∧ Below w.heap.size w w' := by
  have HR := Lib.hid (fun w => cright_any a b p n s y w)
  have HQ := Lib.hid (show inOk a b p n r f y = (crightB a b p n y && decide (y.dst = r) && decide (y.frame = f - 1)) from rfl)
  have hw1 : wrap64 (f - 1) = f - 1 := IntWalk.wrap64_in _ (by omega)
  generalize inOk a b p n r f y = z at *
  generalize crightB a b p n y = e at *
  have BX := Lib.hid (CrsBox.n1 w y 50 rfl)
  have HB := Lib.hid (show Below w.heap.size w (w.alloc (.cells (crsC y).toArray 50)) from (Below.refl _ _).alloc (Nat.le_refl _) _)
  have hlh : h < w.heap.size := World.block_lt_of_cell? _ _ hh
  have hli : i < w.heap.size := World.block_lt_of_cell? _ _ hi
  have hlg : g < w.heap.size := hg.has
  have Hh := Lib.hid (show (w.alloc (.cells (crsC y).toArray 50)).cell? ⟨h, 0, none⟩ = _ from (World.cell?_alloc_lt _ _ _ hlh).trans hh)
  have Hi := Lib.hid (show (w.alloc (.cells (crsC y).toArray 50)).cell? ⟨i, 0, none⟩ = _ from (World.cell?_alloc_lt _ _ _ hli).trans hi)
  have Hg := Lib.hid (hg.alloc hlg (.cells (crsC y).toArray 50))
  simp only [crsC] at HB Hh Hi Hg
  clear hg hh hi
  go_enter Tryz.func137, Tryz.ntmps137
  go_upto_region 1 with fail
  generalize hW : World.alloc _ _ = W at *
  have hgx := BX.out.has
  have hgg := Hg.out.has
  have hh := Hh.out
  have hhh := World.block_lt_of_cell? _ _ hh
  have hi := Hi.out
  have hii := World.block_lt_of_cell? _ _ hi
  clear hW hlh hlg hli
  obtain ⟨g0, g1, g2, g3, g4, -⟩ := Hg.out
  obtain ⟨x0, x1, x2, x3, x4, x5, x6, x7, x8, x9, x10, x11, x12, x13, x14, -⟩ := BX.out
  go_wp2_with fail
  refine (HR.out _).mono ?_
  rintro e w1 ⟨rfl, hb1⟩
  replace HB := Lib.hid (nextW HB.out hb1)
  replace BX := Lib.hid (BX.out.nx hb1)
  replace hh := (hb1.cell (p := ⟨h, 0, none⟩) hhh).trans hh
  replace hi := (hb1.cell (p := ⟨i, 0, none⟩) hii).trans hi
  replace hhh := World.block_lt_of_cell? _ _ hh
  replace hii := World.block_lt_of_cell? _ _ hi
  clear hb1 g0 g1 g2 g3 g4 x0 x1 x2 x3 x4 x5 x6 x7 x8 x9 x10 x11 x12 x13 x14 HR Hh Hi Hg hgx hgg
  cases e with
  | false =>
    go_wp2
    go_ret
    exact ⟨ret_bool (by rw [HQ.out]; simp), HB.out⟩
  | true =>
    have hgx := BX.out.has
    obtain ⟨x0, x1, x2, x3, x4, x5, x6, x7, x8, x9, x10, x11, x12, x13, x14, -⟩ := BX.out
    by_cases hd : y.dst = r
    · have hd' : (y.dst != r) = false := by simpa using hd
      rw [decide_eq_true hd] at HQ
      clear hd
      by_cases hfr : y.frame = f - 1
      · have hf' : (y.frame != f - 1) = false := by simpa using hfr
        rw [decide_eq_true hfr] at HQ
        clear hfr
        go_wp2
        go_ret
        exact ⟨ret_bool (by rw [HQ.out]; simp), HB.out⟩
      · have hf' : (y.frame != f - 1) = true := by simpa using hfr
        rw [decide_eq_false hfr] at HQ
        clear hfr
        go_wp2
        go_ret
        exact ⟨ret_bool (by rw [HQ.out]; simp), HB.out⟩
    · have hd' : (y.dst != r) = true := by simpa using hd
      rw [decide_eq_false hd] at HQ
      clear hd
      go_wp2
      go_ret
      exact ⟨ret_bool (by rw [HQ.out]; simp), HB.out⟩

set_option maxHeartbeats 2000000 in
theorem anywrongC_any (a b p n s r f : Int) (hf : 0 ≤ f ∧ f ≤ 10000) (v : Value) (l : List Crs) (g h i : Nat) (w : World) (hv : IsSl crsC w v l) (hn : l.length ≤ 1000000) (hg : CfgBox w g ⟨a, b, p, n, s⟩) (hh : w.cell? ⟨h, 0, none⟩ = some (.int .i64 r)) (hi : w.cell? ⟨i, 0, none⟩ = some (.int .i64 f)) :
    Calls Tryz.prog 139 #[v, .func (.func 137) #[] #[.pointer (some ⟨g, 0, none⟩), .pointer (some ⟨h, 0, none⟩), .pointer (some ⟨i, 0, none⟩)]] w
      fun z w' => z = .returned (.bool (!l.all (inOk a b p n r f))) ∧ Below w.heap.size w w' := by
  obtain ⟨A, c, rfl, -, -, hat⟩ := hv
  have Hat := Lib.hid hat
  obtain ⟨N, hnn⟩ : ∃ N, l.length = N := ⟨_, rfl⟩
  rw [hnn] at hn ⊢
  have Hn := Lib.hid hnn
  clear hat hnn
  have HF := Lib.hid (show l.all (inOk a b p n r f) = (l.drop 0).all (inOk a b p n r f) from by simp)
  generalize l.all (inOk a b p n r f) = q at *
  have HT := Lib.hid (fun y w hg hh hi => wrongC_any a b p n s r f hf y g h i w hg hh hi)
  have Hg := Lib.hid hg
  have Hh := Lib.hid hh
  have Hi := Lib.hid hi
  clear hg hh hi
  go_enter Tryz.func139, Tryz.ntmps139
  go_wp2_with (go_at_call 182; go_in)
  go_loopw [8] (fun i wr => ∃ k : Nat, k ≤ N ∧ i = .int .i64 k ∧ q = (l.drop k).all (inOk a b p n r f) ∧ Below w.heap.size w wr) (fun i _ => N - (intOf i).toNat)
  case atStart => exact ⟨0, Nat.zero_le _, rfl, HF.out, Below.refl _ _⟩
  case round =>
    obtain ⟨k, hk, rfl, hr, hbel⟩ := hrel
    have Hr := Lib.hid hr
    have Hbel := Lib.hid hbel
    clear hr hbel
    by_cases hlt : k < N
    · obtain ⟨x, hx⟩ := getE l k N Hn.out hlt
      have HX := Lib.hid (drop_at hx)
      obtain ⟨bb, off, rfl, hc⟩ := elem_Crs (Hat.out.below Hbel.out) hx
      obtain ⟨c0, c1, c2, c3, c4, c5, c6, c7, c8, c9, c10, c11, c12, c13, c14⟩ := hc
      clear hx
      go_wp2_with fail
      refine (HT.out x _ (Hg.out.below Hbel.out Hg.out.has) ((Hbel.out.cell (p := ⟨h, 0, none⟩) (World.block_lt_of_cell? _ _ Hh.out)).trans Hh.out) ((Hbel.out.cell (p := ⟨i, 0, none⟩) (World.block_lt_of_cell? _ _ Hi.out)).trans Hi.out)).mono ?_
      rintro e w4 ⟨rfl, hb4⟩
      have Hb4 := Lib.hid (nextW Hbel.out hb4)
      clear hb4 c0 c1 c2 c3 c4 c5 c6 c7 c8 c9 c10 c11 c12 c13 c14 HT
      cases hxy : inOk a b p n r f x with
      | false =>
        have Hxy := Lib.hid hxy
        clear hxy
        go_wp2
        go_ret
        exact ⟨ret_bool (by rw [Hr.out, HX.out, List.all_cons, Hxy.out]; simp), Hb4.out⟩
      | true =>
        have Hxy := Lib.hid hxy
        clear hxy
        go_wp2
        go_roundw
        case rel => exact ⟨k + 1, by omega, by go_num, by rw [Hr.out, HX.out, List.all_cons, Hxy.out, Bool.true_and], Hb4.out⟩
        case measure => simp [intOf]; omega
    · obtain rfl : k = N := by omega
      go_wp2
      go_ret
      exact ⟨ret_bool (by rw [Hr.out, List.drop_eq_nil_of_le (by have := Hn.out; omega)]; simp), Hbel.out⟩

set_option maxHeartbeats 2000000 in
theorem rightInbox_any (a b p n s r f : Int) (hf : 0 ≤ f ∧ f ≤ 10000) (v : Value) (l : List Crs) (w : World) (hv : IsSl crsC w v l) (hn : l.length ≤ 1000000) :
    Calls Tryz.prog 91 #[.agg #[.int .i64 a, .int .i64 b, .int .i64 p, .int .i64 n, .int .u64 s], .int .i64 r, .int .i64 f, v] w fun z w' => z = .returned (.bool (l.all (inOk a b p n r f))) ∧ Below w.heap.size w w' := by
  have HA := Lib.hid (fun w1 g h i (hb : Below w.heap.size w w1) hg hh hi => anywrongC_any a b p n s r f hf v l g h i w1 (hv.below hb) hn hg hh hi)
  generalize l.all (inOk a b p n r f) = q at *
  obtain ⟨A, c, rfl, -⟩ := hv
  go_enter Tryz.func91, Tryz.ntmps91
  go_upto_region 1 with fail
  generalize hW : World.alloc _ _ = W
  have BG := Lib.hid (show CfgBox W w.heap.size ⟨a, b, p, n, s⟩ from by rw [← hW]; exact CfgBox.n3a _ ⟨a, b, p, n, s⟩ _ _ _ rfl)
  have HB := Lib.hid (show Below w.heap.size w W from by rw [← hW]; exact (((Below.refl _ _).alloc (Nat.le_refl _) _).alloc (by simp) _).alloc (by simp; omega) _)
  have Hh := Lib.hid (show W.cell? ⟨w.heap.size + 1, 0, none⟩ = some (.int .i64 r) from by rw [← hW, World.cell?_alloc_lt _ _ _ (by simp), cell_box _ _ _ _ _ (by simp)]; rfl)
  have Hi := Lib.hid (show W.cell? ⟨w.heap.size + 1 + 1, 0, none⟩ = some (.int .i64 f) from by rw [← hW, cell_box _ _ _ _ _ (by simp)]; rfl)
  clear hW
  go_wp2_with fail
  refine (HA.out _ _ _ _ HB.out BG.out Hh.out Hi.out).mono ?_
  rintro e w1 ⟨rfl, hb1⟩
  replace HB := Lib.hid (nextW HB.out hb1)
  clear hb1 HA BG Hh Hi
  go_wp2
  go_ret
  exact ⟨ret_bool (by simp), HB.out⟩

/-- Why there is no step; 0, if there is one. -/
def whyNot (a b p n r f : Int) (l : List Ent) (ins : List Inp) (ib : List Crs) : Int :=
  if hasB a b p n r = true then if rgB a b p n r f l = true then if inpsB p ins = true then if ib.all (inOk a b p n r f) = true then if f = 10000 then 16 else 0 else 1 else 11 else 4 else 13

theorem rgB_frame {a b p n r f : Int} {l : List Ent} (h : rgB a b p n r f l = true) : 0 ≤ f ∧ f ≤ 10000 := by
  unfold rgB at h
  simp only [Bool.and_eq_true, decide_eq_true_eq] at h
  exact h.1.1.1.2

set_option maxHeartbeats 4000000 in
theorem refusal_any (a b p n s r f : Int) (v : Value) (l : List Ent) (t : Value) (ins : List Inp) (u : Value) (ib : List Crs) (w : World) (hv : IsSl entC w v l) (hn : l.length ≤ 1000) (ht : IsSl inpC w t ins) (hk : ins.length ≤ 1000) (hu : IsSl crsC w u ib) (hm : ib.length ≤ 100000) :
    Calls Tryz.prog 52 #[.agg #[.int .i64 a, .int .i64 b, .int .i64 p, .int .i64 n, .int .u64 s], .int .i64 r, .agg #[.int .i64 f, v], t, u] w fun z w' => z = .returned (.int .i64 (whyNot a b p n r f l ins ib)) ∧ Below w.heap.size w w' := by
  have HH := Lib.hid (fun w => rhas_any a b p n s r w)
  have HR := Lib.hid (fun w1 (hb : Below w.heap.size w w1) => rgright_any a b p n s r f v l w1 (hv.below hb) hn)
  have HI := Lib.hid (fun w1 (hb : Below w.heap.size w w1) => rightInputs_any a b p n s t ins w1 (ht.below hb) (by omega))
  have HC := Lib.hid (fun w1 (hb : Below w.heap.size w w1) (hf : 0 ≤ f ∧ f ≤ 10000) => rightInbox_any a b p n s r f hf u ib w1 (hu.below hb) (by omega))
  have HFr := Lib.hid (fun h => rgB_frame (a := a) (b := b) (p := p) (n := n) (r := r) (f := f) (l := l) h)
  have HQ := Lib.hid (show whyNot a b p n r f l ins ib = if hasB a b p n r = true then if rgB a b p n r f l = true then if inpsB p ins = true then if ib.all (inOk a b p n r f) = true then if f = 10000 then 16 else 0 else 1 else 11 else 4 else 13 from rfl)
  generalize whyNot a b p n r f l ins ib = z at *
  generalize hasB a b p n r = q1 at *
  generalize rgB a b p n r f l = q2 at *
  generalize inpsB p ins = q3 at *
  generalize ib.all (inOk a b p n r f) = q4 at *
  obtain ⟨A, c, rfl, -⟩ := hv
  obtain ⟨A', c', rfl, -⟩ := ht
  obtain ⟨A'', c'', rfl, -⟩ := hu
  go_enter Tryz.func52, Tryz.ntmps52
  go_upto_region 1 with fail
  generalize hW : World.alloc _ _ = W
  have BG := Lib.hid (show CfgBox W w.heap.size ⟨a, b, p, n, s⟩ from by rw [← hW]; exact CfgBox.n2a _ ⟨a, b, p, n, s⟩ _ _ rfl)
  have BS := Lib.hid (show RegBox W (w.heap.size + 1) ⟨f, .slice A l.length c⟩ from by rw [← hW]; exact RegBox.n2b _ ⟨f, .slice A l.length c⟩ _ _ rfl)
  have HB := Lib.hid (show Below w.heap.size w W from by rw [← hW]; exact ((Below.refl _ _).alloc (Nat.le_refl _) _).alloc (by simp) _)
  clear hW
  have hgg := BG.out.has
  obtain ⟨g0, g1, g2, g3, g4, -⟩ := BG.out
  go_wp2_with fail
  refine (HH.out _).mono ?_
  rintro e w1 ⟨rfl, hb1⟩
  replace HB := Lib.hid (nextW HB.out hb1)
  replace BG := Lib.hid (BG.out.nx hb1)
  replace BS := Lib.hid (BS.out.nx hb1)
  clear hb1 g0 g1 g2 g3 g4 hgg HH
  cases q1 with
  | false =>
    rw [if_neg (by simp)] at HQ
    go_wp2
    go_ret
    exact ⟨by rw [HQ.out]; rfl, HB.out⟩
  | true =>
    rw [if_pos rfl] at HQ
    have hgg := BG.out.has
    have hss := BS.out.has
    obtain ⟨g0, g1, g2, g3, g4, -⟩ := BG.out
    obtain ⟨s0, s1, -⟩ := BS.out
    go_wp2_with fail
    refine (HR.out _ HB.out).mono ?_
    rintro e w2 ⟨rfl, hb2⟩
    replace HB := Lib.hid (nextW HB.out hb2)
    replace BG := Lib.hid (BG.out.nx hb2)
    replace BS := Lib.hid (BS.out.nx hb2)
    clear hb2 g0 g1 g2 g3 g4 hgg hss s0 s1 HR
    cases q2 with
    | false =>
      rw [if_neg (by simp)] at HQ
      go_wp2
      go_ret
      exact ⟨by rw [HQ.out]; rfl, HB.out⟩
    | true =>
      rw [if_pos rfl] at HQ
      have hgg := BG.out.has
      obtain ⟨g0, g1, g2, g3, g4, -⟩ := BG.out
      go_wp2_with fail
      refine (HI.out _ HB.out).mono ?_
      rintro e w3 ⟨rfl, hb3⟩
      replace HB := Lib.hid (nextW HB.out hb3)
      replace BG := Lib.hid (BG.out.nx hb3)
      replace BS := Lib.hid (BS.out.nx hb3)
      clear hb3 g0 g1 g2 g3 g4 hgg HI
      cases q3 with
      | false =>
        rw [if_neg (by simp)] at HQ
        go_wp2
        go_ret
        exact ⟨by rw [HQ.out]; rfl, HB.out⟩
      | true =>
        rw [if_pos rfl] at HQ
        have hgg := BG.out.has
        have hss := BS.out.has
        obtain ⟨g0, g1, g2, g3, g4, -⟩ := BG.out
        obtain ⟨s0, s1, -⟩ := BS.out
        go_wp2_with fail
        refine (HC.out _ HB.out (by first | exact HFr.out trivial | exact HFr.out rfl)).mono ?_
        rintro e w4 ⟨rfl, hb4⟩
        replace HB := Lib.hid (nextW HB.out hb4)
        replace BS := Lib.hid (BS.out.nx hb4)
        clear hb4 g0 g1 g2 g3 g4 hgg hss s0 s1 HC BG
        cases q4 with
        | false =>
          rw [if_neg (by simp)] at HQ
          go_wp2
          go_ret
          exact ⟨by rw [HQ.out]; rfl, HB.out⟩
        | true =>
          rw [if_pos rfl] at HQ
          have hss := BS.out.has
          obtain ⟨s0, s1, -⟩ := BS.out
          by_cases hf : f = 10000
          · have hf' : (f == 10000) = true := by simpa using hf
            rw [if_pos hf] at HQ
            clear hf
            go_wp2
            go_ret
            exact ⟨by rw [HQ.out]; rfl, HB.out⟩
          · have hf' : (f == 10000) = false := by simpa using hf
            rw [if_neg hf] at HQ
            clear hf
            go_wp2
            go_ret
            exact ⟨by rw [HQ.out]; rfl, HB.out⟩

end Go.Proofs.YtfpofegfbinalaaGreat.Fx
