/- Package snapshot's writer: the contracts of entity, message, entities, messages. -/
import Derived.Test.YtlpkaljepaclpaaGreatM11
import Derived.Test.YtlpkaljepaclpaaGreatM23
import Derived.Test.YtlpkaljepaclpaaGreatM20
import Derived.Test.YtlpkaljepaclpaaGreatM15
import Derived.Test.YtlpkaljepaclpaaGreatM19
namespace Go.Proofs.YtlpkaljepaclpaaGreat.Fx
open Go.ChangeShapes Go.WideShapes Go.ChangeAt Go.RowKit
set_option linter.unusedVariables false
set_option maxRecDepth 100000

/-- What a call leaves that writes bs with the writer in block b. -/
def WrEnd (B : Nat) (w : World) (b : Nat) (ds bs : List Int) (e : Ending) (w' : World) : Prop := e = .returned (.tuple #[]) ∧ WrAt B w' b (ds ++ bs) ∧ w.grownBy w' (some b)

theorem putw_any (B b : Nat) (ds : List Int) (A : Option Addr) (n c : Nat) (l : List Int) (w : World) (hw : WrAt B w b ds) (hl : IntsAt w A n l) (hn : n ≤ 1000000) :
    Calls Tryz.prog 77 #[.pointer (some ⟨b, 0, none⟩), .slice A n c] w (WrEnd B w b ds (numsL l)) :=
  (put_any B _ ds A n c l w (.inr ⟨b, rfl, hw⟩) hl hn).mono fun e w' ⟨h1, _, h2⟩ => ⟨h1, h2 b rfl⟩

theorem ints_of (w : World) (T : TypeId) (l : List Int) (cs : Array Value) (n g : Nat) (hg : g = w.heap.size) (hc : cs = (l.map (Value.int .i64)).toArray) (hn : n = l.length) : IntsAt (w.alloc (.cells cs T)) (some ⟨g, 0, none⟩) n l := by
  subst hg hc hn
  exact ints_new w T l

theorem CrsBox.oth {w w' : World} {g b : Nat} {y : Crs} (h : CrsBox w g y) (hg : w.grownBy w' (some b)) (hne : g ≠ b) : CrsBox w' g y :=
  CrsBox.of (fun q => World.cell?_of_block (a := ⟨g, q, none⟩) (hg.block g h.has (by simpa using hne))) (fun q => World.frozen?_of_block (a := ⟨g, q, none⟩) (hg.block g h.has (by simpa using hne))) h

set_option maxHeartbeats 2000000 in
theorem wentity_any (B b : Nat) (ds : List Int) (x : Ent) (w : World) (hw : WrAt B w b ds) :
    Calls Tryz.prog 146 #[.pointer (some ⟨b, 0, none⟩), .agg #[.int .i64 x.id, .int .i64 x.kind, .int .i64 x.x, .int .i64 x.y, .int .i64 x.vx, .int .i64 x.vy, .int .i64 x.health, .int .i64 x.age, .int .i64 x.owner]] w (WrEnd B w b ds (enP x)) := by
  have HW := Lib.hid hw
  have HP := Lib.hid (putw_any B b ds)
  clear hw
  go_enter Tryz.func146, Tryz.ntmps146
  go_upto_region 1 with fail
  generalize hW : World.alloc _ _ = W
  have BE := Lib.hid (show EntBox W w.heap.size x from by rw [← hW]; exact EntBox.n1 _ x _ rfl)
  have HB := Lib.hid (show Below w.heap.size w W from by rw [← hW]; exact (Below.refl _ _).alloc (Nat.le_refl _) _)
  clear hW
  have hgl := BE.out.has
  obtain ⟨c0, c1, c2, c3, c4, c5, c6, c7, c8, -⟩ := BE.out
  refine tail_region (S := (fun w' => (∀ b o, b < (W).heap.size → w'.cell? ⟨b, o, none⟩ = (W).cell? ⟨b, o, none⟩) ∧ (∀ b o, b < (W).heap.size → w'.frozen? ⟨b, o, none⟩ = (W).frozen? ⟨b, o, none⟩) ∧ Below (W).heap.size (W) w')) 22 (.free 0 (.free 1 (.free 2 (.free 3 (.free 4 (.free 5 (.free 6 (.free 7 (.free 8 (.free 9 (.free 10 (.free 11 (.free 12 (.free 13 (.free 14 (.free 15 (.free 16 (.free 17 (.free 18 (.free 19 (.free 20 (.one 21 .tail)))))))))))))))))))))) (by kernel_rfl) (by kernel_rfl) (fun _ _ d _ _ h => by cases d <;> exact h) (keepW0 _) (fun hS => ?_)
  simp only [writtenT, List.drop_succ_cons, List.drop_zero, List.getElem?_cons_succ, List.getElem?_cons_zero]
  iterate 21
   refine rz_free (v := ?_) (by rfl) ?_ ?_; rotate_left 1; focus (intro w hSw; (try dsimp only at hSw); go_simp; (try with_reducible rfl))
   (try simp only [Act.put, tA, tB, tC])
  refine rz_call (by rfl) (fun K hK => ?_)
  go_simp
  (skip)
  (try go_wp2_with fail)
  refine hK.out _ _ ?_ (fun hS' => ?_)
  · (try dsimp only); first | exact keepW (by assumption) (by assumption) | exact keepB (by assumption) (by assumption) | exact keepA (by assumption) | assumption
  clear hS hK K
  have hS := hS'
  clear hS'
  (try simp only [Act.put, tA, tB, tC])
  refine rz_done ?_
  go_wp2_with fail
  refine (HP.out _ _ _ (enN x) _ ((HW.out.below HB.out).below hS.2.2) ((ints_of W _ (enN x) _ 9 _ rfl rfl rfl).below (Below.refl _ _).drew) (by omega)).mono ?_
  rintro e w1 ⟨rfl, h1, hg1⟩
  have H1 := Lib.hid (And.intro h1 (below_grownB (nextW HB.out hS.2.2) hg1))
  clear h1 hg1 hS
  go_wp2
  go_end0
  exact ⟨rfl, H1.out.1, H1.out.2⟩

theorem numsL_two (l m ds : List Int) : ds ++ numsL l ++ numsL m = ds ++ numsL (l ++ m) := by rw [numsL_app, List.append_assoc]

set_option maxHeartbeats 2000000 in
theorem wmessage_any (B b : Nat) (ds : List Int) (x : Crs) (w : World) (hw : WrAt B w b ds) :
    Calls Tryz.prog 129 #[.pointer (some ⟨b, 0, none⟩), .agg #[.int .i64 x.kind, .int .i64 x.src, .int .i64 x.dst, .int .i64 x.frame, .int .i64 x.e.id, .int .i64 x.e.kind, .int .i64 x.e.x, .int .i64 x.e.y, .int .i64 x.e.vx, .int .i64 x.e.vy, .int .i64 x.e.health, .int .i64 x.e.age, .int .i64 x.e.owner, .int .i64 x.x, .int .i64 x.y]] w (WrEnd B w b ds (crP x)) := by
  have HW := Lib.hid hw
  have HP := Lib.hid (fun ds => putw_any B b ds)
  have HE := Lib.hid (fun ds => wentity_any B b ds x.e)
  have hbB : b < B ∧ B ≤ w.heap.size := by obtain ⟨_, _, h1, h2, -⟩ := hw; exact ⟨h1, h2⟩
  obtain ⟨hb1, hb2⟩ := hbB
  have HC := Lib.hid (show crP x = numsL ([x.kind, x.src, x.dst, x.frame] ++ (if x.kind = 1 then enN x.e else [x.x, x.y])) from rfl)
  generalize crP x = cp at *
  clear hw
  go_enter Tryz.func129, Tryz.ntmps129
  go_upto_region 1 with fail
  generalize hW : World.alloc _ _ = W
  have BE := Lib.hid (show CrsBox W w.heap.size x from by rw [← hW]; exact CrsBox.n1 _ x _ rfl)
  have HB := Lib.hid (show Below w.heap.size w W from by rw [← hW]; exact (Below.refl _ _).alloc (Nat.le_refl _) _)
  clear hW
  have hgl := BE.out.has
  obtain ⟨c0, c1, c2, c3, c4, c5, c6, c7, c8, c9, c10, c11, c12, c13, c14, -⟩ := BE.out
  refine tail_region (S := (fun w' => (∀ b o, b < (W).heap.size → w'.cell? ⟨b, o, none⟩ = (W).cell? ⟨b, o, none⟩) ∧ (∀ b o, b < (W).heap.size → w'.frozen? ⟨b, o, none⟩ = (W).frozen? ⟨b, o, none⟩) ∧ Below (W).heap.size (W) w')) 12 (.free 0 (.free 1 (.free 2 (.free 3 (.free 4 (.free 5 (.free 6 (.free 7 (.free 8 (.free 9 (.free 10 (.one 11 .tail)))))))))))) (by kernel_rfl) (by kernel_rfl) (fun _ _ d _ _ h => by cases d <;> exact h) (keepW0 _) (fun hS => ?_)
  simp only [writtenT, List.drop_succ_cons, List.drop_zero, List.getElem?_cons_succ, List.getElem?_cons_zero]
  iterate 11
   refine rz_free (v := ?_) (by rfl) ?_ ?_; rotate_left 1; focus (intro w hSw; (try dsimp only at hSw); go_simp; (try with_reducible rfl))
   (try simp only [Act.put, tA, tB, tC])
  refine rz_call (by rfl) (fun K hK => ?_)
  go_simp
  (skip)
  (try go_wp2_with fail)
  refine hK.out _ _ ?_ (fun hS' => ?_)
  · (try dsimp only); first | exact keepW (by assumption) (by assumption) | exact keepB (by assumption) (by assumption) | exact keepA (by assumption) | assumption
  clear hS hK K
  have hS := hS'
  clear hS'
  (try simp only [Act.put, tA, tB, tC])
  refine rz_done ?_
  go_wp2_with fail
  refine (HP.out ds _ _ _ [x.kind, x.src, x.dst, x.frame] _ ((HW.out.below HB.out).below hS.2.2) ((ints_of W _ [x.kind, x.src, x.dst, x.frame] _ 4 _ rfl rfl rfl).below (Below.refl _ _).drew) (by omega)).mono ?_
  rintro e w1 ⟨rfl, h1, hg1⟩
  have H1 := Lib.hid h1
  have HG1 := Lib.hid (below_grownB (nextW HB.out hS.2.2) hg1)
  have BX := Lib.hid ((BE.out.below hS.2.2 hgl).oth hg1 (by omega))
  generalize w.heap.size = gx at *
  clear h1 hg1 hS c0 c1 c2 c3 c4 c5 c6 c7 c8 c9 c10 c11 c12 c13 c14 hgl BE
  have hgl := BX.out.has
  obtain ⟨c0, c1, c2, c3, c4, c5, c6, c7, c8, c9, c10, c11, c12, c13, c14, -⟩ := BX.out
  by_cases hk : x.kind = 1
  · have hk' : (x.kind == 1) = true := by simpa using hk
    rw [if_pos hk] at HC
    clear hk
    go_wp2_with fail
    refine (HE.out _ _ H1.out).mono ?_
    rintro e w2 ⟨rfl, h2, hg2⟩
    have H2 := Lib.hid (And.intro h2 (grown_trans HG1.out hg2))
    clear h2 hg2
    go_wp2
    go_end0
    refine ⟨rfl, ?_, H2.out.2⟩
    rw [HC.out, ← numsL_two]
    exact H2.out.1
  · have hk' : (x.kind == 1) = false := by simpa using hk
    rw [if_neg hk] at HC
    clear hk
    go_upto_region 4 with fail
    refine tail_region (S := (fun w' => (∀ b o, b < (w1).heap.size → w'.cell? ⟨b, o, none⟩ = (w1).cell? ⟨b, o, none⟩) ∧ (∀ b o, b < (w1).heap.size → w'.frozen? ⟨b, o, none⟩ = (w1).frozen? ⟨b, o, none⟩) ∧ Below (w1).heap.size (w1) w')) 8 (.free 0 (.free 1 (.free 2 (.free 3 (.free 4 (.free 5 (.free 6 (.one 7 .tail)))))))) (by kernel_rfl) (by kernel_rfl) (fun _ _ d _ _ h => by cases d <;> exact h) (keepW0 _) (fun hS => ?_)
    simp only [writtenT, List.drop_succ_cons, List.drop_zero, List.getElem?_cons_succ, List.getElem?_cons_zero]
    iterate 7
     refine rz_free (v := ?_) (by rfl) ?_ ?_; rotate_left 1; focus (intro w hSw; (try dsimp only at hSw); go_simp; (try with_reducible rfl))
     (try simp only [Act.put, tA, tB, tC])
    refine rz_call (by rfl) (fun K hK => ?_)
    go_simp
    (skip)
    (try go_wp2_with fail)
    refine hK.out _ _ ?_ (fun hS' => ?_)
    · (try dsimp only); first | exact keepW (by assumption) (by assumption) | exact keepB (by assumption) (by assumption) | exact keepA (by assumption) | assumption
    clear hS hK K
    have hS := hS'
    clear hS'
    (try simp only [Act.put, tA, tB, tC])
    refine rz_done ?_
    go_wp2_with fail
    refine (HP.out _ _ _ _ [x.x, x.y] _ (H1.out.below hS.2.2) ((ints_of w1 _ [x.x, x.y] _ 2 _ rfl rfl rfl).below (Below.refl _ _).drew) (by omega)).mono ?_
    rintro e w2 ⟨rfl, h2, hg2⟩
    have H2 := Lib.hid (And.intro h2 (grown_trans HG1.out (below_grownB hS.2.2 hg2)))
    clear h2 hg2 hS
    go_wp2
    go_end0
    refine ⟨rfl, ?_, H2.out.2⟩
    rw [HC.out, ← numsL_two]
    exact H2.out.1

/-- What is older than a block that is written stays. -/
theorem below_row {w0 w w' : World} {b : Nat} (h : Below w0.heap.size w0 w) (hg : w.grownBy w' (some b)) (hb : w0.heap.size ≤ b) : Below w0.heap.size w0 w' :=
  h.trans ⟨hg.os, hg.tape, hg.output, hg.size, fun k hk => by
    rcases Nat.lt_or_ge k w.heap.size with h1 | h1
    · exact hg.block k h1 (by simp; omega)
    · have := h.size; omega⟩

theorem packE_take {l : List Ent} {k : Nat} {x : Ent} (h : l[k]? = some x) : (l.take (k + 1)).flatMap enP = (l.take k).flatMap enP ++ enP x := by
  rw [take_at h, List.flatMap_append]; simp

set_option maxHeartbeats 2000000 in
theorem wentities_any (B b : Nat) (ds : List Int) (v : Value) (l : List Ent) (w0 w : World) (hw : WrAt B w b ds) (hv : IsSl entC w0 v l) (hb0 : Below w0.heap.size w0 w) (hb : w0.heap.size ≤ b) (hn : l.length ≤ 1000000) :
    Calls Tryz.prog 78 #[.pointer (some ⟨b, 0, none⟩), v] w (WrEnd B w b ds (packE l)) := by
  have HW := Lib.hid hw
  have HB0 := Lib.hid hb0
  have HP := Lib.hid (fun ds => putw_any B b ds)
  have HE := Lib.hid (fun ds x w h => wentity_any B b ds x w h)
  have hbB : b < B ∧ B ≤ w.heap.size := by obtain ⟨_, _, h1, h2, -⟩ := hw; exact ⟨h1, h2⟩
  obtain ⟨hb1, hb2⟩ := hbB
  have HV := Lib.hid hv
  obtain ⟨A, c, rfl, -⟩ := hv
  obtain ⟨n, hnn⟩ : ∃ n, l.length = n := ⟨_, rfl⟩
  rw [hnn] at hn HV ⊢
  have Hn := Lib.hid hnn
  have HQ := Lib.hid (show packE l = nums n ++ l.flatMap enP from by rw [← hnn]; rfl)
  have HT := Lib.hid (fun k x (h : l[k]? = some x) => packE_take h)
  clear hw hb0 hnn
  go_enter Tryz.func78, Tryz.ntmps78
  go_wp2_with fail
  refine (HP.out ds _ _ _ [(n : Int)] _ (HW.out.below ((Below.refl _ _).alloc (Nat.le_refl _) _)) (ints_new1 _ _ _ _ rfl) (by omega)).mono ?_
  rintro e w1 ⟨rfl, h1, hg1⟩
  have H1 := Lib.hid (show WrAt B w1 b (ds ++ (nums n ++ (l.take 0).flatMap enP)) from by simpa [numsL] using h1)
  have HG1 := Lib.hid (below_grownB ((Below.refl _ _).alloc (Nat.le_refl _) _) hg1)
  clear h1 hg1
  go_wp2
  go_loopw [15] (fun i wr => ∃ k : Nat, k ≤ n ∧ i = .int .i64 k ∧ WrAt B wr b (ds ++ (nums n ++ (l.take k).flatMap enP)) ∧ w.grownBy wr (some b)) (fun i _ => n - (intOf i).toNat)
  case atStart => exact ⟨0, Nat.zero_le _, rfl, H1.out, HG1.out⟩
  case round =>
    clear H1 HG1
    obtain ⟨k, hk, rfl, hwr, hg⟩ := hrel
    have HWr := Lib.hid hwr
    have HG := Lib.hid hg
    clear hwr hg
    by_cases hlt : k < n
    · obtain ⟨x, hx⟩ := getE l k n Hn.out hlt
      have HX := Lib.hid (HT.out k x hx)
      obtain ⟨bb, off, rfl, hc⟩ := elem_Ent (HV.out.below (below_row HB0.out HG.out hb)).at hx
      obtain ⟨c0, c1, c2, c3, c4, c5, c6, c7, c8⟩ := hc
      have hki : (k : Int) < (n : Int) := by omega
      clear hx
      go_upto_region 4 with fail
      generalize hW : World.alloc _ _ = W at *
      have BX := Lib.hid (show EntBox W wr.heap.size x from by rw [← hW]; exact EntBox.n1 _ x _ rfl)
      have HB := Lib.hid (show Below wr.heap.size wr W from by rw [← hW]; exact (Below.refl _ _).alloc (Nat.le_refl _) _)
      clear hW c0 c1 c2 c3 c4 c5 c6 c7 c8
      have hgl := BX.out.has
      have HB' := HB
      generalize hgx : wr.heap.size = gx at *
      obtain ⟨c0, c1, c2, c3, c4, c5, c6, c7, c8, -⟩ := BX.out
      go_wp2_with fail
      refine (HE.out _ x _ (HWr.out.below (by rw [hgx]; exact HB'.out))).mono ?_
      rintro e w2 ⟨rfl, h2, hg2⟩
      have H2 := Lib.hid (show WrAt B w2 b (ds ++ (nums n ++ (l.take (k + 1)).flatMap enP)) from by rw [HX.out]; simpa using h2)
      have HG2 := Lib.hid (grown_trans HG.out (below_grownB (by rw [hgx]; exact HB'.out) hg2))
      clear h2 hg2
      go_wp2
      go_roundw
      case rel => exact ⟨k + 1, by omega, by go_num, H2.out, HG2.out⟩
      case measure => simp [intOf]; omega
    · obtain rfl : k = n := by omega
      rw [List.take_of_length_le (Nat.le_of_eq Hn.out)] at HWr
      go_wp2
      go_end0
      exact ⟨rfl, by rw [HQ.out]; exact HWr.out, HG.out⟩

theorem packM_take {l : List Crs} {k : Nat} {x : Crs} (h : l[k]? = some x) : (l.take (k + 1)).flatMap crP = (l.take k).flatMap crP ++ crP x := by
  rw [take_at h, List.flatMap_append]; simp

set_option maxHeartbeats 2000000 in
theorem wmessages_any (B b : Nat) (ds : List Int) (v : Value) (l : List Crs) (w0 w : World) (hw : WrAt B w b ds) (hv : IsSl crsC w0 v l) (hb0 : Below w0.heap.size w0 w) (hb : w0.heap.size ≤ b) (hn : l.length ≤ 1000000) :
    Calls Tryz.prog 68 #[.pointer (some ⟨b, 0, none⟩), v] w (WrEnd B w b ds (packM l)) := by
  have HW := Lib.hid hw
  have HB0 := Lib.hid hb0
  have HP := Lib.hid (fun ds => putw_any B b ds)
  have HE := Lib.hid (fun ds x w h => wmessage_any B b ds x w h)
  have hbB : b < B ∧ B ≤ w.heap.size := by obtain ⟨_, _, h1, h2, -⟩ := hw; exact ⟨h1, h2⟩
  obtain ⟨hb1, hb2⟩ := hbB
  have HV := Lib.hid hv
  obtain ⟨A, c, rfl, -⟩ := hv
  obtain ⟨n, hnn⟩ : ∃ n, l.length = n := ⟨_, rfl⟩
  rw [hnn] at hn HV ⊢
  have Hn := Lib.hid hnn
  have HQ := Lib.hid (show packM l = nums n ++ l.flatMap crP from by rw [← hnn]; rfl)
  have HT := Lib.hid (fun k x (h : l[k]? = some x) => packM_take h)
  clear hw hb0 hnn
  go_enter Tryz.func68, Tryz.ntmps68
  go_wp2_with fail
  refine (HP.out ds _ _ _ [(n : Int)] _ (HW.out.below ((Below.refl _ _).alloc (Nat.le_refl _) _)) (ints_new1 _ _ _ _ rfl) (by omega)).mono ?_
  rintro e w1 ⟨rfl, h1, hg1⟩
  have H1 := Lib.hid (show WrAt B w1 b (ds ++ (nums n ++ (l.take 0).flatMap crP)) from by simpa [numsL] using h1)
  have HG1 := Lib.hid (below_grownB ((Below.refl _ _).alloc (Nat.le_refl _) _) hg1)
  clear h1 hg1
  go_wp2
  go_loopw [15] (fun i wr => ∃ k : Nat, k ≤ n ∧ i = .int .i64 k ∧ WrAt B wr b (ds ++ (nums n ++ (l.take k).flatMap crP)) ∧ w.grownBy wr (some b)) (fun i _ => n - (intOf i).toNat)
  case atStart => exact ⟨0, Nat.zero_le _, rfl, H1.out, HG1.out⟩
  case round =>
    clear H1 HG1
    obtain ⟨k, hk, rfl, hwr, hg⟩ := hrel
    have HWr := Lib.hid hwr
    have HG := Lib.hid hg
    clear hwr hg
    by_cases hlt : k < n
    · obtain ⟨x, hx⟩ := getE l k n Hn.out hlt
      have HX := Lib.hid (HT.out k x hx)
      obtain ⟨bb, off, rfl, hc⟩ := elem_Crs (HV.out.below (below_row HB0.out HG.out hb)).at hx
      obtain ⟨c0, c1, c2, c3, c4, c5, c6, c7, c8, c9, c10, c11, c12, c13, c14⟩ := hc
      have hki : (k : Int) < (n : Int) := by omega
      clear hx
      go_upto_region 4 with fail
      generalize hW : World.alloc _ _ = W at *
      have BX := Lib.hid (show CrsBox W wr.heap.size x from by rw [← hW]; exact CrsBox.n1 _ x _ rfl)
      have HB := Lib.hid (show Below wr.heap.size wr W from by rw [← hW]; exact (Below.refl _ _).alloc (Nat.le_refl _) _)
      clear hW c0 c1 c2 c3 c4 c5 c6 c7 c8 c9 c10 c11 c12 c13 c14
      have hgl := BX.out.has
      have HB' := HB
      generalize hgx : wr.heap.size = gx at *
      obtain ⟨c0, c1, c2, c3, c4, c5, c6, c7, c8, c9, c10, c11, c12, c13, c14, -⟩ := BX.out
      go_wp2_with fail
      refine (HE.out _ x _ (HWr.out.below (by rw [hgx]; exact HB'.out))).mono ?_
      rintro e w2 ⟨rfl, h2, hg2⟩
      have H2 := Lib.hid (show WrAt B w2 b (ds ++ (nums n ++ (l.take (k + 1)).flatMap crP)) from by rw [HX.out]; simpa using h2)
      have HG2 := Lib.hid (grown_trans HG.out (below_grownB (by rw [hgx]; exact HB'.out) hg2))
      clear h2 hg2
      go_wp2
      go_roundw
      case rel => exact ⟨k + 1, by omega, by go_num, H2.out, HG2.out⟩
      case measure => simp [intOf]; omega
    · obtain rfl : k = n := by omega
      rw [List.take_of_length_le (Nat.le_of_eq Hn.out)] at HWr
      go_wp2
      go_end0
      exact ⟨rfl, by rw [HQ.out]; exact HWr.out, HG.out⟩

end Go.Proofs.YtlpkaljepaclpaaGreat.Fx
