/- Cross in a box, call by call. The document's own bytes of messages: entity, All, crosses, PackCross. joustlaw11.awake. -/
import Derived.Test.YtlpkaljepaclpaaGreatM19
import Derived.Test.YtlpkaljepaclpaaGreatM15
import Derived.Test.YtlpkaljepaclpaaGreatM11
import Derived.Test.YtlpkaljepaclpaaGreatM34
import Derived.Test.YtlpkaljepaclpaaGreatM35
import Derived.Test.YtlpkaljepaclpaaGreatM06
import Derived.Test.YtlpkaljepaclpaaGreatM16
namespace Go.Proofs.YtlpkaljepaclpaaGreat.Fx
open Go.ChangeShapes Go.WideShapes Go.ChangeAt Go.RowKit
set_option linter.unusedVariables false
set_option maxRecDepth 100000

namespace CrsBox
variable {w w' W : World} {b : Nat} {y : Crs} {o : Obj}

/-- Behind a call. -/
theorem nx (h : CrsBox w b y) (hb : Below w.heap.size w w') : CrsBox w' b y := h.below hb h.has

/-- Behind a call, and a new box. -/
theorem nxa (h : CrsBox w b y) (hb : Below w.heap.size w w') (hW : w'.alloc o = W) : CrsBox W b y := by
  subst hW
  exact (h.nx hb).alloc (h.nx hb).has o

/-- The new box itself. -/
theorem nb {A : Array Value} {t : TypeId} (hW : w'.alloc (.cells A t) = W) (y : Crs) (hA : A = #[.int .i64 y.kind, .int .i64 y.src, .int .i64 y.dst, .int .i64 y.frame, .int .i64 y.e.id, .int .i64 y.e.kind, .int .i64 y.e.x, .int .i64 y.e.y, .int .i64 y.e.vx, .int .i64 y.e.vy, .int .i64 y.e.health, .int .i64 y.e.age, .int .i64 y.e.owner, .int .i64 y.x, .int .i64 y.y]) : CrsBox W w'.heap.size y := by
  subst hW
  exact n1 _ _ _ hA

/-- Behind a call, and a store of the whole into the box. -/
theorem nxs (h : CrsBox w b y) (hb : Below w.heap.size w w') (z : Crs) (hW : (((((((((((((((w').setCell ⟨b, 0, none⟩ (.int .i64 z.kind)).setCell ⟨b, 1, none⟩ (.int .i64 z.src)).setCell ⟨b, 2, none⟩ (.int .i64 z.dst)).setCell ⟨b, 3, none⟩ (.int .i64 z.frame)).setCell ⟨b, 4, none⟩ (.int .i64 z.e.id)).setCell ⟨b, 5, none⟩ (.int .i64 z.e.kind)).setCell ⟨b, 6, none⟩ (.int .i64 z.e.x)).setCell ⟨b, 7, none⟩ (.int .i64 z.e.y)).setCell ⟨b, 8, none⟩ (.int .i64 z.e.vx)).setCell ⟨b, 9, none⟩ (.int .i64 z.e.vy)).setCell ⟨b, 10, none⟩ (.int .i64 z.e.health)).setCell ⟨b, 11, none⟩ (.int .i64 z.e.age)).setCell ⟨b, 12, none⟩ (.int .i64 z.e.owner)).setCell ⟨b, 13, none⟩ (.int .i64 z.x)).setCell ⟨b, 14, none⟩ (.int .i64 z.y) = W) : CrsBox W b z := by
  subst hW
  exact (h.nx hb).put z

theorem off {w' W : World} {b : Nat} (z : Crs) (hW : (((((((((((((((w').setCell ⟨b, 0, none⟩ (.int .i64 z.kind)).setCell ⟨b, 1, none⟩ (.int .i64 z.src)).setCell ⟨b, 2, none⟩ (.int .i64 z.dst)).setCell ⟨b, 3, none⟩ (.int .i64 z.frame)).setCell ⟨b, 4, none⟩ (.int .i64 z.e.id)).setCell ⟨b, 5, none⟩ (.int .i64 z.e.kind)).setCell ⟨b, 6, none⟩ (.int .i64 z.e.x)).setCell ⟨b, 7, none⟩ (.int .i64 z.e.y)).setCell ⟨b, 8, none⟩ (.int .i64 z.e.vx)).setCell ⟨b, 9, none⟩ (.int .i64 z.e.vy)).setCell ⟨b, 10, none⟩ (.int .i64 z.e.health)).setCell ⟨b, 11, none⟩ (.int .i64 z.e.age)).setCell ⟨b, 12, none⟩ (.int .i64 z.e.owner)).setCell ⟨b, 13, none⟩ (.int .i64 z.x)).setCell ⟨b, 14, none⟩ (.int .i64 z.y) = W) : Off b w' W := by
  subst hW
  exact ((((((((((((((((Off.refl _ _).set _ _).set _ _).set _ _).set _ _).set _ _).set _ _).set _ _).set _ _).set _ _).set _ _).set _ _).set _ _).set _ _).set _ _).set _ _)

theorem bel {w0 w' W : World} {b B : Nat} (h : Below B w0 w') (z : Crs) (hle : B ≤ b) (hW : (((((((((((((((w').setCell ⟨b, 0, none⟩ (.int .i64 z.kind)).setCell ⟨b, 1, none⟩ (.int .i64 z.src)).setCell ⟨b, 2, none⟩ (.int .i64 z.dst)).setCell ⟨b, 3, none⟩ (.int .i64 z.frame)).setCell ⟨b, 4, none⟩ (.int .i64 z.e.id)).setCell ⟨b, 5, none⟩ (.int .i64 z.e.kind)).setCell ⟨b, 6, none⟩ (.int .i64 z.e.x)).setCell ⟨b, 7, none⟩ (.int .i64 z.e.y)).setCell ⟨b, 8, none⟩ (.int .i64 z.e.vx)).setCell ⟨b, 9, none⟩ (.int .i64 z.e.vy)).setCell ⟨b, 10, none⟩ (.int .i64 z.e.health)).setCell ⟨b, 11, none⟩ (.int .i64 z.e.age)).setCell ⟨b, 12, none⟩ (.int .i64 z.e.owner)).setCell ⟨b, 13, none⟩ (.int .i64 z.x)).setCell ⟨b, 14, none⟩ (.int .i64 z.y) = W) : Below B w0 W := by
  subst hW
  exact (((((((((((((((h.setCell hle _).setCell hle _).setCell hle _).setCell hle _).setCell hle _).setCell hle _).setCell hle _).setCell hle _).setCell hle _).setCell hle _).setCell hle _).setCell hle _).setCell hle _).setCell hle _).setCell hle _)

/-- Behind a call, and stores into another box. -/
theorem nxf {p : Nat} (h : CrsBox w b y) (hb : Below w.heap.size w w') (hO : Off p w' W) (hp : p ≠ b) : CrsBox W b y :=
  of (fun q => hO.cell b q hp) (fun q => hO.frozen b q) (h.nx hb)

/-- Behind stores into another box. -/
theorem nf {p : Nat} (h : CrsBox w b y) (hO : Off p w W) (hp : p ≠ b) : CrsBox W b y :=
  of (fun q => hO.cell b q hp) (fun q => hO.frozen b q) h

end CrsBox

end Go.Proofs.YtlpkaljepaclpaaGreat.Fx
namespace Go.Proofs.YtlpkaljepaclpaaGreat.Fx
open Go.ChangeShapes Go.WideShapes Go.ChangeAt Go.RowKit
set_option linter.unusedVariables false
set_option maxRecDepth 100000

/-- Bytes of the call's own, from block base on. -/
def RetOB (base : Nat) (l : List Int) (w : World) (e : Ending) (w' : World) : Prop := ∃ v, e = .returned v ∧ ownB base w' v l ∧ Below w.heap.size w w'

theorem ownB.low {base base' : Nat} {w : World} {v : Value} {l : List Int} (h : ownB base' w v l) (hb : base ≤ base') : ownB base w v l := by
  refine ⟨h.1, ?_⟩
  rcases h.2 with h2 | ⟨g, cap, cur, hv, hg, r⟩
  · exact .inl h2
  · exact .inr ⟨g, cap, cur, hv, Nat.le_trans hb hg, r⟩

theorem ints_of' (w : World) (T : TypeId) (l : List Int) (cs : Array Value) (n g : Nat) (hg : g = w.heap.size) (hc : cs = (l.map (Value.int .i64)).toArray) (hn : n = l.length) : IntsAt (w.alloc (.cells cs T)) (some ⟨g, 0, none⟩) n l := by
  subst hg hc hn
  exact ints_new w T l

theorem fentity_any (x : Ent) (w : World) :
    Calls Tryz.prog 80 #[.agg #[.int .i64 x.id, .int .i64 x.kind, .int .i64 x.x, .int .i64 x.y, .int .i64 x.vx, .int .i64 x.vy, .int .i64 x.health, .int .i64 x.age, .int .i64 x.owner]] w fun e w' => ∃ A c, e = .returned (.slice A 9 c) ∧ IntsAt w' A 9 (enN x) ∧ Below w.heap.size w w' := by
  go_enter Tryz.func80, Tryz.ntmps80
  go_wp2
  go_ret
  exact ⟨_, _, rfl, ints_of' _ _ (enN x) _ 9 _ (by simp) rfl rfl, ((Below.refl _ _).alloc (Nat.le_refl _) _).alloc (by simp) _⟩

theorem numsL_tk {l : List Int} {k : Nat} {x : Int} (h : l[k]? = some x) : numsL (l.take (k + 1)) = numsL (l.take k) ++ nums x := by
  rw [take_at h, numsL_app, numsL_cons, numsL_nil, List.append_nil]

theorem numsL_le (l : List Int) : (numsL l).length ≤ 9 * l.length := by
  induction l with
  | nil => simp [numsL_nil]
  | cons x l ih => rw [numsL_cons, List.length_append, List.length_cons]; have := (nums_len x).2; omega

set_option maxHeartbeats 1000000 in
theorem fall_any (base : Nat) (v : Value) (bs : List Int) (A : Option Addr) (n c : Nat) (l : List Int) (w : World) (hv : ownB base w v bs) (hb : base ≤ w.heap.size) (hbs : bs.length ≤ 10000000) (hl : IntsAt w A n l) (hn : n ≤ 1000) :
    Calls Tryz.prog 79 #[v, .slice A n c] w (RetOB base (bs ++ numsL l) w) := by
  obtain ⟨hlen, hat⟩ := hl
  have Hlen := Lib.hid hlen
  have Hat := Lib.hid hat
  have HO := Lib.hid hv
  obtain ⟨A0, c0, rfl, -⟩ := hv.sl
  obtain ⟨nb, hnb⟩ : ∃ n, bs.length = n := ⟨_, rfl⟩
  have Hnb := Lib.hid hnb
  rw [hnb] at HO ⊢
  have HP := Lib.hid (fun v m x w1 hv hm => fput_any v m x w1 hv hm)
  have Hbs := Lib.hid hbs
  clear hlen hat hv hnb hbs
  go_enter Tryz.func79, Tryz.ntmps79
  go_wp2
  go_loopw [0, 5] (fun v i wr => ∃ k : Nat, k ≤ n ∧ i = .int .i64 k ∧ ownB base wr v (bs ++ numsL (l.take k)) ∧ Below w.heap.size w wr) (fun _ i _ => n - (intOf i).toNat)
  case atStart => exact ⟨0, Nat.zero_le _, rfl, by simpa [numsL_nil] using HO.out, Below.refl _ _⟩
  case round =>
    obtain ⟨k, hk, rfl, ho, hbel⟩ := hrel
    have Ho := Lib.hid ho
    have Hb := Lib.hid hbel
    obtain ⟨A1, c1, hv1, -⟩ := ho.sl
    obtain ⟨m, hm⟩ : ∃ m, (bs ++ numsL (l.take k)).length = m := ⟨_, rfl⟩
    rw [hm] at hv1
    subst hv1
    have Hm := Lib.hid hm
    clear ho hbel hm HO
    by_cases hlt : k < n
    · obtain ⟨b, off, hA, hc⟩ := Hat.out (by omega)
      have hck : wr.cell? ⟨b, off + k, none⟩ = some (.int .i64 (gi l k)) := (Hb.out.cell (p := ⟨b, off + k, none⟩) (World.block_lt_of_cell? _ _ (hc k hlt))).trans (hc k hlt)
      subst hA
      have HT := Lib.hid (numsL_tk (l := l) (k := k) (x := gi l k) (by simp [gi, List.getD_eq_getElem?_getD, List.getElem?_eq_getElem (show k < l.length by rw [Hlen.out]; exact hlt)]))
      clear hc
      go_wp2_with fail
      refine (HP.out _ (bs ++ numsL (l.take k)) _ _ Ho.out.sl (by have h1 := numsL_le (l.take k); have h2 := Hbs.out; rw [List.length_append]; rw [List.length_take] at h1; have h4 := Hlen.out; omega)).mono ?_
      rintro e w1 ⟨v1, rfl, ho1, hb1⟩
      have HO1 := Lib.hid (show ownB base w1 v1 (bs ++ numsL (l.take (k + 1))) from by rw [HT.out, ← List.append_assoc]; exact ho1.low (Nat.le_trans hb Hb.out.size))
      have HB1 := Lib.hid (nextW Hb.out hb1)
      clear ho1 hb1
      go_wp2
      go_roundw
      case rel => exact ⟨k + 1, by omega, by go_num, HO1.out, HB1.out⟩
      case measure => simp [intOf]; omega
    · obtain rfl : k = n := by omega
      rw [List.take_of_length_le (by rw [Hlen.out]; exact Nat.le_refl _)] at Ho
      go_wp2
      go_ret
      exact ⟨_, rfl, Ho.out, Hb.out⟩

theorem crP_tk {l : List Crs} {k : Nat} {x : Crs} (h : l[k]? = some x) : (l.take (k + 1)).flatMap crP = (l.take k).flatMap crP ++ crP x := by
  rw [take_at h, List.flatMap_append]; simp

theorem crP_le (l : List Crs) : (l.flatMap crP).length ≤ 117 * l.length := by
  have h1 : ∀ c, (crP c).length ≤ 117 := fun c => by
    have h := numsL_le (crN c)
    have h2 : (crN c).length ≤ 13 := by unfold crN crT enN; split <;> simp
    unfold crP; omega
  induction l with
  | nil => simp
  | cons c l ih => rw [List.flatMap_cons, List.length_append, List.length_cons]; have := h1 c; omega

theorem crP_two (x : Crs) (ds : List Int) : ds ++ numsL [x.kind, x.src, x.dst, x.frame] ++ numsL (crT x) = ds ++ crP x := by
  rw [List.append_assoc, ← numsL_app]; rfl

set_option maxHeartbeats 4000000 in
theorem fcrosses_any (base : Nat) (v : Value) (bs : List Int) (u : Value) (l : List Crs) (w : World) (hv : ownB base w v bs) (hb : base ≤ w.heap.size) (hbs : bs.length ≤ 5000000) (hu : IsSl crsC w u l) (hn : l.length ≤ 5000) :
    Calls Tryz.prog 71 #[v, u] w (RetOB base (bs ++ packM l) w) := by
  have HO := Lib.hid hv
  obtain ⟨A0, c0, rfl, -⟩ := hv.sl
  have HU := Lib.hid hu
  obtain ⟨B, d, rfl, -⟩ := hu
  obtain ⟨nb, hnb⟩ : ∃ n, bs.length = n := ⟨_, rfl⟩
  have Hbs := Lib.hid hbs
  rw [hnb] at HO ⊢
  obtain ⟨n, hnn⟩ : ∃ n, l.length = n := ⟨_, rfl⟩
  have Hn := Lib.hid hnn
  rw [hnn] at HU hn ⊢
  have HP := Lib.hid (fun v l x w hv hl => fput_any v l x w hv hl)
  have HA := Lib.hid (fun v bs A n c l w hv hb hbs hl hn => fall_any base v bs A n c l w hv hb hbs hl hn)
  have HE := Lib.hid fentity_any
  have HM := Lib.hid (show packM l = nums n ++ l.flatMap crP from by rw [← hnn]; rfl)
  have HT := Lib.hid (fun k x (h : l[k]? = some x) => crP_tk h)
  have HL := Lib.hid (show ∀ k, k ≤ n → (bs ++ (nums n ++ (l.take k).flatMap crP)).length ≤ 8000000 from fun k hk => by
    have h1 := crP_le (l.take k)
    have h2 := (nums_len (n : Int)).2
    rw [List.length_take] at h1
    rw [List.length_append, List.length_append]; omega)
  have H2 := Lib.hid crP_two
  clear hv hnb hbs hnn
  generalize packM l = PM at *
  go_enter Tryz.func71, Tryz.ntmps71
  go_wp2_with fail
  refine (HP.out _ bs _ _ HO.out.sl (by have := Hbs.out; omega)).mono ?_
  rintro e w1 ⟨v1, rfl, ho1, hb1⟩
  have HO1 := Lib.hid (show ownB base w1 v1 (bs ++ (nums n ++ (l.take 0).flatMap crP)) from by simpa using ho1.low hb)
  have HB1 := Lib.hid hb1
  clear ho1 hb1 HO
  go_wp2
  go_loopw [0, 5] (fun v i wr => ∃ k : Nat, k ≤ n ∧ i = .int .i64 k ∧ ownB base wr v (bs ++ (nums n ++ (l.take k).flatMap crP)) ∧ Below w.heap.size w wr) (fun _ i _ => n - (intOf i).toNat)
  case atStart => exact ⟨0, Nat.zero_le _, rfl, HO1.out, HB1.out⟩
  case round =>
    clear HO1 HB1
    obtain ⟨k, hk, rfl, ho, hbel⟩ := hrel
    have HLk := Lib.hid (HL.out k hk)
    have Ho := Lib.hid ho
    have Hb := Lib.hid hbel
    obtain ⟨A1, c1, hv1, -⟩ := ho.sl
    generalize (bs ++ (nums n ++ (l.take k).flatMap crP)).length = m at hv1
    subst hv1
    clear ho hbel
    by_cases hlt : k < n
    · obtain ⟨x, hx⟩ := getE l k n Hn.out hlt
      have HX := Lib.hid (HT.out k x hx)
      have HXc := Lib.hid (show crT x = if x.kind = 1 then enN x.e else [x.x, x.y] from rfl)
      obtain ⟨bb, off, rfl, hc⟩ := elem_Crs (HU.out.below Hb.out).at hx
      obtain ⟨c0, c1, c2, c3, c4, c5, c6, c7, c8, c9, c10, c11, c12, c13, c14⟩ := hc
      have hki : (k : Int) < (n : Int) := by omega
      have hbw := Hb.out.size
      clear hx
      go_upto_region 6 with fail
      generalize hW : World.alloc _ _ = W at *
      have BX := Lib.hid (show CrsBox W wr.heap.size x from by rw [← hW]; exact CrsBox.n1 _ x _ rfl)
      have hal : Below wr.heap.size wr W := by rw [← hW]; exact (Below.refl _ _).alloc (Nat.le_refl _) _
      replace Ho := Lib.hid (own_below Ho.out hal)
      replace Hb := Lib.hid (nextW Hb.out hal)
      clear hW hal c0 c1 c2 c3 c4 c5 c6 c7 c8 c9 c10 c11 c12 c13 c14
      generalize wr.heap.size = gx at *
      have hgl := BX.out.has
      obtain ⟨c0, c1, c2, c3, c4, c5, c6, c7, c8, c9, c10, c11, c12, c13, c14, -⟩ := BX.out
      go_wp2_with fail
      refine (HA.out _ _ _ _ _ [x.kind, x.src, x.dst, x.frame] _ (own_below Ho.out ((Below.refl _ _).alloc (Nat.le_refl _) _)) (by have := Hb.out.size; simp; omega) (by have := HLk.out; omega) (ints_of' W _ [x.kind, x.src, x.dst, x.frame] _ 4 _ rfl rfl rfl) (by omega)).mono ?_
      rintro e w2 ⟨v2, rfl, ho2, hb2⟩
      have hb2' := unbox hb2
      replace Ho := Lib.hid ho2
      replace BX := Lib.hid (BX.out.nx hb2')
      have NX := nextW Hb.out hb2'
      replace Hb := Lib.hid NX
      obtain ⟨A2, c2', hv2, -⟩ := ho2.sl
      have HL2 := Lib.hid (show ((bs ++ (nums n ++ (l.take k).flatMap crP)) ++ numsL [x.kind, x.src, x.dst, x.frame]).length ≤ 9000000 from by
        rw [List.length_append]; have h1 := numsL_le [x.kind, x.src, x.dst, x.frame]; have h2 := HLk.out; simp only [List.length_cons, List.length_nil] at h1; omega)
      generalize ((bs ++ (nums n ++ (l.take k).flatMap crP)) ++ numsL [x.kind, x.src, x.dst, x.frame]).length = m2 at hv2
      subst hv2
      clear hb2 hb2' ho2 NX c0 c1 c2 c3 c4 c5 c6 c7 c8 c9 c10 c11 c12 c13 c14 hgl
      have hgl := BX.out.has
      obtain ⟨c0, c1, c2, c3, c4, c5, c6, c7, c8, c9, c10, c11, c12, c13, c14, -⟩ := BX.out
      by_cases hk1 : x.kind = 1
      · have hk1' : (x.kind == 1) = true := by simpa using hk1
        rw [if_pos hk1] at HXc
        clear hk1
        go_wp2_with fail
        refine (HE.out x.e _).mono ?_
        rintro e w3 ⟨A3, c3, rfl, hi3, hb3⟩
        have HI3 := Lib.hid hi3
        have HO3 := Lib.hid (own_below Ho.out hb3)
        have HB3 := Lib.hid (nextW Hb.out hb3)
        clear hi3 hb3 Ho Hb
        go_wp2_with fail
        refine (HA.out _ _ _ _ _ (enN x.e) _ HO3.out (Nat.le_trans hb HB3.out.size) (by have := HL2.out; omega) HI3.out (by omega)).mono ?_
        rintro e w4 ⟨v4, rfl, ho4, hb4⟩
        have HO4 := Lib.hid (show ownB base w4 v4 (bs ++ (nums n ++ (l.take (k + 1)).flatMap crP)) from by
          have h := H2.out x (bs ++ (nums n ++ (l.take k).flatMap crP))
          rw [HXc.out] at h
          rw [h] at ho4
          rw [HX.out, ← List.append_assoc (nums _), ← List.append_assoc bs]
          exact ho4)
        have HB4 := Lib.hid (nextW HB3.out hb4)
        clear ho4 hb4
        go_wp2
        go_roundw
        case rel => exact ⟨k + 1, by omega, by go_num, HO4.out, HB4.out⟩
        case measure => simp [intOf]; omega
      · have hk1' : (x.kind == 1) = false := by simpa using hk1
        rw [if_neg hk1] at HXc
        clear hk1
        go_wp2_with fail
        refine (HA.out _ _ _ _ _ [x.x, x.y] _ (own_below Ho.out ((Below.refl _ _).alloc (Nat.le_refl _) _)) (by have := Hb.out.size; simp; omega) (by have := HL2.out; omega) (ints_of' w2 _ [x.x, x.y] _ 2 _ rfl rfl rfl) (by omega)).mono ?_
        rintro e w4 ⟨v4, rfl, ho4, hb4⟩
        have HO4 := Lib.hid (show ownB base w4 v4 (bs ++ (nums n ++ (l.take (k + 1)).flatMap crP)) from by
          have h := H2.out x (bs ++ (nums n ++ (l.take k).flatMap crP))
          rw [HXc.out] at h
          rw [h] at ho4
          rw [HX.out, ← List.append_assoc (nums _), ← List.append_assoc bs]
          exact ho4)
        have HB4 := Lib.hid (nextW Hb.out (unbox hb4))
        clear ho4 hb4
        go_wp2
        go_roundw
        case rel => exact ⟨k + 1, by omega, by go_num, HO4.out, HB4.out⟩
        case measure => simp [intOf]; omega
    · obtain rfl : k = n := by omega
      rw [List.take_of_length_le (by rw [Hn.out]; exact Nat.le_refl _)] at Ho
      go_wp2
      go_ret
      exact ⟨_, rfl, by rw [HM.out]; exact Ho.out, Hb.out⟩

end Go.Proofs.YtlpkaljepaclpaaGreat.Fx
namespace Go.Proofs.YtlpkaljepaclpaaGreat.Fx
open Go.ChangeShapes Go.WideShapes Go.ChangeAt Go.RowKit
set_option linter.unusedVariables false
set_option maxRecDepth 100000

/-- Bytes that came in. -/
theorem IsRow.sl8 {w : World} {a : Option Addr} {len cap : Nat} {zs : List Int} (h : IsRow .u8 w a len cap zs) : IsSl byC w (.slice a len cap) (zs.take len) ∧ ByOk (zs.take len) ∧ (zs.take len).length = len := by
  rcases h with ⟨rfl, rfl, rfl, rfl⟩ | ⟨x, rfl, hl, hm, hz, hcell, hwz⟩
  · exact ⟨IsSl.nil _ _, fun x hx => by simp at hx, rfl⟩
  · have hlen : (zs.take len).length = len := by rw [List.length_take]; omega
    refine ⟨?_, fun x hx => by have := bounds_u8 (hwz x (List.mem_of_mem_take hx)); omega, hlen⟩
    refine ⟨some x, cap, by rw [hlen], fun h => (by cases h), by omega, fun hx => ?_⟩
    obtain ⟨b, off, spot⟩ := x
    have h0 : 0 < zs.length := by
      cases zs with
      | nil => simp at hx
      | cons z zs => simp
    have hspot : spot = none := by simpa [Addr.add] using World.cell?_spot (hcell 0 h0)
    subst hspot
    refine ⟨b, off, rfl, fun i v hv => ?_⟩
    rw [byC_map] at hv
    obtain ⟨hi, hv⟩ := List.getElem?_eq_some_iff.1 hv
    simp at hi hv
    subst hv
    have h := hcell i (by omega)
    have e : (Addr.mk b off none).add i = ⟨b, off + i, none⟩ := by unfold Addr.add; split <;> simp_all
    rw [e] at h
    rw [h]
    simp [List.getD_eq_getElem?_getD, List.getElem?_eq_getElem (show i < zs.length by omega)]

end Go.Proofs.YtlpkaljepaclpaaGreat.Fx
