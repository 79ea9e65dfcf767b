/- joustlaw11.BytesWrite returns true for every input; no conditions. -/
import Derived.Test.YtigcpgkiankjpaaByAwkA
import Derived.Test.YtigcpgkiankjpaaGTyVItem
import Derived.Test.YtigcpgkiankjpaaGSeq
import Derived.Test.YtigcpgkiankjpaaRows
import Derived.WalkKit
import Derived.ProofKit
import Derived.OpenShut
import Derived.ShutString
import Derived.ChangeOld
import Derived.Below
import Derived.Deep.Slices
namespace Go.Proofs.Ytigcpgkiankjpaa.bytesWrite
open Go.ChangeShapes Go.WideShapes Go.ChangeAt Go.RowKit
open Go.ChangeMaps (open_string shut_string)
set_option linter.unusedVariables false
set_option maxRecDepth 100000

theorem own : ownKnob Try.prog.godebug = none := by kernel_rfl
theorem laidOut : laidOutB Try.prog = true := by kernel_rfl
open Fx (IsRow)
theorem open_T28 {H : Type} {enc : TypeId × Value → H} {W : World} {fuel : Nat} {cs : List Value} {x : DataW H × List MemPlace} (h : DataW.trod enc Try.prog W 0 (fun _ => true) true fuel 28 cs = some x) :
    ∃ (a0 : Bool) (a1 : Int) (a2 : Value), cs = [.bool a0, .int .i64 a1, a2] ∧ (Lit.int .i64 a1).wf = true ∧ ∃ m y, DataW.trod enc Try.prog W 0 (fun _ => true) true m 26 [a2] = some y := by
  obtain ⟨xs, n, -, -, hl, hxl, hg⟩ := DataW.trod_struct Try.underlying28 h
  have hl' : cs.length = 3 := hl.trans (by kernel_rfl)
  have c3 : Try.prog.cellsOf 3 = 1 := by kernel_rfl
  have c4 : Try.prog.cellsOf 4 = 1 := by kernel_rfl
  have c26 : Try.prog.cellsOf 26 = 1 := by kernel_rfl
  clear hl h
  match cs, hl' with
  | [z0, z1, z2], _ =>
    have g0 : DataW.trod enc Try.prog W 0 (fun _ => true) true n 4 (([z0, z1, z2].drop 0).take (Try.prog.cellsOf 4)) = xs[0]? := hg 0 _ rfl
    rw [c4, List.getElem?_eq_getElem (show 0 < xs.length by rw [hxl]; decide)] at g0
    have g1 : DataW.trod enc Try.prog W 0 (fun _ => true) true n 3 (([z0, z1, z2].drop 1).take (Try.prog.cellsOf 3)) = xs[1]? := hg 1 _ rfl
    rw [c3, List.getElem?_eq_getElem (show 1 < xs.length by rw [hxl]; decide)] at g1
    have g2 : DataW.trod enc Try.prog W 0 (fun _ => true) true n 26 (([z0, z1, z2].drop 2).take (Try.prog.cellsOf 26)) = xs[2]? := hg 2 _ rfl
    rw [c26, List.getElem?_eq_getElem (show 2 < xs.length by rw [hxl]; decide)] at g2
    obtain ⟨a0, e0, -⟩ := DataW.trod_bool (cs := [z0]) Try.underlying4 g0
    simp only [List.cons.injEq, and_true] at e0
    subst e0
    clear g0
    obtain ⟨a1, e1, -, w1⟩ := DataW.trod_int (cs := [z1]) Try.underlying3 g1
    simp only [List.cons.injEq, and_true] at e1
    subst e1
    clear g1
    have w2 : ∃ m y, DataW.trod enc Try.prog W 0 (fun _ => true) true m 26 [z2] = some y := ⟨n, _, g2⟩
    clear g2
    exact ⟨a0, a1, z2, rfl, w1, w2⟩

theorem open_sn26 {H : Type} {enc : TypeId × Value → H} {W : World} {fuel : Nat} {v : Value} {x : DataW H × List MemPlace} (h : DataW.trod enc Try.prog W 0 (fun _ => true) true fuel 26 [v] = some x) :
    ∃ l0, Fx.IsSl Fx.byC W v l0 ∧ Fx.ByOk l0 := by
  rcases open_ints Try.underlying26 Try.underlying5 (by kernel_rfl) h with ⟨hcs, _⟩ | ⟨a, l, c, zs, hcs, _, hl, hm, hz, _, hcell, hwz⟩
  · simp at hcs
    subst hcs
    exact ⟨[], Fx.IsSl.nil _ _, fun x hx => by simp at hx⟩
  · simp at hcs
    subst hcs
    have h8 : IsRow .u8 W (some a) l c zs := .inr ⟨_, rfl, hl, hm, by simpa using hz, hcell, hwz⟩
    exact ⟨_, (Fx.IsRow.sl8 h8).1, (Fx.IsRow.sl8 h8).2.1⟩

theorem open_sn22 {H : Type} {enc : TypeId × Value → H} {W : World} {fuel : Nat} {v : Value} {x : DataW H × List MemPlace} (h : DataW.trod enc Try.prog W 0 (fun _ => true) true fuel 22 [v] = some x) :
    ∃ l0 : List Fx.Itm, Fx.IsSl Fx.itmC W v l0 ∧ ∀ e0 ∈ l0, (Lit.int .i64 e0.v).wf = true ∧ (∃ l1, Fx.IsSl Fx.byC W e0.b l1 ∧ Fx.ByOk l1) := by
  rcases Go.Deep.open_slice Try.underlying22 h with ⟨hcs, _⟩ | ⟨a, len, cap, m, n, D, Pl, hcs, _, hl, hm, hmm, _, hel⟩
  · simp at hcs
    subst hcs
    exact ⟨[], Fx.IsSl.nil _ _, by simp⟩
  · simp at hcs
    subst hcs
    have hmc : m = cap := hmm
    have hce : Try.prog.cellsOf 28 = 3 := by kernel_rfl
    refine Fx.sl_of_cells (base := 0) default 3 Fx.itmC_len (by omega) hl fun i hi => ?_
    obtain ⟨cs', hc, ht⟩ := hel i (by omega)
    rw [hce] at hc
    obtain ⟨a0, a1, a2, rfl, w1, w2⟩ := open_T28 ht
    exact ⟨⟨a0, a1, a2⟩, ⟨w1, (by obtain ⟨m, y, h⟩ := w2; exact open_sn26 h)⟩, hc⟩

open Fx

/-- The bytes of an item. -/
def itB (f : Itm → List Int) (e : Itm) : List Int := if e.raw then nums (f e).length ++ f e else nums e.v
def itsB (f : Itm → List Int) (l : List Itm) : List Int := l.flatMap (itB f)

theorem itsB_take (f : Itm → List Int) {l : List Itm} {k : Nat} {e : Itm} (h : l[k]? = some e) : itsB f (l.take (k + 1)) = itsB f (l.take k) ++ itB f e := by
  unfold itsB
  rw [take_at h, List.flatMap_append]
  simp

theorem itsB_drop (f : Itm → List Int) {l : List Itm} {k : Nat} {e : Itm} (h : l[k]? = some e) : itsB f (l.drop k) = itB f e ++ itsB f (l.drop (k + 1)) := by
  unfold itsB
  rw [drop_at h, List.flatMap_cons]

theorem itsB_ok (f : Itm → List Int) (l : List Itm) (h : ∀ e ∈ l, ByOk (f e)) : ByOk (itsB f l) := by
  intro x hx
  obtain ⟨e, he, hx⟩ := List.mem_flatMap.1 hx
  unfold itB at hx
  split at hx
  · rcases List.mem_append.1 hx with hx | hx
    · exact nums_ok _ x hx
    · exact h e he x hx
  · exact nums_ok _ x hx

theorem itB_len (f : Itm → List Int) (e : Itm) (h : (f e).length ≤ 300) : (itB f e).length ≤ 309 := by
  unfold itB
  split
  · rw [List.length_append]; have := (nums_len (f e).length).2; omega
  · have := (nums_len e.v).2; omega

theorem elem_Itm {w : World} {A : Option Addr} {n c : Nat} {es : List Itm} (h : IsSl itmC w (.slice A n c) es) {k : Nat} {e : Itm} (hk : es[k]? = some e) :
    ∃ b off, A = some ⟨b, off, none⟩ ∧ w.cell? ⟨b, off + k * 3, none⟩ = some (.bool e.raw) ∧ w.cell? ⟨b, off + k * 3 + 1, none⟩ = some (.int .i64 e.v) ∧ w.cell? ⟨b, off + k * 3 + 2, none⟩ = some e.b := by
  obtain ⟨b, off, hA, hc⟩ := h.at.elem 3 itmC_len (by omega) hk
  exact ⟨b, off, hA, hc 0 _ rfl, hc 1 _ rfl, hc 2 _ rfl⟩

set_option maxRecDepth 100000 in
set_option maxHeartbeats 4000000 in
theorem walk (v0 : Value) (l0 : List Fx.Itm) (w : World) (w0 : Fx.IsSl Fx.itmC w v0 l0) (k0 : ∀ e ∈ l0, (Lit.int .i64 e.v).wf = true ∧ (∃ l0, Fx.IsSl Fx.byC w e.b l0 ∧ Fx.ByOk l0)) :
    Calls Try.prog 3 #[v0] w fun e w' => e = .returned (.bool true) ∧ Below w.heap.size w w' := by
  obtain ⟨f, hf⟩ : ∃ f : Itm → List Int, ∀ e ∈ l0, IsSl byC w e.b (f e) ∧ ByOk (f e) := by
    classical
    refine ⟨fun e => if h : e ∈ l0 then Classical.choose (k0 e h).2 else [], fun e he => ?_⟩
    simp only [dif_pos he]
    exact Classical.choose_spec (k0 e he).2
  have HW0 := Lib.hid w0
  have HK0 := Lib.hid (fun e he => (k0 e he).1)
  have HF := Lib.hid hf
  obtain ⟨A0, c0, rfl, -⟩ := w0
  obtain ⟨N, hN⟩ : ∃ N, l0.length = N := ⟨_, rfl⟩
  rw [hN] at HW0 ⊢
  have HN := Lib.hid hN
  clear hf k0 hN
  have HA := Lib.hid awake_by
  have HP := Lib.hid put_any
  have HR := Lib.hid wraw_any
  have HP2 := Lib.hid rput_any
  have HR2 := Lib.hid rraw2_any
  go_enter Try.func3, Try.ntmps3
  go_wp2
  have hwn := Lib.hid (WrAt.new w 25)
  have hbn := Lib.hid ((Below.refl w.heap.size w).alloc (Nat.le_refl _) (.cells #[.pointer none] 25))
  go_loopw [4, 5] (fun v i wr => ∃ k : Nat, k ≤ N ∧ k ≤ 40 ∧ i = .int .i64 k ∧ WrAt (w.heap.size + 1) wr w.heap.size (itsB f (l0.take k)) ∧ FarSl (w.heap.size + 1) wr v (itsB f (l0.take k)) ∧ (itsB f (l0.take k)).length ≤ 309 * k ∧ (∀ e ∈ l0.take k, (f e).length ≤ 300) ∧ Below w.heap.size w wr) (fun _ i _ => N - (intOf i).toNat)
  case atStart => exact ⟨0, Nat.zero_le _, by omega, rfl, hwn.out, ⟨IsSl.nil _ _, fun a n c h => by cases h⟩, by simp [itsB], fun e he => by simp at he, hbn.out⟩
  case round =>
    clear hwn hbn
    obtain ⟨k, hk, hk4, rfl, hw, hv, hlen, hall, hbel⟩ := hrel
    have HWr := Lib.hid hw
    have HV := Lib.hid hv
    have HLen := Lib.hid hlen
    have HAll := Lib.hid hall
    have HB := Lib.hid hbel
    clear hw hv hlen hall hbel
    by_cases hlt : k < N ∧ k < 40
    · obtain ⟨e, he⟩ := getE l0 k N HN.out hlt.1
      have HMem := Lib.hid (List.mem_of_getElem? he)
      have HT := Lib.hid (itsB_take f he)
      have HE := Lib.hid he
      obtain ⟨bb, off, hA0, e0, e1, e2⟩ := elem_Itm HW0.out he
      subst hA0
      obtain ⟨hsl, hok⟩ := HF.out e HMem.out
      obtain ⟨Ae, ce, hbe, -⟩ := hsl
      rw [hbe] at e2
      have q0 : wr.cell? ⟨bb, off + k * 3, none⟩ = some (.bool e.raw) := (HB.out.cell (p := ⟨bb, off + k * 3, none⟩) (World.block_lt_of_cell? _ _ e0)).trans e0
      have q1 : wr.cell? ⟨bb, off + k * 3 + 1, none⟩ = some (.int .i64 e.v) := (HB.out.cell (p := ⟨bb, off + k * 3 + 1, none⟩) (World.block_lt_of_cell? _ _ e1)).trans e1
      have q2 : wr.cell? ⟨bb, off + k * 3 + 2, none⟩ = some (.slice Ae (f e).length ce) := (HB.out.cell (p := ⟨bb, off + k * 3 + 2, none⟩) (World.block_lt_of_cell? _ _ e2)).trans e2
      have hlt1 : (k : Int) < (N : Int) := by omega
      have hlt2 : (k : Int) < 40 := by omega
      have E0 := Lib.hid e0
      have E1 := Lib.hid e1
      have E2 := Lib.hid e2
      have HSl := Lib.hid (HF.out e HMem.out).1
      rw [hbe] at HSl
      clear he hok e0 e1 e2 hbe
      obtain ⟨m, hm⟩ : ∃ m, (f e).length = m := ⟨_, rfl⟩
      rw [hm] at q2 HSl E2
      have Hm := Lib.hid hm
      clear hm
      by_cases hbig : 300 < m
      · clear hlt
        go_wp2_with fail
        refine (HA.out _).mono ?_
        rintro e' w1 ⟨rfl, hb⟩
        have HB1 := Lib.hid (HB.out.trans (hb.mono HB.out.size))
        clear hb
        go_wp2
        go_ret
        exact ⟨rfl, HB1.out⟩
      · have HIl := Lib.hid (itB_len f e (by rw [Hm.out]; omega))
        cases hr : e.raw with
        | true =>
          rw [hr] at q0 E0
          have HIt := Lib.hid (show itB f e = nums m ++ f e from by rw [itB, hr, Hm.out]; rfl)
          clear hr hlt
          go_wp2_with fail
          refine (HR.out (w.heap.size + 1) _ _ _ (f e) _ (.inr ⟨_, rfl, HWr.out⟩) (HSl.out.keep fun p u hp => (HB.out.cell (World.block_lt_of_cell? _ _ hp)).trans hp) (by rw [Hm.out]; omega)).mono ?_
          rintro e' w1 ⟨rfl, -, h1⟩
          obtain ⟨h1, hg1⟩ := h1 _ rfl
          rw [Hm.out, ← HIt.out, ← HT.out] at h1
          have H1 := Lib.hid h1
          have HB1 := Lib.hid (HB.out.grown hg1 HB.out.size (by simp))
          have HV1 := Lib.hid (HV.out.keep fun p u hp hu => grown_cell hg1 (by simp; omega) hu)
          have q2' : w1.cell? ⟨bb, off + k * 3 + 2, none⟩ = some (.slice Ae m ce) := (HB1.out.cell (p := ⟨bb, off + k * 3 + 2, none⟩) (World.block_lt_of_cell? _ _ E2.out)).trans E2.out
          clear h1 hg1 HV HWr q0 q1 q2
          go_wp2_with fail
          refine (HR2.out _ _ (itsB f (l0.take k)) (f e) _ HV1.out.1 (HSl.out.keep fun p u hp => (HB1.out.cell (World.block_lt_of_cell? _ _ hp)).trans hp) (by have := HLen.out; omega) (by rw [Hm.out]; omega)).mono ?_
          rintro e' w2 ⟨v2, rfl, ho2, hb2⟩
          have HS1 : w.heap.size + 1 ≤ w1.heap.size := Tgt.le H1.out
          have HV2 := Lib.hid (show FarSl (w.heap.size + 1) w2 v2 (itsB f (l0.take (k + 1))) from by have := ho2.far HS1; rw [Hm.out, List.append_assoc, ← HIt.out, ← HT.out] at this; exact this)
          have H2 := Lib.hid (H1.out.below hb2)
          have HB2 := Lib.hid (HB1.out.trans (hb2.mono HB1.out.size))
          clear ho2 hb2 HS1 HV1 H1 q2'
          go_wp2
          go_roundw
          case rel => exact ⟨k + 1, by omega, by omega, by go_num, H2.out, HV2.out, by have := HLen.out; have := HIl.out; rw [HT.out, List.length_append]; omega, fun x hx => by rw [take_at HE.out] at hx; rcases List.mem_append.1 hx with hx | hx; exact HAll.out x hx; simp at hx; subst hx; rw [Hm.out]; omega, HB2.out⟩
          case measure => simp [intOf]; omega
        | false =>
          rw [hr] at q0 E0
          have HIt := Lib.hid (show itB f e = nums e.v from by rw [itB, hr]; rfl)
          clear hr hlt
          go_wp2_with fail
          refine (HP.out (w.heap.size + 1) _ _ _ _ _ [e.v] _ (.inr ⟨_, rfl, HWr.out.below ((Below.refl _ _).alloc (Nat.le_refl _) _)⟩) (ints_new1 _ _ _ _ rfl) (by omega)).mono ?_
          rintro e' w1 ⟨rfl, -, h1⟩
          obtain ⟨h1, hg1⟩ := h1 _ rfl
          rw [show numsL [e.v] = nums e.v from by simp [numsL], ← HIt.out, ← HT.out] at h1
          have H1 := Lib.hid h1
          have HB1 := Lib.hid ((HB.out.alloc HB.out.size _).grown hg1 (by have := HB.out.size; simp; omega) (by simp))
          have HV1 := Lib.hid (HV.out.keep fun p u hp hu => grown_cell hg1 (by simp; omega) (by rw [World.cell?_alloc_lt _ _ _ (World.block_lt_of_cell? _ _ hu)]; exact hu))
          have q1' : w1.cell? ⟨bb, off + k * 3 + 1, none⟩ = some (.int .i64 e.v) := (HB1.out.cell (p := ⟨bb, off + k * 3 + 1, none⟩) (World.block_lt_of_cell? _ _ E1.out)).trans E1.out
          clear h1 hg1 HV HWr q0 q1 q2
          go_wp2_with fail
          refine (HP2.out _ (itsB f (l0.take k)) e.v _ HV1.out.1 (by have := HLen.out; omega)).mono ?_
          rintro e' w2 ⟨v2, rfl, ho2, hb2⟩
          have HS1 : w.heap.size + 1 ≤ w1.heap.size := Tgt.le H1.out
          have HV2 := Lib.hid (show FarSl (w.heap.size + 1) w2 v2 (itsB f (l0.take (k + 1))) from by have := ho2.far HS1; rw [← HIt.out, ← HT.out] at this; exact this)
          have H2 := Lib.hid (H1.out.below hb2)
          have HB2 := Lib.hid (HB1.out.trans (hb2.mono HB1.out.size))
          clear ho2 hb2 HS1 HV1 H1 q1'
          go_wp2
          go_roundw
          case rel => exact ⟨k + 1, by omega, by omega, by go_num, H2.out, HV2.out, by have := HLen.out; have := HIl.out; rw [HT.out, List.length_append]; omega, fun x hx => by rw [take_at HE.out] at hx; rcases List.mem_append.1 hx with hx | hx; exact HAll.out x hx; simp at hx; subst hx; rw [Hm.out]; omega, HB2.out⟩
          case measure => simp [intOf]; omega
    · rcases (show (k < N ∧ ¬ k < 40) ∨ ¬ k < N by omega) with ⟨hkN, hk40⟩ | hkN
      all_goals
        have hKN : ∀ j, j ≤ k → ((j < N ∧ j < 40) ↔ j < k) := fun j hj => by omega
        have HKN := Lib.hid hKN
        have hD : (itsB f (l0.take k)).length ≤ 1000000 := by have := HLen.out; omega
        have HDl := Lib.hid hD
        have HDok := Lib.hid (itsB_ok f (l0.take k) (fun e he => (HF.out e (List.mem_of_mem_take he)).2))
        have HDr := Lib.hid (fun j (hj : j ≤ k) => show (itsB f ((l0.take k).drop j)).length ≤ 1000000 from by
          have h1 : itsB f (l0.take k) = itsB f ((l0.take k).take j) ++ itsB f ((l0.take k).drop j) := by unfold itsB; rw [← List.flatMap_append, List.take_append_drop]
          have h2 := congrArg List.length h1
          rw [List.length_append] at h2
          omega)
        have HBy := Lib.hid wbytes_any
        have HRd := Lib.hid read_any
        have HSm := Lib.hid same_by
        have HRw := Lib.hid rraw_any
        have HI := Lib.hid rint_any
        have HEr := Lib.hid rerr_any
        have HLf := Lib.hid rleft_any
        obtain ⟨D, hDe⟩ : ∃ D, itsB f (l0.take k) = D := ⟨_, rfl⟩
        rw [hDe] at hD HDl HDok HWr HV
        have HD := Lib.hid hDe
        obtain ⟨A4, c4, hv4, -⟩ := HV.out.1
        subst hv4
        clear hD hDe HP HR HP2 HR2 hKN
        go_wp2_with fail
        refine (HBy.out (w.heap.size + 1) _ _ _ HWr.out HDl.out).mono ?_
        rintro e' w1 ⟨v1, rfl, ho1, hb1⟩
        have HO1 := Lib.hid ho1.sl
        have H1 := Lib.hid (HWr.out.below hb1)
        have HV1 := Lib.hid (HV.out.1.below hb1)
        have HB1 := Lib.hid (HB.out.trans (hb1.mono HB.out.size))
        clear ho1 hb1 HWr HV HB
        go_wp2_with fail
        refine (HRd.out _ _ _ HO1.out HDl.out).mono ?_
        rintro e' w2 ⟨b5, rfl, hb5s, -, hr2, hb2⟩
        have HR2 := Lib.hid (hr2 (· = b5) rfl (fun k hk => .inr (by omega)))
        have H2 := Lib.hid (H1.out.below hb2)
        have HV2 := Lib.hid (HV1.out.below hb2)
        have HB2 := Lib.hid (HB1.out.trans (hb2.mono HB1.out.size))
        have HS5 := Lib.hid (show w.heap.size ≤ b5 from Nat.le_trans HB1.out.size hb5s)
        clear hr2 hb2 hb5s HO1 H1 HV1 HB1
        go_wp2_with fail
        refine (HA.out _).mono ?_
        rintro e' w3 ⟨rfl, hb3⟩
        have HR3 := Lib.hid (HR2.out.below hb3)
        have H3 := Lib.hid (H2.out.below hb3)
        have HV3 := Lib.hid (HV2.out.below hb3)
        have HB3 := Lib.hid (HB2.out.trans (hb3.mono HB2.out.size))
        clear hb3 HR2 H2 HV2 HB2
        go_wp2_with fail
        refine (HBy.out (w.heap.size + 1) _ _ _ H3.out HDl.out).mono ?_
        rintro e' w4 ⟨v4, rfl, ho4, hb4⟩
        have HO4 := Lib.hid ho4.sl
        have HR4 := Lib.hid (HR3.out.below hb4)
        have HV4 := Lib.hid (HV3.out.below hb4)
        have HB4 := Lib.hid (HB3.out.trans (hb4.mono HB3.out.size))
        obtain ⟨A5, c5, rfl, -⟩ := ho4.sl
        clear ho4 hb4 HR3 HV3 HB3 H3
        go_wp2_with fail
        refine (HSm.out _ _ D _ HO4.out HV4.out).mono ?_
        rintro e' w5 ⟨rfl, rfl⟩
        have HR5 := Lib.hid (show RdAt (· = b5) w4 b5 ⟨itsB f ((l0.take k).drop 0), 0⟩ from by rw [List.drop_zero, HD.out]; exact HR4.out)
        clear HR4
        go_wp2
        go_loopw [7] (fun i wr => ∃ j : Nat, j ≤ k ∧ i = .int .i64 j ∧ RdAt (· = b5) wr b5 ⟨itsB f ((l0.take k).drop j), 0⟩ ∧ Below w.heap.size w wr) (fun i _ => k - (intOf i).toNat)
        case atStart => exact ⟨0, Nat.zero_le _, rfl, HR5.out, HB4.out⟩
        case round =>
          clear HR5 HB4 HO4 HV4
          obtain ⟨j, hj, rfl, hr, hb⟩ := hrel
          have HRr := Lib.hid hr
          have HBr := Lib.hid hb
          clear hr hb
          by_cases hlt : j < k
          · obtain ⟨e, he⟩ := getE l0 j N HN.out (by omega)
            have het : (l0.take k)[j]? = some e := by rw [List.getElem?_take, if_pos hlt]; exact he
            have HMem := Lib.hid (List.mem_of_getElem? he)
            have HT := Lib.hid (itsB_drop f het)
            obtain ⟨bb, off, hA0, e0, e1, e2⟩ := elem_Itm HW0.out he
            subst hA0
            obtain ⟨⟨Ae, ce, hbe, -⟩, hok⟩ := HF.out e HMem.out
            rw [hbe] at e2
            have hbb : bb < w.heap.size := World.block_lt_of_cell? _ _ e0
            have hm := HAll.out e (List.mem_of_getElem? het)
            have HSl := Lib.hid (HF.out e HMem.out).1
            rw [hbe] at HSl
            have hlt1 : (j : Int) < (N : Int) := by omega
            have hlt2 : (j : Int) < 40 := by omega
            have HDj := Lib.hid (HDr.out j (by omega))
            have HOkj := Lib.hid (show ByOk (itsB f ((l0.take k).drop j)) from itsB_ok f _ (fun x hx => (HF.out x (List.mem_of_mem_take (List.mem_of_mem_drop hx))).2))
            have HM := Lib.hid hm
            have q1 : wr.cell? ⟨bb, off + j * 3 + 1, none⟩ = some (.int .i64 e.v) := (HBr.out.cell (p := ⟨bb, off + j * 3 + 1, none⟩) hbb).trans e1
            clear he het hok hbe hm hlt
            have hmx : max (-4611686018427387904) (min e.v 4611686018427387903) = hold e.v := rfl
            cases hr : e.raw with
            | true =>
              rw [hr] at e0
              have HRawE := Lib.hid (show (Rd.mk (itsB f ((l0.take k).drop j)) 0).raw = (f e, ⟨itsB f ((l0.take k).drop (j + 1)), 0⟩) from by rw [HT.out, itB, hr, if_pos rfl]; exact raw_nums _ _ (by have := HM.out; omega))
              clear hr
              go_wp2_with fail
              refine plan_region' (S := (fun w' => ∀ b o, b < w.heap.size → w'.cell? ⟨b, o, none⟩ = w.cell? ⟨b, o, none⟩)) [(0, true), (1, true), (2, true), (3, true), (4, true), (5, true), (6, true), (8, true), (9, true), (10, true), (11, true), (12, true), (7, false), (13, false), (14, true), (15, true), (16, true), (17, true), (18, true), (19, true), (20, true), (21, true), (22, true), (23, true), (24, true), (26, true), (25, false), (27, true), (28, true), (29, true)] (by kernel_rfl) (by kernel_rfl) (fun _ _ d _ _ h => by cases d <;> exact h) (fun b o h => HBr.out.cell (p := ⟨b, o, none⟩) h) (fun hS => ?_)
              simp only [picked, List.getElem?_cons_succ, List.getElem?_cons_zero]
              refine row_free (v := ?_) (by rfl) ?_ ?_
              rotate_left 1
              focus (intro w hSw; (try dsimp only at hSw); go_simp; (try with_reducible rfl))
              (try simp only [Act.put, List.setIfInBounds_toArray, List.set_cons_zero, List.set_cons_succ])
              refine row_free (v := ?_) (by rfl) ?_ ?_
              rotate_left 1
              focus (intro w hSw; (try dsimp only at hSw); go_simp; (try with_reducible rfl))
              (try simp only [Act.put, List.setIfInBounds_toArray, List.set_cons_zero, List.set_cons_succ])
              refine row_free (v := ?_) (by rfl) ?_ ?_
              rotate_left 1
              focus (intro w hSw; (try dsimp only at hSw); go_simp; (try with_reducible rfl))
              (try simp only [Act.put, List.setIfInBounds_toArray, List.set_cons_zero, List.set_cons_succ])
              refine row_free (v := ?_) (by rfl) ?_ ?_
              rotate_left 1
              focus (intro w hSw; (try dsimp only at hSw); go_simp; (try with_reducible rfl))
              (try simp only [Act.put, List.setIfInBounds_toArray, List.set_cons_zero, List.set_cons_succ])
              refine row_free (v := ?_) (by rfl) ?_ ?_
              rotate_left 1
              focus (intro w hSw; (try dsimp only at hSw); go_simp; (try with_reducible rfl))
              (try simp only [Act.put, List.setIfInBounds_toArray, List.set_cons_zero, List.set_cons_succ])
              refine row_free (v := ?_) (by rfl) ?_ ?_
              rotate_left 1
              focus (intro w hSw; (try dsimp only at hSw); go_simp; (try with_reducible rfl))
              (try simp only [Act.put, List.setIfInBounds_toArray, List.set_cons_zero, List.set_cons_succ])
              refine row_free (v := ?_) (by rfl) ?_ ?_
              rotate_left 1
              focus (intro w hSw; (try dsimp only at hSw); go_simp; (try with_reducible rfl))
              (try simp only [Act.put, List.setIfInBounds_toArray, List.set_cons_zero, List.set_cons_succ])
              refine row_free (v := ?_) (by rfl) ?_ ?_
              rotate_left 1
              focus (intro w hSw; (try dsimp only at hSw); go_simp; (try with_reducible rfl))
              (try simp only [Act.put, List.setIfInBounds_toArray, List.set_cons_zero, List.set_cons_succ])
              refine row_free (v := ?_) (by rfl) ?_ ?_
              rotate_left 1
              focus (intro w hSw; (try dsimp only at hSw); go_simp; (try with_reducible rfl))
              (try simp only [Act.put, List.setIfInBounds_toArray, List.set_cons_zero, List.set_cons_succ])
              refine row_free (v := ?_) (by rfl) ?_ ?_
              rotate_left 1
              focus (intro w hSw; (try dsimp only at hSw); go_simp; (try with_reducible rfl))
              (try simp only [Act.put, List.setIfInBounds_toArray, List.set_cons_zero, List.set_cons_succ])
              refine row_free (v := ?_) (by rfl) ?_ ?_
              rotate_left 1
              focus (intro w hSw; (try dsimp only at hSw); go_simp; (try with_reducible rfl))
              (try simp only [Act.put, List.setIfInBounds_toArray, List.set_cons_zero, List.set_cons_succ])
              refine row_free (v := ?_) (by rfl) ?_ ?_
              rotate_left 1
              focus (intro w hSw; (try dsimp only at hSw); go_simp; (try with_reducible rfl))
              (try simp only [Act.put, List.setIfInBounds_toArray, List.set_cons_zero, List.set_cons_succ])
              refine row_call (by rfl) (fun K hK => ?_)
              go_simp
              (refine (HRw.out _ b5 _ _ (HRr.out.below (Below.refl _ _).drew) HOkj.out HDj.out).mono ?_; rintro e1 w6 ⟨⟨v6, rfl, hv6⟩, hr6, hg6⟩; rw [HRawE.out] at hv6 hr6; have HB6 := Lib.hid (HBr.out.drew.grown hg6 HBr.out.size (by simp; exact HS5.out)); have HR6 := Lib.hid (show RdAt (· = b5) w6 b5 ⟨itsB f ((l0.take k).drop (j + 1)), 0⟩ from hr6); have HV6 := Lib.hid (show IsSl byC w6 v6 (f e) from hv6); clear hr6 hg6 hv6)
              (try go_wp2_with fail)
              refine hK.out _ _ ?_ (fun hS' => ?_)
              · (try dsimp only); first | exact hS | exact fun b o h => HB6.out.cell (p := ⟨b, o, none⟩) h
              clear hS hK K
              have hS := hS'
              clear hS'
              (try simp only [Act.put, List.setIfInBounds_toArray, List.set_cons_zero, List.set_cons_succ])
              refine row_call (by rfl) (fun K hK => ?_)
              go_simp
              (refine (HSm.out _ _ (f e) _ HV6.out (HSl.out.keep fun p u hp => (HB6.out.cell (World.block_lt_of_cell? _ _ hp)).trans hp)).mono ?_; rintro e1 w7 ⟨rfl, rfl⟩)
              (try go_wp2_with fail)
              refine hK.out _ _ ?_ (fun hS' => ?_)
              · (try dsimp only); first | exact hS | exact fun b o h => HB6.out.cell (p := ⟨b, o, none⟩) h
              clear hS hK K
              have hS := hS'
              clear hS'
              (try simp only [Act.put, List.setIfInBounds_toArray, List.set_cons_zero, List.set_cons_succ])
              refine row_free (v := ?_) (by rfl) ?_ ?_
              rotate_left 1
              focus (intro w hSw; (try dsimp only at hSw); go_simp; (try with_reducible rfl))
              (try simp only [Act.put, List.setIfInBounds_toArray, List.set_cons_zero, List.set_cons_succ])
              refine row_free (v := ?_) (by rfl) ?_ ?_
              rotate_left 1
              focus (intro w hSw; (try dsimp only at hSw); go_simp; (try with_reducible rfl))
              (try simp only [Act.put, List.setIfInBounds_toArray, List.set_cons_zero, List.set_cons_succ])
              refine row_free (v := ?_) (by rfl) ?_ ?_
              rotate_left 1
              focus (intro w hSw; (try dsimp only at hSw); go_simp; (try with_reducible rfl))
              (try simp only [Act.put, List.setIfInBounds_toArray, List.set_cons_zero, List.set_cons_succ])
              refine row_free (v := ?_) (by rfl) ?_ ?_
              rotate_left 1
              focus (intro w hSw; (try dsimp only at hSw); go_simp; (try with_reducible rfl))
              (try simp only [Act.put, List.setIfInBounds_toArray, List.set_cons_zero, List.set_cons_succ])
              refine row_free (v := ?_) (by rfl) ?_ ?_
              rotate_left 1
              focus (intro w hSw; (try dsimp only at hSw); go_simp; (try with_reducible rfl))
              (try simp only [Act.put, List.setIfInBounds_toArray, List.set_cons_zero, List.set_cons_succ])
              refine row_free (v := ?_) (by rfl) ?_ ?_
              rotate_left 1
              focus (intro w hSw; (try dsimp only at hSw); go_simp; (try with_reducible rfl))
              (try simp only [Act.put, List.setIfInBounds_toArray, List.set_cons_zero, List.set_cons_succ])
              refine row_free (v := ?_) (by rfl) ?_ ?_
              rotate_left 1
              focus (intro w hSw; (try dsimp only at hSw); go_simp; (try with_reducible rfl))
              (try simp only [Act.put, List.setIfInBounds_toArray, List.set_cons_zero, List.set_cons_succ])
              refine row_free (v := ?_) (by rfl) ?_ ?_
              rotate_left 1
              focus (intro w hSw; (try dsimp only at hSw); go_simp; (try with_reducible rfl))
              (try simp only [Act.put, List.setIfInBounds_toArray, List.set_cons_zero, List.set_cons_succ])
              refine row_free (v := ?_) (by rfl) ?_ ?_
              rotate_left 1
              focus (intro w hSw; (try dsimp only at hSw); go_simp; (try with_reducible rfl))
              (try simp only [Act.put, List.setIfInBounds_toArray, List.set_cons_zero, List.set_cons_succ])
              refine row_free (v := ?_) (by rfl) ?_ ?_
              rotate_left 1
              focus (intro w hSw; (try dsimp only at hSw); go_simp; (try with_reducible rfl))
              (try simp only [Act.put, List.setIfInBounds_toArray, List.set_cons_zero, List.set_cons_succ])
              refine row_off (by rfl) ?_
              (try simp only [Act.put, List.setIfInBounds_toArray, List.set_cons_zero, List.set_cons_succ])
              refine row_off (by rfl) ?_
              (try simp only [Act.put, List.setIfInBounds_toArray, List.set_cons_zero, List.set_cons_succ])
              refine row_off' (by rfl) hS ?_
              (try simp only [Act.put, List.setIfInBounds_toArray, List.set_cons_zero, List.set_cons_succ])
              refine row_off (by rfl) ?_
              (try simp only [Act.put, List.setIfInBounds_toArray, List.set_cons_zero, List.set_cons_succ])
              refine row_free (v := ?_) (by rfl) ?_ ?_
              rotate_left 1
              focus (intro w hSw; (try dsimp only at hSw); go_simp; (try with_reducible rfl))
              (try simp only [Act.put, List.setIfInBounds_toArray, List.set_cons_zero, List.set_cons_succ])
              refine row_free (v := ?_) (by rfl) ?_ ?_
              rotate_left 1
              focus (intro w hSw; (try dsimp only at hSw); go_simp; (try with_reducible rfl))
              (try simp only [Act.put, List.setIfInBounds_toArray, List.set_cons_zero, List.set_cons_succ])
              refine row_done ?_
              clear hS
              go_wp2
              go_roundw
              case rel => exact ⟨j + 1, by omega, by go_num, HR6.out, HB6.out⟩
              case measure => simp [intOf]; omega
            | false =>
              rw [hr] at e0
              have HIntE := Lib.hid (show (Rd.mk (itsB f ((l0.take k).drop j)) 0).int = (hold e.v, ⟨itsB f ((l0.take k).drop (j + 1)), 0⟩) from by rw [HT.out, itB, hr, if_neg (by simp)]; exact int_nums _ _)
              clear hr
              go_wp2_with fail
              refine plan_region' (S := (fun w' => ∀ b o, b < w.heap.size → w'.cell? ⟨b, o, none⟩ = w.cell? ⟨b, o, none⟩)) [(0, true), (1, true), (2, true), (3, true), (4, true), (5, true), (6, true), (8, true), (9, true), (10, true), (11, true), (12, true), (7, false), (13, false), (14, true), (15, true), (16, true), (17, true), (18, true), (19, true), (20, true), (21, true), (22, true), (23, true), (24, true), (26, true), (25, false), (27, true), (28, true), (29, true)] (by kernel_rfl) (by kernel_rfl) (fun _ _ d _ _ h => by cases d <;> exact h) (fun b o h => HBr.out.cell (p := ⟨b, o, none⟩) h) (fun hS => ?_)
              simp only [picked, List.getElem?_cons_succ, List.getElem?_cons_zero]
              refine row_free (v := ?_) (by rfl) ?_ ?_
              rotate_left 1
              focus (intro w hSw; (try dsimp only at hSw); go_simp; (try with_reducible rfl))
              (try simp only [Act.put, List.setIfInBounds_toArray, List.set_cons_zero, List.set_cons_succ])
              refine row_free (v := ?_) (by rfl) ?_ ?_
              rotate_left 1
              focus (intro w hSw; (try dsimp only at hSw); go_simp; (try with_reducible rfl))
              (try simp only [Act.put, List.setIfInBounds_toArray, List.set_cons_zero, List.set_cons_succ])
              refine row_free (v := ?_) (by rfl) ?_ ?_
              rotate_left 1
              focus (intro w hSw; (try dsimp only at hSw); go_simp; (try with_reducible rfl))
              (try simp only [Act.put, List.setIfInBounds_toArray, List.set_cons_zero, List.set_cons_succ])
              refine row_free (v := ?_) (by rfl) ?_ ?_
              rotate_left 1
              focus (intro w hSw; (try dsimp only at hSw); go_simp; (try with_reducible rfl))
              (try simp only [Act.put, List.setIfInBounds_toArray, List.set_cons_zero, List.set_cons_succ])
              refine row_free (v := ?_) (by rfl) ?_ ?_
              rotate_left 1
              focus (intro w hSw; (try dsimp only at hSw); go_simp; (try with_reducible rfl))
              (try simp only [Act.put, List.setIfInBounds_toArray, List.set_cons_zero, List.set_cons_succ])
              refine row_free (v := ?_) (by rfl) ?_ ?_
              rotate_left 1
              focus (intro w hSw; (try dsimp only at hSw); go_simp; (try with_reducible rfl))
              (try simp only [Act.put, List.setIfInBounds_toArray, List.set_cons_zero, List.set_cons_succ])
              refine row_off (by rfl) ?_
              (try simp only [Act.put, List.setIfInBounds_toArray, List.set_cons_zero, List.set_cons_succ])
              refine row_off (by rfl) ?_
              (try simp only [Act.put, List.setIfInBounds_toArray, List.set_cons_zero, List.set_cons_succ])
              refine row_off (by rfl) ?_
              (try simp only [Act.put, List.setIfInBounds_toArray, List.set_cons_zero, List.set_cons_succ])
              refine row_off (by rfl) ?_
              (try simp only [Act.put, List.setIfInBounds_toArray, List.set_cons_zero, List.set_cons_succ])
              refine row_off (by rfl) ?_
              (try simp only [Act.put, List.setIfInBounds_toArray, List.set_cons_zero, List.set_cons_succ])
              refine row_off (by rfl) ?_
              (try simp only [Act.put, List.setIfInBounds_toArray, List.set_cons_zero, List.set_cons_succ])
              refine row_off' (by rfl) hS ?_
              (try simp only [Act.put, List.setIfInBounds_toArray, List.set_cons_zero, List.set_cons_succ])
              refine row_off' (by rfl) hS ?_
              (try simp only [Act.put, List.setIfInBounds_toArray, List.set_cons_zero, List.set_cons_succ])
              refine row_off (by rfl) ?_
              (try simp only [Act.put, List.setIfInBounds_toArray, List.set_cons_zero, List.set_cons_succ])
              refine row_free (v := ?_) (by rfl) ?_ ?_
              rotate_left 1
              focus (intro w hSw; (try dsimp only at hSw); go_simp; (try with_reducible rfl))
              (try simp only [Act.put, List.setIfInBounds_toArray, List.set_cons_zero, List.set_cons_succ])
              refine row_free (v := ?_) (by rfl) ?_ ?_
              rotate_left 1
              focus (intro w hSw; (try dsimp only at hSw); go_simp; (try with_reducible rfl))
              (try simp only [Act.put, List.setIfInBounds_toArray, List.set_cons_zero, List.set_cons_succ])
              refine row_free (v := ?_) (by rfl) ?_ ?_
              rotate_left 1
              focus (intro w hSw; (try dsimp only at hSw); go_simp; (try with_reducible rfl))
              (try simp only [Act.put, List.setIfInBounds_toArray, List.set_cons_zero, List.set_cons_succ])
              refine row_free (v := ?_) (by rfl) ?_ ?_
              rotate_left 1
              focus (intro w hSw; (try dsimp only at hSw); go_simp; (try with_reducible rfl))
              (try simp only [Act.put, List.setIfInBounds_toArray, List.set_cons_zero, List.set_cons_succ])
              refine row_free (v := ?_) (by rfl) ?_ ?_
              rotate_left 1
              focus (intro w hSw; (try dsimp only at hSw); go_simp; (try with_reducible rfl))
              (try simp only [Act.put, List.setIfInBounds_toArray, List.set_cons_zero, List.set_cons_succ])
              refine row_free (v := ?_) (by rfl) ?_ ?_
              rotate_left 1
              focus (intro w hSw; (try dsimp only at hSw); go_simp; (try with_reducible rfl))
              (try simp only [Act.put, List.setIfInBounds_toArray, List.set_cons_zero, List.set_cons_succ])
              refine row_free (v := ?_) (by rfl) ?_ ?_
              rotate_left 1
              focus (intro w hSw; (try dsimp only at hSw); go_simp; (try with_reducible rfl))
              (try simp only [Act.put, List.setIfInBounds_toArray, List.set_cons_zero, List.set_cons_succ])
              refine row_free (v := ?_) (by rfl) ?_ ?_
              rotate_left 1
              focus (intro w hSw; (try dsimp only at hSw); go_simp; (try with_reducible rfl))
              (try simp only [Act.put, List.setIfInBounds_toArray, List.set_cons_zero, List.set_cons_succ])
              refine row_free (v := ?_) (by rfl) ?_ ?_
              rotate_left 1
              focus (intro w hSw; (try dsimp only at hSw); go_simp; (try with_reducible rfl))
              (try simp only [Act.put, List.setIfInBounds_toArray, List.set_cons_zero, List.set_cons_succ])
              refine row_free (v := ?_) (by rfl) ?_ ?_
              rotate_left 1
              focus (intro w hSw; (try dsimp only at hSw); go_simp; (try with_reducible rfl))
              (try simp only [Act.put, List.setIfInBounds_toArray, List.set_cons_zero, List.set_cons_succ])
              refine row_free (v := ?_) (by rfl) ?_ ?_
              rotate_left 1
              focus (intro w hSw; (try dsimp only at hSw); go_simp; (try with_reducible rfl))
              (try simp only [Act.put, List.setIfInBounds_toArray, List.set_cons_zero, List.set_cons_succ])
              refine row_call (by rfl) (fun K hK => ?_)
              go_simp
              (refine (HI.out _ b5 _ _ (HRr.out.below (Below.refl _ _).drew) HOkj.out (by have := HDj.out; exact Nat.le_trans this (by omega))).mono ?_; rintro e1 w6 ⟨rfl, hr6, hg6⟩; rw [HIntE.out] at hr6 ⊢; have HB6 := Lib.hid (HBr.out.drew.grown hg6 HBr.out.size (by simp; exact HS5.out)); have HR6 := Lib.hid (show RdAt (· = b5) w6 b5 ⟨itsB f ((l0.take k).drop (j + 1)), 0⟩ from hr6); clear hr6 hg6)
              (try go_wp2_with fail)
              refine hK.out _ _ ?_ (fun hS' => ?_)
              · (try dsimp only); first | exact hS | exact fun b o h => HB6.out.cell (p := ⟨b, o, none⟩) h
              clear hS hK K
              have hS := hS'
              clear hS'
              (try simp only [Act.put, List.setIfInBounds_toArray, List.set_cons_zero, List.set_cons_succ])
              refine row_free (v := ?_) (by rfl) ?_ ?_
              rotate_left 1
              focus (intro w hSw; (try dsimp only at hSw); go_simp; (try with_reducible rfl))
              (try simp only [Act.put, List.setIfInBounds_toArray, List.set_cons_zero, List.set_cons_succ])
              refine row_free (v := ?_) (by rfl) ?_ ?_
              rotate_left 1
              focus (intro w hSw; (try dsimp only at hSw); go_simp; (try with_reducible rfl))
              (try simp only [Act.put, List.setIfInBounds_toArray, List.set_cons_zero, List.set_cons_succ])
              refine row_free (v := ?_) (by rfl) ?_ ?_
              rotate_left 1
              focus (intro w hSw; (try dsimp only at hSw); go_simp; (try with_reducible rfl))
              (try simp only [Act.put, List.setIfInBounds_toArray, List.set_cons_zero, List.set_cons_succ])
              refine row_done ?_
              clear hS
              go_wp2
              go_roundw
              case rel => exact ⟨j + 1, by omega, by go_num, HR6.out, HB6.out⟩
              case measure => simp [intOf]; omega
          · obtain rfl : j = k := by omega
            have hn : ¬ (j < N ∧ j < 40) := fun h => hlt ((HKN.out j (Nat.le_refl _)).1 h)
            have HRe := Lib.hid (show RdAt (· = b5) wr b5 ⟨[], 0⟩ from by have := HRr.out; rw [List.drop_eq_nil_of_le (by rw [List.length_take]; omega)] at this; exact this)
            have hi0 : (Rd.mk [] 0).int = (0, ⟨[], 5⟩) := rfl
            have HI0 := Lib.hid hi0
            clear HRr hlt hi0
            go_wp2_with fail
            refine (HEr.out _ b5 _ _ HRe.out).mono ?_
            rintro e1 w6 ⟨rfl, rfl⟩
            go_wp2_with fail
            refine (HLf.out _ b5 _ _ HRe.out).mono ?_
            rintro e1 w6 ⟨rfl, rfl⟩
            go_wp2_with fail
            refine (HI.out _ b5 _ _ HRe.out (fun x hx => by simp at hx) (by simp)).mono ?_
            rintro e1 w6 ⟨rfl, hr6, hg6⟩
            rw [HI0.out] at hr6 ⊢
            have HB6 := Lib.hid (HBr.out.grown hg6 HBr.out.size (by simp; exact HS5.out))
            have HR6 := Lib.hid (show RdAt (· = b5) w6 b5 ⟨[], 5⟩ from hr6)
            clear hr6 hg6
            go_wp2_with fail
            refine (HEr.out _ b5 _ _ HR6.out).mono ?_
            rintro e1 w7 ⟨rfl, rfl⟩
            go_wp2
            go_ret
            exact ⟨rfl, HB6.out⟩

set_option maxRecDepth 100000 in
theorem lifted (os : Os) (started : os.Started) (H : Type) (enc : TypeId × Value → H) :
    ReturnsInHanded {} Try.checked os 3 .any (Rows.bytesWriteSpec.pre6 enc Try.prog Try.f3 Rows.bytesWriteRow.domain false) (Rows.bytesWriteSpec.post enc Try.prog Try.f3 false true false false) := by
  refine returnsInHanded_of_change (C := Try.checked) own started (by kernel_rfl) Try.func3
    (ChangeSpec.witness6 (enc := enc) (C := Try.checked) false ⟨#[], #[.slice none 0 0], []⟩ 8 (by kernel_rfl) (by kernel_rfl) (by kernel_rfl) (by kernel_rfl)) ?_
  intro W base args ds gs before hval0 hW hcnd _
  have hval : ∀ (j : Nat) t v, Try.f3.params[j]? = some t → args[j]? = some v → Value.okWide Try.prog W .any base t v := hval0
  have hW' := hW
  obtain ⟨p, q, hA0, hV, rfl, hfz, hnd⟩ := hW
  have hA : DataW.TrodAll enc Try.prog W 0 (fun _ => true) true Try.f3.params.toList args.toList ds p := hA0
  rw [Try.params3] at hA hval
  obtain ⟨v0, vs0, d0, ds0, p0, q0, hargs, rfl, rfl, h0, r0⟩ := trodAll_cons hA
  obtain ⟨rfl, rfl, rfl⟩ := trodAll_nil r0
  obtain rfl : args = #[v0] := by cases args; simp_all
  obtain ⟨rfl, rfl⟩ := trodVars_none hV
  obtain ⟨A0, len0, cap0, rfl⟩ := okWide_slice Try.underlying22 (hval 0 22 v0 rfl rfl)
  have k0 := h0
  have lt0 : ∀ x ∈ p0, x.block < W.heap.size := by obtain ⟨m, hm⟩ := k0; exact DataW.trod_lt m _ _ _ hm
  obtain ⟨l0, w0, o0⟩ : ∃ l0 : List Fx.Itm, Fx.IsSl Fx.itmC W (.slice A0 len0 cap0) l0 ∧ ∀ e0 ∈ l0, (Lit.int .i64 e0.v).wf = true ∧ (∃ l1, Fx.IsSl Fx.byC W e0.b l1 ∧ Fx.ByOk l1) := by
    obtain ⟨fuel, hf⟩ := h0
    exact open_sn22 hf
  clear hA0 hval0
  refine (walk _ l0 W w0 o0).mono fun e W' ⟨he, bel⟩ => ?_
  subst he
  exact ⟨_, rfl, _, _, _, [], _, [], hW', trodAll_mk1 (shut_bool Try.underlying4 _), (trodAll_cons_mk (Below.trod laidOut (by kernel_rfl) (of_decide_eq_true (by kernel_rfl)) k0 bel lt0) trodAll_mk0), rfl, bel.frame _, fun h => by cases h⟩

theorem over : Rows.bytesWriteRow.holds Try.pinned (OpenSpec.ofChange Rows.bytesWriteSpec) :=
  OpenClaim.holds_of_wide 3 Try.f3 rfl rfl rfl rfl rfl rfl rfl ⟨rfl, rfl, rfl, rfl, rfl⟩ rfl rfl rfl rfl rfl (by kernel_rfl) Try.func3 (by kernel_rfl)
    (of_decide_eq_true (by kernel_rfl)) (by unfold Func.isWrapper; first | (rw [if_pos (by decide +kernel)]; kernel_rfl) | (rw [if_neg (by decide +kernel)]; exact ⟨rfl, rfl⟩))
    (fun os started H enc _ => lifted os started H enc)

end Go.Proofs.Ytigcpgkiankjpaa.bytesWrite
namespace Go.Proofs.Ytigcpgkiankjpaa
theorem bytesWrite_proved : Rows.BytesWriteSaid := bytesWrite.over
end Go.Proofs.Ytigcpgkiankjpaa
