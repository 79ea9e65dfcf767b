/- What is packed is taken, and nothing else, plainly. The document's own TakeCross. -/
import Derived.Test.YtlpkaljepaclpaaGreatM18
import Derived.Test.YtlpkaljepaclpaaGreatM39
namespace Go.Proofs.YtlpkaljepaclpaaGreat.Fx
open Go.ChangeShapes Go.WideShapes Go.ChangeAt Go.RowKit
set_option linter.unusedVariables false
set_option maxRecDepth 100000

theorem many_len' {α : Type} (one : Rd → α × Rd) (m : Nat) : ∀ r : Rd, (Rd.many one m r).1.length ≤ m := by
  induction m with
  | zero => intro r; exact Nat.le_refl _
  | succ m ih =>
    intro r
    by_cases he : r.e = 0
    · have : Rd.many one (m + 1) r = ((one r).1 :: (Rd.many one m (one r).2).1, (Rd.many one m (one r).2).2) := by
        show (if r.e ≠ 0 then _ else _) = _
        rw [if_neg (by simp [he])]
      rw [this]; simpa using ih _
    · rw [many_stuck _ he]; simp

theorem list_le' {α : Type} (one : Rd → α × Rd) (r : Rd) : (Rd.list one r).1.length ≤ 1000 := by
  have hb : (r.count 1000).1.toNat ≤ 1000 := by
    unfold Rd.count
    split
    · simp
    · rename_i h
      by_cases he : r.int.2.e = 0
      · have : ¬ (r.int.1 < 0 ∨ 1000 < r.int.1) := fun h2 => h ⟨he, h2⟩
        omega
      · have : r.int.1 = 0 := by
          unfold Rd.int at he ⊢
          split
          · rfl
          · rename_i h1
            rw [if_neg h1] at he
            split
            · rfl
            · rename_i h2
              rw [if_neg h2] at he
              split
              · rfl
              · rename_i h3
                rw [if_neg h3] at he
                exact absurd rfl he
        omega
  exact Nat.le_trans (many_len' _ _ _) hb

theorem cright_rt {a b p n : Int} {c : Crs} (h : crightB a b p n c = true) : rt a b p n = true ∧ 0 ≤ c.src ∧ c.src < 16 ∧ 0 ≤ c.dst ∧ c.dst < 16 := by
  unfold crightB at h
  rw [Bool.and_eq_true] at h
  have hh := nr_has h.1
  obtain ⟨h1, h2, h3, ha, ha4, hb, hb4, -⟩ := hasB_rt hh
  have hm := h.1
  unfold inB at hm
  rw [decide_eq_true_eq, mem_nr hh] at hm
  have := mul_le4 ha ha4 hb hb4
  exact ⟨h1, by omega⟩

theorem crFit_of {a b p n : Int} {c : Crs} (h : crightB a b p n c = true) : CrFit c := by
  obtain ⟨hrt, hs0, hs1, hd0, hd1⟩ := cright_rt h
  obtain ⟨ha, ha4, hb, hb4, -⟩ := rt_bd hrt
  unfold crightB at h
  rw [Bool.and_eq_true, Bool.and_eq_true] at h
  obtain ⟨-, hf, hk⟩ := h
  have hf' : 0 ≤ c.frame ∧ c.frame ≤ 9999 := by simpa [wi] using hf
  by_cases h1 : c.kind = 1
  · rw [if_pos h1] at hk
    unfold handB at hk
    simp only [Bool.and_eq_true, decide_eq_true_eq] at hk
    obtain ⟨-, hx, hy, he, -⟩ := hk
    have hE := eok_fit hrt he
    refine ⟨fun v hv => ?_, .inl ⟨h1, hx, hy⟩⟩
    unfold crN crT at hv
    rw [if_pos h1] at hv
    simp only [List.mem_cons] at hv
    rcases hv with rfl | rfl | rfl | rfl | hv
    · exact hold_in (by omega)
    · exact hold_in (by omega)
    · exact hold_in (by omega)
    · exact hold_in (by omega)
    · exact hE v hv
  · rw [if_neg h1] at hk
    by_cases h2 : c.kind = 2
    · rw [if_pos h2] at hk
      unfold blastB at hk
      rw [Bool.and_eq_true] at hk
      have he : c.e = e0 := of_decide_eq_true hk.2
      have hin : 0 ≤ c.x ∧ c.x < 4096 ∧ 0 ≤ c.y ∧ c.y < 4096 := by have h3 := hk.1; simp [ins, wid, hei, hrt] at h3; omega
      refine ⟨fun v hv => ?_, .inr ⟨h2, he⟩⟩
      unfold crN crT at hv
      rw [if_neg h1] at hv
      simp only [List.mem_cons, List.not_mem_nil, or_false] at hv
      rcases hv with rfl | rfl | rfl | rfl | rfl | rfl <;> exact hold_in (by omega)
    · rw [if_neg h2] at hk; simp at hk

theorem numsL_ok (l : List Int) : ByOk (numsL l) := by
  intro x hx
  unfold numsL at hx
  obtain ⟨v, -, hv⟩ := List.mem_flatMap.1 hx
  exact nums_ok v x hv

theorem flat_ok {α : Type} (f : α → List Int) (hf : ∀ a, ByOk (f a)) (l : List α) : ByOk (l.flatMap f) := by
  intro x hx
  obtain ⟨v, -, hv⟩ := List.mem_flatMap.1 hx
  exact hf v x hv

theorem ByOk.app {l m : List Int} (h : ByOk l) (h' : ByOk m) : ByOk (l ++ m) := fun x hx => by
  rcases List.mem_append.1 hx with h1 | h1
  · exact h x h1
  · exact h' x h1

theorem packM_ok (l : List Crs) : ByOk (packM l) := (nums_ok _).app (flat_ok _ (fun c => numsL_ok _) l)
theorem packB_ok (f : Int) (es : List Ent) (l : List Crs) : ByOk (packB f es l) := (nums_ok _).app (((nums_ok _).app (flat_ok _ (fun c => numsL_ok _) es)).app (packM_ok l))

theorem rgB_fit {a b p n r f : Int} {es : List Ent} (h : rgB a b p n r f es = true) : hold f = f ∧ (∀ e ∈ es, EnFit e) := by
  unfold rgB at h
  simp only [Bool.and_eq_true, decide_eq_true_eq] at h
  obtain ⟨⟨⟨⟨h1, h2⟩, -⟩, -⟩, h5⟩ := h
  have hrt := (hasB_rt h1).1
  refine ⟨hold_in (by omega), fun e he => ?_⟩
  have h6 := List.all_eq_true.1 h5 e he
  unfold hereOk at h6
  rw [Bool.and_eq_true] at h6
  exact eok_fit hrt h6.1

theorem base_pack {a b p n r f : Int} {es : List Ent} {l : List Crs} (h : mayB a b p n r f es l = true) (t : List Int) (hn : es.length ≤ 1000) (hm : l.length ≤ 1000) : Rd.base ⟨packB f es l ++ t, 0⟩ = (⟨f, es, l⟩, ⟨t, 0⟩) := by
  unfold mayB at h
  simp only [Bool.and_eq_true] at h
  obtain ⟨h1, h2, -⟩ := h
  obtain ⟨hf, he⟩ := rgB_fit h1
  exact base_fwd f es l t hf he (fun c hc => crFit_of (List.all_eq_true.1 h2 c hc)) hn hm

/-- What is packed is taken. -/
theorem tkB_pack {a b p n r f : Int} {es : List Ent} {l : List Crs} (h : mayB a b p n r f es l = true) (hn : es.length ≤ 1000) (hm : l.length ≤ 1000) : tkB a b p n r (packB f es l) = (⟨f, es, l⟩, 0) := by
  have hb := base_pack h [] hn hm
  rw [List.append_nil] at hb
  unfold tkB
  rw [hb]
  simp [h]

/-- Something more is wrong. -/
theorem tkB_more {a b p n r f : Int} {es : List Ent} {l : List Crs} (h : mayB a b p n r f es l = true) (hn : es.length ≤ 1000) (hm : l.length ≤ 1000) (x : Int) (t : List Int) : tkB a b p n r (packB f es l ++ x :: t) = (⟨0, [], []⟩, 4) := by
  unfold tkB
  rw [base_pack h (x :: t) hn hm]
  simp

/-- What is taken was packed. -/
theorem tkB_inv {a b p n r : Int} {x : List Int} (hok : ByOk x) (h : (tkB a b p n r x).2 = 0) : (tkB a b p n r x).1 = (Rd.base ⟨x, 0⟩).1 ∧ x = packB (Rd.base ⟨x, 0⟩).1.f (Rd.base ⟨x, 0⟩).1.es (Rd.base ⟨x, 0⟩).1.l ∧ mayB a b p n r (Rd.base ⟨x, 0⟩).1.f (Rd.base ⟨x, 0⟩).1.es (Rd.base ⟨x, 0⟩).1.l = true := by
  unfold tkB at h ⊢
  by_cases h1 : (Rd.base ⟨x, 0⟩).2.e = 0
  · rw [if_neg (by simp [h1])] at h ⊢
    by_cases h2 : (Rd.base ⟨x, 0⟩).2.l = []
    · rw [if_neg (by simp [h2])] at h ⊢
      by_cases h3 : mayB a b p n r (Rd.base ⟨x, 0⟩).1.f (Rd.base ⟨x, 0⟩).1.es (Rd.base ⟨x, 0⟩).1.l = true
      · rw [if_pos h3]
        have := base_eq hok h1
        rw [h2, List.append_nil] at this
        exact ⟨rfl, this, h3⟩
      · rw [if_neg h3] at h; simp at h
    · rw [if_pos h2] at h; simp at h
  · rw [if_pos h1] at h; exact absurd h h1

/-- A beginning is not taken. -/
theorem tkB_cut {a b p n r f : Int} {es : List Ent} {l : List Crs} (h : mayB a b p n r f es l = true) (hn : es.length ≤ 1000) (hm : l.length ≤ 1000) (k : Nat) (hk : k < (packB f es l).length) : (tkB a b p n r ((packB f es l).take k)).2 ≠ 0 := by
  intro h0
  have hok : ByOk ((packB f es l).take k) := (packB_ok f es l).tk k
  obtain ⟨-, h2, h3⟩ := tkB_inv hok h0
  have hle1 : (Rd.base ⟨(packB f es l).take k, 0⟩).1.es.length ≤ 1000 := (by
    have : ∀ (r : Rd), (Rd.list Rd.ent r).1.length ≤ 1000 := fun r => list_le' _ r
    exact this _)
  have hle2 : (Rd.base ⟨(packB f es l).take k, 0⟩).1.l.length ≤ 1000 := (by
    have : ∀ (r : Rd), (Rd.list Rd.crs r).1.length ≤ 1000 := fun r => list_le' _ r
    exact this _)
  have h4 := base_pack h3 ((packB f es l).drop k) hle1 hle2
  rw [← h2, List.take_append_drop] at h4
  have h5 := base_pack h [] hn hm
  rw [List.append_nil, h4] at h5
  have h6 : (packB f es l).drop k = [] := by have := congrArg (fun q => q.2.l) h5; simpa using this
  have := congrArg List.length h6
  rw [List.length_drop] at this
  simp at this
  omega

end Go.Proofs.YtlpkaljepaclpaaGreat.Fx
namespace Go.Proofs.YtlpkaljepaclpaaGreat.Fx
open Go.ChangeShapes Go.WideShapes Go.ChangeAt Go.RowKit
set_option linter.unusedVariables false
set_option maxRecDepth 100000

theorem ba_loop (bs : ByteArray) (n : Nat) : ∀ (i : Nat) (r : List UInt8), bs.size - i = n → ByteArray.toList.loop bs i r = r.reverse ++ bs.data.toList.drop i := by
  induction n with
  | zero =>
    intro i r h
    rw [ByteArray.toList.loop, if_neg (by omega), List.drop_eq_nil_of_le (by have : bs.data.size = bs.size := rfl; simp; omega), List.append_nil]
  | succ n ih =>
    intro i r h
    have hi : i < bs.data.toList.length := by have : bs.data.size = bs.size := rfl; simp; omega
    rw [ByteArray.toList.loop, if_pos (by omega), ih (i + 1) _ (by omega), List.drop_eq_getElem_cons hi]
    have hg : bs.get! i = bs.data.toList[i] := by
      show bs.data[i]! = _
      rw [getElem!_pos bs.data i (by simpa using hi)]
      simp
    rw [hg]
    simp

theorem ba_list (bs : ByteArray) : bs.toList = bs.data.toList := by
  unfold ByteArray.toList
  rw [ba_loop bs _ 0 [] rfl]
  simp

theorem byS_list (l : List Int) : (byS l).data.toList = l.map fun n => UInt8.ofNat n.toNat := by
  have h : ∀ (l : List Int) (r : ByteArray), (l.foldl (fun r n => r.push (UInt8.ofNat n.toNat)) r).data.toList = r.data.toList ++ l.map fun n => UInt8.ofNat n.toNat := by
    intro l
    induction l with
    | nil => intro r; simp
    | cons x l ih => intro r; rw [List.foldl_cons, ih]; simp [ByteArray.push]
  unfold byS
  rw [h]
  rfl

theorem byS_inj {l m : List Int} (hl : ByOk l) (hm : ByOk m) (h : byS l = byS m) : l = m := by
  have h1 := congrArg (fun b => b.data.toList) h
  simp only [byS_list] at h1
  induction l generalizing m with
  | nil => cases m with
    | nil => rfl
    | cons y m => simp at h1
  | cons x l ih => cases m with
    | nil => simp at h1
    | cons y m =>
      simp only [List.map_cons, List.cons.injEq] at h1
      have hx := hl x (List.mem_cons_self ..)
      have hy := hm y (List.mem_cons_self ..)
      have h2 := congrArg UInt8.toNat h1.1
      simp only [UInt8.toNat_ofNat'] at h2
      have hxy : x = y := by omega
      subst hxy
      have hl' : ByOk l := fun z hz => hl z (List.mem_cons_of_mem _ hz)
      have hm' : ByOk m := fun z hz => hm z (List.mem_cons_of_mem _ hz)
      have h3 : byS l = byS m := by
        apply ByteArray.ext
        apply Array.ext'
        rw [byS_list, byS_list]; exact h1.2
      rw [ih hl' hm' h3 h1.2]

theorem bytes_any (u v : Value) (l m : List Int) (w : World) (hu : IsSl byC w u l) (hv : IsSl byC w v m) (hl : ByOk l) (hm : ByOk m) :
    Calls Tryz.prog 36 #[u, v] w fun e w' => e = .returned (.bool (decide (l = m))) ∧ w = w' := by
  have e1 := conv_by hu
  have e2 := conv_by hv
  have hD : decide (l = m) = decide (byS l = byS m) := by
    by_cases h : l = m
    · rw [decide_eq_true h, decide_eq_true (by rw [h])]
    · rw [decide_eq_false h, decide_eq_false (fun h2 => h (byS_inj hl hm h2))]
  have HD := Lib.hid hD
  obtain ⟨A, c, rfl, -⟩ := hu
  obtain ⟨B, d, rfl, -⟩ := hv
  generalize byS l = S at *
  generalize byS m = T at *
  generalize l.length = nl at *
  generalize m.length = nm at *
  generalize decide (l = m) = q at *
  clear hD
  go_enter Tryz.func36, Tryz.ntmps36
  go_wp2
  go_ret
  exact ⟨ret_bool (by rw [HD.out, beq_iff_eq, decide_eq_true_eq, ba_list, ba_list]; exact ⟨fun h => ByteArray.ext (Array.ext' h), fun h => by rw [h]⟩), rfl⟩

theorem IsSl.blk {w : World} {v : Value} {L : List Int} (h : IsSl byC w v L) : ∀ a n k, v = .slice (some a) n k → 0 < n → a.block < w.heap.size := fun a n k hv h0 => by
  obtain ⟨A, c, hv', -, -, hat⟩ := h
  rw [hv] at hv'
  cases hv'
  obtain ⟨b, off, hb, hc⟩ := hat (by rw [byC_map]; intro hn; have hz := List.map_eq_nil_iff.1 hn; rw [hz] at h0; simp at h0)
  cases hb
  have hlm : 0 < (L.flatMap byC).length := by rw [byC_length]; omega
  exact World.block_lt_of_cell? _ _ (hc 0 _ (List.getElem?_eq_getElem hlm))

/-- A new reader of the document's. -/
theorem Rx.new {w W : World} {v : Value} {L : List Int} (t : TypeId) (h : IsSl byC w v L) (hW : w.alloc (.cells #[v, .int .i64 0, .int .i64 0] t) = W) : Rx W w.heap.size v L ⟨L, 0⟩ := by
  subst hW
  refine ⟨⟨0, ⟨by simp, by rw [World.cell?_alloc_new]; rfl, by rw [World.cell?_alloc_new]; rfl, by rw [World.cell?_alloc_new]; rfl, World.frozen?_alloc_new _ _ _ _, World.frozen?_alloc_new _ _ _ _, h.below ((Below.refl _ _).alloc (Nat.le_refl _) _), fun a n k hv h0 => ?_, ?_, ?_⟩⟩, h.blk⟩
  · have := h.blk a n k hv h0; omega
  · intro _; exact ⟨Nat.zero_le _, rfl⟩
  · intro he; exact absurd rfl he

/-- Messages and a number. -/
def RetTk (l : List Crs) (q : Int) (w : World) (e : Ending) (w' : World) : Prop := ∃ v, e = .returned (.tuple #[v, .int .i64 q]) ∧ w'.ownsRow w.heap.size 50 15 v l.length (l.flatMap crsC) ∧ Below w.heap.size w w'

/-- What the document's TakeCross answers, as it goes. -/
theorem tkC_doc {a b p n : Int} {x : List Int} (hok : ByOk x) : tkC a b p n x = if (Rd.list Rd.crs ⟨x, 0⟩).2.e ≠ 0 then ([], (Rd.list Rd.crs ⟨x, 0⟩).2.e) else if (fpkC a b p n (Rd.list Rd.crs ⟨x, 0⟩).1).2 = 0 ∧ (fpkC a b p n (Rd.list Rd.crs ⟨x, 0⟩).1).1 = x then ((Rd.list Rd.crs ⟨x, 0⟩).1, 0) else ([], 4) := by
  have hq := @listC_eq x hok
  unfold tkC fpkC
  generalize Rd.list Rd.crs ⟨x, 0⟩ = L at *
  by_cases h1 : L.2.e = 0
  · have hx := hq h1
    by_cases h3 : L.1.all (crightB a b p n) = true
    · by_cases h2 : L.2.l = []
      · rw [h2, List.append_nil] at hx
        simp [h1, h2, h3, ← hx]
      · have h4 : ¬ packM L.1 = x := fun h => h2 (by
          rw [h] at hx
          have := congrArg List.length hx
          rw [List.length_append] at this
          exact List.eq_nil_of_length_eq_zero (by omega))
        simp [h1, h2, h3, h4]
    · by_cases h2 : L.2.l = [] <;> simp [h1, h2, h3]
  · simp [h1]

set_option maxHeartbeats 4000000 in
theorem ftake_any (a b p n s : Int) (v : Value) (x : List Int) (w : World) (hv : IsSl byC w v x) (hok : ByOk x) (hn : x.length ≤ 1000000) :
    Calls Tryz.prog 31 #[.agg #[.int .i64 a, .int .i64 b, .int .i64 p, .int .i64 n, .int .u64 s], v] w (RetTk (tkC a b p n x).1 (tkC a b p n x).2 w) := by
  have HQ := Lib.hid (tkC_doc (a := a) (b := b) (p := p) (n := n) hok)
  have HC := Lib.hid (fun c w1 h => fcrossesT_any c v x hok hn ⟨x, 0⟩ w1 h)
  have hll : (Rd.list Rd.crs ⟨x, 0⟩).1.length ≤ 1000 := list_le' _ _
  have HP := Lib.hid (fun u w1 hu => fpack_any a b p n s u (Rd.list Rd.crs ⟨x, 0⟩).1 w1 hu (by omega))
  have hpok : ByOk (fpkC a b p n (Rd.list Rd.crs ⟨x, 0⟩).1).1 := by
    unfold fpkC
    split
    · exact packM_ok _
    · intro z hz; simp at hz
  have HB := Lib.hid (fun u v w1 hu hv => bytes_any u v (fpkC a b p n (Rd.list Rd.crs ⟨x, 0⟩).1).1 x w1 hu hv hpok hok)
  have HV := Lib.hid hv
  generalize tkC a b p n x = Q at *
  generalize Rd.list Rd.crs ⟨x, 0⟩ = L at *
  obtain ⟨⟨K, kz⟩, hK⟩ : ∃ K, fpkC a b p n L.1 = K := ⟨_, rfl⟩
  rw [hK] at HQ HP HB
  simp only [] at HQ HP HB
  obtain ⟨A, c, rfl, -⟩ := hv
  generalize hnx : x.length = nx at *
  clear hll hpok hK hnx
  go_enter Tryz.func31, Tryz.ntmps31
  go_upto_region 2 with fail
  generalize hW : World.alloc _ _ = W
  have HX := Lib.hid (show Rx W (w.heap.size + 1) (.slice A nx c) x ⟨x, 0⟩ from by
    have h := Rx.new 130 (HV.out.below ((Below.refl _ w).alloc (Nat.le_refl _) (.cells #[.int .i64 a, .int .i64 b, .int .i64 p, .int .i64 n, .int .u64 s] 24))) hW
    simpa using h)
  have BG := Lib.hid (show CfgBox W w.heap.size ⟨a, b, p, n, s⟩ from by rw [← hW]; exact (CfgBox.n1 _ ⟨a, b, p, n, s⟩ _ rfl).alloc (by simp) _)
  have HBw := Lib.hid (show Below w.heap.size w W from by rw [← hW]; exact ((Below.refl _ _).alloc (Nat.le_refl _) _).alloc (by simp) _)
  clear hW
  go_wp2_with fail
  refine (HC.out _ _ HX.out).mono ?_
  rintro e w2 ⟨u2, rfl, ho2, hr2, hg2⟩
  have HO2 := Lib.hid (own_lower ho2 HBw.out.size)
  have HsL := Lib.hid (owned_sl ho2)
  have NX := grown_bel HBw.out hg2 (Nat.le_succ _)
  have BG2 := Lib.hid (CfgBox.of (fun q => World.cell?_of_block (a := ⟨w.heap.size, q, none⟩) (hg2.block w.heap.size BG.out.has (by simp))) (fun q => World.frozen?_of_block (a := ⟨w.heap.size, q, none⟩) (hg2.block w.heap.size BG.out.has (by simp))) BG.out)
  have HB2 := Lib.hid NX
  have hce := hr2.e2
  have hcl := hr2.lt
  obtain ⟨A2, c2, hv2⟩ := slLenX ho2
  subst hv2
  clear NX ho2 hr2 hg2 HX BG HBw HC
  obtain ⟨N, hN⟩ : ∃ N, L.1.length = N := ⟨_, rfl⟩
  have HN := Lib.hid hN
  rw [hN] at HO2 HsL
  simp only [hN]
  clear hN
  obtain ⟨z, hz⟩ : ∃ z, L.2.e = z := ⟨_, rfl⟩
  rw [hz] at HQ hce
  clear hz
  by_cases h0 : z = 0
  · subst h0
    rw [if_neg (by simp)] at HQ
    have hgl := BG2.out.has
    obtain ⟨g0, g1, g2, g3, g4, -⟩ := BG2.out
    go_wp2_with fail
    refine (HP.out _ _ HsL.out).mono ?_
    rintro e w4 ⟨v4, rfl, ho4, hb4⟩
    have HB4 := Lib.hid (nextW HB2.out hb4)
    have HO4 := Lib.hid (own_below HO2.out hb4)
    have HS4 := Lib.hid ho4.sl
    obtain ⟨A4, c4, rfl, -⟩ := ho4.sl
    clear ho4 hb4
    generalize K.length = nK at *
    by_cases hk : kz = 0
    · subst hk
      obtain ⟨t, ht⟩ : ∃ t, decide (K = x) = t := ⟨_, rfl⟩
      rw [ht] at HB
      have Ht := Lib.hid ht
      clear ht
      have HVx := Lib.hid (HV.out.below HB4.out)
      rw [show (Value.slice A nx c) = Value.slice A nx c from rfl] at HVx
      go_wp2_with fail
      refine (HB.out _ _ _ HS4.out HVx.out).mono ?_
      rintro e w5 ⟨rfl, rfl⟩
      cases t with
      | true =>
        rw [if_pos ⟨trivial, of_decide_eq_true Ht.out⟩] at HQ
        go_wp2
        refine bodyPost_ret (v := .tuple #[.slice A2 N c2, .int .i64 0]) (by simp [results, Tryz.results31, go_sem]) rfl ⟨.slice A2 N c2, by rw [HQ.out], ?_, HB4.out⟩
        rw [HQ.out]
        have h := HO4.out
        rw [← HN.out] at h ⊢
        exact h
      | false =>
        rw [if_neg (fun h => of_decide_eq_false Ht.out h.2)] at HQ
        go_wp2
        refine bodyPost_ret (v := .tuple #[.slice none 0 0, .int .i64 4]) (by simp [results, Tryz.results31, go_sem]) rfl ⟨.slice none 0 0, by rw [HQ.out], ?_, HB4.out⟩
        rw [HQ.out]
        exact World.ownsRow_nil _ _ _ _
    · rw [if_neg (fun h => hk h.1)] at HQ
      have hk' : (kz != 0) = true := by simpa using hk
      clear hk
      go_wp2
      refine bodyPost_ret (v := .tuple #[.slice none 0 0, .int .i64 4]) (by simp [results, Tryz.results31, go_sem]) rfl ⟨.slice none 0 0, by rw [HQ.out], ?_, HB4.out⟩
      rw [HQ.out]
      exact World.ownsRow_nil _ _ _ _
  · rw [if_pos h0] at HQ
    have hz' : (z != 0) = true := by simpa using h0
    clear h0
    go_upto_region 4 with fail
    refine plan_region' (S := (fun w' => (∀ b o, b < (w2).heap.size → w'.cell? ⟨b, o, none⟩ = (w2).cell? ⟨b, o, none⟩) ∧ (∀ b o, b < (w2).heap.size → w'.frozen? ⟨b, o, none⟩ = (w2).frozen? ⟨b, o, none⟩) ∧ Below (w2).heap.size (w2) w')) [(0, true), (1, true), (2, true), (3, true), (4, true), (5, true)] (by kernel_rfl) (by kernel_rfl) (fun _ _ d _ _ h => by cases d <;> exact h) (keepW0 _) (fun hS => ?_)
    simp only [picked, List.getElem?_cons_succ, List.getElem?_cons_zero]
    iterate 6
     refine row_free (v := ?_) (by rfl) ?_ ?_; rotate_left 1; focus (intro w hSw; (try dsimp only at hSw); go_simp; (try with_reducible rfl))
     (try simp only [Act.put, tA, tB, tC])
    refine row_done ?_
    have NX := nextW HB2.out hS.2.2
    clear hS
    go_wp2
    refine bodyPost_ret (v := .tuple #[.slice none 0 0, .int .i64 z]) (by simp [results, Tryz.results31, go_sem]) rfl ⟨.slice none 0 0, by rw [HQ.out], ?_, NX⟩
    rw [HQ.out]
    exact World.ownsRow_nil _ _ _ _

end Go.Proofs.YtlpkaljepaclpaaGreat.Fx
