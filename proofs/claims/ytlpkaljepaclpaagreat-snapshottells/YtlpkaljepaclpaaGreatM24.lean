/- Package bytes' Reader: the contracts of Read, Int, Count, Raw, Err and Left (of a nil one, too). Package bytes' Reader: the contracts of Read, Int, Count and Raw (of a nil one, too). -/
import Derived.Test.YtlpkaljepaclpaaGreatM23
import Derived.Test.YtlpkaljepaclpaaGreatM03
namespace Go.Proofs.YtlpkaljepaclpaaGreat.Fx
open Go.ChangeShapes Go.WideShapes Go.ChangeAt Go.RowKit
set_option linter.unusedVariables false
set_option maxRecDepth 100000

theorem short_any (x : Int) (w : World) : Calls Tryz.prog 241 #[.int .u8 x] w fun e w' => e = .returned (.bool (decide (x < 128))) ∧ w = w' := by
  go_enter Tryz.func241, Tryz.ntmps241
  go_wp2
  go_ret
  exact ⟨rfl, rfl⟩

def plcB : Option Nat → Int
  | some k => k
  | none => -1

theorem nlen_plc (l : List Int) : plcB (l.findIdx? (fun c => decide (c < 128))) + 1 = (nlen l : Int) := by
  unfold nlen plcB
  cases l.findIdx? (fun c => decide (c < 128)) with
  | none => rfl
  | some k => simp

theorem idx_by (v : Value) (l : List Int) (w : World) (hv : IsSl byC w v l) (hn : l.length ≤ 100000000) :
    Calls Tryz.prog 240 #[v, .func (.func 241) #[] #[]] w fun z w' => z = .returned (.int .i64 (plcB (l.findIdx? (fun c => decide (c < 128))))) ∧ w = w' := by
  have Hv := Lib.hid hv
  obtain ⟨A, c, rfl, -, -, hat⟩ := hv
  obtain ⟨n, hnn⟩ : ∃ n, l.length = n := ⟨_, rfl⟩
  rw [hnn] at hn Hv ⊢
  have Hn := Lib.hid hnn
  clear hat hnn
  have HF := Lib.hid (show l.findIdx? (fun c => decide (c < 128)) = ((l.drop 0).findIdx? (fun c => decide (c < 128))).map (· + 0) from by simp)
  generalize l.findIdx? (fun c => decide (c < 128)) = r at *
  have HS := Lib.hid short_any
  go_enter Tryz.func240, Tryz.ntmps240
  go_wp2
  go_loop [8] (fun i => ∃ k : Nat, k ≤ n ∧ i = .int .i64 k ∧ r = ((l.drop k).findIdx? (fun c => decide (c < 128))).map (· + k)) (fun i => n - (intOf i).toNat)
  case atStart => exact ⟨0, Nat.zero_le _, rfl, HF.out⟩
  case round =>
    obtain ⟨k, hk, rfl, hr⟩ := hrel
    have Hr := Lib.hid hr
    clear hr
    by_cases hlt : k < n
    · obtain ⟨x, hx⟩ := getE l k n Hn.out hlt
      have HX := Lib.hid (drop_at hx)
      obtain ⟨b', off, rfl, hc⟩ := Hv.out.by hx
      clear hx
      go_wp2_with fail
      refine (HS.out x _).mono ?_
      rintro e w4 ⟨rfl, rfl⟩
      by_cases hq : x < 128
      · have hd : decide (x < 128) = true := decide_eq_true hq
        have HR := Lib.hid (show r = some k from by rw [Hr.out, HX.out, List.findIdx?_cons, if_pos (by simpa using hq)]; simp)
        rw [hd]
        clear hq hd
        go_wp2
        go_ret
        exact ⟨by rw [HR.out]; rfl, rfl⟩
      · have hd : decide (x < 128) = false := decide_eq_false hq
        have HR := Lib.hid (show r = ((l.drop (k + 1)).findIdx? (fun c => decide (c < 128))).map (· + (k + 1)) from by
          rw [Hr.out, HX.out, List.findIdx?_cons, if_neg (by simpa using hq)]
          cases (l.drop (k + 1)).findIdx? (fun c => decide (c < 128)) with
          | none => rfl
          | some m => simp; omega)
        rw [hd]
        clear hq hd
        go_wp2
        go_round
        case rel => exact ⟨k + 1, by omega, by go_num, HR.out⟩
        case measure => simp [intOf]; omega
    · obtain rfl : k = n := by omega
      have HR := Lib.hid (show r = none from by rw [Hr.out, List.drop_eq_nil_of_le (by rw [Hn.out]; exact Nat.le_refl _)]; rfl)
      go_wp2
      go_ret
      exact ⟨by rw [HR.out]; rfl, rfl⟩

theorem nlen_by (v : Value) (l : List Int) (w : World) (hv : IsSl byC w v l) (hn : l.length ≤ 100000000) :
    Calls Tryz.prog 199 #[v] w fun z w' => z = .returned (.int .i64 (nlen l)) ∧ w = w' := by
  have HI := Lib.hid (idx_by v l w hv hn)
  have HP := Lib.hid (nlen_plc l)
  have hle := nlen_le l
  obtain ⟨A, c, rfl, -⟩ := hv
  generalize plcB (l.findIdx? (fun c => decide (c < 128))) = p at *
  obtain rfl : p = (nlen l : Int) - 1 := by have := HP.out; omega
  generalize nlen l = m at *
  clear HP
  go_enter Tryz.func199, Tryz.ntmps199
  go_wp2_with fail
  refine HI.out.mono ?_
  rintro e w1 ⟨rfl, rfl⟩
  go_wp2
  go_ret
  exact ⟨ret_int (by omega), rfl⟩

theorem numV_take {l : List Int} {k n : Nat} {x : Int} (hn : l.length = n) (h : l[k]? = some x) : numV (l.take (k + 1)) = numV (l.take k) + 128 ^ k * (x % 128) := by
  have hk := (List.getElem?_eq_some_iff.1 h).1
  rw [take_at h, numV_snoc, List.length_take, Nat.min_eq_left (by omega)]

theorem number_by (v : Value) (l : List Int) (w : World) (hv : IsSl byC w v l) (hn : l.length ≤ 9) (hok : ByOk l) :
    Calls Tryz.prog 200 #[v] w fun z w' => z = .returned (.int .i64 (zag (numV l))) ∧ w = w' := by
  have Hv := Lib.hid hv
  obtain ⟨A, c, rfl, -, -, hat⟩ := hv
  obtain ⟨n, hnn⟩ : ∃ n, l.length = n := ⟨_, rfl⟩
  rw [hnn] at hn Hv ⊢
  have Hn := Lib.hid hnn
  have Hok := Lib.hid hok
  clear hat hnn hok
  have HU := Lib.hid unfolded_by
  go_enter Tryz.func200, Tryz.ntmps200
  go_wp2
  go_loop [3, 8] (fun s i => ∃ k : Nat, k ≤ n ∧ i = .int .i64 k ∧ s = .int .i64 (numV (l.take k))) (fun _ i => n - (intOf i).toNat)
  case atStart => exact ⟨0, Nat.zero_le _, rfl, rfl⟩
  case round =>
    obtain ⟨k, hk, rfl, rfl⟩ := hrel
    by_cases hlt : k < n
    · obtain ⟨x, hx⟩ := getE l k n Hn.out hlt
      have HX := Lib.hid (numV_take Hn.out hx)
      have HB := Lib.hid (numV_bd (l.take k))
      have hxb := Hok.out x (List.mem_of_getElem? hx)
      obtain ⟨b', off, rfl, hc⟩ := Hv.out.by hx
      clear hx
      generalize numV (l.take k) = s at *
      have HO := Lib.hid (or_seven k (by omega) s (x % 128) (by have := HB.out; rw [List.length_take, Nat.min_eq_left (by have := Hn.out; omega)] at this; exact this) (by omega))
      clear HB
      go_wp2
      go_round
      case rel => exact ⟨k + 1, by omega, by go_num, by rw [HX.out, ← HO.out]⟩
      case measure => simp [intOf]; omega
    · obtain rfl : k = n := by omega
      have hall : l.take k = l := List.take_of_length_le (by have := Hn.out; omega)
      rw [hall]
      have hb := numV_bd l
      have hp : (128 : Int) ^ l.length ≤ 128 ^ 9 := by
        have : (128 : Nat) ^ l.length ≤ 128 ^ 9 := Nat.pow_le_pow_right (by omega) (by rw [Hn.out]; exact hn)
        exact_mod_cast this
      have hb1 : numV l ≤ 9223372036854775807 := by omega
      have hb0 := hb.1
      clear hb hp hall
      go_wp2_with fail
      refine (HU.out (numV l) _ hb0 hb1).mono ?_
      rintro e w1 ⟨rfl, rfl⟩
      go_wp2
      go_ret
      exact ⟨rfl, rfl⟩

/-- A slice that reads as bytes, in none of the blocks S. -/
def OffSl (S : Nat → Prop) (w : World) (v : Value) (l : List Int) : Prop := IsSl byC w v l ∧ ∀ a n c, v = .slice (some a) n c → ¬ S a.block

theorem OffSl.keep {S : Nat → Prop} {w w' : World} {v : Value} {l : List Int} (h : OffSl S w v l) (hk : ∀ p u, ¬ S p.block → w.cell? p = some u → w'.cell? p = some u) : OffSl S w' v l := by
  obtain ⟨⟨A, c, rfl, hA, hc, hat⟩, hf⟩ := h
  refine ⟨⟨A, c, rfl, hA, hc, fun hx => ?_⟩, hf⟩
  obtain ⟨g, off, rfl, hcell⟩ := hat hx
  have := hf _ _ _ rfl
  exact ⟨g, off, rfl, fun i u hu => hk _ _ this (hcell i u hu)⟩

theorem OffSl.nil (S : Nat → Prop) (w : World) : OffSl S w (.slice none 0 0) [] := ⟨IsSl.nil _ _, fun a n c h => by cases h⟩

/-- The Reader in block b. -/
structure RdAt (S : Nat → Prop) (w : World) (b : Nat) (r : Rd) : Prop where
  me : S b
  lt : b < w.heap.size
  e : w.cell? ⟨b, 1, none⟩ = some (.int .i64 r.e)
  f0 : w.frozen? ⟨b, 0, none⟩ = false
  f1 : w.frozen? ⟨b, 1, none⟩ = false
  sl : ∃ s, w.cell? ⟨b, 0, none⟩ = some s ∧ OffSl S w s r.l

theorem RdAt.off {S : Nat → Prop} {w w' : World} {b : Nat} {r : Rd} (h : RdAt S w b r) (hk : ∀ k, k < w.heap.size → w'.heap[k]? = w.heap[k]?) (hs : w.heap.size ≤ w'.heap.size) : RdAt S w' b r := by
  have hc : ∀ p u, w.cell? p = some u → w'.cell? p = some u := fun p u hu => (World.cell?_of_block (w := w) (hk p.block (World.block_lt_of_cell? _ _ hu))).trans hu
  obtain ⟨s, h1, h2⟩ := h.sl
  exact ⟨h.me, Nat.lt_of_lt_of_le h.lt hs, hc _ _ h.e, (World.frozen?_of_block (w := w) (a := ⟨b, 0, none⟩) (hk b h.lt)).trans h.f0, (World.frozen?_of_block (w := w) (a := ⟨b, 1, none⟩) (hk b h.lt)).trans h.f1, s, hc _ _ h1, h2.keep fun p u _ hu => hc p u hu⟩

/-- Another block of S was written. -/
theorem RdAt.grown {S : Nat → Prop} {w w' : World} {b c : Nat} {r : Rd} (h : RdAt S w b r) (hg : w.grownBy w' (some c)) (hne : b ≠ c) (hc : S c) : RdAt S w' b r := by
  obtain ⟨s, h1, h2⟩ := h.sl
  refine ⟨h.me, Nat.lt_of_lt_of_le h.lt hg.size, grown_cell hg (by simp [hne]) h.e, (grown_frozen hg h.lt (by simp [hne])).trans h.f0, (grown_frozen hg h.lt (by simp [hne])).trans h.f1, s, grown_cell hg (by simp [hne]) h1, h2.keep fun p u hp hu => grown_cell hg (fun e => ?_) hu⟩
  simp at e
  exact hp (by rw [e]; exact hc)

theorem RdAt.below {S : Nat → Prop} {w w' : World} {b : Nat} {r : Rd} (h : RdAt S w b r) (hb : Below w.heap.size w w') : RdAt S w' b r := h.off hb.block hb.size

theorem rerr_any (S : Nat → Prop) (b : Nat) (r : Rd) (w : World) (h : RdAt S w b r) : Calls Tryz.prog 197 #[.pointer (some ⟨b, 0, none⟩)] w fun e w' => e = .returned (.int .i64 r.e) ∧ w = w' := by
  have he := h.e
  clear h
  go_enter Tryz.func197, Tryz.ntmps197
  go_wp2
  go_ret
  exact ⟨rfl, rfl⟩

theorem rleft_any (S : Nat → Prop) (b : Nat) (r : Rd) (w : World) (h : RdAt S w b r) : Calls Tryz.prog 142 #[.pointer (some ⟨b, 0, none⟩)] w fun e w' => e = .returned (.int .i64 r.l.length) ∧ w = w' := by
  obtain ⟨s, hs, ⟨A, c, rfl, -⟩, -⟩ := h.sl
  clear h
  go_enter Tryz.func142, Tryz.ntmps142
  go_wp2
  go_ret
  exact ⟨rfl, rfl⟩

theorem rfail_any (S : Nat → Prop) (b : Nat) (r : Rd) (q : Int) (w : World) (h : RdAt S w b r) : Calls Tryz.prog 198 #[.pointer (some ⟨b, 0, none⟩), .int .i64 q] w fun e w' => e = .returned (.int .i64 0) ∧ RdAt S w' b ⟨[], q⟩ ∧ w.grownBy w' (some b) := by
  obtain ⟨s, hs, ⟨A, c, rfl, -⟩, -⟩ := h.sl
  have he := h.e
  have hf0 := h.f0
  have hf1 := h.f1
  have HR := Lib.hid h
  have Hs := Lib.hid hs
  clear h
  go_enter Tryz.func198, Tryz.ntmps198
  go_wp2
  go_ret
  refine ⟨rfl, ⟨HR.out.me, by simp; exact HR.out.lt, World.cell?_setCell_same _ _ _ (by rw [World.cell?_setCell_other _ _ _ _ (by simp)]; exact he), by rw [World.frozen?_setCell, World.frozen?_setCell]; exact hf0, by rw [World.frozen?_setCell, World.frozen?_setCell]; exact hf1, _, by rw [World.cell?_setCell_other _ _ _ _ (by simp)]; exact World.cell?_setCell_same _ _ _ Hs.out, OffSl.nil _ _⟩, rfl, rfl, rfl, by simp, fun k hk hne => ?_⟩
  rw [Below.heap_setCell _ _ _ _ (by intro e; apply hne; rw [e]), Below.heap_setCell _ _ _ _ (by intro e; apply hne; rw [e])]

theorem rtake_any (S : Nat → Prop) (b n : Nat) (r : Rd) (w : World) (h : RdAt S w b r) (hn : n ≤ r.l.length) (hl : r.l.length ≤ 100000000) : Calls Tryz.prog 201 #[.pointer (some ⟨b, 0, none⟩), .int .i64 n] w fun e w' => (∃ v, e = .returned v ∧ OffSl S w' v (r.l.take n)) ∧ RdAt S w' b ⟨r.l.drop n, r.e⟩ ∧ w.grownBy w' (some b) := by
  obtain ⟨s, hs, hsl, hoff⟩ := h.sl
  have he := h.e
  have hf0 := h.f0
  have hf1 := h.f1
  have HR := Lib.hid h
  have HT := Lib.hid (hsl.upto 1 n hn)
  have HD := Lib.hid (hsl.since 1 n byC_len (by omega) hn)
  have HS := Lib.hid hsl
  obtain ⟨A, c, rfl, hA, hc, -⟩ := hsl
  have Hoff := Lib.hid hoff
  have hT : ∃ A' n' c', slTo 1 (.slice A r.l.length c) n = .slice A' n' c' ∧ ∀ a, A' = some a → ¬ S a.block := by
    refine ⟨_, _, _, rfl, fun a ha => ?_⟩
    split at ha
    · exact hoff _ _ _ (by rw [ha])
    · cases A with
      | none => simp at ha
      | some a0 => simp at ha; subst ha; have := hoff a0 _ _ rfl; unfold Addr.add; split <;> exact this
  have hD : ∃ A' n' c', slFrom 1 (.slice A r.l.length c) n = .slice A' n' c' ∧ ∀ a, A' = some a → ¬ S a.block := by
    refine ⟨_, _, _, rfl, fun a ha => ?_⟩
    split at ha
    · exact hoff _ _ _ (by rw [ha])
    · cases A with
      | none => simp at ha
      | some a0 => simp at ha; subst ha; have := hoff a0 _ _ rfl; unfold Addr.add; split <;> exact this
  obtain ⟨At, nt, ct, hTe, hTo⟩ := hT
  obtain ⟨Ad, nd, cd, hDe, hDo⟩ := hD
  rw [hTe] at HT
  rw [hDe] at HD
  have HTo := Lib.hid hTo
  have HDo := Lib.hid hDo
  have Hs := Lib.hid hs
  clear h hoff hTo hDo hA
  obtain ⟨N, hN⟩ : ∃ N, r.l.length = N := ⟨_, rfl⟩
  rw [hN] at hs hn hl hc hTe hDe Hs
  have hcn : (n : Int) ≤ (c : Int) := by omega
  go_enter Tryz.func201, Tryz.ntmps201
  go_wp2
  go_ret
  have hk : ∀ (p : Addr) (u : Value), ¬ S p.block → w.cell? p = some u → (w.setCell ⟨b, 0, none⟩ (.slice Ad nd cd)).cell? p = some u := fun p u hp hu => by
    rw [World.cell?_setCell_other _ _ _ _ (by intro e; apply hp; rw [← e]; exact HR.out.me)]; exact hu
  refine ⟨⟨_, rfl, OffSl.keep ⟨HT.out, fun a n c h => ?_⟩ hk⟩, ⟨HR.out.me, by simp; exact HR.out.lt, by rw [World.cell?_setCell_other _ _ _ _ (by simp)]; exact he, by rw [World.frozen?_setCell]; exact hf0, by rw [World.frozen?_setCell]; exact hf1, _, World.cell?_setCell_same _ _ _ Hs.out, OffSl.keep ⟨HD.out, fun a n c h => ?_⟩ hk⟩, rfl, rfl, rfl, by simp, fun k hk hne => ?_⟩
  · cases h; exact HTo.out a rfl
  · cases h; exact HDo.out a rfl
  · rw [Below.heap_setCell _ _ _ _ (by intro e; apply hne; rw [e])]

end Go.Proofs.YtlpkaljepaclpaaGreat.Fx
namespace Go.Proofs.YtlpkaljepaclpaaGreat.Fx
open Go.ChangeShapes Go.WideShapes Go.ChangeAt Go.RowKit
set_option linter.unusedVariables false
set_option maxRecDepth 100000

theorem clone_by (v : Value) (l : List Int) (w : World) (hv : IsSl byC w v l) (hn : l.length ≤ 1000000) :
    Calls Tryz.prog 196 #[v] w (RetBy l w) := by
  have HV := Lib.hid hv
  obtain ⟨A, c, rfl, hA, hcap, hat⟩ := hv
  have HA := Lib.hid hA
  cases A with
  | none =>
    obtain ⟨h0, rfl⟩ := hA rfl
    obtain rfl : l = [] := List.eq_nil_of_length_eq_zero h0
    clear hat HV HA hA hcap h0
    simp only [List.length_nil]
    go_enter Tryz.func196, Tryz.ntmps196
    go_wp2
    go_ret
    exact ⟨_, rfl, ownB.nil _ _, Below.refl _ _⟩
  | some a =>
    have Hcap := Lib.hid hcap
    clear hat hA hcap
    go_enter Tryz.func196, Tryz.ntmps196
    go_wp2_with (at_builtin; go_must (refine appL_by (by rfl) (.tmp 5) (.tmp 6) (by rfl) w.heap.size _ [] (by rfl) (by first | exact World.ownsRow_made w #[] 0 (Nat.le_refl _) (by unfold maxLen; omega) (by simp)) _ l (by rfl) (HV.out.keep fun p u hp => by rw [World.cell?_alloc_lt _ _ _ (World.block_lt_of_cell? _ _ hp)]; exact hp) (by simp; omega) (by simp) ?_))
    intro v' w1 ho hb hg
    have HO := Lib.hid (show ownB w.heap.size w1 v' l from by simpa using ho)
    have HB := Lib.hid ((Below.refl _ w).alloc (Nat.le_refl _) _ |>.trans hb)
    clear ho hb hg
    go_wp2
    go_ret
    exact ⟨_, rfl, HO.out, HB.out⟩

/-- Read: a Reader of its own. -/
theorem read_any (v : Value) (l : List Int) (w : World) (hv : IsSl byC w v l) (hn : l.length ≤ 1000000) :
    Calls Tryz.prog 137 #[v] w fun e w' => ∃ b, e = .returned (.pointer (some ⟨b, 0, none⟩)) ∧ w.heap.size ≤ b ∧ b < w'.heap.size ∧ (∀ S : Nat → Prop, S b → (∀ k, S k → k < w.heap.size ∨ b ≤ k) → RdAt S w' b ⟨l, 0⟩) ∧ Below w.heap.size w w' := by
  have HC := Lib.hid (clone_by v l w hv hn)
  obtain ⟨A, c, rfl, -⟩ := hv
  go_enter Tryz.func137, Tryz.ntmps137
  go_wp2_with fail
  refine HC.out.mono ?_
  rintro e w1 ⟨v1, rfl, ho, hb⟩
  have HO := Lib.hid ho
  have HB := Lib.hid hb
  obtain ⟨A1, c1, rfl, -⟩ := ho.sl
  clear ho hb
  go_wp2
  go_ret
  have hs := HO.out.sl
  refine ⟨_, rfl, HB.out.size, by simp, fun S hS hK => ⟨hS, by simp, by rw [World.cell?_alloc_new]; rfl, World.frozen?_alloc_new _ _ _ _, World.frozen?_alloc_new _ _ _ _, _, by rw [World.cell?_alloc_new]; rfl, hs.keep fun p u hp => by rw [World.cell?_alloc_lt _ _ _ (World.block_lt_of_cell? _ _ hp)]; exact hp, fun a n c hv hs => ?_⟩, HB.out.alloc HB.out.size _⟩
  have h1 := HO.out.lt a.block (by rw [hv]; simp [Value.ownBlock])
  have h2 := hK _ hs
  omega

theorem Rd.int_eq (r : Rd) : r.int = if r.e ≠ 0 then (0, r)
  else if nlen r.l = 0 then (0, ⟨[], 5⟩)
  else if 9 < nlen r.l ∨ (1 < nlen r.l ∧ gi r.l (nlen r.l - 1) = 0) then (0, ⟨[], 4⟩)
  else (zag (numV (r.l.take (nlen r.l))), ⟨r.l.drop (nlen r.l), 0⟩) := rfl

/-- What a call of a Reader's leaves. -/
def RdEnd (S : Nat → Prop) (w : World) (b : Nat) (q : Int × Rd) (e : Ending) (w' : World) : Prop := e = .returned (.int .i64 q.1) ∧ RdAt S w' b q.2 ∧ w.grownBy w' (some b)

theorem ByOk.take {l : List Int} (h : ByOk l) (n : Nat) : ByOk (l.take n) := fun x hx => h x (List.mem_of_mem_take hx)
theorem ByOk.drop {l : List Int} (h : ByOk l) (n : Nat) : ByOk (l.drop n) := fun x hx => h x (List.mem_of_mem_drop hx)

set_option maxHeartbeats 1000000 in
theorem rint_any (S : Nat → Prop) (b : Nat) (r : Rd) (w : World) (h : RdAt S w b r) (hok : ByOk r.l) (hl : r.l.length ≤ 10000000) :
    Calls Tryz.prog 140 #[.pointer (some ⟨b, 0, none⟩)] w (RdEnd S w b r.int) := by
  have HR := Lib.hid h
  have HE := Lib.hid (rerr_any S b r w h)
  obtain ⟨s, hs, hsl⟩ := h.sl
  have HN := Lib.hid (nlen_by s r.l w hsl.1 (by omega))
  have HF := Lib.hid (fun q => rfail_any S b r q w h)
  have HT := Lib.hid (fun n hn => rtake_any S b n r w h hn (by omega))
  have hle := nlen_le r.l
  have HS := Lib.hid hsl.1
  have Hok := Lib.hid hok
  obtain ⟨⟨A, c, rfl, -⟩, -⟩ := hsl
  have HD := Lib.hid (Rd.int_eq r)
  obtain ⟨Q, hQ⟩ : ∃ Q, r.int = Q := ⟨_, rfl⟩
  rw [hQ] at HD ⊢
  obtain ⟨L, hL⟩ : ∃ L, r.l.length = L := ⟨_, rfl⟩
  rw [hL] at hs hl hle HN
  obtain ⟨n, hn⟩ : ∃ n, nlen r.l = n := ⟨_, rfl⟩
  rw [hn] at HD HN hle
  have HL := Lib.hid hL
  obtain ⟨er, her⟩ : ∃ er, r.e = er := ⟨_, rfl⟩
  rw [her] at HD HE
  have Her := Lib.hid her
  clear h hok hQ hL hn her
  by_cases he : er = 0
  · subst he
    by_cases h0 : n = 0
    · subst h0
      have HQ := Lib.hid (show Q = (0, ⟨[], 5⟩) from by rw [HD.out, if_neg (by simp), if_pos rfl])
      clear HD
      go_enter Tryz.func140, Tryz.ntmps140
      go_wp2_with fail
      refine HE.out.mono ?_
      rintro e w1 ⟨rfl, rfl⟩
      go_wp2_with fail
      refine HN.out.mono ?_
      rintro e w1 ⟨rfl, rfl⟩
      go_wp2_with fail
      refine (HF.out 5).mono ?_
      rintro e w1 ⟨rfl, h1, h2⟩
      have H1 := Lib.hid (And.intro h1 h2)
      clear h1 h2
      go_wp2
      go_ret
      refine ⟨by rw [HQ.out]; rfl, by rw [HQ.out]; exact H1.out.1, H1.out.2⟩
    · by_cases hbad : 9 < n ∨ (1 < n ∧ gi r.l (n - 1) = 0)
      · have HQ := Lib.hid (show Q = (0, ⟨[], 4⟩) from by rw [HD.out, if_neg (by simp), if_neg h0, if_pos hbad])
        clear HD
        have hn0 : ¬ (n : Int) = 0 := by omega
        by_cases h9 : 9 < n
        · have h9' : (9 : Int) < (n : Int) := by omega
          clear hbad
          go_enter Tryz.func140, Tryz.ntmps140
          go_wp2_with fail
          refine HE.out.mono ?_
          rintro e w1 ⟨rfl, rfl⟩
          go_wp2_with fail
          refine HN.out.mono ?_
          rintro e w1 ⟨rfl, rfl⟩
          go_wp2_with fail
          refine (HF.out 4).mono ?_
          rintro e w1 ⟨rfl, h1, h2⟩
          have H1 := Lib.hid (And.intro h1 h2)
          clear h1 h2
          go_wp2
          go_ret
          refine ⟨by rw [HQ.out]; rfl, by rw [HQ.out]; exact H1.out.1, H1.out.2⟩
        · obtain ⟨h1n, hg0⟩ : 1 < n ∧ gi r.l (n - 1) = 0 := hbad.resolve_left h9
          have h9' : ¬ (9 : Int) < (n : Int) := by omega
          have h1n' : (1 : Int) < (n : Int) := by omega
          obtain ⟨x, hx⟩ := getE r.l (n - 1) L HL.out (by omega)
          have hx0 : x = 0 := by rw [← hg0]; simp [gi, List.getD_eq_getElem?_getD, hx]
          subst hx0
          obtain ⟨b', off, rfl, hc⟩ := (show IsSl byC w (.slice A r.l.length c) r.l from HS.out).by hx
          clear hx hbad hg0
          obtain ⟨m, rfl⟩ : ∃ m, n = m + 1 := ⟨n - 1, by omega⟩
          rw [Nat.add_sub_cancel] at hc
          go_enter Tryz.func140, Tryz.ntmps140
          go_wp2_with fail
          refine HE.out.mono ?_
          rintro e w1 ⟨rfl, rfl⟩
          go_wp2_with fail
          refine HN.out.mono ?_
          rintro e w1 ⟨rfl, rfl⟩
          go_wp2_with fail
          refine (HF.out 4).mono ?_
          rintro e w1 ⟨rfl, h1, h2⟩
          have H1 := Lib.hid (And.intro h1 h2)
          clear h1 h2
          go_wp2
          go_ret
          refine ⟨by rw [HQ.out]; rfl, by rw [HQ.out]; exact H1.out.1, H1.out.2⟩
      · have HQ := Lib.hid (show Q = (zag (numV (r.l.take n)), ⟨r.l.drop n, 0⟩) from by rw [HD.out, if_neg (by simp), if_neg h0, if_neg hbad])
        clear HD
        have hn0 : ¬ (n : Int) = 0 := by omega
        have h9 : ¬ 9 < n := fun h => hbad (.inl h)
        have h9' : ¬ (9 : Int) < (n : Int) := by omega
        obtain ⟨m, rfl⟩ : ∃ m, n = m + 1 := ⟨n - 1, by omega⟩
        obtain ⟨x, hx⟩ := getE r.l m L HL.out (by omega)
        obtain ⟨b', off, rfl, hc⟩ := (show IsSl byC w (.slice A r.l.length c) r.l from HS.out).by hx
        have hT := HT.out (m + 1) (by rw [HL.out]; exact hle)
        have HT2 := Lib.hid hT
        clear hT HT
        by_cases h1n : 1 < m + 1
        · have h1n' : (1 : Int) < ((m + 1 : Nat) : Int) := by omega
          have hx0 : ¬ x = 0 := fun h => hbad (.inr ⟨h1n, by rw [← h]; simp [gi, List.getD_eq_getElem?_getD, hx]⟩)
          have d9 : decide ((9 : Int) < (m : Int) + 1) = false := decide_eq_false (by omega)
          have dx : (x == 0) = false := by simpa using hx0
          clear hx hbad
          go_enter Tryz.func140, Tryz.ntmps140
          go_wp2_with fail
          refine HE.out.mono ?_
          rintro e w1 ⟨rfl, rfl⟩
          go_wp2_with fail
          refine HN.out.mono ?_
          rintro e w1 ⟨rfl, rfl⟩
          go_wp2_with fail
          refine HT2.out.mono ?_
          rintro e w1 ⟨⟨v1, rfl, hv1⟩, h1, h2⟩
          have H1 := Lib.hid (And.intro h1 h2)
          have HV1 := Lib.hid hv1
          clear h1 h2 hv1
          go_wp2_with fail
          refine (number_by v1 (r.l.take (m + 1)) _ HV1.out.1 (by rw [List.length_take]; omega) (Hok.out.take _)).mono ?_
          rintro e w2 ⟨rfl, rfl⟩
          go_wp2
          go_ret
          refine ⟨by rw [HQ.out]; rfl, by rw [HQ.out]; have := H1.out.1; rw [Her.out] at this; exact this, H1.out.2⟩
        · have h1n' : ¬ (1 : Int) < ((m + 1 : Nat) : Int) := by omega
          have d9 : decide ((9 : Int) < (m : Int) + 1) = false := decide_eq_false (by omega)
          have d1 : decide ((1 : Int) < (m : Int) + 1) = false := decide_eq_false (by omega)
          obtain rfl : m = 0 := by omega
          clear hx hbad
          go_enter Tryz.func140, Tryz.ntmps140
          go_wp2_with fail
          refine HE.out.mono ?_
          rintro e w1 ⟨rfl, rfl⟩
          go_wp2_with fail
          refine HN.out.mono ?_
          rintro e w1 ⟨rfl, rfl⟩
          go_wp2_with fail
          refine HT2.out.mono ?_
          rintro e w1 ⟨⟨v1, rfl, hv1⟩, h1, h2⟩
          have H1 := Lib.hid (And.intro h1 h2)
          have HV1 := Lib.hid hv1
          clear h1 h2 hv1
          go_wp2_with fail
          refine (number_by v1 (r.l.take (0 + 1)) _ HV1.out.1 (by rw [List.length_take]; omega) (Hok.out.take _)).mono ?_
          rintro e w2 ⟨rfl, rfl⟩
          go_wp2
          go_ret
          refine ⟨by rw [HQ.out]; rfl, by rw [HQ.out]; have := H1.out.1; rw [Her.out] at this; exact this, H1.out.2⟩
  · have HQ := Lib.hid (show Q = (0, r) from by rw [HD.out, if_pos he])
    clear HD
    go_enter Tryz.func140, Tryz.ntmps140
    go_wp2_with fail
    refine HE.out.mono ?_
    rintro e w1 ⟨rfl, rfl⟩
    go_wp2
    go_ret
    refine ⟨by rw [HQ.out]; rfl, by rw [HQ.out]; exact HR.out, World.grownBy.refl _ _⟩

end Go.Proofs.YtlpkaljepaclpaaGreat.Fx
