/- Package bytes' Reader: the contracts of Read, Int, Count, Raw, Err and Left (of a nil one, too). -/
import Derived.Test.YtlpkaljepaclpaaM26
import Derived.Test.YtlpkaljepaclpaaM03
namespace Go.Proofs.Ytlpkaljepaclpaa.Fx
open Go.ChangeShapes Go.WideShapes Go.ChangeAt Go.RowKit
set_option linter.unusedVariables false
set_option maxRecDepth 100000

theorem short_any (x : Int) (w : World) : Calls Try.prog 90 #[.int .u8 x] w fun e w' => e = .returned (.bool (decide (x < 128))) ∧ w = w' := by
  go_enter Try.func90, Try.ntmps90
  go_wp2
  go_ret
  exact ⟨rfl, rfl⟩

def plcB : Option Nat → Int
  | some k => k
  | none => -1

theorem nlen_plc (l : List Int) : plcB (l.findIdx? (fun c => decide (c < 128))) + 1 = (nlen l : Int) := by
  unfold nlen plcB
  cases l.findIdx? (fun c => decide (c < 128)) with
  | none => rfl
  | some k => simp

theorem idx_by (v : Value) (l : List Int) (w : World) (hv : IsSl byC w v l) (hn : l.length ≤ 100000000) :
    Calls Try.prog 89 #[v, .func (.func 90) #[] #[]] w fun z w' => z = .returned (.int .i64 (plcB (l.findIdx? (fun c => decide (c < 128))))) ∧ w = w' := by
  have Hv := Lib.hid hv
  obtain ⟨A, c, rfl, -, -, hat⟩ := hv
  obtain ⟨n, hnn⟩ : ∃ n, l.length = n := ⟨_, rfl⟩
  rw [hnn] at hn Hv ⊢
  have Hn := Lib.hid hnn
  clear hat hnn
  have HF := Lib.hid (show l.findIdx? (fun c => decide (c < 128)) = ((l.drop 0).findIdx? (fun c => decide (c < 128))).map (· + 0) from by simp)
  generalize l.findIdx? (fun c => decide (c < 128)) = r at *
  have HS := Lib.hid short_any
  go_enter Try.func89, Try.ntmps89
  go_wp2
  go_loop [8] (fun i => ∃ k : Nat, k ≤ n ∧ i = .int .i64 k ∧ r = ((l.drop k).findIdx? (fun c => decide (c < 128))).map (· + k)) (fun i => n - (intOf i).toNat)
  case atStart => exact ⟨0, Nat.zero_le _, rfl, HF.out⟩
  case round =>
    obtain ⟨k, hk, rfl, hr⟩ := hrel
    have Hr := Lib.hid hr
    clear hr
    by_cases hlt : k < n
    · obtain ⟨x, hx⟩ := getE l k n Hn.out hlt
      have HX := Lib.hid (drop_at hx)
      obtain ⟨b', off, rfl, hc⟩ := Hv.out.by hx
      clear hx
      go_wp2_with fail
      refine (HS.out x _).mono ?_
      rintro e w4 ⟨rfl, rfl⟩
      by_cases hq : x < 128
      · have hd : decide (x < 128) = true := decide_eq_true hq
        have HR := Lib.hid (show r = some k from by rw [Hr.out, HX.out, List.findIdx?_cons, if_pos (by simpa using hq)]; simp)
        rw [hd]
        clear hq hd
        go_wp2
        go_ret
        exact ⟨by rw [HR.out]; rfl, rfl⟩
      · have hd : decide (x < 128) = false := decide_eq_false hq
        have HR := Lib.hid (show r = ((l.drop (k + 1)).findIdx? (fun c => decide (c < 128))).map (· + (k + 1)) from by
          rw [Hr.out, HX.out, List.findIdx?_cons, if_neg (by simpa using hq)]
          cases (l.drop (k + 1)).findIdx? (fun c => decide (c < 128)) with
          | none => rfl
          | some m => simp; omega)
        rw [hd]
        clear hq hd
        go_wp2
        go_round
        case rel => exact ⟨k + 1, by omega, by go_num, HR.out⟩
        case measure => simp [intOf]; omega
    · obtain rfl : k = n := by omega
      have HR := Lib.hid (show r = none from by rw [Hr.out, List.drop_eq_nil_of_le (by rw [Hn.out]; exact Nat.le_refl _)]; rfl)
      go_wp2
      go_ret
      exact ⟨by rw [HR.out]; rfl, rfl⟩

theorem nlen_by (v : Value) (l : List Int) (w : World) (hv : IsSl byC w v l) (hn : l.length ≤ 100000000) :
    Calls Try.prog 73 #[v] w fun z w' => z = .returned (.int .i64 (nlen l)) ∧ w = w' := by
  have HI := Lib.hid (idx_by v l w hv hn)
  have HP := Lib.hid (nlen_plc l)
  have hle := nlen_le l
  obtain ⟨A, c, rfl, -⟩ := hv
  generalize plcB (l.findIdx? (fun c => decide (c < 128))) = p at *
  obtain rfl : p = (nlen l : Int) - 1 := by have := HP.out; omega
  generalize nlen l = m at *
  clear HP
  go_enter Try.func73, Try.ntmps73
  go_wp2_with fail
  refine HI.out.mono ?_
  rintro e w1 ⟨rfl, rfl⟩
  go_wp2
  go_ret
  exact ⟨ret_int (by omega), rfl⟩

theorem numV_take {l : List Int} {k n : Nat} {x : Int} (hn : l.length = n) (h : l[k]? = some x) : numV (l.take (k + 1)) = numV (l.take k) + 128 ^ k * (x % 128) := by
  have hk := (List.getElem?_eq_some_iff.1 h).1
  rw [take_at h, numV_snoc, List.length_take, Nat.min_eq_left (by omega)]

theorem number_by (v : Value) (l : List Int) (w : World) (hv : IsSl byC w v l) (hn : l.length ≤ 9) (hok : ByOk l) :
    Calls Try.prog 74 #[v] w fun z w' => z = .returned (.int .i64 (zag (numV l))) ∧ w = w' := by
  have Hv := Lib.hid hv
  obtain ⟨A, c, rfl, -, -, hat⟩ := hv
  obtain ⟨n, hnn⟩ : ∃ n, l.length = n := ⟨_, rfl⟩
  rw [hnn] at hn Hv ⊢
  have Hn := Lib.hid hnn
  have Hok := Lib.hid hok
  clear hat hnn hok
  have HU := Lib.hid unfolded_by
  go_enter Try.func74, Try.ntmps74
  go_wp2
  go_loop [3, 8] (fun s i => ∃ k : Nat, k ≤ n ∧ i = .int .i64 k ∧ s = .int .i64 (numV (l.take k))) (fun _ i => n - (intOf i).toNat)
  case atStart => exact ⟨0, Nat.zero_le _, rfl, rfl⟩
  case round =>
    obtain ⟨k, hk, rfl, rfl⟩ := hrel
    by_cases hlt : k < n
    · obtain ⟨x, hx⟩ := getE l k n Hn.out hlt
      have HX := Lib.hid (numV_take Hn.out hx)
      have HB := Lib.hid (numV_bd (l.take k))
      have hxb := Hok.out x (List.mem_of_getElem? hx)
      obtain ⟨b', off, rfl, hc⟩ := Hv.out.by hx
      clear hx
      generalize numV (l.take k) = s at *
      have HO := Lib.hid (or_seven k (by omega) s (x % 128) (by have := HB.out; rw [List.length_take, Nat.min_eq_left (by have := Hn.out; omega)] at this; exact this) (by omega))
      clear HB
      go_wp2
      go_round
      case rel => exact ⟨k + 1, by omega, by go_num, by rw [HX.out, ← HO.out]⟩
      case measure => simp [intOf]; omega
    · obtain rfl : k = n := by omega
      have hall : l.take k = l := List.take_of_length_le (by have := Hn.out; omega)
      rw [hall]
      have hb := numV_bd l
      have hp : (128 : Int) ^ l.length ≤ 128 ^ 9 := by
        have : (128 : Nat) ^ l.length ≤ 128 ^ 9 := Nat.pow_le_pow_right (by omega) (by rw [Hn.out]; exact hn)
        exact_mod_cast this
      have hb1 : numV l ≤ 9223372036854775807 := by omega
      have hb0 := hb.1
      clear hb hp hall
      go_wp2_with fail
      refine (HU.out (numV l) _ hb0 hb1).mono ?_
      rintro e w1 ⟨rfl, rfl⟩
      go_wp2
      go_ret
      exact ⟨rfl, rfl⟩

/-- A slice that reads as bytes, in none of the blocks S. -/
def OffSl (S : Nat → Prop) (w : World) (v : Value) (l : List Int) : Prop := IsSl byC w v l ∧ ∀ a n c, v = .slice (some a) n c → ¬ S a.block

theorem OffSl.keep {S : Nat → Prop} {w w' : World} {v : Value} {l : List Int} (h : OffSl S w v l) (hk : ∀ p u, ¬ S p.block → w.cell? p = some u → w'.cell? p = some u) : OffSl S w' v l := by
  obtain ⟨⟨A, c, rfl, hA, hc, hat⟩, hf⟩ := h
  refine ⟨⟨A, c, rfl, hA, hc, fun hx => ?_⟩, hf⟩
  obtain ⟨g, off, rfl, hcell⟩ := hat hx
  have := hf _ _ _ rfl
  exact ⟨g, off, rfl, fun i u hu => hk _ _ this (hcell i u hu)⟩

theorem OffSl.nil (S : Nat → Prop) (w : World) : OffSl S w (.slice none 0 0) [] := ⟨IsSl.nil _ _, fun a n c h => by cases h⟩

/-- The Reader in block b. -/
structure RdAt (S : Nat → Prop) (w : World) (b : Nat) (r : Rd) : Prop where
  me : S b
  lt : b < w.heap.size
  e : w.cell? ⟨b, 1, none⟩ = some (.int .i64 r.e)
  f0 : w.frozen? ⟨b, 0, none⟩ = false
  f1 : w.frozen? ⟨b, 1, none⟩ = false
  sl : ∃ s, w.cell? ⟨b, 0, none⟩ = some s ∧ OffSl S w s r.l

theorem RdAt.off {S : Nat → Prop} {w w' : World} {b : Nat} {r : Rd} (h : RdAt S w b r) (hk : ∀ k, k < w.heap.size → w'.heap[k]? = w.heap[k]?) (hs : w.heap.size ≤ w'.heap.size) : RdAt S w' b r := by
  have hc : ∀ p u, w.cell? p = some u → w'.cell? p = some u := fun p u hu => (World.cell?_of_block (w := w) (hk p.block (World.block_lt_of_cell? _ _ hu))).trans hu
  obtain ⟨s, h1, h2⟩ := h.sl
  exact ⟨h.me, Nat.lt_of_lt_of_le h.lt hs, hc _ _ h.e, (World.frozen?_of_block (w := w) (a := ⟨b, 0, none⟩) (hk b h.lt)).trans h.f0, (World.frozen?_of_block (w := w) (a := ⟨b, 1, none⟩) (hk b h.lt)).trans h.f1, s, hc _ _ h1, h2.keep fun p u _ hu => hc p u hu⟩

/-- Another block of S was written. -/
theorem RdAt.grown {S : Nat → Prop} {w w' : World} {b c : Nat} {r : Rd} (h : RdAt S w b r) (hg : w.grownBy w' (some c)) (hne : b ≠ c) (hc : S c) : RdAt S w' b r := by
  obtain ⟨s, h1, h2⟩ := h.sl
  refine ⟨h.me, Nat.lt_of_lt_of_le h.lt hg.size, grown_cell hg (by simp [hne]) h.e, (grown_frozen hg h.lt (by simp [hne])).trans h.f0, (grown_frozen hg h.lt (by simp [hne])).trans h.f1, s, grown_cell hg (by simp [hne]) h1, h2.keep fun p u hp hu => grown_cell hg (fun e => ?_) hu⟩
  simp at e
  exact hp (by rw [e]; exact hc)

theorem RdAt.below {S : Nat → Prop} {w w' : World} {b : Nat} {r : Rd} (h : RdAt S w b r) (hb : Below w.heap.size w w') : RdAt S w' b r := h.off hb.block hb.size

theorem rerr_any (S : Nat → Prop) (b : Nat) (r : Rd) (w : World) (h : RdAt S w b r) : Calls Try.prog 71 #[.pointer (some ⟨b, 0, none⟩)] w fun e w' => e = .returned (.int .i64 r.e) ∧ w = w' := by
  have he := h.e
  clear h
  go_enter Try.func71, Try.ntmps71
  go_wp2
  go_ret
  exact ⟨rfl, rfl⟩

theorem rleft_any (S : Nat → Prop) (b : Nat) (r : Rd) (w : World) (h : RdAt S w b r) : Calls Try.prog 50 #[.pointer (some ⟨b, 0, none⟩)] w fun e w' => e = .returned (.int .i64 r.l.length) ∧ w = w' := by
  obtain ⟨s, hs, ⟨A, c, rfl, -⟩, -⟩ := h.sl
  clear h
  go_enter Try.func50, Try.ntmps50
  go_wp2
  go_ret
  exact ⟨rfl, rfl⟩

theorem rfail_any (S : Nat → Prop) (b : Nat) (r : Rd) (q : Int) (w : World) (h : RdAt S w b r) : Calls Try.prog 72 #[.pointer (some ⟨b, 0, none⟩), .int .i64 q] w fun e w' => e = .returned (.int .i64 0) ∧ RdAt S w' b ⟨[], q⟩ ∧ w.grownBy w' (some b) := by
  obtain ⟨s, hs, ⟨A, c, rfl, -⟩, -⟩ := h.sl
  have he := h.e
  have hf0 := h.f0
  have hf1 := h.f1
  have HR := Lib.hid h
  have Hs := Lib.hid hs
  clear h
  go_enter Try.func72, Try.ntmps72
  go_wp2
  go_ret
  refine ⟨rfl, ⟨HR.out.me, by simp; exact HR.out.lt, World.cell?_setCell_same _ _ _ (by rw [World.cell?_setCell_other _ _ _ _ (by simp)]; exact he), by rw [World.frozen?_setCell, World.frozen?_setCell]; exact hf0, by rw [World.frozen?_setCell, World.frozen?_setCell]; exact hf1, _, by rw [World.cell?_setCell_other _ _ _ _ (by simp)]; exact World.cell?_setCell_same _ _ _ Hs.out, OffSl.nil _ _⟩, rfl, rfl, rfl, by simp, fun k hk hne => ?_⟩
  rw [Below.heap_setCell _ _ _ _ (by intro e; apply hne; rw [e]), Below.heap_setCell _ _ _ _ (by intro e; apply hne; rw [e])]

theorem rtake_any (S : Nat → Prop) (b n : Nat) (r : Rd) (w : World) (h : RdAt S w b r) (hn : n ≤ r.l.length) (hl : r.l.length ≤ 100000000) : Calls Try.prog 75 #[.pointer (some ⟨b, 0, none⟩), .int .i64 n] w fun e w' => (∃ v, e = .returned v ∧ OffSl S w' v (r.l.take n)) ∧ RdAt S w' b ⟨r.l.drop n, r.e⟩ ∧ w.grownBy w' (some b) := by
  obtain ⟨s, hs, hsl, hoff⟩ := h.sl
  have he := h.e
  have hf0 := h.f0
  have hf1 := h.f1
  have HR := Lib.hid h
  have HT := Lib.hid (hsl.upto 1 n hn)
  have HD := Lib.hid (hsl.since 1 n byC_len (by omega) hn)
  have HS := Lib.hid hsl
  obtain ⟨A, c, rfl, hA, hc, -⟩ := hsl
  have Hoff := Lib.hid hoff
  have hT : ∃ A' n' c', slTo 1 (.slice A r.l.length c) n = .slice A' n' c' ∧ ∀ a, A' = some a → ¬ S a.block := by
    refine ⟨_, _, _, rfl, fun a ha => ?_⟩
    split at ha
    · exact hoff _ _ _ (by rw [ha])
    · cases A with
      | none => simp at ha
      | some a0 => simp at ha; subst ha; have := hoff a0 _ _ rfl; unfold Addr.add; split <;> exact this
  have hD : ∃ A' n' c', slFrom 1 (.slice A r.l.length c) n = .slice A' n' c' ∧ ∀ a, A' = some a → ¬ S a.block := by
    refine ⟨_, _, _, rfl, fun a ha => ?_⟩
    split at ha
    · exact hoff _ _ _ (by rw [ha])
    · cases A with
      | none => simp at ha
      | some a0 => simp at ha; subst ha; have := hoff a0 _ _ rfl; unfold Addr.add; split <;> exact this
  obtain ⟨At, nt, ct, hTe, hTo⟩ := hT
  obtain ⟨Ad, nd, cd, hDe, hDo⟩ := hD
  rw [hTe] at HT
  rw [hDe] at HD
  have HTo := Lib.hid hTo
  have HDo := Lib.hid hDo
  have Hs := Lib.hid hs
  clear h hoff hTo hDo hA
  obtain ⟨N, hN⟩ : ∃ N, r.l.length = N := ⟨_, rfl⟩
  rw [hN] at hs hn hl hc hTe hDe Hs
  have hcn : (n : Int) ≤ (c : Int) := by omega
  go_enter Try.func75, Try.ntmps75
  go_wp2
  go_ret
  have hk : ∀ (p : Addr) (u : Value), ¬ S p.block → w.cell? p = some u → (w.setCell ⟨b, 0, none⟩ (.slice Ad nd cd)).cell? p = some u := fun p u hp hu => by
    rw [World.cell?_setCell_other _ _ _ _ (by intro e; apply hp; rw [← e]; exact HR.out.me)]; exact hu
  refine ⟨⟨_, rfl, OffSl.keep ⟨HT.out, fun a n c h => ?_⟩ hk⟩, ⟨HR.out.me, by simp; exact HR.out.lt, by rw [World.cell?_setCell_other _ _ _ _ (by simp)]; exact he, by rw [World.frozen?_setCell]; exact hf0, by rw [World.frozen?_setCell]; exact hf1, _, World.cell?_setCell_same _ _ _ Hs.out, OffSl.keep ⟨HD.out, fun a n c h => ?_⟩ hk⟩, rfl, rfl, rfl, by simp, fun k hk hne => ?_⟩
  · cases h; exact HTo.out a rfl
  · cases h; exact HDo.out a rfl
  · rw [Below.heap_setCell _ _ _ _ (by intro e; apply hne; rw [e])]

end Go.Proofs.Ytlpkaljepaclpaa.Fx
