/- Bytes as strings; jousthelp.Bytes. -/
import Derived.Test.YthmdnemibdmhgaaByTyp
import Derived.Laws.BytesString
import Derived.Laws.Concat
namespace Go.Proofs.Ythmdnemibdmhgaa.Fx
open Go.ChangeShapes Go.WideShapes Go.ChangeAt Go.RowKit
set_option linter.unusedVariables false
set_option maxRecDepth 100000

/-- Bytes as a string. -/
def byS (l : List Int) : ByteArray := l.foldl (fun r n => r.push (UInt8.ofNat n.toNat)) ByteArray.empty

theorem conv_by {w : World} {v : Value} {l : List Int} (h : IsSl byC w v l) : (convert 22 9 v).run Try.prog w = .ok (.string (byS l)) w := by
  obtain ⟨A, c, rfl, hA, hc, hat⟩ := h
  rw [run_convert_bytes_string w 22 9 5 A l.length c Try.underlying22 Try.underlying5 Try.underlying9]
  cases A with
  | none =>
    have := (hA rfl).1
    obtain rfl : l = [] := List.eq_nil_of_length_eq_zero this
    rfl
  | some a =>
    refine run_bytesToString w a l.length c l ?_
    have := run_loadCells_list (P := Try.prog) w a (l.map (Value.int .u8)) (by rw [byC_map] at hat; exact hat.cells a rfl)
    simpa using this

/-- Equal bytes. -/
theorem same_by (u v : Value) (l : List Int) (w : World) (hu : IsSl byC w u l) (hv : IsSl byC w v l) :
    Calls Try.prog 13 #[u, v] w fun e w' => e = .returned (.bool true) ∧ w = w' := by
  have e1 := conv_by hu
  have e2 := conv_by hv
  obtain ⟨A, c, rfl, -⟩ := hu
  obtain ⟨B, d, rfl, -⟩ := hv
  generalize byS l = S at *
  go_enter Try.func13, Try.ntmps13
  go_wp2
  go_ret
  exact ⟨ret_bool (by simp), rfl⟩

theorem ba_loop (bs : ByteArray) (n : Nat) : ∀ (i : Nat) (r : List UInt8), bs.size - i = n → ByteArray.toList.loop bs i r = r.reverse ++ bs.data.toList.drop i := by
  induction n with
  | zero =>
    intro i r h
    rw [ByteArray.toList.loop, if_neg (by omega), List.drop_eq_nil_of_le (by have : bs.data.size = bs.size := rfl; simp; omega), List.append_nil]
  | succ n ih =>
    intro i r h
    have hi : i < bs.data.toList.length := by have : bs.data.size = bs.size := rfl; simp; omega
    rw [ByteArray.toList.loop, if_pos (by omega), ih (i + 1) _ (by omega), List.drop_eq_getElem_cons hi]
    have hg : bs.get! i = bs.data.toList[i] := by
      show bs.data[i]! = _
      rw [getElem!_pos bs.data i (by simpa using hi)]
      simp
    rw [hg]
    simp

theorem ba_list (bs : ByteArray) : bs.toList = bs.data.toList := by
  unfold ByteArray.toList
  rw [ba_loop bs _ 0 [] rfl]
  simp

theorem byS_list (l : List Int) : (byS l).data.toList = l.map fun n => UInt8.ofNat n.toNat := by
  have h : ∀ (l : List Int) (r : ByteArray), (l.foldl (fun r n => r.push (UInt8.ofNat n.toNat)) r).data.toList = r.data.toList ++ l.map fun n => UInt8.ofNat n.toNat := by
    intro l
    induction l with
    | nil => intro r; simp
    | cons x l ih => intro r; rw [List.foldl_cons, ih]; simp [ByteArray.push]
  unfold byS
  rw [h]
  rfl

theorem byS_inj {l m : List Int} (hl : ByOk l) (hm : ByOk m) (h : byS l = byS m) : l = m := by
  have h1 := congrArg (fun b => b.data.toList) h
  simp only [byS_list] at h1
  induction l generalizing m with
  | nil => cases m with
    | nil => rfl
    | cons y m => simp at h1
  | cons x l ih => cases m with
    | nil => simp at h1
    | cons y m =>
      simp only [List.map_cons, List.cons.injEq] at h1
      have hx := hl x (List.mem_cons_self ..)
      have hy := hm y (List.mem_cons_self ..)
      have h2 := congrArg UInt8.toNat h1.1
      simp only [UInt8.toNat_ofNat'] at h2
      have hxy : x = y := by omega
      subst hxy
      have hl' : ByOk l := fun z hz => hl z (List.mem_cons_of_mem _ hz)
      have hm' : ByOk m := fun z hz => hm z (List.mem_cons_of_mem _ hz)
      have h3 : byS l = byS m := by
        apply ByteArray.ext
        apply Array.ext'
        rw [byS_list, byS_list]; exact h1.2
      rw [ih hl' hm' h3 h1.2]

theorem bytes_any (u v : Value) (l m : List Int) (w : World) (hu : IsSl byC w u l) (hv : IsSl byC w v m) (hl : ByOk l) (hm : ByOk m) :
    Calls Try.prog 13 #[u, v] w fun e w' => e = .returned (.bool (decide (l = m))) ∧ w = w' := by
  have e1 := conv_by hu
  have e2 := conv_by hv
  have hD : decide (l = m) = decide (byS l = byS m) := by
    by_cases h : l = m
    · rw [decide_eq_true h, decide_eq_true (by rw [h])]
    · rw [decide_eq_false h, decide_eq_false (fun h2 => h (byS_inj hl hm h2))]
  have HD := Lib.hid hD
  obtain ⟨A, c, rfl, -⟩ := hu
  obtain ⟨B, d, rfl, -⟩ := hv
  generalize byS l = S at *
  generalize byS m = T at *
  generalize l.length = nl at *
  generalize m.length = nm at *
  generalize decide (l = m) = q at *
  clear hD
  go_enter Try.func13, Try.ntmps13
  go_wp2
  go_ret
  exact ⟨ret_bool (by rw [HD.out, beq_iff_eq, decide_eq_true_eq, ba_list, ba_list]; exact ⟨fun h => ByteArray.ext (Array.ext' h), fun h => by rw [h]⟩), rfl⟩

end Go.Proofs.Ythmdnemibdmhgaa.Fx
