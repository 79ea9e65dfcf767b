/- The lists of the laws HittingOwn and HittingHeals, and of awake, plainly. -/
import Derived.Test.YtdhahlghldgggaaHtPure
namespace Go.Proofs.Ytdhahlghldgggaa.Fx
open Go.ChangeShapes Go.WideShapes Go.ChangeAt Go.RowKit
set_option linter.unusedVariables false

/-- n players of one place, and a shot there. -/
def ownP (n : Nat) : List Ent := (List.range n).map fun (i : Nat) => ⟨(i : Int) + 1, 1, 0, 0, 0, 0, 50, 0, 0⟩

def ownL (n : Nat) (o : Int) : List Ent := ownP n ++ [⟨2000, 2, 0, 0, 0, 0, 0, 0, o⟩]

def ownX (n : Nat) (o : Int) : List Ent := (List.range n).map fun (i : Nat) => ⟨(i : Int) + 1, 1, 0, 0, 0, 0, if (i : Int) + 1 = (if o = 1 then 2 else 1) then 30 else 50, 0, 0⟩

theorem own_all : ∀ n : Fin 4, ∀ o : Fin 5, o.val ≤ n.val + 1 → shotsL (ownL (n.val + 2) ((o.val : Int) + 1)) = ownX (n.val + 2) ((o.val : Int) + 1) := by decide +kernel

theorem own_one : shotsL (ownL 1 1) = ownL 1 1 := by decide +kernel

theorem own_shots {n : Nat} {o : Int} (h2 : 2 ≤ n) (h5 : n ≤ 5) (o1 : 1 ≤ o) (on : o ≤ n) : shotsL (ownL n o) = ownX n o := by
  have h := own_all ⟨n - 2, by omega⟩ ⟨(o - 1).toNat, by omega⟩ (by simp only; omega)
  simp only at h
  rw [show n - 2 + 2 = n by omega, show (((o - 1).toNat : Int)) + 1 = o by omega] at h
  exact h

def gemL (h d : Int) : List Ent := [⟨1, 1, 0, 0, 0, 0, h, 0, 0⟩, ⟨1000, 3, d, 0, 0, 0, 1, 0, 0⟩]

theorem far_gem (d : Int) (h0 : 0 ≤ d) (h1 : d < 1000) : far 0 0 d 0 = d := by
  unfold far sub
  rw [held_id d (by omega) (by omega), held_id 0 (by omega) (by omega), held_id _ (by omega) (by omega), held_id _ (by omega) (by omega)]
  omega

theorem gem_heals {h d : Int} (h1 : 1 ≤ h) (h2 : h ≤ 100) (d0 : 0 ≤ d) (d1 : d < 80) :
    gemsL (gemL h d) = if 32 < d then gemL h d else [⟨1, 1, 0, 0, 0, 0, min 100 (h + 25), 0, 0⟩] := by
  have hf := far_gem d d0 (by omega)
  have hh : addl [h, 25] = h + 25 := by
    simp only [addl, List.foldl]
    rw [held_id h (by omega) (by omega), held_id 25 (by omega) (by omega), held_id (0 + h) (by omega) (by omega), held_id _ (by omega) (by omega)]
    omega
  have h3 : hitB 32 ⟨1000, 3, d, 0, 0, 0, 1, 0, 0⟩ ⟨1, 1, 0, 0, 0, 0, h, 0, 0⟩ = decide (d ≤ 32) := by simp [hitB, hf]
  have h4 : hitB 32 ⟨1000, 3, d, 0, 0, 0, 1, 0, 0⟩ ⟨1000, 3, d, 0, 0, 0, 1, 0, 0⟩ = false := by simp [hitB]
  have h5 : fstHit 32 (gemL h d) ⟨1000, 3, d, 0, 0, 0, 1, 0, 0⟩ = if d ≤ 32 then some 0 else none := by
    unfold fstHit gemL
    rw [List.findIdx?_cons, h3, List.findIdx?_cons, h4]
    by_cases hd : d ≤ 32 <;> simp [hd]
  unfold gemsL touchL
  rw [show touch 3 32 (fun h => min 100 (addl [h, 25])) (gemL h d) (gemL h d) = touch1 3 32 (fun h => min 100 (addl [h, 25])) ⟨1000, 3, d, 0, 0, 0, 1, 0, 0⟩ (gemL h d) from by simp [gemL, touch, touch1]]
  by_cases hd : d ≤ 32
  · rw [if_neg (by omega)]
    simp only [touch1, if_true, h5, hd]
    have h6 : stays 3 32 (gemL h d) ⟨1000, 3, d, 0, 0, 0, 1, 0, 0⟩ = false := by unfold stays; rw [h5]; simp [hd]
    have h7 : stays 3 32 (gemL h d) ⟨1, 1, 0, 0, 0, 0, min 100 (h + 25), 0, 0⟩ = true := by unfold stays; simp
    rw [show (gemL h d).modify 0 (healthy fun h => min 100 (addl [h, 25])) = [⟨1, 1, 0, 0, 0, 0, min 100 (h + 25), 0, 0⟩, ⟨1000, 3, d, 0, 0, 0, 1, 0, 0⟩] from by rw [← hh]; rfl]
    rw [List.filter_cons_of_pos h7, List.filter_cons_of_neg (by rw [h6]; simp)]
    rfl
  · rw [if_pos (by omega)]
    simp only [touch1, if_true, h5, hd, if_false]
    have h6 : stays 3 32 (gemL h d) ⟨1000, 3, d, 0, 0, 0, 1, 0, 0⟩ = true := by unfold stays; rw [h5]; simp [hd]
    have h7 : stays 3 32 (gemL h d) ⟨1, 1, 0, 0, 0, 0, h, 0, 0⟩ = true := by unfold stays; simp
    show List.filter _ [_, _] = _
    rw [List.filter_cons_of_pos h7, List.filter_cons_of_pos h6]
    rfl

theorem shots_awake : shotsL [⟨1, 1, 0, 0, 0, 0, 50, 0, 0⟩, ⟨1000, 2, 0, 0, 0, 0, 0, 0, 2⟩] = [⟨1, 1, 0, 0, 0, 0, 30, 0, 0⟩] := by decide +kernel

theorem fallen_awake : fallenL [⟨3, 1, 0, 0, 0, 0, 0, 0, 0⟩] = [3] := by decide +kernel

end Go.Proofs.Ytdhahlghldgggaa.Fx
