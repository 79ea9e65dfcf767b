/- Package cross's order and its sort of a row of its own: which of two stands ahead; a row sorted, what is alike in its order. -/
import Derived.Test.YtfpofegfbinalaaGTypCross
import Derived.Test.YtfpofegfbinalaaStEnd
namespace Go.Proofs.Ytfpofegfbinalaa.Fx
open Go.ChangeShapes Go.WideShapes Go.ChangeAt Go.RowKit Go.Sort
set_option linter.unusedVariables false
set_option maxRecDepth 100000

/-- Does a stand ahead of b? -/
def lessB (a b : Crs) : Bool :=
  if a.dst = b.dst then (if a.kind = b.kind then (if a.kind = 1 then decide (a.e.id < b.e.id) else if a.x = b.x then decide (a.y < b.y) else decide (a.x < b.x)) else decide (a.kind < b.kind)) else decide (a.dst < b.dst)

theorem lessB_iff (a b : Crs) : lessB a b = true ↔ (a.dst < b.dst ∨ a.dst = b.dst ∧ (a.kind < b.kind ∨ a.kind = b.kind ∧ (a.kind = 1 ∧ a.e.id < b.e.id ∨ a.kind ≠ 1 ∧ (a.x < b.x ∨ a.x = b.x ∧ a.y < b.y)))) := by
  unfold lessB
  repeat' split
  all_goals (simp only [decide_eq_true_eq]; omega)

theorem lessB_no (a b : Crs) : lessB a b = false ↔ ¬ (a.dst < b.dst ∨ a.dst = b.dst ∧ (a.kind < b.kind ∨ a.kind = b.kind ∧ (a.kind = 1 ∧ a.e.id < b.e.id ∨ a.kind ≠ 1 ∧ (a.x < b.x ∨ a.x = b.x ∧ a.y < b.y)))) := by
  rw [← lessB_iff]; simp

theorem lessB_swo : SWO lessB where
  irrefl x := by rw [lessB_no]; omega
  trans x y z h1 h2 := by rw [lessB_iff] at *; omega
  ntrans x y z h1 h2 := by rw [lessB_no] at *; omega

/-- Less as a number. -/
def cmpC (a b : Crs) : Int := if lessB a b = true then -1 else if lessB b a = true then 1 else 0

theorem ltOf_cmpC : ltOf cmpC = lessB := by
  funext a b
  unfold ltOf cmpC
  cases h : lessB a b <;> cases h2 : lessB b a <;> simp

theorem grown2 (w : World) (a b : Obj) : (w.alloc a).alloc b = grow w (#[a] ++ #[b]) := by rw [alloc_eq_grow, alloc_eq_grow, grow_grow]

theorem below_grow0 (w : World) (os : Array Obj) : RowKit.Below w.heap.size w (grow w os) :=
  ⟨rfl, rfl, rfl, by rw [size_grow]; omega, fun k hk => heap_grow_old w os hk⟩

theorem flat_row {α : Type} [Inhabited α] (enc : α → List Value) (k : Nat) (hk : ∀ x, (enc x).length = k) (l : List α) : flatK enc k l.toArray = (l.flatMap enc).toArray := by
  have hlen : (l.flatMap enc).length = l.length * k := flat_len enc k hk l
  refine ext_get! (by simp [hlen]) fun t ht => ?_
  have ht' : t < l.length * k := by simpa using ht
  have k0 : 0 < k := by
    rcases Nat.eq_zero_or_pos k with h | h
    · subst h; simp at ht'
    · exact h
  have hd : t / k < l.length := (Nat.div_lt_iff_lt_mul k0).2 ht'
  have hm : t % k < k := Nat.mod_lt _ k0
  rw [get_flatK _ _ _ t (by simpa using ht')]
  have hg := flat_get enc k hk l (t / k) (t % k) hm
  rw [Nat.div_add_mod'] at hg
  have h1 : l[t / k]? = some l[t / k] := List.getElem?_eq_getElem hd
  rw [h1] at hg
  simp only [Option.bind_some] at hg
  have h2 : (enc l[t / k])[t % k]? = some (enc l[t / k])[t % k]! := by
    rw [List.getElem?_eq_getElem (by rw [hk]; exact hm), getElem!_pos _ _ (by rw [hk]; exact hm)]
  rw [h2] at hg
  have h3 : l.toArray[t / k]! = l[t / k] := by simp [hd]
  rw [h3]
  have h4 : (l.flatMap enc).toArray[t]! = (l.flatMap enc)[t]! := by simp
  rw [h4, show (l.flatMap enc)[t]! = ((l.flatMap enc)[t]?).getD default from List.getElem!_eq_getElem?_getD, hg]
  rfl

/-- A row of the call's own, as the sort wants it. -/
theorem own_row {w : World} {base t g cap : Nat} {l : List Crs} (h : w.ownsRow base t 15 (.slice (some ⟨g, 0, none⟩) l.length cap) l.length (l.flatMap crsC)) : RowK crsC 15 w g 0 l.toArray := by
  obtain ⟨cur, hb, hs, -, hc⟩ := Blk.of_own h
  refine ⟨crsC_len, crsC_one, ?_, hb.lt⟩
  unfold HoldsK
  rw [flat_row crsC 15 crsC_len]
  intro j hj
  have hj' : j < (l.flatMap crsC).length := by simpa using hj
  refine ⟨?_, ?_⟩
  · rw [Nat.zero_add, hb.cell]
    have := hc j _ (List.getElem?_eq_getElem hj')
    rw [this, getElem!_pos _ _ (by simpa using hj')]
    simp
  · rw [Nat.zero_add]; exact hb.frozen j

theorem heap_putRow (w : World) (m g : Nat) (F : Array Value) (os : Array Obj) (t : TypeId) (cur : Array Value) (h : Blk w g t cur) : ∃ cur', Blk (grow (putRow id (Sort.ahead w m) g 0 F) os) g t cur' ∧ cur'.size = cur.size := by
  refine ⟨putCells id 0 F cur, ?_, by simp [putCells]⟩
  have hlt := h.lt
  unfold Blk at h ⊢
  rw [heap_grow_old _ _ (by rw [size_putRow]; exact hlt)]
  unfold putRow mapBlock
  simp only [heap_ahead]
  rw [Array.getElem?_modify, if_pos rfl, h]
  rfl

/-- What the sort leaves: the row sorted; all else as it was. -/
theorem own_sorted {w w' : World} {base t g cap : Nat} {l l' : List Crs} {d' : Array Crs} (h : w.ownsRow base t 15 (.slice (some ⟨g, 0, none⟩) l.length cap) l.length (l.flatMap crsC)) (hd : d'.toList = l') (hl : l'.length = l.length)
    (hS : SWK crsC 15 w g 0 d' w') : w'.ownsRow base t 15 (.slice (some ⟨g, 0, none⟩) l'.length cap) l'.length (l'.flatMap crsC) ∧ w.grownBy w' (some g) := by
  have R := own_row h
  have hds : d'.size = l.toArray.size := by rw [len_of hd]; simpa using hl
  have hH := hS.holds R.hblk R.hH hds
  obtain ⟨m, os, rfl⟩ := hS
  constructor
  · obtain ⟨cur, hb, hs, hbase, hc⟩ := Blk.of_own h
    obtain ⟨cur', hb', hs'⟩ := heap_putRow w m g (flatK crsC 15 d') os t cur hb
    refine ⟨crsC_length l', Or.inr ⟨g, cap, cur', rfl, hbase, hb', ?_, ?_, by rw [hs', hs], ?_⟩⟩
    · rcases h.2 with ⟨hv, _⟩ | ⟨g', cap', cur2, hv, _, _, hn, _⟩
      · cases hv
      · simp at hv; omega
    · rcases h.2 with ⟨hv, _⟩ | ⟨g', cap', cur2, hv, _, _, hn, hm, _⟩
      · cases hv
      · simp at hv; rw [hv.2]; exact hm
    · have hcap : l.length ≤ cap := by
        rcases h.2 with ⟨hv, _⟩ | ⟨g', cap', cur2, hv, _, _, hn, _⟩
        · cases hv
        · simp at hv; omega
      have hfl : flatK crsC 15 d' = (l'.flatMap crsC).toArray := by
        rw [← flat_row crsC 15 crsC_len, ← hd]
      apply List.ext_getElem?
      intro j
      rw [List.getElem?_take]
      have hlen := crsC_length l'
      split
      · have hj : j < (flatK crsC 15 d').size := by rw [hfl, List.size_toArray, hlen]; assumption
        have := (hH j hj).1
        have hc2 : (sortWorldK crsC 15 w g 0 m d' os).cell? ⟨g, j, none⟩ = cur'[j]? := hb'.cell j
        rw [Nat.zero_add, hc2, hfl] at this
        rw [Array.getElem?_toList, this]
        have hj2 : j < (l'.flatMap crsC).length := by omega
        rw [List.getElem?_eq_getElem hj2, getElem!_pos _ _ (by simpa using hj2)]
        simp
      · rw [List.getElem?_eq_none (by omega)]
  · refine ⟨rfl, rfl, rfl, ?_, fun k hk hne => ?_⟩
    · unfold sortWorldK putRowK
      rw [size_grow, size_putRow]; show w.heap.size ≤ w.heap.size + _; omega
    · unfold sortWorldK putRowK
      rw [heap_grow_old _ _ (by rw [size_putRow]; exact hk)]
      unfold putRow mapBlock
      simp only [heap_ahead]
      rw [Array.getElem?_modify, if_neg (fun h => hne (by rw [h]))]

end Go.Proofs.Ytfpofegfbinalaa.Fx
