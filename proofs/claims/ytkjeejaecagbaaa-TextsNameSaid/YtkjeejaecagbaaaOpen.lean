/- What a slice of texts that came in reads as; where texts stand that rise. Condition: it can be read. -/
import Derived.Test.YtkjeejaecagbaaaFind
import Derived.ProofKit
import Derived.OpenShut
import Derived.ShutString
import Derived.ChangeOld
import Derived.SliceStrings
namespace Go.Proofs.Ytkjeejaecagbaaa
open Go.ChangeShapes Go.WideShapes Go.ChangeAt Go.RowKit

theorem opened_texts {H : Type} {enc : TypeId × Value → H} {P : Program} {W : World} {t e : TypeId} {a0 : Option Addr} {len0 cap0 : Nat} {d : DataW H} {p : List MemPlace}
    (ht : P.underlying t = some (.slice e)) (he : P.underlying e = some .string) (hc : P.cellsOf e = 1) (h : DataW.Trod enc P W 0 (fun _ => true) true t (.slice a0 len0 cap0) d p) :
    ∃ ss : List (List UInt8), Rd txt W W.heap.size a0 len0 cap0 ss ∧ ∀ x ∈ ss, x.length ≤ maxLen := by
  obtain ⟨fuel, hf⟩ := h
  rcases open_strings ht he hc hf with ⟨hcs, _⟩ | ⟨x, l, c, zs, hcs, _, hl, hm, hz, _, hcell, hwz⟩
  · simp [Value.cells] at hcs
    obtain ⟨rfl, rfl, rfl⟩ := hcs
    exact ⟨[], Rd.nil _ _, by simp⟩
  · simp [Value.cells] at hcs
    obtain ⟨rfl, rfl, rfl⟩ := hcs
    have hz' : zs.length = cap0 := by simpa using hz
    refine ⟨(zs.take len0).map fun z => z.data.toList, ⟨by rw [List.length_map, List.length_take]; omega, hl, hm, (fun h => by cases h), fun h0 => ?_⟩, ?_⟩
    · obtain ⟨b, o, spot⟩ := x
      have hc0 := hcell 0 (by omega)
      have hspot : spot = none := by simpa [Addr.add] using World.cell?_spot hc0
      subst hspot
      refine ⟨b, o, rfl, ?_, fun j hj => ?_⟩
      · exact World.block_lt_of_cell? W ⟨b, o, none⟩ (by simpa [Addr.add] using hc0)
      · rw [List.length_map, List.length_take] at hj
        have := hcell j (by omega)
        rw [Addr.add_lit] at this
        rw [this]
        simp only [List.getElem_map, List.getElem_take, txt, str_of]
        simp [List.getD, List.getElem?_eq_getElem (show j < zs.length by omega)]
    · intro y hy
      obtain ⟨z, hzz, rfl⟩ := List.mem_map.1 hy
      have := hwz z (List.mem_of_mem_take hzz)
      rwa [show z.size = z.data.toList.length from by rw [Array.length_toList]; rfl] at this

/-! ### Where texts stand that rise -/

theorem fd_up {l : List (List UInt8)} (h : Up l) (s : List UInt8) (j : Nat) (hj : j < l.length) : l[j] < s ↔ j < fd l s := by
  have key : ∀ (l : List (List UInt8)), Up l → ∀ j (hj : j < l.length), l[j] < s ↔ j < fd l s := by
    intro l
    induction l with
    | nil => intro _ j hj; simp at hj
    | cons a l ih =>
      intro h j hj
      obtain ⟨h1, h2⟩ := List.pairwise_cons.1 h
      by_cases ha : a < s
      · have hf : fd (a :: l) s = fd l s + 1 := by simp [fd, ha]
        rw [hf]
        cases j with
        | zero => simp [ha]
        | succ j =>
          have := ih h2 j (by simpa using hj)
          simp only [List.getElem_cons_succ]
          rw [this]
          omega
      · have hf : fd (a :: l) s = 0 := by simp [fd, ha]
        rw [hf]
        constructor
        · intro hx
          cases j with
          | zero => exact absurd hx ha
          | succ j =>
            simp only [List.getElem_cons_succ] at hx
            exact absurd (lt_trans' (h1 _ (List.getElem_mem _)) hx) ha
        · intro hx
          omega
  exact key l h j hj

theorem fd_at {l : List (List UInt8)} (h : Up l) (k : Nat) (hk : k < l.length) : fd l l[k] = k ∧ isAt l l[k] = true := by
  have e : fd l l[k] = k := by
    refine fd_eq (Nat.le_of_lt hk) (fun j hj hjk => ?_) (fun _ => lt_irrefl' _)
    exact List.pairwise_iff_getElem.1 h j k hj hk hjk
  refine ⟨e, ?_⟩
  simp [isAt, e, hk]

theorem isAt_mem {l : List (List UInt8)} (h : Up l) (s : List UInt8) : isAt l s = decide (s ∈ l) := by
  by_cases hs : s ∈ l
  · obtain ⟨k, hk, rfl⟩ := List.mem_iff_getElem.1 hs
    rw [(fd_at h k hk).2, decide_eq_true hs]
  · rw [decide_eq_false hs]
    simp only [isAt, decide_eq_false_iff_not]
    intro h'
    exact hs (List.mem_of_getElem? h')
end Go.Proofs.Ytkjeejaecagbaaa
