/- What a slice of texts that came in reads as. Condition: it can be read. -/
import Derived.Test.YtkjeejaecagbaaaGreatDoorTxt
import Derived.ProofKit
import Derived.OpenShut
import Derived.ShutString
import Derived.ChangeOld
import Derived.SliceStrings
namespace Go.Proofs.YtkjeejaecagbaaaGreatDoor
open Go.ChangeShapes Go.WideShapes Go.ChangeAt Go.RowKit

theorem opened_texts {H : Type} {enc : TypeId × Value → H} {P : Program} {W : World} {t e : TypeId} {a0 : Option Addr} {len0 cap0 : Nat} {d : DataW H} {p : List MemPlace}
    (ht : P.underlying t = some (.slice e)) (he : P.underlying e = some .string) (hc : P.cellsOf e = 1) (h : DataW.Trod enc P W 0 (fun _ => true) true t (.slice a0 len0 cap0) d p) :
    ∃ ss : List (List UInt8), Rd txt W W.heap.size a0 len0 cap0 ss ∧ ∀ x ∈ ss, x.length ≤ maxLen := by
  obtain ⟨fuel, hf⟩ := h
  rcases open_strings ht he hc hf with ⟨hcs, _⟩ | ⟨x, l, c, zs, hcs, _, hl, hm, hz, _, hcell, hwz⟩
  · simp [Value.cells] at hcs
    obtain ⟨rfl, rfl, rfl⟩ := hcs
    exact ⟨[], Rd.nil _ _, by simp⟩
  · simp [Value.cells] at hcs
    obtain ⟨rfl, rfl, rfl⟩ := hcs
    have hz' : zs.length = cap0 := by simpa using hz
    refine ⟨(zs.take len0).map fun z => z.data.toList, ⟨by rw [List.length_map, List.length_take]; omega, hl, hm, (fun h => by cases h), fun h0 => ?_⟩, ?_⟩
    · obtain ⟨b, o, spot⟩ := x
      have hc0 := hcell 0 (by omega)
      have hspot : spot = none := by simpa [Addr.add] using World.cell?_spot hc0
      subst hspot
      refine ⟨b, o, rfl, ?_, fun j hj => ?_⟩
      · exact World.block_lt_of_cell? W ⟨b, o, none⟩ (by simpa [Addr.add] using hc0)
      · rw [List.length_map, List.length_take] at hj
        have := hcell j (by omega)
        rw [Addr.add_lit] at this
        rw [this]
        simp only [List.getElem_map, List.getElem_take, txt, str_of]
        simp [List.getD, List.getElem?_eq_getElem (show j < zs.length by omega)]
    · intro y hy
      obtain ⟨z, hzz, rfl⟩ := List.mem_map.1 hy
      have := hwz z (List.mem_of_mem_take hzz)
      rwa [show z.size = z.data.toList.length from by rw [Array.length_toList]; rfl] at this

end Go.Proofs.YtkjeejaecagbaaaGreatDoor
