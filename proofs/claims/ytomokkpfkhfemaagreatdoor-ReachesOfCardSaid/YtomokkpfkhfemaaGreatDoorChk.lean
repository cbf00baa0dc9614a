/- What Hold tells. No condition but sizes. -/
import Derived.Test.YtomokkpfkhfemaaGreatDoorBd
namespace Go.Proofs.YtomokkpfkhfemaaGreatDoor
open Go.RowKit



theorem all_step {α : Type} {p : α → Bool} {l : List α} {i : Nat} (hi : i < l.length) (h : (l.take i).all p = true) : (l.take (i + 1)).all p = p l[i] := by
  rw [List.take_succ_eq_append_getElem hi, List.all_append, h]
  simp
theorem all_off {α : Type} {p : α → Bool} {l : List α} {i : Nat} (hi : i < l.length) (h : p l[i] = false) : l.all p = false := by
  refine Bool.eq_false_iff.2 fun e => ?_
  have := List.all_eq_true.1 e _ (List.getElem_mem hi)
  rw [h] at this
  cases this

/-- The first i have p. -/
def AllRel (p : Bd → Bool) (l : List Bd) (w : World) (v : Value) (wr : World) : Prop := ∃ i : Nat, v = .int .i64 (i : Int) ∧ i ≤ l.length ∧ (l.take i).all p = true ∧ Below w.heap.size w wr


end Go.Proofs.YtomokkpfkhfemaaGreatDoor
