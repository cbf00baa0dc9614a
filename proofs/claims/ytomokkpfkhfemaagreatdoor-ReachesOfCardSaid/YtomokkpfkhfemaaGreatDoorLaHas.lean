/- Numbers of 64 bits in cells; what has, labels and above tell. No condition but sizes. -/
import Derived.Test.YtomokkpfkhfemaaGreatDoorLaBits
import Derived.Test.YtomokkpfkhfemaaGreatDoorVals
import Derived.Test.YtomokkpfkhfemaaGreatDoorProg
import Derived.Laws.BitsAllLaws
import Derived.Laws.ShiftsVar
import Derived.WalkKit
import Derived.OwnWalk
import Derived.Outline
namespace Go.Proofs.YtomokkpfkhfemaaGreatDoor.La
open Go.RowKit

/-- A number in a cell. -/
def nm (x : Nat) : Value := .int .u64 (x : Int)
theorem nm_one (x : Nat) : (nm x).oneCell' = true := rfl

/-- The cells of numbers. -/
def cl (l : List Nat) : Array Value := (l.map nm).toArray
theorem cl_at {l : List Nat} {j : Nat} (h : j < l.length) : (cl l)[j]? = some (.int .u64 (l[j] : Int)) := by
  rw [cl, List.getElem?_toArray, List.getElem?_map, List.getElem?_eq_getElem h]
  rfl
theorem cl_set (l : List Nat) (j v : Nat) : (cl l).setIfInBounds j (.int .u64 (v : Int)) = cl (l.set j v) := by
  simp [cl, List.map_set, nm]

/-- All are numbers of 64 bits. -/
def Fit (l : List Nat) : Prop := ∀ x ∈ l, x < 18446744073709551616

theorem Fit.get {l : List Nat} (h : Fit l) (i : Nat) (hi : i < l.length) : l[i] < 18446744073709551616 := h _ (List.getElem_mem hi)

theorem bool_test (x k : Nat) : (x / 2 ^ k % 2 : Nat) = (x.testBit k).toNat := by
  rw [Nat.testBit_eq_decide_div_mod_eq]
  rcases Nat.mod_two_eq_zero_or_one (x / 2 ^ k) with h | h <;> rw [h] <;> rfl

theorem shr_nat (x k : Nat) : (x : Int) / 2 ^ k = ((x / 2 ^ k : Nat) : Int) := by
  rw [Int.natCast_ediv, Int.natCast_pow]
  rfl

theorem pow_min {x k : Nat} (hx : x < 18446744073709551616) : x / 2 ^ min k 64 = x / 2 ^ k := by
  by_cases h : k ≤ 64
  · rw [Nat.min_eq_left h]
  · rw [Nat.min_eq_right (by omega), Nat.div_eq_of_lt (show x < 2 ^ 64 from hx), Nat.div_eq_of_lt]
    exact Nat.lt_of_lt_of_le (show x < 2 ^ 64 from hx) (Nat.pow_le_pow_right (by decide) (by omega))

theorem shr_min {x k : Nat} (hx : x < 18446744073709551616) : (x : Int) / 2 ^ min k 64 = ((x / 2 ^ k : Nat) : Int) := by
  rw [shr_nat, pow_min hx]

theorem shr_one {x k : Nat} (hx : x < 18446744073709551616) : bits .and .u64 ((x : Int) / 2 ^ min k 64) 1 = ((x.testBit k).toNat : Int) := by
  rw [shr_min hx, ← bool_test, ← Nat.and_one_is_mod]
  exact u64_and_nat _ 1 (Nat.lt_of_le_of_lt (Nat.div_le_self _ _) hx) (by decide)

theorem shr_is {x k : Nat} (hx : x < 18446744073709551616) : (bits .and .u64 ((x : Int) / 2 ^ min k 64) 1 == 1) = x.testBit k := by
  rw [shr_one hx]
  cases x.testBit k <;> rfl




theorem Fit.two {l : List Nat} (h : Fit l) : ∀ x ∈ l, x < 2 ^ 64 := h

end Go.Proofs.YtomokkpfkhfemaaGreatDoor.La
