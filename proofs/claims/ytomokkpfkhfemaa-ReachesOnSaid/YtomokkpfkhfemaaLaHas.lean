/- Numbers of 64 bits in cells; what has, labels and above tell. No condition but sizes. -/
import Derived.Test.YtomokkpfkhfemaaLaBits
import Derived.Test.YtomokkpfkhfemaaVals
import Derived.Test.YtomokkpfkhfemaaProg
import Derived.Laws.BitsAllLaws
import Derived.Laws.ShiftsVar
import Derived.WalkKit
import Derived.OwnWalk
import Derived.Outline
namespace Go.Proofs.Ytomokkpfkhfemaa.La
open Go.RowKit

/-- A number in a cell. -/
def nm (x : Nat) : Value := .int .u64 (x : Int)
theorem nm_one (x : Nat) : (nm x).oneCell' = true := rfl

/-- The cells of numbers. -/
def cl (l : List Nat) : Array Value := (l.map nm).toArray
theorem cl_at {l : List Nat} {j : Nat} (h : j < l.length) : (cl l)[j]? = some (.int .u64 (l[j] : Int)) := by
  rw [cl, List.getElem?_toArray, List.getElem?_map, List.getElem?_eq_getElem h]
  rfl
theorem cl_set (l : List Nat) (j v : Nat) : (cl l).setIfInBounds j (.int .u64 (v : Int)) = cl (l.set j v) := by
  simp [cl, List.map_set, nm]

/-- All are numbers of 64 bits. -/
def Fit (l : List Nat) : Prop := ∀ x ∈ l, x < 18446744073709551616

theorem Fit.get {l : List Nat} (h : Fit l) (i : Nat) (hi : i < l.length) : l[i] < 18446744073709551616 := h _ (List.getElem_mem hi)

theorem bool_test (x k : Nat) : (x / 2 ^ k % 2 : Nat) = (x.testBit k).toNat := by
  rw [Nat.testBit_eq_decide_div_mod_eq]
  rcases Nat.mod_two_eq_zero_or_one (x / 2 ^ k) with h | h <;> rw [h] <;> rfl

theorem shr_nat (x k : Nat) : (x : Int) / 2 ^ k = ((x / 2 ^ k : Nat) : Int) := by
  rw [Int.natCast_ediv, Int.natCast_pow]
  rfl

theorem pow_min {x k : Nat} (hx : x < 18446744073709551616) : x / 2 ^ min k 64 = x / 2 ^ k := by
  by_cases h : k ≤ 64
  · rw [Nat.min_eq_left h]
  · rw [Nat.min_eq_right (by omega), Nat.div_eq_of_lt (show x < 2 ^ 64 from hx), Nat.div_eq_of_lt]
    exact Nat.lt_of_lt_of_le (show x < 2 ^ 64 from hx) (Nat.pow_le_pow_right (by decide) (by omega))

theorem shr_min {x k : Nat} (hx : x < 18446744073709551616) : (x : Int) / 2 ^ min k 64 = ((x / 2 ^ k : Nat) : Int) := by
  rw [shr_nat, pow_min hx]

theorem shr_one {x k : Nat} (hx : x < 18446744073709551616) : bits .and .u64 ((x : Int) / 2 ^ min k 64) 1 = ((x.testBit k).toNat : Int) := by
  rw [shr_min hx, ← bool_test, ← Nat.and_one_is_mod]
  exact u64_and_nat _ 1 (Nat.lt_of_le_of_lt (Nat.div_le_self _ _) hx) (by decide)

theorem shr_is {x k : Nat} (hx : x < 18446744073709551616) : (bits .and .u64 ((x : Int) / 2 ^ min k 64) 1 == 1) = x.testBit k := by
  rw [shr_one hx]
  cases x.testBit k <;> rfl

set_option maxRecDepth 100000 in
set_option maxHeartbeats 400000 in
theorem has_any (x k : Nat) (w : World) (hx : x < 18446744073709551616) :
    Calls Try.prog 30 #[.int .u64 (x : Int), .int .i64 (k : Int)] w fun e w' => e = .returned (.bool (x.testBit k)) ∧ w = w' := by
  go_enter Try.func30, Try.ntmps30
  go_wp2
  go_ret
  exact ⟨by rw [← shr_is hx]; rfl, rfl⟩

theorem labels_any (n : Int) (w : World) : Calls Try.prog 31 #[.int .i64 n] w fun e w' => e = .returned (.bool (decide (1 ≤ n ∧ n ≤ 64))) ∧ w = w' := by
  by_cases h1 : 1 ≤ n
  · have hd1 : decide (1 ≤ n) = true := by simpa using h1
    by_cases h2 : n ≤ 64
    · go_enter Try.func31, Try.ntmps31
      go_wp2
      go_ret
      exact ⟨by simp [h1, h2], rfl⟩
    · go_enter Try.func31, Try.ntmps31
      go_wp2
      go_ret
      exact ⟨by simp [h2], rfl⟩
  · have hd1 : decide (1 ≤ n) = false := by simpa using h1
    go_enter Try.func31, Try.ntmps31
    go_wp2
    go_ret
    exact ⟨by simp, rfl⟩

def AbRel (l : List Nat) (t : Nat) (w : World) (v5 v10 : Value) (wr : World) : Prop := ∃ k : Nat, v10 = .int .i64 (k : Int) ∧ k ≤ l.length ∧ v5 = .int .u64 (aboveN l t k : Int) ∧ wr = w

theorem Fit.two {l : List Nat} (h : Fit l) : ∀ x ∈ l, x < 2 ^ 64 := h

set_option maxRecDepth 100000 in
set_option maxHeartbeats 400000 in
theorem above_any (A : Option Addr) (n c B : Nat) (l : List Nat) (t : Nat) (w : World) (h : Rd nm w B A n c l) (hf : Fit l) (ht : t < 18446744073709551616) :
    Calls Try.prog 32 #[.slice A n c, .int .u64 (t : Int)] w fun e w' => e = .returned (.int .u64 (aboveN l t n : Int)) ∧ w = w' := by
  have HL := Lib.hid h.len
  have hcap := h.cap
  have htop := h.top
  unfold maxLen at htop
  go_enter Try.func32, Try.ntmps32
  go_wp2
  go_loopw [5, 10] (fun v5 v10 wr => AbRel l t w v5 v10 wr) (fun _ v10 _ => n - (intOf v10).toNat)
  case atStart => exact ⟨0, rfl, by omega, rfl, rfl⟩
  case round =>
    obtain ⟨k, rfl, hk, rfl, rfl⟩ := hrel
    by_cases hlt : k < n
    · obtain ⟨b, o, rfl, _, hc⟩ := h.spot (by omega)
      have hk' : k < l.length := by rw [HL.out]; exact hlt
      have hcell : wr.cell? ⟨b, o + k, none⟩ = some (.int .u64 (l[k] : Int)) := hc k hk'
      have hx := hf.get k hk'
      have ha : aboveN l t k < 18446744073709551616 := aboveN_lt ht hf.two k
      have hn : aboveN l t (k + 1) = if t.testBit k then aboveN l t k ||| l[k] else aboveN l t k := by
        rw [aboveN, List.getD_eq_getElem?_getD, List.getElem?_eq_getElem hk']
        rfl
      have ho := u64_or_nat _ _ ha hx
      generalize aboveN l t k = y at *
      generalize l[k] = x at *
      have HN := Lib.hid hn
      clear hn hc
      cases hb : t.testBit k with
      | true =>
        have HB := Lib.hid hb
        have hcall := has_any t k wr ht
        rw [hb] at hcall
        clear hb
        go_wp2_with (go_at_call 30; refine hcall.mono ?_; rintro e w' ⟨rfl, rfl⟩)
        go_roundw
        case rel => exact ⟨k + 1, by go_num, by omega, by rw [HN.out, HB.out]; rfl, rfl⟩
        case measure => simp [intOf]; omega
      | false =>
        have HB := Lib.hid hb
        have hcall := has_any t k wr ht
        rw [hb] at hcall
        clear hb
        go_wp2_with (go_at_call 30; refine hcall.mono ?_; rintro e w' ⟨rfl, rfl⟩)
        go_roundw
        case rel => exact ⟨k + 1, by go_num, by omega, by rw [HN.out, HB.out]; rfl, rfl⟩
        case measure => simp [intOf]; omega
    · obtain rfl : k = n := by have := HL.out; omega
      go_wp2
      go_ret
      exact ⟨rfl, rfl⟩
end Go.Proofs.Ytomokkpfkhfemaa.La
