/- What leftOf and leftOfHalves do: a half divided, and what is left of each of the sixteen. No condition but sizes. -/
import Derived.Test.YthimojebincheaaCrc
import Derived.Test.YthimojebincheaaBytes
import Derived.Test.YthimojebincheaaChecked
import Derived.Laws.BitsAllLaws
import Derived.Laws.Rows
import Derived.Great.BuildSlice
import Derived.Laws.CopyOwn
import Derived.WalkKit
import Derived.OwnWalk
import Derived.Outline
namespace Go.Proofs.Ythimojebincheaa
open Go.RowKit

theorem and_one (x : Nat) : x &&& 1 = x % 2 := Nat.and_one_is_mod x

def HRel (h : Nat) (a4 x0 : Value) : Prop := ∃ k x : Nat, a4 = .int .i64 (k : Int) ∧ k ≤ 4 ∧ x0 = .int .u32 (x : Int) ∧ x < 4294967296 ∧ it (4 - k) x = it 4 h

set_option maxRecDepth 100000 in
set_option maxHeartbeats 400000 in
theorem leftOf_any (h : Nat) (w : World) (hh : h < 4294967296) :
    Calls Try.prog 20 #[.int .u32 (h : Int)] w fun e w' => e = .returned (.int .u32 (it 4 h : Int)) ∧ w = w' := by
  have H := Lib.hid hh
  clear hh
  go_enter Try.func20, Try.ntmps20
  go_wp2
  go_loop [0, 4] (fun x0 a4 => HRel h a4 x0) (fun _ a4 => 4 - (intOf a4).toNat)
  case atStart => exact ⟨0, h, rfl, by omega, rfl, H.out, rfl⟩
  case round =>
    obtain ⟨k, x, rfl, hk, rfl, hx, hi⟩ := hrel
    have HI := Lib.hid hi
    clear hi
    have ha : bits .and .u32 (x : Int) 1 = ((x % 2 : Nat) : Int) := by
      rw [← and_one]; exact u32_and_nat x 1 hx (by omega)
    by_cases hlt : k < 4
    · rcases Nat.mod_two_eq_zero_or_one x with h2 | h2
      · rw [h2] at ha
        have HN : Hid (it (4 - (k + 1)) (x / 2) = it 4 h) := by
          rw [← HI.out, show 4 - k = (4 - (k + 1)) + 1 by omega]
          show _ = it _ (bs x)
          unfold bs
          rw [if_neg (by omega)]
        go_wp2
        go_round
        case rel => exact ⟨k + 1, x / 2, by go_num, by omega, by go_num, by omega, HN.out⟩
        case measure => simp [intOf]; omega
      · rw [h2] at ha
        have hb := bs_lt hx
        have HN : Hid (it (4 - (k + 1)) (bs x) = it 4 h) := by
          rw [← HI.out, show 4 - k = (4 - (k + 1)) + 1 by omega]
          rfl
        have hxo : bits .xor .u32 ((x : Int) / 2) 3988292384 = ((bs x : Nat) : Int) := by
          unfold bs
          rw [if_pos h2]
          exact u32_xor_nat (x / 2) dv (by omega) dv_lt
        generalize bs x = y at *
        go_wp2
        go_round
        case rel => exact ⟨k + 1, y, by go_num, by omega, rfl, hb, HN.out⟩
        case measure => simp [intOf]; omega
    · obtain rfl : k = 4 := by omega
      have e : x = it 4 h := HI.out
      subst e
      clear HI ha
      go_wp2
      go_ret
      exact ⟨rfl, rfl⟩

/-- What is left of each half, k of them. -/
def lefts (k : Nat) : List Value := (List.range 16).map fun j => .int .u32 (if j < k then (it 4 j : Int) else 0)

theorem lefts_at (k j : Nat) (h : j < 16) : (lefts k).toArray[j]? = some (.int .u32 (if j < k then (it 4 j : Int) else 0)) := by
  simp [lefts, h]

theorem lefts_set (k : Nat) : (lefts k).toArray.setIfInBounds k (.int .u32 (it 4 k : Int)) = (lefts (k + 1)).toArray := by
  apply Array.ext_getElem?
  intro j
  rw [Array.getElem?_setIfInBounds]
  by_cases hj : j < 16
  · rw [lefts_at _ j hj, lefts_at _ j hj]
    by_cases e : k = j
    · subst e
      simp [lefts, hj]
    · have e' : (j < k + 1) = (j < k) := propext ⟨fun h => by omega, fun h => by omega⟩
      rw [if_neg e]
      simp only [e']
  · simp [lefts, hj]
    intro e
    omega

theorem lefts_one (k : Nat) : (lefts k).toArray.all (·.oneCell') = true := by
  simp [lefts, Value.oneCell']

def LHRel (w : World) (i3 : Value) (wr : World) : Prop :=
  ∃ k : Nat, i3 = .int .i64 (k : Int) ∧ k ≤ 16 ∧ wr.heap[w.heap.size]? = some (.cells (lefts 0).toArray 38 (0, 0)) ∧ wr.heap[w.heap.size + 1]? = some (.cells (lefts k).toArray 38 (0, 0)) ∧ Below w.heap.size w wr

theorem arr_info : (Try.prog.info? 38).map (·.size) = some 16 := by kernel_rfl

set_option maxRecDepth 100000 in
set_option maxHeartbeats 400000 in
theorem leftOfHalves_any (w : World) :
    Calls Try.prog 17 #[] w fun e w' => e = .returned (.agg (lefts 16).toArray) ∧ Below w.heap.size w w' := by
  go_enter Try.func17, Try.ntmps17
  go_wp2
  go_loopw [3] (fun i3 wr => LHRel w i3 wr) (fun i3 _ => 16 - (intOf i3).toNat)
  case atStart => exact ⟨0, rfl, by omega, heap_alloc2_old _ _ _, heap_alloc2_new _ _ _, ((Below.refl _ _).alloc (Nat.le_refl _) _).alloc (by simp) _⟩
  case round =>
    obtain ⟨k, rfl, hk, h0, h1, hb⟩ := hrel
    by_cases hlt : k < 16
    · have hc := (cell_of_row wr (w.heap.size + 1) k _ _ _ h1).trans (lefts_at k k hlt)
      have hf := frozen_of_row wr (w.heap.size + 1) k _ _ h1
      have H0 := Lib.hid h0
      have H1 := Lib.hid h1
      clear h0 h1
      go_wp2_with (go_at_call 20; refine (leftOf_any k _ (by omega)).mono ?_; rintro e w' ⟨rfl, rfl⟩)
      go_roundw
      case rel => exact ⟨k + 1, by go_num, by omega, (heap_setCell_other _ _ _ _ (by simp)).trans H0.out, by rw [heap_setCell_same _ _ _ _ _ _ H1.out, lefts_set], hb.setCell (p := ⟨w.heap.size + 1, k, none⟩) (by simp) _⟩
      case measure => simp [intOf]; omega
    · obtain rfl : k = 16 := by omega
      have H0 := Lib.hid h0
      have H1 := Lib.hid h1
      clear h0 h1
      go_wp2_with (first
        | (refine wpList_load_row rfl 38 (.tmp 1) rfl (w.heap.size + 1) rfl 38 (lefts 16).toArray (0, 0) _ H1.out Try.underlying38 rfl arr_info ?_)
        | (refine wpList_store_rowTo rfl 38 (.tmp 0) (.tmp 12) rfl rfl w.heap.size (lefts 16).toArray rfl rfl 38 (lefts 0).toArray H0.out arr_info rfl (lefts_one 16) ?_))
      exact bodyPost_ret (v := .agg (lefts 16).toArray) (results_cell_row rfl _ _ w.heap.size 38 (lefts 16).toArray (0, 0) _ rfl (setRow_heap _ _ _ _ _ _ H0.out) Try.underlying38 rfl arr_info) rfl ⟨rfl, below_setRow hb (Nat.le_refl _) _⟩
end Go.Proofs.Ythimojebincheaa
