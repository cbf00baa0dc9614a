/- What the statements' own helpers do: has, SameTexts, TextsSize, great. Condition: the texts can be read. -/
import Derived.Test.YtkjeejaecagbaaaTxt
import Derived.Test.YtkjeejaecagbaaaChecked
import Derived.WalkKit
import Derived.OwnWalk
import Derived.Deep.QuietTactic
import Derived.BigQuiet
namespace Go.Proofs.Ytkjeejaecagbaaa
open Go.RowKit

set_option maxRecDepth 100000 in
set_option maxHeartbeats 400000 in
theorem has_any (B : Nat) (A : Option Addr) (m c : Nat) (ss : List (List UInt8)) (s : List UInt8) (w : World) (h : Rd txt w B A m c ss) :
    Calls Try.prog 11 #[.slice A m c, txt s] w fun e w' => e = .returned (.bool (decide (s ∈ ss))) ∧ w = w' := by
  have HL := Lib.hid h.len
  have htop := h.top
  have hcap := h.cap
  unfold maxLen at htop
  rw [show txt s = .string (str s) from rfl]
  go_enter Try.func11, Try.ntmps11
  go_wp2
  go_loop [5] (fun i5 => ∃ k : Nat, i5 = .int .i64 (k : Int) ∧ k ≤ m ∧ s ∉ ss.take k) (fun i5 => m - (intOf i5).toNat)
  case atStart => exact ⟨0, rfl, Nat.zero_le _, by simp⟩
  case round =>
    obtain ⟨k, rfl, hk, hno⟩ := hrel
    by_cases hlt : k < m
    · obtain ⟨b, o, rfl, _, hc⟩ := h.spot (by omega)
      have hk' : k < ss.length := by rw [HL.out]; exact hlt
      have hcell : w.cell? ⟨b, o + k, none⟩ = some (.string (str ss[k])) := hc k hk'
      have hsm := same_str ss[k] s
      clear hc
      by_cases hx : ss[k] = s
      · rw [decide_eq_true hx] at hsm
        have HM : Hid (decide (s ∈ ss) = true) := by show _ = _; rw [decide_eq_true_eq, ← hx]; exact List.getElem_mem hk'
        generalize str ss[k] = q at *
        go_wp2
        go_ret
        exact ⟨by rw [HM.out]; rfl, rfl⟩
      · rw [decide_eq_false hx] at hsm
        have HS : Hid (s ∉ ss.take (k + 1)) := by
          show ¬ _
          rw [List.take_succ_eq_append_getElem hk', List.mem_append]
          rintro (h' | h')
          · exact hno h'
          · exact hx (List.mem_singleton.1 h').symm
        generalize str ss[k] = q at *
        go_wp2
        go_round
        case rel => exact ⟨k + 1, by go_num, by omega, HS.out⟩
        case measure => simp [intOf]; omega
    · have HM : Hid (decide (s ∈ ss) = false) := by
        show _ = _
        rw [List.take_of_length_le (by rw [HL.out]; omega)] at hno
        simpa using hno
      go_wp2
      go_ret
      exact ⟨by rw [HM.out]; rfl, rfl⟩

def SRel (n : Nat) (w : World) (i5 : Value) (wr : World) : Prop := ∃ k q : Nat, i5 = .int .i64 (k : Int) ∧ k ≤ n ∧ wr = w.drewN q

set_option maxRecDepth 100000 in
set_option maxHeartbeats 400000 in
theorem same_any (B B' : Nat) (A A' : Option Addr) (m m' c c' : Nat) (ss : List (List UInt8)) (w : World) (h : Rd txt w B A m c ss) (h' : Rd txt w B' A' m' c' ss) :
    Calls Try.prog 12 #[.slice A m c, .slice A' m' c'] w fun e w' => e = .returned (.bool true) ∧ ∃ k, w' = w.drewN k := by
  obtain rfl : m = m' := h.len.symm.trans h'.len
  have HL := Lib.hid h.len
  have htop := h.top
  have hcap := h.cap
  unfold maxLen at htop
  go_enter Try.func12, Try.ntmps12
  go_wp2
  go_loopw [5] (fun i5 wr => SRel m w i5 wr) (fun i5 _ => m - (intOf i5).toNat)
  case atStart => exact ⟨0, 0, rfl, by omega, rfl⟩
  case round =>
    obtain ⟨k, q, rfl, hk, rfl⟩ := hrel
    by_cases hlt : k < m
    · obtain ⟨b, o, rfl, _, hc⟩ := h.spot (by omega)
      obtain ⟨b', o', rfl, _, hc'⟩ := h'.spot (by omega)
      have hl : k < ss.length := by rw [HL.out]; exact hlt
      have e1 : w.cell? ⟨b, o + k, none⟩ = some (.string (str ss[k])) := hc k hl
      have e2 : w.cell? ⟨b', o' + k, none⟩ = some (.string (str ss[k])) := hc' k hl
      clear hc hc'
      generalize str ss[k] = u at *
      go_wp2
      go_quiet (fail)
      go_wp2
      go_roundw
      case rel => exact ⟨k + 1, _, by go_num, by omega, rfl⟩
      case measure => simp [intOf]; omega
    · go_wp2
      go_ret
      exact ⟨rfl, _, rfl⟩

set_option maxRecDepth 100000 in
set_option maxHeartbeats 400000 in
theorem size_any (B : Nat) (A : Option Addr) (m c : Nat) (ss : List (List UInt8)) (w : World) (h : Rd txt w B A m c ss) :
    Calls Try.prog 14 #[.slice A m c] w fun e w' => (∃ z : Int, e = .returned (.int .i64 z)) ∧ w = w' := by
  have HL := Lib.hid h.len
  have htop := h.top
  have hcap := h.cap
  unfold maxLen at htop
  go_enter Try.func14, Try.ntmps14
  go_wp2
  go_loop [3, 4] (fun n3 i4 => ∃ (z : Int) (k : Nat), n3 = .int .i64 z ∧ i4 = .int .i64 (k : Int) ∧ k ≤ m) (fun _ i4 => m - (intOf i4).toNat)
  case atStart => exact ⟨_, 0, rfl, rfl, Nat.zero_le _⟩
  case round =>
    obtain ⟨z, k, rfl, rfl, hk⟩ := hrel
    by_cases hlt : k < m
    · obtain ⟨b, o, rfl, _, hc⟩ := h.spot (by omega)
      have hk' : k < ss.length := by rw [HL.out]; exact hlt
      have hcell : w.cell? ⟨b, o + k, none⟩ = some (.string (str ss[k])) := hc k hk'
      clear hc
      generalize str ss[k] = q at *
      by_cases hz : z ≤ 1048576
      · go_wp2
        go_round
        case rel => exact ⟨_, k + 1, rfl, by go_num, by omega⟩
        case measure => simp [intOf]; omega
      · go_wp2
        go_ret
        exact ⟨⟨_, rfl⟩, rfl⟩
    · go_wp2
      go_ret
      exact ⟨⟨_, rfl⟩, rfl⟩

set_option maxRecDepth 100000 in
set_option maxHeartbeats 400000 in
theorem great_any (B : Nat) (A : Option Addr) (m c : Nat) (ss : List (List UInt8)) (w : World) (h : Rd txt w B A m c ss) :
    Calls Try.prog 6 #[.slice A m c] w fun e w' => ∃ b : Bool, e = .returned (.bool b) ∧ w = w' ∧ (b = false → m ≤ 150) := by
  have htop := h.top
  have hcap := h.cap
  unfold maxLen at htop
  go_enter Try.func6, Try.ntmps6
  by_cases hm : 150 < m
  · have hm' : (150 : Int) < (m : Int) := by omega
    go_wp2
    go_ret
    exact ⟨true, rfl, rfl, fun h => by cases h⟩
  · have hm' : ¬ (150 : Int) < (m : Int) := by omega
    go_wp2_with fail
    refine (size_any B A m c ss w h).mono ?_
    rintro e w1 ⟨⟨z, rfl⟩, rfl⟩
    go_wp2_with fail
    all_goals go_ret
    all_goals exact ⟨_, rfl, rfl, fun _ => by omega⟩
end Go.Proofs.Ytkjeejaecagbaaa
