/- What the statements' own helpers do: SameTexts, TextsSize. Condition: the texts can be read. -/
import Derived.Test.YtkjeejaecagbaaaGreatDoorTxt
import Derived.Test.YtkjeejaecagbaaaGreatDoorChecked
import Derived.WalkKit
import Derived.OwnWalk
import Derived.Deep.QuietTactic
import Derived.BigQuiet
namespace Go.Proofs.YtkjeejaecagbaaaGreatDoor
open Go.RowKit

def SRel (n : Nat) (w : World) (i5 : Value) (wr : World) : Prop := ∃ k q : Nat, i5 = .int .i64 (k : Int) ∧ k ≤ n ∧ wr = w.drewN q

set_option maxRecDepth 100000 in
set_option maxHeartbeats 400000 in
theorem same_any (B B' : Nat) (A A' : Option Addr) (m m' c c' : Nat) (ss : List (List UInt8)) (w : World) (h : Rd txt w B A m c ss) (h' : Rd txt w B' A' m' c' ss) :
    Calls Tryz.prog 13 #[.slice A m c, .slice A' m' c'] w fun e w' => e = .returned (.bool true) ∧ ∃ k, w' = w.drewN k := by
  obtain rfl : m = m' := h.len.symm.trans h'.len
  have HL := Lib.hid h.len
  have htop := h.top
  have hcap := h.cap
  unfold maxLen at htop
  go_enter Tryz.func13, Tryz.ntmps13
  go_wp2
  go_loopw [5] (fun i5 wr => SRel m w i5 wr) (fun i5 _ => m - (intOf i5).toNat)
  case atStart => exact ⟨0, 0, rfl, by omega, rfl⟩
  case round =>
    obtain ⟨k, q, rfl, hk, rfl⟩ := hrel
    by_cases hlt : k < m
    · obtain ⟨b, o, rfl, _, hc⟩ := h.spot (by omega)
      obtain ⟨b', o', rfl, _, hc'⟩ := h'.spot (by omega)
      have hl : k < ss.length := by rw [HL.out]; exact hlt
      have e1 : w.cell? ⟨b, o + k, none⟩ = some (.string (str ss[k])) := hc k hl
      have e2 : w.cell? ⟨b', o' + k, none⟩ = some (.string (str ss[k])) := hc' k hl
      clear hc hc'
      generalize str ss[k] = u at *
      go_wp2
      go_quiet (fail)
      go_wp2
      go_roundw
      case rel => exact ⟨k + 1, _, by go_num, by omega, rfl⟩
      case measure => simp [intOf]; omega
    · go_wp2
      go_ret
      exact ⟨rfl, _, rfl⟩

set_option maxRecDepth 100000 in
set_option maxHeartbeats 400000 in
theorem size_any (B : Nat) (A : Option Addr) (m c : Nat) (ss : List (List UInt8)) (w : World) (h : Rd txt w B A m c ss) :
    Calls Tryz.prog 4 #[.slice A m c] w fun e w' => (∃ z : Int, e = .returned (.int .i64 z)) ∧ w = w' := by
  have HL := Lib.hid h.len
  have htop := h.top
  have hcap := h.cap
  unfold maxLen at htop
  go_enter Tryz.func4, Tryz.ntmps4
  go_wp2
  go_loop [3, 4] (fun n3 i4 => ∃ (z : Int) (k : Nat), n3 = .int .i64 z ∧ i4 = .int .i64 (k : Int) ∧ k ≤ m) (fun _ i4 => m - (intOf i4).toNat)
  case atStart => exact ⟨_, 0, rfl, rfl, Nat.zero_le _⟩
  case round =>
    obtain ⟨z, k, rfl, rfl, hk⟩ := hrel
    by_cases hlt : k < m
    · obtain ⟨b, o, rfl, _, hc⟩ := h.spot (by omega)
      have hk' : k < ss.length := by rw [HL.out]; exact hlt
      have hcell : w.cell? ⟨b, o + k, none⟩ = some (.string (str ss[k])) := hc k hk'
      clear hc
      generalize str ss[k] = q at *
      by_cases hz : z ≤ 1048576
      · go_wp2
        go_round
        case rel => exact ⟨_, k + 1, rfl, by go_num, by omega⟩
        case measure => simp [intOf]; omega
      · go_wp2
        go_ret
        exact ⟨⟨_, rfl⟩, rfl⟩
    · go_wp2
      go_ret
      exact ⟨⟨_, rfl⟩, rfl⟩

end Go.Proofs.YtkjeejaecagbaaaGreatDoor
