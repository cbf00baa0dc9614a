/- What SameBytes does: whether two lists of bytes are the same. No condition. -/
import Derived.Test.YtakkmmnpocbakaaGreatDoorPut
import Derived.Deep.QuietTactic
import Derived.BigQuiet
namespace Go.Proofs.YtakkmmnpocbakaaGreatDoor
open Go.RowKit

/-- k bytes are the same. -/
def SRel (n : Nat) (w : World) (i5 : Value) (wr : World) : Prop := ∃ k q : Nat, i5 = .int .i64 (k : Int) ∧ k ≤ n ∧ wr = w.drewN q

set_option maxRecDepth 100000 in
set_option maxHeartbeats 400000 in
theorem same_some (b1 o1 b2 o2 n c1 c2 : Nat) (l : List UInt8) (w : World) (hn : l.length = n) (hm : n ≤ 9223372036854775807)
    (h1 : ∀ j (h : j < l.length), w.cell? ⟨b1, o1 + j, none⟩ = some (.int .u8 (l[j].toNat : Int))) (h2 : ∀ j (h : j < l.length), w.cell? ⟨b2, o2 + j, none⟩ = some (.int .u8 (l[j].toNat : Int))) :
    Calls Tryz.prog 8 #[.slice (some ⟨b1, o1, none⟩) n c1, .slice (some ⟨b2, o2, none⟩) n c2] w fun e w' => e = .returned (.bool true) ∧ ∃ k, w' = w.drewN k := by
  have HN := Lib.hid hn
  have H1 := Lib.hid h1
  have H2 := Lib.hid h2
  clear hn h1 h2
  go_enter Tryz.func8, Tryz.ntmps8
  go_wp2
  go_loopw [5] (fun i5 wr => SRel n w i5 wr) (fun i5 _ => n - (intOf i5).toNat)
  case atStart => exact ⟨0, 0, rfl, by omega, rfl⟩
  case round =>
    obtain ⟨k, q, rfl, hk, rfl⟩ := hrel
    by_cases hlt : k < n
    · have hl : k < l.length := by have := HN.out; omega
      have e1 := H1.out k hl
      have e2 := H2.out k hl
      generalize l[k].toNat = u at *
      go_wp2
      go_quiet (fail)
      go_wp2
      go_roundw
      case rel => exact ⟨k + 1, _, by go_num, by omega, rfl⟩
      case measure => simp [intOf]; omega
    · go_wp2
      go_ret
      exact ⟨rfl, _, rfl⟩

set_option maxRecDepth 100000 in
theorem same_none (A1 A2 : Option Addr) (c1 c2 : Nat) (w : World) : Calls Tryz.prog 8 #[.slice A1 0 c1, .slice A2 0 c2] w fun e w' => e = .returned (.bool true) ∧ ∃ k, w' = w.drewN k := by
  go_enter Tryz.func8, Tryz.ntmps8
  go_wp2
  refine wp_loop_rounds 1 ?_
  rw [rounds_succ]
  go_wp2
  go_ret
  exact ⟨rfl, 0, rfl⟩

/-- SameBytes, of two lists that read alike. -/
theorem same_any (B1 B2 : Nat) (A1 A2 : Option Addr) (n1 c1 n2 c2 : Nat) (l : List UInt8) (w : World) (h1 : Rd w B1 A1 n1 c1 l) (h2 : Rd w B2 A2 n2 c2 l) : Calls Tryz.prog 8 #[.slice A1 n1 c1, .slice A2 n2 c2] w fun e w' => e = .returned (.bool true) ∧ ∃ k, w' = w.drewN k := by
  obtain rfl : n1 = n2 := by rw [← h1.len, ← h2.len]
  rcases Nat.eq_zero_or_pos n1 with hn | hn
  · subst hn
    exact same_none A1 A2 c1 c2 w
  · obtain ⟨b1, o1, rfl, _, hc1⟩ := h1.spot hn
    obtain ⟨b2, o2, rfl, _, hc2⟩ := h2.spot hn
    have h3 := h1.cap
    have h4 := h1.top
    unfold maxLen at h4
    exact same_some b1 o1 b2 o2 n1 c1 c2 l w h1.len (by omega) hc1 hc2

end Go.Proofs.YtakkmmnpocbakaaGreatDoor
