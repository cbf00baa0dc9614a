/- What Below tells, the code's and the document's. No condition but sizes. -/
import Derived.Test.YtomokkpfkhfemaaLaCheck
namespace Go.Proofs.Ytomokkpfkhfemaa.La
open Go.RowKit

/-- Whether a is below b. -/
def belowB (l : List Nat) (a b : Nat) : Bool := decide (a < 64 ∧ b < 64 ∧ a < l.length ∧ b < l.length) && bt l a b

theorem belowB_no {l : List Nat} {a b : Nat} (h : ¬ (a < 64 ∧ b < 64 ∧ a < l.length ∧ b < l.length)) : belowB l a b = false := by
  rw [belowB, decide_eq_false h, Bool.false_and]
theorem belowB_yes {l : List Nat} {a b : Nat} (h : a < 64 ∧ b < 64 ∧ a < l.length ∧ b < l.length) : belowB l a b = l[a].testBit b := by
  rw [belowB, decide_eq_true h, Bool.true_and, bt_get h.2.2.1]

set_option maxRecDepth 100000 in
set_option maxHeartbeats 400000 in
theorem below_any (A : Option Addr) (n c B : Nat) (l : List Nat) (a b : Nat) (w : World) (h : Rd nm w B A n c l) (hf : Fit l) (ha : a < 18446744073709551616) (hb : b < 18446744073709551616) :
    Calls Try.prog 21 #[.slice A n c, .int .u64 (a : Int), .int .u64 (b : Int)] w fun e w' => e = .returned (.bool (belowB l a b)) ∧ w = w' := by
  have HL := Lib.hid h.len
  have hcap := h.cap
  have htop := h.top
  unfold maxLen at htop
  have HN : Hid (¬ (a < 64 ∧ b < 64 ∧ a < n ∧ b < n) → belowB l a b = false) := Lib.hid fun hn => belowB_no (by rw [HL.out]; exact hn)
  by_cases h1 : a < 64
  · by_cases h2 : b < 64
    · by_cases h3 : a < n
      · by_cases h4 : b < n
        · obtain ⟨bk, o, rfl, _, hc⟩ := h.spot (by omega)
          have ha' : a < l.length := by rw [HL.out]; exact h3
          have HE := Lib.hid (belowB_yes (l := l) ⟨h1, h2, ha', by rw [HL.out]; exact h4⟩)
          have hcell : w.cell? ⟨bk, o + a, none⟩ = some (.int .u64 (l[a] : Int)) := hc a ha'
          have hcall := has_any l[a] b w (hf.get a ha')
          clear hc
          generalize l[a] = x at *
          go_enter Try.func21, Try.ntmps21
          go_wp2_with (go_at_call 30; refine hcall.mono ?_; rintro e w' ⟨rfl, rfl⟩)
          go_ret
          exact ⟨by rw [HE.out]; rfl, rfl⟩
        · go_enter Try.func21, Try.ntmps21
          go_wp2
          go_ret
          exact ⟨by rw [HN.out (by omega)]; rfl, rfl⟩
      · go_enter Try.func21, Try.ntmps21
        go_wp2
        go_ret
        exact ⟨by rw [HN.out (by omega)]; rfl, rfl⟩
    · go_enter Try.func21, Try.ntmps21
      go_wp2
      go_ret
      exact ⟨by rw [HN.out (by omega)]; rfl, rfl⟩
  · go_enter Try.func21, Try.ntmps21
    go_wp2
    go_ret
    exact ⟨by rw [HN.out (by omega)]; rfl, rfl⟩


theorem below_q (A : Option Addr) (n c B : Nat) (l : List Nat) (a b : Nat) (w : World) (h : Rd nm w B A n c l) (hf : Fit l) (ha : a < 18446744073709551616) (hb : b < 18446744073709551616) :
    Calls Try.prog 21 #[.slice A n c, .int .u64 (a : Int), .int .u64 (b : Int)] w fun e w' => e = .returned (.bool (belowB l a b)) ∧ w' = w :=
  (below_any A n c B l a b w h hf ha hb).mono fun _ _ ⟨he, hw⟩ => ⟨he, hw.symm⟩
end Go.Proofs.Ytomokkpfkhfemaa.La
