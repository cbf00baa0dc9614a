/- What the document tells of a name. No condition but the length. -/
import Derived.Test.YtmiconjmeaammaaGreatDoorNdFun
import Derived.Sort.EncStr
import Derived.Lib.Strings
import Derived.Lib.RowBridge
import Derived.WalkKit
import Derived.OwnWalk
import Derived.Laws.StructEq
import Derived.Outline
import Derived.Deep.QuietTactic
import Derived.BigQuiet
namespace Go.Proofs.YtmiconjmeaammaaGreatDoor
open Go.RowKit

set_option maxRecDepth 100000 in
theorem refLetter_any (r : Nat) (b : Bool) (w : World) (h : lett r = b) : Calls Tryz.prog 178 #[.int .u8 (r : Int)] w fun e w' => e = .returned (.bool b) ∧ w = w' := by
  have HB := Lib.hid h
  clear h
  go_enter Tryz.func178, Tryz.ntmps178
  by_cases h1 : 97 ≤ r <;> by_cases h2 : r ≤ 122 <;> by_cases h3 : 65 ≤ r <;> by_cases h4 : r ≤ 90 <;> first | omega | skip
  all_goals (
    go_wp2
    go_ret
    refine ⟨?_, rfl⟩
    rw [← HB.out]
    simp [lett, h1, h2, h3, h4]
    try omega)

set_option maxRecDepth 100000 in
set_option maxHeartbeats 1000000 in
theorem refName_any (s : List UInt8) (w : World) (hs : s.length ≤ 9223372036854775807) : Calls Tryz.prog 171 #[.string (str s)] w fun e w' => e = .returned (.bool (nameB s)) ∧ w = w' := by
  have hsz := str_size s
  generalize hn : s.length = n at *
  have HL := Lib.hid hn
  clear hn
  go_enter Tryz.func171, Tryz.ntmps171
  by_cases h0 : n < 1
  · have HN : Hid (nameB s = false) := by show _ = _; simp only [nameB, HL.out, decide_eq_false_iff_not]; omega
    have h0' : (n : Int) < 1 := by omega
    go_wp2
    go_ret
    exact ⟨by rw [HN.out]; rfl, rfl⟩
  have h0' : ¬ (n : Int) < 1 := by omega
  by_cases h32 : 32 < n
  · have HN : Hid (nameB s = false) := by show _ = _; simp only [nameB, HL.out, decide_eq_false_iff_not]; omega
    have h32' : (32 : Int) < (n : Int) := by omega
    go_wp2
    go_ret
    exact ⟨by rw [HN.out]; rfl, rfl⟩
  have h32' : ¬ (32 : Int) < (n : Int) := by omega
  have hl0 : 0 < s.length := by rw [HL.out]; omega
  have hx0 : ∀ W, (Instr.index 9 (.string (str s)) (.int .i64 0)).run Tryz.prog W = .ok (.int .u8 (s[0].toNat : Int)) W := index_at s 0 hl0
  cases hlt : lett s[0].toNat with
  | false =>
    have HN : Hid (nameB s = false) := by
      show _ = _
      simp only [nameB, decide_eq_false_iff_not]
      intro h
      have := h.2.2 0 hl0
      simp [okAt, hlt] at this
    have HT := Lib.hid hlt
    clear hlt
    generalize s[0].toNat = q at *
    generalize str s = S at *
    go_wp2_with fail
    refine (refLetter_any q _ _ HT.out).mono ?_
    rintro e w1 ⟨rfl, rfl⟩
    go_wp2_with fail
    go_ret
    exact ⟨by rw [HN.out]; rfl, rfl⟩
  | true =>
    have HT := Lib.hid hlt
    have H0 : Hid (∀ i (h : i < s.length), i < 1 → okAt i s[i].toNat = true) := by
      intro i hi h1
      obtain rfl : i = 0 := by omega
      simp [okAt, hlt]
    clear hlt
    generalize s[0].toNat = q at *
    go_wp2_with fail
    refine (refLetter_any q _ _ HT.out).mono ?_
    rintro e w1 ⟨rfl, rfl⟩
    go_wp2_with fail
    go_loop [3] (fun i3 => ∃ k : Nat, i3 = .int .i64 (k : Int) ∧ 1 ≤ k ∧ k ≤ n ∧ ∀ i (h : i < s.length), i < k → okAt i s[i].toNat = true) (fun i3 => n - (intOf i3).toNat)
    case atStart => exact ⟨1, rfl, Nat.le_refl _, by omega, H0.out⟩
    case round =>
      obtain ⟨k, rfl, hk1, hk, hok⟩ := hrel
      clear hx0 HT H0
      by_cases hlt : k < n
      · have hk' : k < s.length := by rw [HL.out]; exact hlt
        have hxk := index_at s k hk'
        have hlti : (k : Int) < (n : Int) := by omega
        by_cases hy : okAt k s[k].toNat = true
        · have HS : Hid (∀ i (h : i < s.length), i < k + 1 → okAt i s[i].toNat = true) := by
            intro i hi hj
            rcases Nat.lt_or_ge i k with h | h
            · exact hok i hi h
            · obtain rfl : i = k := by omega
              exact hy
          clear hok
          generalize s[k].toNat = r at *
          unfold okAt at hy
          generalize hb1 : lett r = b1 at *
          have HB := Lib.hid hb1
          clear hb1
          go_wp2_with fail
          refine (refLetter_any r _ _ HB.out).mono ?_
          rintro e w1 ⟨rfl, rfl⟩
          cases b1 with
          | true =>
            go_wp2_with fail
            go_round
            case rel => exact ⟨k + 1, by go_num, by omega, by omega, HS.out⟩
            case measure => simp [intOf]; omega
          | false =>
            have hd : (48 ≤ r ∧ r ≤ 57) ∨ r = 95 := by
              simp [digi] at hy
              omega
            go_wp2_with fail
            all_goals (
              first
                | (exfalso; omega)
                | (go_round
                   case rel => exact ⟨k + 1, by go_num, by omega, by omega, HS.out⟩
                   case measure => simp [intOf]; omega)
                | (exfalso; simp at *; omega))
        · have HN : Hid (nameB s = false) := by
            show _ = _
            simp only [nameB, decide_eq_false_iff_not]
            exact fun h => hy (h.2.2 k hk')
          clear hok
          rw [Bool.not_eq_true] at hy
          generalize s[k].toNat = r at *
          unfold okAt at hy
          generalize hb1 : lett r = b1 at *
          have HB := Lib.hid hb1
          clear hb1
          go_wp2_with fail
          refine (refLetter_any r _ _ HB.out).mono ?_
          rintro e w1 ⟨rfl, rfl⟩
          cases b1 with
          | true => simp at hy
          | false =>
            have hd : (r < 48 ∨ 57 < r) ∧ r ≠ 95 := by
              simp [digi] at hy
              omega
            go_wp2_with fail
            all_goals (
              first
                | (exfalso; omega)
                | (go_ret; exact ⟨by rw [HN.out]; rfl, rfl⟩)
                | (exfalso; simp at *; omega))
      · have hlti : ¬ (k : Int) < (n : Int) := by omega
        have HN : Hid (nameB s = true) := by
          show _ = _
          have hl := HL.out
          simp only [nameB, decide_eq_true_eq]
          exact ⟨by omega, by omega, fun i h => hok i h (by omega)⟩
        clear hok
        go_wp2
        go_ret
        exact ⟨by rw [HN.out]; rfl, rfl⟩

end Go.Proofs.YtmiconjmeaammaaGreatDoor
