/- What the document's answers do: Find, Sorted and Name of cartoucheref03. Condition: the texts can be read. -/
import Derived.Test.YtkjeejaecagbaaaGreatDoorRises
import Derived.Test.YtkjeejaecagbaaaGreatDoorName
import Derived.Test.YtkjeejaecagbaaaGreatDoorHelp
namespace Go.Proofs.YtkjeejaecagbaaaGreatDoor
open Go.RowKit

set_option maxRecDepth 100000 in
set_option maxHeartbeats 1000000 in
theorem refFind_any (B : Nat) (A : Option Addr) (m c : Nat) (ss : List (List UInt8)) (s : List UInt8) (w : World) (h : Rd txt w B A m c ss) :
    Calls Tryz.prog 8 #[.slice A m c, .string (str s)] w fun e w' => e = .returned (.tuple #[.int .i64 (fd ss s : Int), .bool (isAt ss s)]) ∧ ∃ q, w' = w.drewN q := by
  have HL := Lib.hid h.len
  have htop := h.top
  have hcap := h.cap
  unfold maxLen at htop
  go_enter Tryz.func8, Tryz.ntmps8
  go_wp2
  go_loop [6] (fun i6 => ∃ k : Nat, i6 = .int .i64 (k : Int) ∧ k ≤ m ∧ ∀ j (hj : j < ss.length), j < k → ss[j] < s) (fun i6 => m - (intOf i6).toNat)
  case atStart => exact ⟨0, rfl, Nat.zero_le _, fun _ _ h => absurd h (by omega)⟩
  case round =>
    obtain ⟨k, rfl, hk, hah⟩ := hrel
    by_cases hlt : k < m
    · obtain ⟨b, o, rfl, _, hc⟩ := h.spot (by omega)
      have hk' : k < ss.length := by rw [HL.out]; exact hlt
      have hcell : w.cell? ⟨b, o + k, none⟩ = some (.string (str ss[k])) := hc k hk'
      have hls := less_str ss[k] s
      have hsm := same_str ss[k] s
      have hlti : (k : Int) < (m : Int) := by omega
      clear hc
      by_cases hx : ss[k] < s
      · rw [decide_eq_true hx] at hls
        have HS : Hid (∀ j (hj : j < ss.length), j < k + 1 → ss[j] < s) := by
          intro j hj hjk
          rcases Nat.lt_or_ge j k with h' | h'
          · exact hah j hj h'
          · obtain rfl : j = k := by omega
            exact hx
        clear hah hsm
        generalize str ss[k] = q at *
        go_wp2
        go_round
        case rel => exact ⟨k + 1, by go_num, by omega, HS.out⟩
        case measure => simp [intOf]; omega
      · rw [decide_eq_false hx] at hls
        have HF : Hid (fd ss s = k) := fd_eq (Nat.le_of_lt hk') hah (fun _ => hx)
        have HI : Hid (isAt ss s = decide (ss[k] = s)) := by show _ = _; simp [isAt, HF.out, hk']
        clear hah
        generalize decide (ss[k] = s) = d at *
        generalize str ss[k] = q at *
        go_wp2
        go_quiet (fail)
        go_wp2
        go_ret2
        exact ⟨by rw [HF.out, HI.out]; rfl, _, rfl⟩
    · have hlti : ¬ (k : Int) < (m : Int) := by omega
      have HF : Hid (fd ss s = k) := fd_eq (by have := HL.out; omega) hah (fun h' => absurd h' (by rw [HL.out]; omega))
      have HI : Hid (isAt ss s = false) := by show _ = _; simp only [isAt, HF.out, decide_eq_false_iff_not]; rw [List.getElem?_eq_none (by rw [HL.out]; omega)]; simp
      clear hah
      go_wp2
      go_quiet (fail)
      go_wp2
      go_ret2
      exact ⟨by rw [HF.out, HI.out]; rfl, _, rfl⟩

def UpRel (ss : List (List UInt8)) (w : World) (i3 : Value) (wr : World) : Prop :=
  ∃ k q : Nat, i3 = .int .i64 ((k : Int) + 1) ∧ k ≤ ss.length - 1 ∧ wr = w.drewN q ∧ ∀ x ∈ (pairs ss).take k, x.1 < x.2

set_option maxRecDepth 100000 in
set_option maxHeartbeats 1000000 in
theorem refSorted_any (B : Nat) (A : Option Addr) (m c : Nat) (ss : List (List UInt8)) (w : World) (h : Rd txt w B A m c ss) :
    Calls Tryz.prog 10 #[.slice A m c] w fun e w' => e = .returned (.bool (rises ss)) ∧ ∃ q, w' = w.drewN q := by
  have HL := Lib.hid h.len
  have htop := h.top
  have hcap := h.cap
  unfold maxLen at htop
  go_enter Tryz.func10, Tryz.ntmps10
  go_wp2
  go_loopw [3] (fun i3 wr => UpRel ss w i3 wr) (fun i3 _ => m - (intOf i3).toNat)
  case atStart => exact ⟨0, 0, rfl, Nat.zero_le _, rfl, by simp⟩
  case round =>
    obtain ⟨k, q, rfl, hk, rfl, hall⟩ := hrel
    by_cases hlt : k + 1 < m
    · obtain ⟨b, o, rfl, _, hc⟩ := h.spot (by omega)
      have hk' : k + 1 < ss.length := by rw [HL.out]; exact hlt
      have hc0 : w.cell? ⟨b, o + k, none⟩ = some (.string (str ss[k])) := hc k (by omega)
      have hc1 : w.cell? ⟨b, o + (k + 1), none⟩ = some (.string (str ss[k + 1])) := hc (k + 1) hk'
      have hls := less_str ss[k] ss[k + 1]
      have HS := Lib.hid (pairs_snoc hk')
      have hlti : (k : Int) + 1 < (m : Int) := by omega
      have hltk : (k : Int) < (m : Int) := by omega
      have hw1 : IntKind.i64.wrap ((k : Int) + 1 - 1) = (k : Int) := by rw [IntKind.wrap_i64]; omega
      have hw2 : IntKind.i64.wrap (k : Int) = (k : Int) := by rw [IntKind.wrap_i64]; omega
      clear hc
      by_cases hx : ss[k] < ss[k + 1]
      · rw [decide_eq_true hx] at hls
        have HA : Hid (∀ x ∈ (pairs ss).take (k + 1), x.1 < x.2) := by
          intro x hxm
          rw [HS.out] at hxm
          rcases List.mem_append.1 hxm with h' | h'
          · exact hall x h'
          · obtain rfl := List.mem_singleton.1 h'
            exact hx
        clear hall HS
        generalize str ss[k] = q0 at *
        generalize str ss[k + 1] = q1 at *
        go_wp2
        go_quiet (fail)
        go_wp2
        go_roundw
        case rel => exact ⟨k + 1, _, by go_num, by omega, rfl, HA.out⟩
        case measure => simp [intOf]; omega
      · rw [decide_eq_false hx] at hls
        have HR : Hid (rises ss = false) := all_of_prefix (pre := (pairs ss).take k) (by rw [← HS.out]; exact List.take_prefix _ _) hx
        clear hall HS
        generalize str ss[k] = q0 at *
        generalize str ss[k + 1] = q1 at *
        go_wp2
        go_quiet (fail)
        go_wp2
        go_ret
        exact ⟨by rw [HR.out]; rfl, _, World.drewN_drewN _ _ _⟩
    · have hlti : ¬ (k : Int) + 1 < (m : Int) := by omega
      have HR : Hid (rises ss = true) := by
        show _ = _
        rw [List.take_of_length_le (by rw [pairs_length, HL.out]; omega)] at hall
        simp only [rises, List.all_eq_true, decide_eq_true_eq]
        exact hall
      clear hall
      go_wp2
      go_ret
      exact ⟨by rw [HR.out]; rfl, _, rfl⟩

set_option maxRecDepth 100000 in
theorem refLetter_any (r : Nat) (b : Bool) (w : World) (h : lett r = b) : Calls Tryz.prog 26 #[.int .u8 (r : Int)] w fun e w' => e = .returned (.bool b) ∧ w = w' := by
  have HB := Lib.hid h
  clear h
  go_enter Tryz.func26, Tryz.ntmps26
  by_cases h1 : 97 ≤ r <;> by_cases h2 : r ≤ 122 <;> by_cases h3 : 65 ≤ r <;> by_cases h4 : r ≤ 90 <;> first | omega | skip
  all_goals (
    go_wp2
    go_ret
    refine ⟨?_, rfl⟩
    rw [← HB.out]
    simp [lett, h1, h2, h3, h4]
    try omega)

theorem index_at (s : List UInt8) (k : Nat) (h : k < s.length) (W : World) : (Instr.index 9 (.string (str s)) (.int .i64 (k : Int))).run Tryz.prog W = .ok (.int .u8 (s[k].toNat : Int)) W := by
  have h1 : k < (str s).size := h
  have h2 : (str s)[k]? = some (s[k]) := by
    rw [getElem?_pos (str s) k h1, str_get]
  simp [Instr.index, asIntOf, run_underlying Tryz.underlying9, h2]
  rfl

set_option maxRecDepth 100000 in
set_option maxHeartbeats 1000000 in
theorem refName_any (s : List UInt8) (w : World) (hs : s.length ≤ 9223372036854775807) : Calls Tryz.prog 12 #[.string (str s)] w fun e w' => e = .returned (.bool (nameB s)) ∧ w = w' := by
  have hsz := str_size s
  generalize hn : s.length = n at *
  have HL := Lib.hid hn
  clear hn
  go_enter Tryz.func12, Tryz.ntmps12
  by_cases h0 : n < 1
  · have HN : Hid (nameB s = false) := by show _ = _; simp only [nameB, HL.out, decide_eq_false_iff_not]; omega
    have h0' : (n : Int) < 1 := by omega
    go_wp2
    go_ret
    exact ⟨by rw [HN.out]; rfl, rfl⟩
  have h0' : ¬ (n : Int) < 1 := by omega
  by_cases h32 : 32 < n
  · have HN : Hid (nameB s = false) := by show _ = _; simp only [nameB, HL.out, decide_eq_false_iff_not]; omega
    have h32' : (32 : Int) < (n : Int) := by omega
    go_wp2
    go_ret
    exact ⟨by rw [HN.out]; rfl, rfl⟩
  have h32' : ¬ (32 : Int) < (n : Int) := by omega
  have hl0 : 0 < s.length := by rw [HL.out]; omega
  have hx0 : ∀ W, (Instr.index 9 (.string (str s)) (.int .i64 0)).run Tryz.prog W = .ok (.int .u8 (s[0].toNat : Int)) W := index_at s 0 hl0
  cases hlt : lett s[0].toNat with
  | false =>
    have HN : Hid (nameB s = false) := by
      show _ = _
      simp only [nameB, decide_eq_false_iff_not]
      intro h
      have := h.2.2 0 hl0
      simp [okAt, hlt] at this
    have HT := Lib.hid hlt
    clear hlt
    generalize s[0].toNat = q at *
    generalize str s = S at *
    go_wp2_with fail
    refine (refLetter_any q _ _ HT.out).mono ?_
    rintro e w1 ⟨rfl, rfl⟩
    go_wp2_with fail
    go_ret
    exact ⟨by rw [HN.out]; rfl, rfl⟩
  | true =>
    have HT := Lib.hid hlt
    have H0 : Hid (∀ i (h : i < s.length), i < 1 → okAt i s[i].toNat = true) := by
      intro i hi h1
      obtain rfl : i = 0 := by omega
      simp [okAt, hlt]
    clear hlt
    generalize s[0].toNat = q at *
    go_wp2_with fail
    refine (refLetter_any q _ _ HT.out).mono ?_
    rintro e w1 ⟨rfl, rfl⟩
    go_wp2_with fail
    go_loop [3] (fun i3 => ∃ k : Nat, i3 = .int .i64 (k : Int) ∧ 1 ≤ k ∧ k ≤ n ∧ ∀ i (h : i < s.length), i < k → okAt i s[i].toNat = true) (fun i3 => n - (intOf i3).toNat)
    case atStart => exact ⟨1, rfl, Nat.le_refl _, by omega, H0.out⟩
    case round =>
      obtain ⟨k, rfl, hk1, hk, hok⟩ := hrel
      clear hx0 HT H0
      by_cases hlt : k < n
      · have hk' : k < s.length := by rw [HL.out]; exact hlt
        have hxk := index_at s k hk'
        have hlti : (k : Int) < (n : Int) := by omega
        by_cases hy : okAt k s[k].toNat = true
        · have HS : Hid (∀ i (h : i < s.length), i < k + 1 → okAt i s[i].toNat = true) := by
            intro i hi hj
            rcases Nat.lt_or_ge i k with h | h
            · exact hok i hi h
            · obtain rfl : i = k := by omega
              exact hy
          clear hok
          generalize s[k].toNat = r at *
          unfold okAt at hy
          generalize hb1 : lett r = b1 at *
          have HB := Lib.hid hb1
          clear hb1
          go_wp2_with fail
          refine (refLetter_any r _ _ HB.out).mono ?_
          rintro e w1 ⟨rfl, rfl⟩
          cases b1 with
          | true =>
            go_wp2_with fail
            go_round
            case rel => exact ⟨k + 1, by go_num, by omega, by omega, HS.out⟩
            case measure => simp [intOf]; omega
          | false =>
            have hd : (48 ≤ r ∧ r ≤ 57) ∨ r = 95 := by
              simp [digi] at hy
              omega
            go_wp2_with fail
            all_goals (
              first
                | (exfalso; omega)
                | (go_round
                   case rel => exact ⟨k + 1, by go_num, by omega, by omega, HS.out⟩
                   case measure => simp [intOf]; omega)
                | (exfalso; simp at *; omega))
        · have HN : Hid (nameB s = false) := by
            show _ = _
            simp only [nameB, decide_eq_false_iff_not]
            exact fun h => hy (h.2.2 k hk')
          clear hok
          rw [Bool.not_eq_true] at hy
          generalize s[k].toNat = r at *
          unfold okAt at hy
          generalize hb1 : lett r = b1 at *
          have HB := Lib.hid hb1
          clear hb1
          go_wp2_with fail
          refine (refLetter_any r _ _ HB.out).mono ?_
          rintro e w1 ⟨rfl, rfl⟩
          cases b1 with
          | true => simp at hy
          | false =>
            have hd : (r < 48 ∨ 57 < r) ∧ r ≠ 95 := by
              simp [digi] at hy
              omega
            go_wp2_with fail
            all_goals (
              first
                | (exfalso; omega)
                | (go_ret; exact ⟨by rw [HN.out]; rfl, rfl⟩)
                | (exfalso; simp at *; omega))
      · have hlti : ¬ (k : Int) < (n : Int) := by omega
        have HN : Hid (nameB s = true) := by
          show _ = _
          have hl := HL.out
          simp only [nameB, decide_eq_true_eq]
          exact ⟨by omega, by omega, fun i h => hok i h (by omega)⟩
        clear hok
        go_wp2
        go_ret
        exact ⟨by rw [HN.out]; rfl, rfl⟩
end Go.Proofs.YtkjeejaecagbaaaGreatDoor
