/- What texts.Name does: 1 to 32 bytes, the first a letter, each other one a letter, a digit, or _. No condition. -/
import Derived.Test.YtkjeejaecagbaaaGreatDoorTxt
import Derived.Test.YtkjeejaecagbaaaGreatDoorChecked
import Derived.WalkKit
import Derived.OwnWalk
import Derived.Laws.RangeAny
namespace Go.Proofs.YtkjeejaecagbaaaGreatDoor
open Go.RowKit

def lett (r : Nat) : Bool := decide (97 ≤ r ∧ r ≤ 122) || decide (65 ≤ r ∧ r ≤ 90)
def digi (r : Nat) : Bool := decide (48 ≤ r ∧ r ≤ 57)
/-- May the letter r stand at place i? -/
def okAt (i r : Nat) : Bool := lett r || (decide (i ≠ 0) && (digi r || decide (r = 95)))
/-- May it be a name? -/
def nameB (s : List UInt8) : Bool := decide (0 < s.length ∧ s.length ≤ 32 ∧ ∀ i (h : i < s.length), okAt i s[i].toNat = true)

theorem high_no {i r : Nat} (h : 128 ≤ r) : okAt i r = false := by
  have h1 : lett r = false := by simp [lett]; omega
  have h2 : digi r = false := by simp [digi]; omega
  have h3 : decide (r = 95) = false := by simp; omega
  simp [okAt, h1, h2, h3]

set_option maxRecDepth 100000 in
theorem letter_any (r : Nat) (b : Bool) (w : World) (h : lett r = b) : Calls Tryz.prog 24 #[.int .i32 (r : Int)] w fun e w' => e = .returned (.bool b) ∧ w = w' := by
  have HB := Lib.hid h
  clear h
  go_enter Tryz.func24, Tryz.ntmps24
  by_cases h1 : 97 ≤ r <;> by_cases h2 : r ≤ 122 <;> by_cases h3 : 65 ≤ r <;> by_cases h4 : r ≤ 90 <;> first | omega | skip
  all_goals (
    go_wp2
    go_ret
    refine ⟨?_, rfl⟩
    rw [← HB.out]
    simp [lett, h1, h2, h3, h4]
    try omega)

set_option maxRecDepth 100000 in
theorem digit_any (r : Nat) (b : Bool) (w : World) (h : digi r = b) : Calls Tryz.prog 25 #[.int .i32 (r : Int)] w fun e w' => e = .returned (.bool b) ∧ w = w' := by
  have HB := Lib.hid h
  clear h
  go_enter Tryz.func25, Tryz.ntmps25
  by_cases h1 : 48 ≤ r <;> by_cases h2 : r ≤ 57 <;> first | omega | skip
  all_goals (
    go_wp2
    go_ret
    refine ⟨?_, rfl⟩
    rw [← HB.out]
    simp [digi, h1, h2]
    try omega)

theorem str_get (s : List UInt8) (i : Nat) (h : i < (str s).size) : (str s)[i]'h = s[i]'h := by
  simp [str, ByteArray.getElem_eq_getElem_data]
  rfl

/-- pos letters may stand where they stand. -/
def MRel (s : List UInt8) (w : World) (wr : World) : Prop := ∃ pos : Nat, wr = w.iter (str s) pos ∧ ∀ i (h : i < s.length), i < pos → okAt i s[i].toNat = true

theorem below_iter (w : World) (s : ByteArray) (p : Nat) : Below w.heap.size w (w.iter s p) := (Below.refl _ w).alloc (Nat.le_refl _) _

set_option maxRecDepth 100000 in
set_option maxHeartbeats 1000000 in
theorem name_any (s : List UInt8) (w : World) (hs : s.length ≤ 9223372036854775807) : Calls Tryz.prog 11 #[txt s] w fun e w' => e = .returned (.bool (nameB s)) ∧ Below w.heap.size w w' := by
  rw [show txt s = .string (str s) from rfl]
  have hsz := str_size s
  go_enter Tryz.func11, Tryz.ntmps11
  generalize hn : s.length = n at *
  have HL := Lib.hid hn
  clear hn
  by_cases h0 : n = 0
  · have HN : Hid (nameB s = false) := by show _ = _; simp [nameB, HL.out, h0]
    subst h0
    go_wp2
    go_ret
    exact ⟨by rw [HN.out]; rfl, Below.refl _ _⟩
  have h0' : ((n : Int) == 0) = false := by simp; omega
  by_cases h32 : 32 < n
  · have HN : Hid (nameB s = false) := by show _ = _; simp only [nameB, HL.out, decide_eq_false_iff_not]; omega
    have h32' : (32 : Int) < (n : Int) := by omega
    go_wp2
    go_ret
    exact ⟨by rw [HN.out]; rfl, Below.refl _ _⟩
  have h32' : ¬ (32 : Int) < (n : Int) := by omega
  go_wp2
  go_loopw [] (fun wr => MRel s w wr) (fun wr => n - wr.iterPos w.heap.size)
  case atStart => exact ⟨0, rfl, fun _ _ h => absurd h (by omega)⟩
  case round =>
    obtain ⟨pos, rfl, hok⟩ := hrel
    by_cases hp : pos < n
    · have hp' : pos < s.length := by rw [HL.out]; exact hp
      have hp'' : pos < (str s).size := by rw [hsz]; exact hp
      by_cases ha : s[pos].toNat < 128
      · have hnx : ∀ ty, (Instr.next (.pointer (some ⟨w.heap.size, 0, none⟩)) true ty).run Tryz.prog (w.iter (str s) pos) = .ok (.tuple #[.bool true, .int .i64 pos, .int .i32 s[pos].toNat]) (w.iter (str s) (pos + 1)) := fun ty => by
          have := run_next_ascii (P := Tryz.prog) w (str s) pos ty hp'' (by rw [str_get]; exact ha)
          rwa [str_get] at this
        by_cases hk : okAt pos s[pos].toNat = true
        · have HS : Hid (∀ i (h : i < s.length), i < pos + 1 → okAt i s[i].toNat = true) := by
            intro i hi hj
            rcases Nat.lt_or_ge i pos with h | h
            · exact hok i hi h
            · obtain rfl : i = pos := by omega
              exact hk
          generalize s[pos].toNat = q at *
          go_wp2_with fail
          refine (letter_any q _ _ rfl).mono ?_
          rintro e w1 ⟨rfl, rfl⟩
          unfold okAt at hk
          generalize lett q = b1 at *
          cases b1 with
          | true =>
            go_wp2_with fail
            go_roundw
            case rel => exact ⟨pos + 1, rfl, HS.out⟩
            case measure => simp; omega
          | false =>
            have hpos : ((pos : Int) == 0) = false := by simp at hk; simp; omega
            go_wp2_with fail
            refine (digit_any q _ _ rfl).mono ?_
            rintro e w1 ⟨rfl, rfl⟩
            generalize digi q = b2 at *
            cases b2 with
            | true =>
              go_wp2_with fail
              go_roundw
              case rel => exact ⟨pos + 1, rfl, HS.out⟩
              case measure => simp; omega
            | false =>
              obtain rfl : q = 95 := by simp at hk; omega
              go_wp2_with fail
              go_roundw
              case rel => exact ⟨pos + 1, rfl, HS.out⟩
              case measure => simp; omega
        · have HN : Hid (nameB s = false) := by
            show _ = _
            simp only [nameB, decide_eq_false_iff_not]
            exact fun h => hk (h.2.2 pos hp')
          generalize s[pos].toNat = q at *
          rw [Bool.not_eq_true] at hk
          go_wp2_with fail
          refine (letter_any q _ _ rfl).mono ?_
          rintro e w1 ⟨rfl, rfl⟩
          unfold okAt at hk
          generalize lett q = b1 at *
          cases b1 with
          | true => simp at hk
          | false =>
            by_cases hpos : pos = 0
            · subst hpos
              go_wp2_with fail
              go_ret
              exact ⟨by rw [HN.out]; rfl, below_iter _ _ _⟩
            · have hpos' : ((pos : Int) == 0) = false := by simp; omega
              go_wp2_with fail
              refine (digit_any q _ _ rfl).mono ?_
              rintro e w1 ⟨rfl, rfl⟩
              generalize digi q = b2 at *
              cases b2 with
              | true => simp [hpos] at hk
              | false =>
                have h95 : ((q : Int) != 95) = true := by simp [hpos] at hk; simp; omega
                go_wp2_with fail
                go_ret
                exact ⟨by rw [HN.out]; rfl, below_iter _ _ _⟩
      · have hhi := (decode_high (str s) pos hp'' (by rw [str_get]; omega)).1
        have hnx : ∀ ty, (Instr.next (.pointer (some ⟨w.heap.size, 0, none⟩)) true ty).run Tryz.prog (w.iter (str s) pos) = _ := fun ty => run_next_any (P := Tryz.prog) w (str s) pos ty hp''
        generalize (Utf8.decode (str s) pos).1 = q at *
        generalize pos + (Utf8.decode (str s) pos).2 = p2 at *
        have HN : Hid (nameB s = false) := by
          show _ = _
          simp only [nameB, decide_eq_false_iff_not]
          intro h
          have := h.2.2 pos hp'
          rw [high_no (by omega)] at this
          cases this
        have hl : lett q = false := by simp [lett]; omega
        have hd : digi q = false := by simp [digi]; omega
        have h95 : ((q : Int) != 95) = true := by simp; omega
        go_wp2_with fail
        refine (letter_any q _ _ hl).mono ?_
        rintro e w1 ⟨rfl, rfl⟩
        by_cases hpos : pos = 0
        · subst hpos
          go_wp2_with fail
          go_ret
          exact ⟨by rw [HN.out]; rfl, below_iter _ _ _⟩
        · have hpos' : ((pos : Int) == 0) = false := by simp; omega
          go_wp2_with fail
          refine (digit_any q _ _ hd).mono ?_
          rintro e w1 ⟨rfl, rfl⟩
          go_wp2_with fail
          go_ret
          exact ⟨by rw [HN.out]; rfl, below_iter _ _ _⟩
    · have hnx : ∀ ty, (Instr.next (.pointer (some ⟨w.heap.size, 0, none⟩)) true ty).run Tryz.prog (w.iter (str s) pos) = _ := fun ty => run_next_end (P := Tryz.prog) w (str s) pos ty (by rw [hsz]; exact hp)
      have HN : Hid (nameB s = true) := by
        show _ = _
        have hl := HL.out
        simp only [nameB, decide_eq_true_eq]
        exact ⟨by omega, by omega, fun i h => hok i h (by omega)⟩
      go_wp2
      go_ret
      exact ⟨by rw [HN.out]; rfl, below_iter _ _ _⟩
end Go.Proofs.YtkjeejaecagbaaaGreatDoor
