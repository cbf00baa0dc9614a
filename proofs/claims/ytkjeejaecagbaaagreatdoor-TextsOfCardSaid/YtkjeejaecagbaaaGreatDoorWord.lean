/- A mark as a text: what word answers, of numbers below ten and of the spare one. Condition: the number is one of these. -/
import Derived.Test.YtkjeejaecagbaaaGreatDoorTxt
import Derived.Test.YtkjeejaecagbaaaGreatDoorChecked
import Derived.WalkKit
import Derived.OwnWalk
namespace Go.Proofs.YtkjeejaecagbaaaGreatDoor
open Go.RowKit

/-- The mark of a number below ten. -/
def wd (z : Nat) : ByteArray := str [35, (48 + z).toUInt8]

set_option maxRecDepth 100000 in
theorem small_any (z : Nat) (h : z < 10) (w : World) : Calls Tryz.prog 125 #[.int .i64 (z : Int)] w fun e w' => e = .returned (.string (str [(48 + z).toUInt8])) ∧ w = w' := by
  go_enter Tryz.func125, Tryz.ntmps125
  rcases z with _ | _ | _ | _ | _ | _ | _ | _ | _ | _ | z
  all_goals first | omega | skip
  all_goals (
    go_wp2
    go_ret
    exact ⟨rfl, rfl⟩)

set_option maxRecDepth 100000 in
theorem small77 (w : World) : Calls Tryz.prog 125 #[.int .i64 77] w fun e w' => e = .returned (.string (str [55, 55])) ∧ w = w' := by
  go_enter Tryz.func125, Tryz.ntmps125
  go_wp2
  go_ret
  exact ⟨rfl, rfl⟩

set_option maxRecDepth 100000 in
theorem format_any (z : Nat) (h : z < 100) (s : ByteArray) (w : World) (hs : Calls Tryz.prog 125 #[.int .i64 (z : Int)] w fun e w' => e = .returned (.string s) ∧ w = w') :
    Calls Tryz.prog 113 #[.int .i64 (z : Int), .int .i64 10] w fun e w' => e = .returned (.string s) ∧ w = w' := by
  have h0 : (0 : Int) ≤ (z : Int) := by omega
  have h1 : (z : Int) < 100 := by omega
  go_enter Tryz.func113, Tryz.ntmps113
  go_wp2_with fail
  refine hs.mono ?_
  rintro e w1 ⟨rfl, rfl⟩
  go_wp2_with fail
  go_ret
  exact ⟨rfl, rfl⟩

set_option maxRecDepth 100000 in
theorem itoa_any (z : Nat) (h : z < 100) (s : ByteArray) (w : World) (hs : Calls Tryz.prog 125 #[.int .i64 (z : Int)] w fun e w' => e = .returned (.string s) ∧ w = w') :
    Calls Tryz.prog 73 #[.int .i64 (z : Int)] w fun e w' => e = .returned (.string s) ∧ w = w' := by
  have hI : Calls Tryz.prog 109 #[.int .i64 (z : Int)] w fun e w' => e = .returned (.string s) ∧ w = w' := by
    go_enter Tryz.func109, Tryz.ntmps109
    go_wp2_with fail
    refine (format_any z h s w hs).mono ?_
    rintro e w1 ⟨rfl, rfl⟩
    go_wp2_with fail
    go_ret
    exact ⟨rfl, rfl⟩
  go_enter Tryz.func73, Tryz.ntmps73
  go_wp2_with fail
  refine hI.mono ?_
  rintro e w1 ⟨rfl, rfl⟩
  go_wp2_with fail
  go_ret
  exact ⟨rfl, rfl⟩

set_option maxRecDepth 100000 in
theorem word_of (z : Nat) (h : z < 100) (l : List UInt8) (hl : l.length ≤ 2) (w : World) (hs : Calls Tryz.prog 125 #[.int .i64 (z : Int)] w fun e w' => e = .returned (.string (str l)) ∧ w = w') :
    Calls Tryz.prog 18 #[.int .i64 (z : Int)] w fun e w' => e = .returned (.string (str (35 :: l))) ∧ w = w' := by
  have hsz : (str l).size ≤ 2 := hl
  have e1 : (⟨#[35]⟩ : ByteArray) ++ str l = str (35 :: l) := by
    apply ByteArray.ext
    apply Array.toList_inj.1
    simp [str, ByteArray.data_append]
  have s1 : (⟨#[35]⟩ : ByteArray).size = 1 := rfl
  have hz := itoa_any z h (str l) w hs
  generalize str l = q at *
  go_enter Tryz.func18, Tryz.ntmps18
  go_wp2_with fail
  refine hz.mono ?_
  rintro e w1 ⟨rfl, rfl⟩
  have hlt : ¬ 9223372036854775807 < 1 + q.size := by omega
  go_wp2_with fail
  go_ret
  exact ⟨by simp, rfl⟩

theorem word_any (z : Nat) (h : z < 10) (w : World) : Calls Tryz.prog 18 #[.int .i64 (z : Int)] w fun e w' => e = .returned (.string (wd z)) ∧ w = w' :=
  word_of z (by omega) [(48 + z).toUInt8] (by simp) w (small_any z h w)

/-- The spare one. -/
def w77 : List UInt8 := [35, 55, 55]

theorem word77 (w : World) : Calls Tryz.prog 18 #[.int .i64 77] w fun e w' => e = .returned (txt w77) ∧ w = w' :=
  word_of 77 (by omega) [55, 55] (by simp) w (small77 w)

set_option maxRecDepth 100000 in
theorem markText_any (z : Nat) (h : z < 10) (w : World) : Calls Tryz.prog 81 #[.int .i64 (z : Int)] w fun e w' => e = .returned (.string (wd z)) ∧ w = w' := by
  go_enter Tryz.func81, Tryz.ntmps81
  go_wp2_with fail
  refine (word_any z h w).mono ?_
  rintro e w1 ⟨rfl, rfl⟩
  go_wp2_with fail
  go_ret
  exact ⟨rfl, rfl⟩

set_option maxRecDepth 100000 in
theorem isText_any (z : Nat) (h : z < 10) (w : World) : Calls Tryz.prog 96 #[.string (wd z), .int .i64 (z : Int)] w fun e w' => e = .returned (.bool true) ∧ w = w' := by
  have hw := word_any z h w
  generalize wd z = q at *
  go_enter Tryz.func96, Tryz.ntmps96
  go_wp2_with fail
  refine hw.mono ?_
  rintro e w1 ⟨rfl, rfl⟩
  go_wp2_with fail
  go_ret
  exact ⟨by simp, rfl⟩
end Go.Proofs.YtkjeejaecagbaaaGreatDoor
