/- The document's examples hold: what 'alive' answers. No condition. -/
import Derived.Test.YtkjeejaecagbaaaHelp
import Derived.Test.YtkjeejaecagbaaaName
import Derived.Test.YtkjeejaecagbaaaRises
namespace Go.Proofs.Ytkjeejaecagbaaa
open Go.RowKit

/-- What was kept, behind more that is kept. -/
theorem Below.then {w w1 w2 : World} (h : Below w.heap.size w w1) (k : Below w1.heap.size w1 w2) : Below w.heap.size w w2 := h.trans (k.mono h.size)
theorem Below.next {w w1 w2 : World} {o : Obj} (h : Below w.heap.size w w1) (k : Below (w1.alloc o).heap.size (w1.alloc o) w2) : Below w.heap.size w w2 := (h.alloc h.size _).trans (k.mono (by have := h.size; simp; omega))
theorem below_drewN (w : World) (q : Nat) : Below w.heap.size w (w.drewN q) := ⟨rfl, rfl, rfl, Nat.le_refl _, fun _ _ => rfl⟩

theorem name_now (s : List UInt8) (b : Bool) (w : World) (hs : s.length ≤ 9223372036854775807) (h : nameB s = b) : Calls Try.prog 13 #[.string ⟨s.toArray⟩] w fun e w' => e = .returned (.bool b) ∧ Below w.heap.size w w' := h ▸ name_any s w hs
theorem find_now (A : Option Addr) (m c : Nat) (ss : List (List UInt8)) (s : List UInt8) (w : World) (k : Nat) (b : Bool) (hL : Rd txt w w.heap.size A m c ss) (h : fd ss s = k) (h' : isAt ss s = b) :
    Calls Try.prog 10 #[.slice A m c, .string ⟨s.toArray⟩] w fun e w' => e = .returned (.tuple #[.int .i64 (k : Int), .bool b]) ∧ Below w.heap.size w w' := h ▸ h' ▸ find_any A m c ss s w hL
theorem rises_now (A : Option Addr) (m c : Nat) (ss : List (List UInt8)) (w : World) (b : Bool) (hL : Rd txt w w.heap.size A m c ss) (h : rises ss = b) :
    Calls Try.prog 9 #[.slice A m c] w fun e w' => e = .returned (.bool b) ∧ Below w.heap.size w w' := h ▸ rises_any A m c ss w hL

theorem same_b (B B' : Nat) (A A' : Option Addr) (m m' c c' : Nat) (ss : List (List UInt8)) (w : World) (h : Rd txt w B A m c ss) (h' : Rd txt w B' A' m' c' ss) :
    Calls Try.prog 12 #[.slice A m c, .slice A' m' c'] w fun e w' => e = .returned (.bool true) ∧ Below w.heap.size w w' :=
  (same_any B B' A A' m m' c c' ss w h h').mono fun _ _ ⟨he, _, hk⟩ => ⟨he, hk ▸ below_drewN _ _⟩

theorem bab : su [[98], [97], [98]] = [[97], [98]] := su_eq (by decide) (fun x => by
  simp only [List.mem_cons, List.not_mem_nil, or_false]
  constructor
  · rintro (h | h | h)
    · exact .inr h
    · exact .inl h
    · exact .inr h
  · rintro (h | h)
    · exact .inr (.inl h)
    · exact .inl h)

def long33 : List UInt8 := [97, 98, 99, 100, 101, 102, 103, 104, 105, 106, 107, 108, 109, 110, 111, 112, 113, 114, 115, 116, 117, 118, 119, 120, 121, 122, 97, 98, 99, 100, 101, 102, 103]
theorem n1 : nameB [97, 49, 95] = true := by decide
theorem n2 : nameB [49, 97] = false := by decide
theorem n3 : nameB [] = false := by decide
theorem n4 : nameB long33 = false := by
  simp only [nameB, decide_eq_false_iff_not]
  intro h
  exact absurd h.2.1 (by decide)
theorem f1 : fd [[97], [99]] [98] = 1 := by decide
theorem f2 : isAt [[97], [99]] [98] = false := by decide
theorem f3 : fd [[97], [99]] [99] = 1 := by decide
theorem f4 : isAt [[97], [99]] [99] = true := by decide
theorem r1 : rises [[97], [97]] = false := by decide
theorem r2 : rises [] = true := by decide

set_option maxRecDepth 100000 in
set_option maxHeartbeats 1000000 in
theorem alive_any (w : World) : Calls Try.prog 7 #[] w fun e w' => e = .returned (.bool true) ∧ Below w.heap.size w w' := by
  go_enter Try.func7, Try.ntmps7
  go_wp2_with fail
  refine (find_now _ 2 2 [[97], [99]] [98] _ 1 false (Rd.new _ _ _ 2 [[97], [99]] rfl rfl (by decide)) f1 f2).mono ?_
  rintro e w1 ⟨rfl, b1⟩
  replace b1 := Below.next (Below.refl _ w) b1
  go_wp2_with fail
  refine (find_now _ 2 2 [[97], [99]] [99] _ 1 true (Rd.new _ _ _ 2 [[97], [99]] rfl rfl (by decide)) f3 f4).mono ?_
  rintro e w2 ⟨rfl, b2⟩
  replace b2 := Below.next b1 b2
  clear b1
  go_wp2_with fail
  refine (sort_any _ 3 3 [[98], [97], [98]] _ (Rd.new _ _ _ 3 [[98], [97], [98]] rfl rfl (by decide)) (by decide)).mono ?_
  rintro e w3 ⟨A', n', c', rfl, f3⟩
  rw [bab] at f3
  have r3 := f3.rd
  have b3 := Below.next b2 f3.bel
  clear b2 f3
  go_wp2_with fail
  refine (same_b _ _ _ _ _ _ _ _ [[97], [98]] _ (r3.below ((Below.refl _ w3).alloc (Nat.le_refl _) _)) (Rd.new _ _ _ 2 [[97], [98]] rfl rfl (by decide))).mono ?_
  rintro e w4 ⟨rfl, b4⟩
  replace b3 := Below.next b3 b4
  clear b4
  clear r3
  go_wp2_with fail
  refine (rises_now _ 2 2 [[97], [97]] _ false (Rd.new _ _ _ 2 [[97], [97]] rfl rfl (by decide)) r1).mono ?_
  rintro e w5 ⟨rfl, b5⟩
  replace b5 := Below.next b3 b5
  clear b3
  go_wp2_with fail
  refine (rises_now none 0 0 [] _ true (Rd.nil _ _) r2).mono ?_
  rintro e w6 ⟨rfl, b6⟩
  replace b6 := Below.then b5 b6
  clear b5
  go_wp2_with fail
  refine (name_now [97, 49, 95] true _ (by decide) n1).mono ?_
  rintro e w7 ⟨rfl, b7⟩
  replace b7 := Below.then b6 b7
  clear b6
  go_wp2_with fail
  refine (name_now [49, 97] false _ (by decide) n2).mono ?_
  rintro e w8 ⟨rfl, b8⟩
  replace b8 := Below.then b7 b8
  clear b7
  go_wp2_with fail
  refine (name_now [] false _ (by decide) n3).mono ?_
  rintro e w9 ⟨rfl, b9⟩
  replace b9 := Below.then b8 b9
  clear b8
  go_wp2_with fail
  refine (name_now long33 false _ (by decide) n4).mono ?_
  rintro e w10 ⟨rfl, b10⟩
  replace b10 := Below.then b9 b10
  go_wp2_with fail
  go_ret
  exact ⟨rfl, b10⟩
end Go.Proofs.Ytkjeejaecagbaaa
