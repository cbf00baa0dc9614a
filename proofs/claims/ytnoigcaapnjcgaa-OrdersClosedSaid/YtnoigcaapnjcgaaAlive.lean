/- The document's examples hold: what 'alive' answers. No condition. -/
import Derived.Test.YtnoigcaapnjcgaaClose
import Derived.Test.YtnoigcaapnjcgaaJoin
import Derived.Test.YtnoigcaapnjcgaaRefCheck
import Derived.Test.YtnoigcaapnjcgaaTwin
namespace Go.Proofs.Ytnoigcaapnjcgaa
open Go.RowKit

theorem Below.next {w w1 w2 : World} {o : Obj} (h : Below w.heap.size w w1) (k : Below (w1.alloc o).heap.size (w1.alloc o) w2) : Below w.heap.size w w2 := (h.alloc h.size _).trans (k.mono (by have := h.size; simp; omega))

theorem pairs_two (w : World) (a b c d : Int) : Rp (w.alloc (.cells #[.int .i64 a, .int .i64 b, .int .i64 c, .int .i64 d] 35)) (w.alloc (.cells #[.int .i64 a, .int .i64 b, .int .i64 c, .int .i64 d] 35)).heap.size (some ⟨w.heap.size, 0, none⟩) 2 2 [(a, b), (c, d)] := by
  refine ⟨rfl, by decide, by decide, (fun h => by cases h), fun _ => ⟨w.heap.size, 0, rfl, by simp, fun j hj => ?_⟩⟩
  rw [cell_blk (heap_alloc_new w _), cell_blk (heap_alloc_new w _)]
  rcases j with _ | _ | j
  · exact ⟨rfl, rfl⟩
  · exact ⟨rfl, rfl⟩
  · simp at hj
    omega

theorem pairs_one (w : World) (a b : Int) : Rp (w.alloc (.cells #[.int .i64 a, .int .i64 b] 35)) (w.alloc (.cells #[.int .i64 a, .int .i64 b] 35)).heap.size (some ⟨w.heap.size, 0, none⟩) 1 1 [(a, b)] := by
  refine ⟨rfl, by decide, by decide, (fun h => by cases h), fun _ => ⟨w.heap.size, 0, rfl, by simp, fun j hj => ?_⟩⟩
  rw [cell_blk (heap_alloc_new w _), cell_blk (heap_alloc_new w _)]
  rcases j with _ | j
  · exact ⟨rfl, rfl⟩
  · simp at hj

theorem close1 : CloseIs 3 [(0, 1), (1, 2)] [7, 6, 4] 0 := by
  have hw : Within (3 : Int).toNat [(0, 1), (1, 2)] := by unfold Within; decide
  have h1 : Way 3 (bt (startN 3 [(0, 1), (1, 2)])) [7, 6, 4] := (start_way hw).above (k := 0) (by decide)
  have h2 := h1.done (by decide +kernel)
  exact .inr ⟨by decide, hw, [7, 6, 4], h1, h2, .inl ⟨(ord_anti h1 h2 (start_refl hw)).1 (by decide +kernel), rfl, rfl⟩⟩

theorem close2 : CloseIs 2 [(0, 1), (1, 0)] [] 9 := by
  have hw : Within (2 : Int).toNat [(0, 1), (1, 0)] := by unfold Within; decide
  have h1 : Way 2 (bt (startN 2 [(0, 1), (1, 0)])) [3, 3] := start_way hw
  have h2 := h1.done (by decide +kernel)
  refine .inr ⟨by decide, hw, [3, 3], h1, h2, .inr ⟨fun h => ?_, rfl, rfl⟩⟩
  have := (ord_anti h1 h2 (start_refl hw)).2 h
  exact absurd this (by decide +kernel)

theorem close3 : CloseIs 2 [(0, 2)] [] 1 := .inl ⟨(fun h => absurd h.2 (by unfold Within; decide)), rfl, rfl⟩

theorem close_now (N : Int) (A : Option Addr) (n c : Nat) (ps : List (Int × Int)) (w : World) (rows : List Nat) (x : Int) (h : Rp w w.heap.size A n c ps) (hc : CloseIs N ps rows x) :
    Calls Try.prog 14 #[.int .i64 N, .slice A n c] w fun e w' => ∃ A' n' c', e = .returned (.tuple #[.slice A' n' c', .int .i64 x]) ∧ Below w.heap.size w w' ∧ Rd nm w' w'.heap.size A' n' c' rows := by
  refine (close_any N A n c ps w h).mono ?_
  rintro e w' ⟨r, y, A', n', c', rfl, hr, hb, hor⟩
  obtain ⟨rfl, rfl⟩ := hr.uniq hc
  refine ⟨A', n', c', rfl, hb, ?_⟩
  rcases hor with ⟨rfl, rfl, rfl, rfl⟩ | ⟨g, _, rfl, rfl, h64, hl, _, hblk⟩
  · exact Rd.nil _ _
  · exact rd_blk hblk hl (by omega)

theorem check_now (A : Option Addr) (n c : Nat) (l : List Nat) (w : World) (x : Int) (h : Rd nm w w.heap.size A n c l) (hf : Fit l) (hx : checkN l = x) :
    Calls Try.prog 8 #[.slice A n c] w fun e w' => e = .returned (.int .i64 x) ∧ Below w.heap.size w w' := hx ▸ check_any A n c l w h hf

theorem below_now (A : Option Addr) (n c : Nat) (l : List Nat) (a b : Nat) (w : World) (x : Bool) (h : Rd nm w w.heap.size A n c l) (hf : Fit l) (ha : a < 18446744073709551616) (hb : b < 18446744073709551616) (hx : belowB l a b = x) :
    Calls Try.prog 10 #[.slice A n c, .int .u64 (a : Int), .int .u64 (b : Int)] w fun e w' => e = .returned (.bool x) ∧ Below w.heap.size w w' :=
  hx ▸ (below_any A n c _ l a b w h hf ha hb).mono fun _ _ ⟨he, hw⟩ => ⟨he, hw ▸ Below.refl _ _⟩

theorem same_now (B B' : Nat) (A A' : Option Addr) (n n' c c' : Nat) (l : List Nat) (w : World) (h : Rd nm w B A n c l) (h' : Rd nm w B' A' n' c' l) :
    Calls Try.prog 15 #[.slice A n c, .slice A' n' c'] w fun e w' => e = .returned (.bool true) ∧ Below w.heap.size w w' := by
  refine (same_any B B' A A' n n' c c' l l w h h').mono ?_
  rintro e w' ⟨⟨b, rfl, hb⟩, hd⟩
  rw [hb.2 rfl]
  exact ⟨rfl, hd.below⟩

theorem k1 : checkN [1] = 0 := by decide +kernel
theorem k2 : checkN [3, 2] = 0 := by decide +kernel
theorem k3 : checkN [1, 2] = 7 := by decide +kernel
theorem k4 : checkN [3, 3] = 9 := by decide +kernel
theorem k5 : checkN [] = 1 := by decide +kernel
theorem b1 : belowB [3, 2] 0 1 = true := by decide +kernel
theorem b2 : belowB [3, 2] 1 0 = false := by decide +kernel
theorem b3 : belowB [3, 2] 0 2 = false := by decide +kernel
theorem fit_of {l : List Nat} (h : ∀ x ∈ l, x < 18446744073709551616) : Fit l := h

set_option maxRecDepth 100000 in
set_option maxHeartbeats 1000000 in
theorem alive_any (w : World) : Calls Try.prog 13 #[] w fun e w' => e = .returned (.bool true) ∧ Below w.heap.size w w' := by
  go_enter Try.func13, Try.ntmps13
  go_wp2_with fail
  refine (close_now 3 _ 2 2 _ _ _ _ (pairs_two w 0 1 1 2) close1).mono ?_
  rintro e w1 ⟨A1, n1, c1, rfl, d1, r1⟩
  replace d1 := Below.next (Below.refl _ w) d1
  go_wp2_with fail
  refine (close_now 2 _ 2 2 _ _ _ _ (pairs_two w1 0 1 1 0) close2).mono ?_
  rintro e w2 ⟨A2, n2, c2, rfl, d2, _⟩
  have r2 := r1.at_size (Nat.le_refl _) (Below.next (Below.refl _ _) d2)
  replace d2 := Below.next d1 d2
  clear d1 r1
  go_wp2_with fail
  refine (close_now 2 _ 1 1 _ _ _ _ (pairs_one w2 0 2) close3).mono ?_
  rintro e w3 ⟨A3, n3, c3, rfl, d3, _⟩
  have r3 := r2.at_size (Nat.le_refl _) (Below.next (Below.refl _ _) d3)
  replace d3 := Below.next d2 d3
  clear d2 r2
  go_wp2_with fail
  refine (check_now _ 1 1 [1] _ _ (Rd.new _ _ _ 1 [1] rfl rfl (by decide)) (fit_of (by decide)) k1).mono ?_
  rintro e w4 ⟨rfl, d4⟩
  have r4 := r3.at_size (Nat.le_refl _) (Below.next (Below.refl _ _) d4)
  replace d4 := Below.next d3 d4
  clear d3 r3
  go_wp2_with fail
  refine (check_now _ 2 2 [3, 2] _ _ (Rd.new _ _ _ 2 [3, 2] rfl rfl (by decide)) (fit_of (by decide)) k2).mono ?_
  rintro e w5 ⟨rfl, d5⟩
  have r5 := r4.at_size (Nat.le_refl _) (Below.next (Below.refl _ _) d5)
  replace d5 := Below.next d4 d5
  clear d4 r4
  go_wp2_with fail
  refine (check_now _ 2 2 [1, 2] _ _ (Rd.new _ _ _ 2 [1, 2] rfl rfl (by decide)) (fit_of (by decide)) k3).mono ?_
  rintro e w6 ⟨rfl, d6⟩
  have r6 := r5.at_size (Nat.le_refl _) (Below.next (Below.refl _ _) d6)
  replace d6 := Below.next d5 d6
  clear d5 r5
  go_wp2_with fail
  refine (check_now _ 2 2 [3, 3] _ _ (Rd.new _ _ _ 2 [3, 3] rfl rfl (by decide)) (fit_of (by decide)) k4).mono ?_
  rintro e w7 ⟨rfl, d7⟩
  have r7 := r6.at_size (Nat.le_refl _) (Below.next (Below.refl _ _) d7)
  replace d7 := Below.next d6 d7
  clear d6 r6
  go_wp2_with fail
  refine (check_now none 0 0 [] _ _ (Rd.nil _ _) (fit_of (by decide)) k5).mono ?_
  rintro e w8 ⟨rfl, d8⟩
  have r8 := r7.at_size (Nat.le_refl _) d8
  replace d8 := Below.then d7 d8
  clear d7 r7
  go_wp2_with fail
  have r9 := r8.at_size (Nat.le_refl _) ((Below.refl _ w8).alloc (Nat.le_refl _) (.cells #[.int .u64 7, .int .u64 6, .int .u64 4] 23))
  refine (same_now _ _ _ _ _ _ _ _ [7, 6, 4] _ r9 (Rd.new _ _ _ 3 [7, 6, 4] rfl rfl (by decide))).mono ?_
  rintro e w9 ⟨rfl, d9⟩
  replace d9 := Below.next d8 d9
  clear d8 r8 r9
  go_wp2_with fail
  refine (below_now _ 2 2 [3, 2] 0 1 _ _ (Rd.new _ _ _ 2 [3, 2] rfl rfl (by decide)) (fit_of (by decide)) (by decide) (by decide) b1).mono ?_
  rintro e w10 ⟨rfl, d10⟩
  replace d10 := Below.next d9 d10
  clear d9
  go_wp2_with fail
  refine (below_now _ 2 2 [3, 2] 1 0 _ _ (Rd.new _ _ _ 2 [3, 2] rfl rfl (by decide)) (fit_of (by decide)) (by decide) (by decide) b2).mono ?_
  rintro e w11 ⟨rfl, d11⟩
  replace d11 := Below.next d10 d11
  clear d10
  go_wp2_with fail
  refine (below_now _ 2 2 [3, 2] 0 2 _ _ (Rd.new _ _ _ 2 [3, 2] rfl rfl (by decide)) (fit_of (by decide)) (by decide) (by decide) b3).mono ?_
  rintro e w12 ⟨rfl, d12⟩
  replace d12 := Below.next d11 d12
  clear d11
  go_wp2_with fail
  go_ret
  exact ⟨rfl, d12⟩
end Go.Proofs.Ytnoigcaapnjcgaa
