/- What alive answers: examples that the document gives. No condition. -/
import Derived.Test.YtomokkpfkhfemaaSam
namespace Go.Proofs.Ytomokkpfkhfemaa
open Go.RowKit

def B1 : List Bd := [⟨true, 0, true, 1⟩, ⟨true, 1, true, 2⟩]
def B2 : List Bd := [⟨true, 0, false, 5⟩, ⟨false, 5, true, 1⟩]
def B3 : List Bd := [⟨true, 0, true, 1⟩]
def P1 (i j : Nat) : Bool := decide (i ≤ j)
def P2 (i j : Nat) : Bool := decide (i = j)

theorem ex1 : ofE 3 B1 = 0 := by decide +kernel
theorem ex2 : ofE 2 B2 = 0 := by decide +kernel
theorem ex3 : ofE 1 B3 = 1 := by decide +kernel
theorem ex4 : ofE (-1) [] = 3 := by decide +kernel
set_option maxRecDepth 100000 in
theorem ex5 : sameSq 3 (La.bt (rchN 3 B1)) P1 = true := by decide +kernel
set_option maxRecDepth 100000 in
theorem ex6 : sameSq 2 (La.bt (rchN 2 B2)) P2 = true := by decide +kernel

theorem at_new {W : World} {o : Obj} {k : Nat} (h : k = W.heap.size) : (W.alloc o).heap[k]? = some o := by
  subst h
  exact heap_alloc_new W o
theorem at_old {W : World} {o x : Obj} {k : Nat} (h : k < W.heap.size) (e : W.heap[k]? = some x) : (W.alloc o).heap[k]? = some x := (Below.heap_alloc W o k h).trans e
theorem lit3 (W : World) : Sqr ((((W.alloc (.cells #[.bool true, .bool true, .bool true] 4)).alloc (.cells #[.bool false, .bool true, .bool true] 4)).alloc (.cells #[.bool false, .bool false, .bool true] 4)).alloc (.cells #[.slice (some ⟨W.heap.size, 0, none⟩) 3 3, .slice (some ⟨W.heap.size + 1, 0, none⟩) 3 3, .slice (some ⟨W.heap.size + 2, 0, none⟩) 3 3] 34)) 0 (W.heap.size + 3) 3 (fun i => W.heap.size + i) P1 := by
  refine ⟨at_new (by simp), fun i hi => ?_, Nat.zero_le _, fun _ _ => Nat.zero_le _, fun i j _ _ h => by omega⟩
  obtain rfl | rfl | rfl : i = 0 ∨ i = 1 ∨ i = 2 := by omega
  · exact at_old (by simp; omega) (at_old (by simp; omega) (at_old (by simp) (at_new (by simp))))
  · exact at_old (by simp) (at_old (by simp) (at_new (by simp)))
  · exact at_old (by simp) (at_new (by simp))
theorem lit2 (W : World) : Sqr (((W.alloc (.cells #[.bool true, .bool false] 4)).alloc (.cells #[.bool false, .bool true] 4)).alloc (.cells #[.slice (some ⟨W.heap.size, 0, none⟩) 2 2, .slice (some ⟨W.heap.size + 1, 0, none⟩) 2 2] 34)) 0 (W.heap.size + 2) 2 (fun i => W.heap.size + i) P2 := by
  refine ⟨at_new (by simp), fun i hi => ?_, Nat.zero_le _, fun _ _ => Nat.zero_le _, fun i j _ _ h => by omega⟩
  obtain rfl | rfl : i = 0 ∨ i = 1 := by omega
  · exact at_old (by simp; omega) (at_old (by simp) (at_new (by simp)))
  · exact at_old (by simp) (at_new (by simp))

set_option maxRecDepth 100000 in
theorem v_any (n : Nat) (w : World) : Calls Try.prog 10 #[.int .u64 (n : Int)] w fun e w' => e = .returned (.agg #[.bool true, .int .u64 (n : Int)]) ∧ Below w.heap.size w w' := by
  go_enter Try.func10, Try.ntmps10
  go_wp2
  exact bodyPost_ret (v := .agg #[.bool true, .int .u64 (n : Int)]) (by simp [results, Try.results10, go_sem]) rfl ⟨rfl, (Below.refl _ w).alloc (Nat.le_refl _) _⟩
set_option maxRecDepth 100000 in
theorem c_any (n : Nat) (w : World) : Calls Try.prog 19 #[.int .u64 (n : Int)] w fun e w' => e = .returned (.agg #[.bool false, .int .u64 (n : Int)]) ∧ Below w.heap.size w w' := by
  go_enter Try.func19, Try.ntmps19
  go_wp2
  exact bodyPost_ret (v := .agg #[.bool false, .int .u64 (n : Int)]) (by simp [results, Try.results19, go_sem]) rfl ⟨rfl, (Below.refl _ w).alloc (Nat.le_refl _) _⟩

set_option maxRecDepth 100000 in
set_option maxHeartbeats 4000000 in
theorem alive_any (w : World) : Calls Try.prog 8 #[] w fun e w' => e = .returned (.bool true) ∧ Below w.heap.size w w' := by
  have hb := Below.refl w.heap.size w
  go_enter Try.func8, Try.ntmps8
  go_wp2_with fail
  refine (v_any 0 _).mono ?_
  rintro e w1 ⟨rfl, hv⟩
  replace hb := hb.trans (hv.mono hb.size)
  clear hv
  go_wp2_with fail
  refine (v_any 1 _).mono ?_
  rintro e w2 ⟨rfl, hv⟩
  replace hb := hb.trans (hv.mono hb.size)
  clear hv
  go_wp2_with fail
  refine (v_any 1 _).mono ?_
  rintro e w3 ⟨rfl, hv⟩
  replace hb := hb.trans (hv.mono hb.size)
  clear hv
  go_wp2_with fail
  refine (v_any 2 _).mono ?_
  rintro e w4 ⟨rfl, hv⟩
  replace hb := hb.trans (hv.mono hb.size)
  clear hv
  have hv : Below w4.heap.size w4 (w4.alloc (.cells #[.bool true, .int .u64 0, .bool true, .int .u64 1, .bool true, .int .u64 1, .bool true, .int .u64 2] 33)) := (Below.refl _ _).alloc (Nat.le_refl _) _
  have hl : Rs bdc 4 (w4.alloc (.cells #[.bool true, .int .u64 0, .bool true, .int .u64 1, .bool true, .int .u64 1, .bool true, .int .u64 2] 33)) (w4.alloc (.cells #[.bool true, .int .u64 0, .bool true, .int .u64 1, .bool true, .int .u64 1, .bool true, .int .u64 2] 33)).heap.size (some ⟨w4.heap.size, 0, none⟩) 2 2 B1 := Rs.of_blk bdc_len (heap_alloc_new w4 _) ⟨[], rfl⟩ rfl (Nat.le_refl _) (by unfold maxLen; omega)
  replace hb := hb.trans (hv.mono hb.size)
  clear hv
  go_wp2_with fail
  refine (of_any 3 (some ⟨w4.heap.size, 0, none⟩) 2 2 B1 _ 0 hl ex1).mono ?_
  rintro e w5 (⟨h0, -⟩ | ⟨-, q, g1, gs1, hq, rfl, hS1, hv⟩)
  · exact absurd rfl h0
  obtain rfl : q = 3 := by omega
  clear hq hl
  replace hb := hb.trans (hv.mono hb.size)
  clear hv
  go_wp2_with fail
  refine (v_any 0 _).mono ?_
  rintro e w6 ⟨rfl, hv⟩
  replace hS1 := hS1.keep hv
  replace hb := hb.trans (hv.mono hb.size)
  clear hv
  go_wp2_with fail
  refine (c_any 5 _).mono ?_
  rintro e w7 ⟨rfl, hv⟩
  replace hS1 := hS1.keep hv
  replace hb := hb.trans (hv.mono hb.size)
  clear hv
  go_wp2_with fail
  refine (c_any 5 _).mono ?_
  rintro e w8 ⟨rfl, hv⟩
  replace hS1 := hS1.keep hv
  replace hb := hb.trans (hv.mono hb.size)
  clear hv
  go_wp2_with fail
  refine (v_any 1 _).mono ?_
  rintro e w9 ⟨rfl, hv⟩
  replace hS1 := hS1.keep hv
  replace hb := hb.trans (hv.mono hb.size)
  clear hv
  have hv : Below w9.heap.size w9 (w9.alloc (.cells #[.bool true, .int .u64 0, .bool false, .int .u64 5, .bool false, .int .u64 5, .bool true, .int .u64 1] 33)) := (Below.refl _ _).alloc (Nat.le_refl _) _
  have hl : Rs bdc 4 (w9.alloc (.cells #[.bool true, .int .u64 0, .bool false, .int .u64 5, .bool false, .int .u64 5, .bool true, .int .u64 1] 33)) (w9.alloc (.cells #[.bool true, .int .u64 0, .bool false, .int .u64 5, .bool false, .int .u64 5, .bool true, .int .u64 1] 33)).heap.size (some ⟨w9.heap.size, 0, none⟩) 2 2 B2 := Rs.of_blk bdc_len (heap_alloc_new w9 _) ⟨[], rfl⟩ rfl (Nat.le_refl _) (by unfold maxLen; omega)
  replace hS1 := hS1.keep hv
  replace hb := hb.trans (hv.mono hb.size)
  clear hv
  go_wp2_with fail
  refine (of_any 2 (some ⟨w9.heap.size, 0, none⟩) 2 2 B2 _ 0 hl ex2).mono ?_
  rintro e w10 (⟨h0, -⟩ | ⟨-, q, g2, gs2, hq, rfl, hS2, hv⟩)
  · exact absurd rfl h0
  obtain rfl : q = 2 := by omega
  clear hq hl
  replace hS1 := hS1.keep hv
  replace hb := hb.trans (hv.mono hb.size)
  clear hv
  go_wp2_with fail
  refine (v_any 0 _).mono ?_
  rintro e w11 ⟨rfl, hv⟩
  replace hS1 := hS1.keep hv
  replace hS2 := hS2.keep hv
  replace hb := hb.trans (hv.mono hb.size)
  clear hv
  go_wp2_with fail
  refine (v_any 1 _).mono ?_
  rintro e w12 ⟨rfl, hv⟩
  replace hS1 := hS1.keep hv
  replace hS2 := hS2.keep hv
  replace hb := hb.trans (hv.mono hb.size)
  clear hv
  have hv : Below w12.heap.size w12 (w12.alloc (.cells #[.bool true, .int .u64 0, .bool true, .int .u64 1] 33)) := (Below.refl _ _).alloc (Nat.le_refl _) _
  have hl : Rs bdc 4 (w12.alloc (.cells #[.bool true, .int .u64 0, .bool true, .int .u64 1] 33)) (w12.alloc (.cells #[.bool true, .int .u64 0, .bool true, .int .u64 1] 33)).heap.size (some ⟨w12.heap.size, 0, none⟩) 1 1 B3 := Rs.of_blk bdc_len (heap_alloc_new w12 _) ⟨[], rfl⟩ rfl (Nat.le_refl _) (by unfold maxLen; omega)
  replace hS1 := hS1.keep hv
  replace hS2 := hS2.keep hv
  replace hb := hb.trans (hv.mono hb.size)
  clear hv
  go_wp2_with fail
  refine (of_any 1 (some ⟨w12.heap.size, 0, none⟩) 1 1 B3 _ 1 hl ex3).mono ?_
  rintro e w13 (⟨-, rfl, hv⟩ | ⟨h0, -⟩)
  rotate_left
  · exact absurd h0 (by decide)
  clear hl
  replace hS1 := hS1.keep hv
  replace hS2 := hS2.keep hv
  replace hb := hb.trans (hv.mono hb.size)
  clear hv
  go_wp2_with fail
  refine (of_any (-1) none 0 0 [] _ 3 (Rs.nil _ _) ex4).mono ?_
  rintro e w14 (⟨-, rfl, hv⟩ | ⟨h0, -⟩)
  rotate_left
  · exact absurd h0 (by decide)
  replace hS1 := hS1.keep hv
  replace hS2 := hS2.keep hv
  replace hb := hb.trans (hv.mono hb.size)
  clear hv
  have hv : Below w14.heap.size w14 ((((w14.alloc (.cells #[.bool true, .bool true, .bool true] 4)).alloc (.cells #[.bool false, .bool true, .bool true] 4)).alloc (.cells #[.bool false, .bool false, .bool true] 4)).alloc (.cells #[.slice (some ⟨w14.heap.size, 0, none⟩) 3 3, .slice (some ⟨w14.heap.size + 1, 0, none⟩) 3 3, .slice (some ⟨w14.heap.size + 2, 0, none⟩) 3 3] 34)) := ((((Below.refl _ _).alloc (Nat.le_refl _) _).alloc (by simp) _).alloc (by simp; omega) _).alloc (by simp; omega) _
  have HS1 := Lib.hid (hS1.keep hv)
  replace hS2 := hS2.keep hv
  replace hb := hb.trans (hv.mono hb.size)
  clear hv hS1
  go_wp2_with fail
  refine (same_any g1 (w14.heap.size + 3) 3 _ _ gs1 _ _ P1 _ HS1.out (lit3 w14) (by decide) true ex5).mono ?_
  rintro e w15 ⟨rfl, hv⟩
  replace hS2 := hS2.keep hv
  replace hb := hb.trans (hv.mono hb.size)
  clear hv HS1
  have hv : Below w15.heap.size w15 (((w15.alloc (.cells #[.bool true, .bool false] 4)).alloc (.cells #[.bool false, .bool true] 4)).alloc (.cells #[.slice (some ⟨w15.heap.size, 0, none⟩) 2 2, .slice (some ⟨w15.heap.size + 1, 0, none⟩) 2 2] 34)) := (((Below.refl _ _).alloc (Nat.le_refl _) _).alloc (by simp) _).alloc (by simp; omega) _
  have HS2 := Lib.hid (hS2.keep hv)
  replace hb := hb.trans (hv.mono hb.size)
  clear hv hS2
  go_wp2_with fail
  refine (same_any g2 (w15.heap.size + 2) 2 _ _ gs2 _ _ P2 _ HS2.out (lit2 w15) (by decide) true ex6).mono ?_
  rintro e w16 ⟨rfl, hv⟩
  replace hb := hb.trans (hv.mono hb.size)
  clear hv HS2
  go_wp2_with fail
  go_ret
  exact ⟨rfl, hb⟩
end Go.Proofs.Ytomokkpfkhfemaa
