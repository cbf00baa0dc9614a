/- The examples that the laws ask. No condition. -/
import Derived.Test.YtlcbcggcmmlfdaaMade
import Derived.Test.YtlcbcggcmmlfdaaGrMath
namespace Go.Proofs.Ytlcbcggcmmlfdaa
open Go.RowKit

theorem fits_one (x : Nat) : ∀ y ∈ [nW x], y.Fits := fits_cons (fits_w x) fits_nil
theorem tfits_nil : ∀ y ∈ ([] : List Nd), y.TFits := by simp
theorem tfits_cons {x : Nd} {l : List Nd} (h : x.TFits) (k : ∀ y ∈ l, y.TFits) : ∀ y ∈ x :: l, y.TFits := by
  intro y hy
  rcases List.mem_cons.1 hy with rfl | hy
  · exact h
  · exact k y hy
theorem tfits_app {l m : List Nd} (h : ∀ y ∈ l, y.TFits) (k : ∀ y ∈ m, y.TFits) : ∀ y ∈ l ++ m, y.TFits := by
  intro y hy
  rcases List.mem_append.1 hy with hy | hy
  · exact h y hy
  · exact k y hy
theorem tfits_one {x : Nat} (h : x < 18446744073709551616) : ∀ y ∈ [nW x], y.TFits := tfits_cons (tfits_w h) tfits_nil

/-- What Below tells, named. -/
theorem ground_lit (A A2 : Option Addr) (n c n2 c2 : Nat) (a b : List Nd) (p q : Option Addr) (S : So) (r : Bool) (x : Int) (w : World) (h1 : Ns w w.heap.size A n c a) (h2 : Ns w w.heap.size A2 n2 c2 b) (f1 : ∀ x ∈ a, x.Fits) (f2 : ∀ x ∈ b, x.Fits) (t1 : ∀ x ∈ a, x.TFits) (t2 : ∀ x ∈ b, x.TFits) (hS : SoAt w p q S)
    (e1 : grB S a b = r) (e2 : (grE S a b : Int) = x) : Calls Try.prog 11 #[.slice A n c, .slice A2 n2 c2, .pointer p, .pointer q] w fun e w' => e = .returned (.tuple #[.bool r, .int .i64 x]) ∧ Below w.heap.size w w' := by
  rw [← e1, ← e2]
  exact ground_any A A2 n c n2 c2 a b p q S w h1 h2 f1 f2 t1 t2 hS

/-- int of a variable. -/
def nV : Nd := ⟨1, 0, [105, 110, 116], 0, true, 0, false, 0, false, 0⟩
abbrev oV : Obj := .cells #[.int .u8 1, .int .i64 0, .string (str [105, 110, 116]), .int .i64 0, .bool true, .int .u64 0, .bool false, .int .u64 0, .bool false, .int .u64 0] 70
theorem fits_v : nV.Fits := ⟨by decide, by decide, by decide, by decide, by decide, by decide, by decide⟩
theorem tfits_v : nV.TFits := ⟨⟨by decide, by decide⟩, ⟨by decide, by decide⟩, ⟨by decide, by decide⟩⟩
def S0 : So := soOf [3, 2] 0
theorem g_b0 : grB S0 ([nW 0]) ([nW 1]) = true := by decide +kernel
theorem g_e0 : (grE S0 ([nW 0]) ([nW 1]) : Int) = 0 := by decide +kernel
theorem g_b1 : grB S0 ([nW 1]) ([nW 0]) = false := by decide +kernel
theorem g_e1 : (grE S0 ([nW 1]) ([nW 0]) : Int) = 0 := by decide +kernel
theorem g_b2 : grB S0 ([nRef] ++ [nW 0]) ([nRef] ++ [nW 1]) = false := by decide +kernel
theorem g_e2 : (grE S0 ([nRef] ++ [nW 0]) ([nRef] ++ [nW 1]) : Int) = 0 := by decide +kernel
theorem g_b3 : grB S0 ([nFun] ++ [nW 1] ++ [nW 0]) ([nFun] ++ [nW 0] ++ [nW 0]) = true := by decide +kernel
theorem g_e3 : (grE S0 ([nFun] ++ [nW 1] ++ [nW 0]) ([nFun] ++ [nW 0] ++ [nW 0]) : Int) = 0 := by decide +kernel
theorem g_b4 : grB S0 ([nFun] ++ [nW 0] ++ [nW 0]) ([nFun] ++ [nW 1] ++ [nW 0]) = false := by decide +kernel
theorem g_e4 : (grE S0 ([nFun] ++ [nW 0] ++ [nW 0]) ([nFun] ++ [nW 1] ++ [nW 0]) : Int) = 0 := by decide +kernel
theorem g_b5 : grB S0 ([nW 0]) ([nRef] ++ [nW 0]) = false := by decide +kernel
theorem g_e5 : (grE S0 ([nW 0]) ([nRef] ++ [nW 0]) : Int) = 0 := by decide +kernel
theorem g_b6 : grB S0 ([nV]) ([nW 0]) = false := by decide +kernel
theorem g_e6 : (grE S0 ([nV]) ([nW 0]) : Int) = 1 := by decide +kernel
theorem g_b7 : grB S0 ([nW 2]) ([nW 0]) = false := by decide +kernel
theorem g_e7 : (grE S0 ([nW 2]) ([nW 0]) : Int) = 1 := by decide +kernel
theorem g_b8 : grB S0 ([]) ([nW 0]) = false := by decide +kernel
theorem g_e8 : (grE S0 ([]) ([nW 0]) : Int) = 4 := by decide +kernel

set_option maxRecDepth 100000 in
set_option maxHeartbeats 8000000 in
theorem alive_any (w : World) : Calls Try.prog 14 #[] w fun e w' => e = .returned (.bool true) ∧ Below w.heap.size w w' := by
  have h0 : Rd La.nm (w.alloc (.cells #[.int .u64 3, .int .u64 2] 46)) (w.alloc (.cells #[.int .u64 3, .int .u64 2] 46)).heap.size (some ⟨w.heap.size, 0, none⟩) 2 2 [3, 2] := Rd.new w _ 46 2 [3, 2] rfl rfl (by decide)
  have hb : Below w.heap.size w (w.alloc (.cells #[.int .u64 3, .int .u64 2] 46)) := (Below.refl _ _).alloc (Nat.le_refl _) _
  have HF : Hid (La.Fit [3, 2]) := Lib.hid (by intro x hx; simp only [List.mem_cons, List.not_mem_nil, or_false] at hx; omega)
  go_enter Try.func14, Try.ntmps14
  go_wp2_with fail
  refine (made_any _ 2 2 [3, 2] 0 _ h0 HF.out).mono ?_
  rintro e w1 ⟨p, q, rfl, hS, -, -, hv⟩
  replace hS : SoAt w1 p q S0 := hS
  replace hb := hb.trans (hv.mono hb.size)
  clear hv h0 HF
  go_wp2_with fail
  refine (whole_any 0 _).mono ?_
  rintro e w2 ⟨A1, c1, rfl, h1, hv⟩
  replace hS := hS.keep hv
  replace hb := hb.trans (hv.mono hb.size)
  clear hv
  go_wp2_with fail
  refine (whole_any 1 _).mono ?_
  rintro e w3 ⟨A2, c2, rfl, h2, hv⟩
  replace h1 := h1.at_size (Nat.le_refl _) hv
  replace hS := hS.keep hv
  replace hb := hb.trans (hv.mono hb.size)
  clear hv
  go_wp2_with fail
  refine (ground_lit _ _ _ _ _ _ ([nW 0]) ([nW 1]) p q S0 true 0 _ h1 h2 (fits_one 0) (fits_one 1) (tfits_one (x := 0) (by omega)) (tfits_one (x := 1) (by omega)) hS g_b0 g_e0).mono ?_
  rintro e w4 ⟨rfl, hv⟩
  clear h1 h2
  replace hS := hS.keep hv
  replace hb := hb.trans (hv.mono hb.size)
  clear hv
  go_wp2_with fail
  refine (whole_any 1 _).mono ?_
  rintro e w5 ⟨A3, c3, rfl, h3, hv⟩
  replace hS := hS.keep hv
  replace hb := hb.trans (hv.mono hb.size)
  clear hv
  go_wp2_with fail
  refine (whole_any 0 _).mono ?_
  rintro e w6 ⟨A4, c4, rfl, h4, hv⟩
  replace h3 := h3.at_size (Nat.le_refl _) hv
  replace hS := hS.keep hv
  replace hb := hb.trans (hv.mono hb.size)
  clear hv
  go_wp2_with fail
  refine (ground_lit _ _ _ _ _ _ ([nW 1]) ([nW 0]) p q S0 false 0 _ h3 h4 (fits_one 1) (fits_one 0) (tfits_one (x := 1) (by omega)) (tfits_one (x := 0) (by omega)) hS g_b1 g_e1).mono ?_
  rintro e w7 ⟨rfl, hv⟩
  clear h3 h4
  replace hS := hS.keep hv
  replace hb := hb.trans (hv.mono hb.size)
  clear hv
  go_wp2_with fail
  refine (whole_any 0 _).mono ?_
  rintro e w8 ⟨A5, c5, rfl, h5, hv⟩
  replace hS := hS.keep hv
  replace hb := hb.trans (hv.mono hb.size)
  clear hv
  go_wp2_with fail
  refine (ref_any _ _ _ _ _ h5 (by omega)).mono ?_
  rintro e w9 ⟨A6, n6, c6, rfl, h6, hv⟩
  clear h5
  replace hS := hS.keep hv
  replace hb := hb.trans (hv.mono hb.size)
  clear hv
  go_wp2_with fail
  refine (whole_any 1 _).mono ?_
  rintro e w10 ⟨A7, c7, rfl, h7, hv⟩
  replace h6 := h6.at_size (Nat.le_refl _) hv
  replace hS := hS.keep hv
  replace hb := hb.trans (hv.mono hb.size)
  clear hv
  go_wp2_with fail
  refine (ref_any _ _ _ _ _ h7 (by omega)).mono ?_
  rintro e w11 ⟨A8, n8, c8, rfl, h8, hv⟩
  clear h7
  replace h6 := h6.at_size (Nat.le_refl _) hv
  replace hS := hS.keep hv
  replace hb := hb.trans (hv.mono hb.size)
  clear hv
  go_wp2_with fail
  refine (ground_lit _ _ _ _ _ _ ([nRef] ++ [nW 0]) ([nRef] ++ [nW 1]) p q S0 false 0 _ h6 h8 (fits_app (fits_cons fits_ref fits_nil) (fits_one 0)) (fits_app (fits_cons fits_ref fits_nil) (fits_one 1)) (tfits_app (tfits_cons tfits_ref tfits_nil) (tfits_one (x := 0) (by omega))) (tfits_app (tfits_cons tfits_ref tfits_nil) (tfits_one (x := 1) (by omega))) hS g_b2 g_e2).mono ?_
  rintro e w12 ⟨rfl, hv⟩
  clear h6 h8
  replace hS := hS.keep hv
  replace hb := hb.trans (hv.mono hb.size)
  clear hv
  go_wp2_with fail
  refine (whole_any 1 _).mono ?_
  rintro e w13 ⟨A9, c9, rfl, h9, hv⟩
  replace hS := hS.keep hv
  replace hb := hb.trans (hv.mono hb.size)
  clear hv
  go_wp2_with fail
  refine (whole_any 0 _).mono ?_
  rintro e w14 ⟨A10, c10, rfl, h10, hv⟩
  replace h9 := h9.at_size (Nat.le_refl _) hv
  replace hS := hS.keep hv
  replace hb := hb.trans (hv.mono hb.size)
  clear hv
  go_wp2_with fail
  refine (fun_any _ _ _ _ _ _ _ _ _ h9 h10 (by omega) (by omega)).mono ?_
  rintro e w15 ⟨A11, n11, c11, rfl, h11, hv⟩
  clear h9 h10
  replace hS := hS.keep hv
  replace hb := hb.trans (hv.mono hb.size)
  clear hv
  go_wp2_with fail
  refine (whole_any 0 _).mono ?_
  rintro e w16 ⟨A12, c12, rfl, h12, hv⟩
  replace h11 := h11.at_size (Nat.le_refl _) hv
  replace hS := hS.keep hv
  replace hb := hb.trans (hv.mono hb.size)
  clear hv
  go_wp2_with fail
  refine (whole_any 0 _).mono ?_
  rintro e w17 ⟨A13, c13, rfl, h13, hv⟩
  replace h11 := h11.at_size (Nat.le_refl _) hv
  replace h12 := h12.at_size (Nat.le_refl _) hv
  replace hS := hS.keep hv
  replace hb := hb.trans (hv.mono hb.size)
  clear hv
  go_wp2_with fail
  refine (fun_any _ _ _ _ _ _ _ _ _ h12 h13 (by omega) (by omega)).mono ?_
  rintro e w18 ⟨A14, n14, c14, rfl, h14, hv⟩
  clear h12 h13
  replace h11 := h11.at_size (Nat.le_refl _) hv
  replace hS := hS.keep hv
  replace hb := hb.trans (hv.mono hb.size)
  clear hv
  go_wp2_with fail
  refine (ground_lit _ _ _ _ _ _ ([nFun] ++ [nW 1] ++ [nW 0]) ([nFun] ++ [nW 0] ++ [nW 0]) p q S0 true 0 _ h11 h14 (fits_app (fits_app (fits_cons fits_fun fits_nil) (fits_one 1)) (fits_one 0)) (fits_app (fits_app (fits_cons fits_fun fits_nil) (fits_one 0)) (fits_one 0)) (tfits_app (tfits_app (tfits_cons tfits_fun tfits_nil) (tfits_one (x := 1) (by omega))) (tfits_one (x := 0) (by omega))) (tfits_app (tfits_app (tfits_cons tfits_fun tfits_nil) (tfits_one (x := 0) (by omega))) (tfits_one (x := 0) (by omega))) hS g_b3 g_e3).mono ?_
  rintro e w19 ⟨rfl, hv⟩
  clear h11 h14
  replace hS := hS.keep hv
  replace hb := hb.trans (hv.mono hb.size)
  clear hv
  go_wp2_with fail
  refine (whole_any 0 _).mono ?_
  rintro e w20 ⟨A15, c15, rfl, h15, hv⟩
  replace hS := hS.keep hv
  replace hb := hb.trans (hv.mono hb.size)
  clear hv
  go_wp2_with fail
  refine (whole_any 0 _).mono ?_
  rintro e w21 ⟨A16, c16, rfl, h16, hv⟩
  replace h15 := h15.at_size (Nat.le_refl _) hv
  replace hS := hS.keep hv
  replace hb := hb.trans (hv.mono hb.size)
  clear hv
  go_wp2_with fail
  refine (fun_any _ _ _ _ _ _ _ _ _ h15 h16 (by omega) (by omega)).mono ?_
  rintro e w22 ⟨A17, n17, c17, rfl, h17, hv⟩
  clear h15 h16
  replace hS := hS.keep hv
  replace hb := hb.trans (hv.mono hb.size)
  clear hv
  go_wp2_with fail
  refine (whole_any 1 _).mono ?_
  rintro e w23 ⟨A18, c18, rfl, h18, hv⟩
  replace h17 := h17.at_size (Nat.le_refl _) hv
  replace hS := hS.keep hv
  replace hb := hb.trans (hv.mono hb.size)
  clear hv
  go_wp2_with fail
  refine (whole_any 0 _).mono ?_
  rintro e w24 ⟨A19, c19, rfl, h19, hv⟩
  replace h17 := h17.at_size (Nat.le_refl _) hv
  replace h18 := h18.at_size (Nat.le_refl _) hv
  replace hS := hS.keep hv
  replace hb := hb.trans (hv.mono hb.size)
  clear hv
  go_wp2_with fail
  refine (fun_any _ _ _ _ _ _ _ _ _ h18 h19 (by omega) (by omega)).mono ?_
  rintro e w25 ⟨A20, n20, c20, rfl, h20, hv⟩
  clear h18 h19
  replace h17 := h17.at_size (Nat.le_refl _) hv
  replace hS := hS.keep hv
  replace hb := hb.trans (hv.mono hb.size)
  clear hv
  go_wp2_with fail
  refine (ground_lit _ _ _ _ _ _ ([nFun] ++ [nW 0] ++ [nW 0]) ([nFun] ++ [nW 1] ++ [nW 0]) p q S0 false 0 _ h17 h20 (fits_app (fits_app (fits_cons fits_fun fits_nil) (fits_one 0)) (fits_one 0)) (fits_app (fits_app (fits_cons fits_fun fits_nil) (fits_one 1)) (fits_one 0)) (tfits_app (tfits_app (tfits_cons tfits_fun tfits_nil) (tfits_one (x := 0) (by omega))) (tfits_one (x := 0) (by omega))) (tfits_app (tfits_app (tfits_cons tfits_fun tfits_nil) (tfits_one (x := 1) (by omega))) (tfits_one (x := 0) (by omega))) hS g_b4 g_e4).mono ?_
  rintro e w26 ⟨rfl, hv⟩
  clear h17 h20
  replace hS := hS.keep hv
  replace hb := hb.trans (hv.mono hb.size)
  clear hv
  go_wp2_with fail
  refine (whole_any 0 _).mono ?_
  rintro e w27 ⟨A21, c21, rfl, h21, hv⟩
  replace hS := hS.keep hv
  replace hb := hb.trans (hv.mono hb.size)
  clear hv
  go_wp2_with fail
  refine (whole_any 0 _).mono ?_
  rintro e w28 ⟨A22, c22, rfl, h22, hv⟩
  replace h21 := h21.at_size (Nat.le_refl _) hv
  replace hS := hS.keep hv
  replace hb := hb.trans (hv.mono hb.size)
  clear hv
  go_wp2_with fail
  refine (ref_any _ _ _ _ _ h22 (by omega)).mono ?_
  rintro e w29 ⟨A23, n23, c23, rfl, h23, hv⟩
  clear h22
  replace h21 := h21.at_size (Nat.le_refl _) hv
  replace hS := hS.keep hv
  replace hb := hb.trans (hv.mono hb.size)
  clear hv
  go_wp2_with fail
  refine (ground_lit _ _ _ _ _ _ ([nW 0]) ([nRef] ++ [nW 0]) p q S0 false 0 _ h21 h23 (fits_one 0) (fits_app (fits_cons fits_ref fits_nil) (fits_one 0)) (tfits_one (x := 0) (by omega)) (tfits_app (tfits_cons tfits_ref tfits_nil) (tfits_one (x := 0) (by omega))) hS g_b5 g_e5).mono ?_
  rintro e w30 ⟨rfl, hv⟩
  clear h21 h23
  replace hS := hS.keep hv
  replace hb := hb.trans (hv.mono hb.size)
  clear hv
  have h24 : Ns (w30.alloc oV) (w30.alloc oV).heap.size (some ⟨w30.heap.size, 0, none⟩) 1 1 [nV] := Rs.of_blk ndc_len (heap_alloc_new w30 oV) ⟨[], rfl⟩ rfl (Nat.le_refl _) (by unfold maxLen; omega)
  have hv : Below w30.heap.size w30 (w30.alloc oV) := (Below.refl _ _).alloc (Nat.le_refl _) _
  replace hS := hS.keep hv
  replace hb := hb.trans (hv.mono hb.size)
  clear hv
  go_wp2_with fail
  refine (whole_any 0 _).mono ?_
  rintro e w31 ⟨A25, c25, rfl, h25, hv⟩
  replace h24 := h24.at_size (Nat.le_refl _) hv
  replace hS := hS.keep hv
  replace hb := hb.trans (hv.mono hb.size)
  clear hv
  go_wp2_with fail
  refine (ground_lit _ _ _ _ _ _ ([nV]) ([nW 0]) p q S0 false 1 _ h24 h25 (fits_cons fits_v fits_nil) (fits_one 0) (tfits_cons tfits_v tfits_nil) (tfits_one (x := 0) (by omega)) hS g_b6 g_e6).mono ?_
  rintro e w32 ⟨rfl, hv⟩
  clear h24 h25
  replace hS := hS.keep hv
  replace hb := hb.trans (hv.mono hb.size)
  clear hv
  go_wp2_with fail
  refine (whole_any 2 _).mono ?_
  rintro e w33 ⟨A26, c26, rfl, h26, hv⟩
  replace hS := hS.keep hv
  replace hb := hb.trans (hv.mono hb.size)
  clear hv
  go_wp2_with fail
  refine (whole_any 0 _).mono ?_
  rintro e w34 ⟨A27, c27, rfl, h27, hv⟩
  replace h26 := h26.at_size (Nat.le_refl _) hv
  replace hS := hS.keep hv
  replace hb := hb.trans (hv.mono hb.size)
  clear hv
  go_wp2_with fail
  refine (ground_lit _ _ _ _ _ _ ([nW 2]) ([nW 0]) p q S0 false 1 _ h26 h27 (fits_one 2) (fits_one 0) (tfits_one (x := 2) (by omega)) (tfits_one (x := 0) (by omega)) hS g_b7 g_e7).mono ?_
  rintro e w35 ⟨rfl, hv⟩
  clear h26 h27
  replace hS := hS.keep hv
  replace hb := hb.trans (hv.mono hb.size)
  clear hv
  go_wp2_with fail
  refine (whole_any 0 _).mono ?_
  rintro e w36 ⟨A28, c28, rfl, h28, hv⟩
  replace hS := hS.keep hv
  replace hb := hb.trans (hv.mono hb.size)
  clear hv
  go_wp2_with fail
  refine (ground_lit _ _ _ _ _ _ ([]) ([nW 0]) p q S0 false 4 _ (Rs.nil _ _) h28 (by simp) (fits_one 0) (by simp) (tfits_one (x := 0) (by omega)) hS g_b8 g_e8).mono ?_
  rintro e w37 ⟨rfl, hv⟩
  clear h28
  replace hS := hS.keep hv
  replace hb := hb.trans (hv.mono hb.size)
  clear hv
  go_wp2_with fail
  go_ret
  exact ⟨rfl, hb⟩
end Go.Proofs.Ytlcbcggcmmlfdaa
