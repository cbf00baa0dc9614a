/- Made; Examples; Boxes; OpenSt: merged. -/
import Derived.Test.YtlcbcggcmmlfdaaGround
import Derived.Test.YtlcbcggcmmlfdaaRows2
import Derived.Test.YtlcbcggcmmlfdaaOpenNd
import Derived.Test.YtlcbcggcmmlfdaaLaLat

/- The bodies that the laws make. Condition: nodes can be read. -/
namespace Go.Proofs.Ytlcbcggcmmlfdaa
open Go.RowKit

/-- int of a label. -/
def nW (x : Nat) : Nd := ⟨1, 0, [105, 110, 116], 0, false, (x : Int), false, 0, false, 0⟩
theorem fits_w (x : Nat) : (nW x).Fits := ⟨fits_int.k0, fits_int.k1, fits_int.m0, fits_int.m1, fits_int.n0, fits_int.n1, fits_int.s1⟩
theorem tfits_w {x : Nat} (h : x < 18446744073709551616) : (nW x).TFits := ⟨⟨by simp [nW], by simp [nW]; omega⟩, ⟨by simp [nW], by simp [nW]⟩, ⟨by simp [nW], by simp [nW]⟩⟩
theorem tfits_ref : nRef.TFits := ⟨⟨by decide, by decide⟩, ⟨by decide, by decide⟩, ⟨by decide, by decide⟩⟩
theorem tfits_fun : nFun.TFits := ⟨⟨by decide, by decide⟩, ⟨by decide, by decide⟩, ⟨by decide, by decide⟩⟩

set_option maxRecDepth 100000 in
theorem whole_any (x : Nat) (w : World) : Calls Try.prog 37 #[.int .u64 (x : Int)] w fun e w' => ∃ A c, e = .returned (.slice A 1 c) ∧ Ns w' w'.heap.size A 1 c [nW x] ∧ Below w.heap.size w w' := by
  have hnew : Ns (w.alloc (.cells #[.int .u8 1, .int .i64 0, .string (str [105, 110, 116]), .int .i64 0, .bool false, .int .u64 (x : Int), .bool false, .int .u64 0, .bool false, .int .u64 0] 70)) (w.alloc (.cells #[.int .u8 1, .int .i64 0, .string (str [105, 110, 116]), .int .i64 0, .bool false, .int .u64 (x : Int), .bool false, .int .u64 0, .bool false, .int .u64 0] 70)).heap.size (some ⟨w.heap.size, 0, none⟩) 1 1 [nW x] := Rs.of_blk ndc_len (heap_alloc_new w _) ⟨[], rfl⟩ rfl (Nat.le_refl _) (by unfold maxLen; omega)
  have hal : Below w.heap.size w (w.alloc (.cells #[.int .u8 1, .int .i64 0, .string (str [105, 110, 116]), .int .i64 0, .bool false, .int .u64 (x : Int), .bool false, .int .u64 0, .bool false, .int .u64 0] 70)) := (Below.refl _ _).alloc (Nat.le_refl _) _
  go_enter Try.func37, Try.ntmps37
  go_wp2_with fail
  refine bodyPost_ret (v := .slice (some ⟨w.heap.size, 0, none⟩) 1 1) (by simp [results, Try.results37, go_sem]) rfl ⟨_, _, rfl, hnew, hal⟩

abbrev oRefG : Obj := .cells #[.int .u8 4, .int .i64 0, .string (str []), .int .i64 1, .bool false, .int .u64 0, .bool false, .int .u64 0, .bool false, .int .u64 0] 70
abbrev oFunG : Obj := .cells #[.int .u8 5, .int .i64 0, .string (str []), .int .i64 2, .bool false, .int .u64 0, .bool false, .int .u64 0, .bool false, .int .u64 0] 70

set_option maxRecDepth 100000 in
set_option maxHeartbeats 1000000 in
theorem ref_any (A : Option Addr) (n c : Nat) (l : List Nd) (w : World) (h : Ns w w.heap.size A n c l) (hn : n ≤ 1000) :
    Calls Try.prog 19 #[.slice A n c] w fun e w' => ∃ A' k c', e = .returned (.slice A' k c') ∧ Ns w' w'.heap.size A' k c' ([nRef] ++ l) ∧ Below w.heap.size w w' := by
  have hal : Below w.heap.size w (w.alloc oRefG) := (Below.refl _ _).alloc (Nat.le_refl _) _
  have HO := Lib.hid (own_of_blk (l := [nRef]) (n := 1) (heap_alloc_new w oRefG) (Nat.le_refl _) rfl rfl (by unfold maxLen; omega))
  have hbo := h.at_size (Nat.le_refl _) hal
  go_enter Try.func19, Try.ntmps19
  go_wp2_with (refine wpList_append_nd rfl (.tmp 4) (.tmp 5) rfl w.heap.size _ 1 [nRef] rfl HO.out _ A n c l rfl hbo (by omega) hal.size ?_; intro A1 k1 c1 u1 HK HA)
  have hgr := hal.grown HA.out.grown hal.size fun j hj => (HO.out.lt j hj).1
  have hL : Ns u1 u1.heap.size A1 k1 c1 ([nRef] ++ l) := Rs.of_own ndc_len (by decide) HA.out.own
  refine bodyPost_ret (v := .slice A1 k1 c1) (by simp [results, Try.results19, go_sem]) rfl ⟨_, _, _, rfl, hL, hgr⟩

set_option maxRecDepth 100000 in
set_option maxHeartbeats 1000000 in
theorem fun_any (A : Option Addr) (n c : Nat) (l : List Nd) (A2 : Option Addr) (n2 c2 : Nat) (l2 : List Nd) (w : World) (h : Ns w w.heap.size A n c l) (h2 : Ns w w.heap.size A2 n2 c2 l2) (hn : n ≤ 1000) (hn2 : n2 ≤ 1000) :
    Calls Try.prog 17 #[.slice A n c, .slice A2 n2 c2] w fun e w' => ∃ A' k c', e = .returned (.slice A' k c') ∧ Ns w' w'.heap.size A' k c' ([nFun] ++ l ++ l2) ∧ Below w.heap.size w w' := by
  have hal : Below w.heap.size w (w.alloc oFunG) := (Below.refl _ _).alloc (Nat.le_refl _) _
  have HO := Lib.hid (own_of_blk (l := [nFun]) (n := 1) (heap_alloc_new w oFunG) (Nat.le_refl _) rfl rfl (by unfold maxLen; omega))
  have hbo := h.at_size (Nat.le_refl _) hal
  have HH2 := Lib.hid h2
  clear h h2
  go_enter Try.func17, Try.ntmps17
  go_wp2_with (at_builtin; first | (refine wpList_append_nd rfl (.tmp 6) (.tmp 7) rfl w.heap.size _ 1 [nFun] rfl HO.out _ A n c l rfl hbo (by omega) hal.size ?_; intro A1 k1 c1 u1 HK HA; have HG := Lib.hid (hal.grown HA.out.grown hal.size fun j hj => (HO.out.lt j hj).1); have HB2 := Lib.hid (HH2.out.at_size (Nat.le_refl _) HG.out); have HS := Lib.hid HG.out.size) | (refine wpList_append_nd rfl (.tmp 8) (.tmp 9) rfl w.heap.size _ k1 ([nFun] ++ l) rfl HA.out.own _ A2 n2 c2 l2 rfl HB2.out (by have := HK.out; omega) HS.out ?_; intro A3 k3 c3 u3 HK3 HA3))
  have hgr := HG.out.grown HA3.out.grown HG.out.size fun j hj => (HA.out.own.lt j hj).1
  have hL : Ns u3 u3.heap.size A3 k3 c3 ([nFun] ++ l ++ l2) := Rs.of_own ndc_len (by decide) HA3.out.own
  refine bodyPost_ret (v := .slice A3 k3 c3) (by simp [results, Try.results17, go_sem]) rfl ⟨_, _, _, rfl, hL, hgr⟩
end Go.Proofs.Ytlcbcggcmmlfdaa

/- The examples that the laws ask. No condition. -/
namespace Go.Proofs.Ytlcbcggcmmlfdaa
open Go.RowKit

theorem fits_one (x : Nat) : ∀ y ∈ [nW x], y.Fits := fits_cons (fits_w x) fits_nil
theorem tfits_nil : ∀ y ∈ ([] : List Nd), y.TFits := by simp
theorem tfits_cons {x : Nd} {l : List Nd} (h : x.TFits) (k : ∀ y ∈ l, y.TFits) : ∀ y ∈ x :: l, y.TFits := by
  intro y hy
  rcases List.mem_cons.1 hy with rfl | hy
  · exact h
  · exact k y hy
theorem tfits_app {l m : List Nd} (h : ∀ y ∈ l, y.TFits) (k : ∀ y ∈ m, y.TFits) : ∀ y ∈ l ++ m, y.TFits := by
  intro y hy
  rcases List.mem_append.1 hy with hy | hy
  · exact h y hy
  · exact k y hy
theorem tfits_one {x : Nat} (h : x < 18446744073709551616) : ∀ y ∈ [nW x], y.TFits := tfits_cons (tfits_w h) tfits_nil

/-- What Below tells, named. -/
theorem ground_lit (A A2 : Option Addr) (n c n2 c2 : Nat) (a b : List Nd) (p q : Option Addr) (S : So) (r : Bool) (x : Int) (w : World) (h1 : Ns w w.heap.size A n c a) (h2 : Ns w w.heap.size A2 n2 c2 b) (f1 : ∀ x ∈ a, x.Fits) (f2 : ∀ x ∈ b, x.Fits) (t1 : ∀ x ∈ a, x.TFits) (t2 : ∀ x ∈ b, x.TFits) (hS : SoAt w p q S)
    (e1 : grB S a b = r) (e2 : (grE S a b : Int) = x) : Calls Try.prog 11 #[.slice A n c, .slice A2 n2 c2, .pointer p, .pointer q] w fun e w' => e = .returned (.tuple #[.bool r, .int .i64 x]) ∧ Below w.heap.size w w' := by
  rw [← e1, ← e2]
  exact ground_any A A2 n c n2 c2 a b p q S w h1 h2 f1 f2 t1 t2 hS

/-- int of a variable. -/
def nV : Nd := ⟨1, 0, [105, 110, 116], 0, true, 0, false, 0, false, 0⟩
abbrev oV : Obj := .cells #[.int .u8 1, .int .i64 0, .string (str [105, 110, 116]), .int .i64 0, .bool true, .int .u64 0, .bool false, .int .u64 0, .bool false, .int .u64 0] 70
theorem fits_v : nV.Fits := ⟨by decide, by decide, by decide, by decide, by decide, by decide, by decide⟩
theorem tfits_v : nV.TFits := ⟨⟨by decide, by decide⟩, ⟨by decide, by decide⟩, ⟨by decide, by decide⟩⟩
def S0 : So := soOf [3, 2] 0
theorem g_b0 : grB S0 ([nW 0]) ([nW 1]) = true := by decide +kernel
theorem g_e0 : (grE S0 ([nW 0]) ([nW 1]) : Int) = 0 := by decide +kernel
theorem g_b1 : grB S0 ([nW 1]) ([nW 0]) = false := by decide +kernel
theorem g_e1 : (grE S0 ([nW 1]) ([nW 0]) : Int) = 0 := by decide +kernel
theorem g_b2 : grB S0 ([nRef] ++ [nW 0]) ([nRef] ++ [nW 1]) = false := by decide +kernel
theorem g_e2 : (grE S0 ([nRef] ++ [nW 0]) ([nRef] ++ [nW 1]) : Int) = 0 := by decide +kernel
theorem g_b3 : grB S0 ([nFun] ++ [nW 1] ++ [nW 0]) ([nFun] ++ [nW 0] ++ [nW 0]) = true := by decide +kernel
theorem g_e3 : (grE S0 ([nFun] ++ [nW 1] ++ [nW 0]) ([nFun] ++ [nW 0] ++ [nW 0]) : Int) = 0 := by decide +kernel
theorem g_b4 : grB S0 ([nFun] ++ [nW 0] ++ [nW 0]) ([nFun] ++ [nW 1] ++ [nW 0]) = false := by decide +kernel
theorem g_e4 : (grE S0 ([nFun] ++ [nW 0] ++ [nW 0]) ([nFun] ++ [nW 1] ++ [nW 0]) : Int) = 0 := by decide +kernel
theorem g_b5 : grB S0 ([nW 0]) ([nRef] ++ [nW 0]) = false := by decide +kernel
theorem g_e5 : (grE S0 ([nW 0]) ([nRef] ++ [nW 0]) : Int) = 0 := by decide +kernel
theorem g_b6 : grB S0 ([nV]) ([nW 0]) = false := by decide +kernel
theorem g_e6 : (grE S0 ([nV]) ([nW 0]) : Int) = 1 := by decide +kernel
theorem g_b7 : grB S0 ([nW 2]) ([nW 0]) = false := by decide +kernel
theorem g_e7 : (grE S0 ([nW 2]) ([nW 0]) : Int) = 1 := by decide +kernel
theorem g_b8 : grB S0 ([]) ([nW 0]) = false := by decide +kernel
theorem g_e8 : (grE S0 ([]) ([nW 0]) : Int) = 4 := by decide +kernel

set_option maxRecDepth 100000 in
set_option maxHeartbeats 8000000 in
theorem alive_any (w : World) : Calls Try.prog 14 #[] w fun e w' => e = .returned (.bool true) ∧ Below w.heap.size w w' := by
  have h0 : Rd La.nm (w.alloc (.cells #[.int .u64 3, .int .u64 2] 46)) (w.alloc (.cells #[.int .u64 3, .int .u64 2] 46)).heap.size (some ⟨w.heap.size, 0, none⟩) 2 2 [3, 2] := Rd.new w _ 46 2 [3, 2] rfl rfl (by decide)
  have hb : Below w.heap.size w (w.alloc (.cells #[.int .u64 3, .int .u64 2] 46)) := (Below.refl _ _).alloc (Nat.le_refl _) _
  have HF : Hid (La.Fit [3, 2]) := Lib.hid (by intro x hx; simp only [List.mem_cons, List.not_mem_nil, or_false] at hx; omega)
  go_enter Try.func14, Try.ntmps14
  go_wp2_with fail
  refine (made_any _ 2 2 [3, 2] 0 _ h0 HF.out).mono ?_
  rintro e w1 ⟨p, q, rfl, hS, -, -, hv⟩
  replace hS : SoAt w1 p q S0 := hS
  replace hb := hb.trans (hv.mono hb.size)
  clear hv h0 HF
  go_wp2_with fail
  refine (whole_any 0 _).mono ?_
  rintro e w2 ⟨A1, c1, rfl, h1, hv⟩
  replace hS := hS.keep hv
  replace hb := hb.trans (hv.mono hb.size)
  clear hv
  go_wp2_with fail
  refine (whole_any 1 _).mono ?_
  rintro e w3 ⟨A2, c2, rfl, h2, hv⟩
  replace h1 := h1.at_size (Nat.le_refl _) hv
  replace hS := hS.keep hv
  replace hb := hb.trans (hv.mono hb.size)
  clear hv
  go_wp2_with fail
  refine (ground_lit _ _ _ _ _ _ ([nW 0]) ([nW 1]) p q S0 true 0 _ h1 h2 (fits_one 0) (fits_one 1) (tfits_one (x := 0) (by omega)) (tfits_one (x := 1) (by omega)) hS g_b0 g_e0).mono ?_
  rintro e w4 ⟨rfl, hv⟩
  clear h1 h2
  replace hS := hS.keep hv
  replace hb := hb.trans (hv.mono hb.size)
  clear hv
  go_wp2_with fail
  refine (whole_any 1 _).mono ?_
  rintro e w5 ⟨A3, c3, rfl, h3, hv⟩
  replace hS := hS.keep hv
  replace hb := hb.trans (hv.mono hb.size)
  clear hv
  go_wp2_with fail
  refine (whole_any 0 _).mono ?_
  rintro e w6 ⟨A4, c4, rfl, h4, hv⟩
  replace h3 := h3.at_size (Nat.le_refl _) hv
  replace hS := hS.keep hv
  replace hb := hb.trans (hv.mono hb.size)
  clear hv
  go_wp2_with fail
  refine (ground_lit _ _ _ _ _ _ ([nW 1]) ([nW 0]) p q S0 false 0 _ h3 h4 (fits_one 1) (fits_one 0) (tfits_one (x := 1) (by omega)) (tfits_one (x := 0) (by omega)) hS g_b1 g_e1).mono ?_
  rintro e w7 ⟨rfl, hv⟩
  clear h3 h4
  replace hS := hS.keep hv
  replace hb := hb.trans (hv.mono hb.size)
  clear hv
  go_wp2_with fail
  refine (whole_any 0 _).mono ?_
  rintro e w8 ⟨A5, c5, rfl, h5, hv⟩
  replace hS := hS.keep hv
  replace hb := hb.trans (hv.mono hb.size)
  clear hv
  go_wp2_with fail
  refine (ref_any _ _ _ _ _ h5 (by omega)).mono ?_
  rintro e w9 ⟨A6, n6, c6, rfl, h6, hv⟩
  clear h5
  replace hS := hS.keep hv
  replace hb := hb.trans (hv.mono hb.size)
  clear hv
  go_wp2_with fail
  refine (whole_any 1 _).mono ?_
  rintro e w10 ⟨A7, c7, rfl, h7, hv⟩
  replace h6 := h6.at_size (Nat.le_refl _) hv
  replace hS := hS.keep hv
  replace hb := hb.trans (hv.mono hb.size)
  clear hv
  go_wp2_with fail
  refine (ref_any _ _ _ _ _ h7 (by omega)).mono ?_
  rintro e w11 ⟨A8, n8, c8, rfl, h8, hv⟩
  clear h7
  replace h6 := h6.at_size (Nat.le_refl _) hv
  replace hS := hS.keep hv
  replace hb := hb.trans (hv.mono hb.size)
  clear hv
  go_wp2_with fail
  refine (ground_lit _ _ _ _ _ _ ([nRef] ++ [nW 0]) ([nRef] ++ [nW 1]) p q S0 false 0 _ h6 h8 (fits_app (fits_cons fits_ref fits_nil) (fits_one 0)) (fits_app (fits_cons fits_ref fits_nil) (fits_one 1)) (tfits_app (tfits_cons tfits_ref tfits_nil) (tfits_one (x := 0) (by omega))) (tfits_app (tfits_cons tfits_ref tfits_nil) (tfits_one (x := 1) (by omega))) hS g_b2 g_e2).mono ?_
  rintro e w12 ⟨rfl, hv⟩
  clear h6 h8
  replace hS := hS.keep hv
  replace hb := hb.trans (hv.mono hb.size)
  clear hv
  go_wp2_with fail
  refine (whole_any 1 _).mono ?_
  rintro e w13 ⟨A9, c9, rfl, h9, hv⟩
  replace hS := hS.keep hv
  replace hb := hb.trans (hv.mono hb.size)
  clear hv
  go_wp2_with fail
  refine (whole_any 0 _).mono ?_
  rintro e w14 ⟨A10, c10, rfl, h10, hv⟩
  replace h9 := h9.at_size (Nat.le_refl _) hv
  replace hS := hS.keep hv
  replace hb := hb.trans (hv.mono hb.size)
  clear hv
  go_wp2_with fail
  refine (fun_any _ _ _ _ _ _ _ _ _ h9 h10 (by omega) (by omega)).mono ?_
  rintro e w15 ⟨A11, n11, c11, rfl, h11, hv⟩
  clear h9 h10
  replace hS := hS.keep hv
  replace hb := hb.trans (hv.mono hb.size)
  clear hv
  go_wp2_with fail
  refine (whole_any 0 _).mono ?_
  rintro e w16 ⟨A12, c12, rfl, h12, hv⟩
  replace h11 := h11.at_size (Nat.le_refl _) hv
  replace hS := hS.keep hv
  replace hb := hb.trans (hv.mono hb.size)
  clear hv
  go_wp2_with fail
  refine (whole_any 0 _).mono ?_
  rintro e w17 ⟨A13, c13, rfl, h13, hv⟩
  replace h11 := h11.at_size (Nat.le_refl _) hv
  replace h12 := h12.at_size (Nat.le_refl _) hv
  replace hS := hS.keep hv
  replace hb := hb.trans (hv.mono hb.size)
  clear hv
  go_wp2_with fail
  refine (fun_any _ _ _ _ _ _ _ _ _ h12 h13 (by omega) (by omega)).mono ?_
  rintro e w18 ⟨A14, n14, c14, rfl, h14, hv⟩
  clear h12 h13
  replace h11 := h11.at_size (Nat.le_refl _) hv
  replace hS := hS.keep hv
  replace hb := hb.trans (hv.mono hb.size)
  clear hv
  go_wp2_with fail
  refine (ground_lit _ _ _ _ _ _ ([nFun] ++ [nW 1] ++ [nW 0]) ([nFun] ++ [nW 0] ++ [nW 0]) p q S0 true 0 _ h11 h14 (fits_app (fits_app (fits_cons fits_fun fits_nil) (fits_one 1)) (fits_one 0)) (fits_app (fits_app (fits_cons fits_fun fits_nil) (fits_one 0)) (fits_one 0)) (tfits_app (tfits_app (tfits_cons tfits_fun tfits_nil) (tfits_one (x := 1) (by omega))) (tfits_one (x := 0) (by omega))) (tfits_app (tfits_app (tfits_cons tfits_fun tfits_nil) (tfits_one (x := 0) (by omega))) (tfits_one (x := 0) (by omega))) hS g_b3 g_e3).mono ?_
  rintro e w19 ⟨rfl, hv⟩
  clear h11 h14
  replace hS := hS.keep hv
  replace hb := hb.trans (hv.mono hb.size)
  clear hv
  go_wp2_with fail
  refine (whole_any 0 _).mono ?_
  rintro e w20 ⟨A15, c15, rfl, h15, hv⟩
  replace hS := hS.keep hv
  replace hb := hb.trans (hv.mono hb.size)
  clear hv
  go_wp2_with fail
  refine (whole_any 0 _).mono ?_
  rintro e w21 ⟨A16, c16, rfl, h16, hv⟩
  replace h15 := h15.at_size (Nat.le_refl _) hv
  replace hS := hS.keep hv
  replace hb := hb.trans (hv.mono hb.size)
  clear hv
  go_wp2_with fail
  refine (fun_any _ _ _ _ _ _ _ _ _ h15 h16 (by omega) (by omega)).mono ?_
  rintro e w22 ⟨A17, n17, c17, rfl, h17, hv⟩
  clear h15 h16
  replace hS := hS.keep hv
  replace hb := hb.trans (hv.mono hb.size)
  clear hv
  go_wp2_with fail
  refine (whole_any 1 _).mono ?_
  rintro e w23 ⟨A18, c18, rfl, h18, hv⟩
  replace h17 := h17.at_size (Nat.le_refl _) hv
  replace hS := hS.keep hv
  replace hb := hb.trans (hv.mono hb.size)
  clear hv
  go_wp2_with fail
  refine (whole_any 0 _).mono ?_
  rintro e w24 ⟨A19, c19, rfl, h19, hv⟩
  replace h17 := h17.at_size (Nat.le_refl _) hv
  replace h18 := h18.at_size (Nat.le_refl _) hv
  replace hS := hS.keep hv
  replace hb := hb.trans (hv.mono hb.size)
  clear hv
  go_wp2_with fail
  refine (fun_any _ _ _ _ _ _ _ _ _ h18 h19 (by omega) (by omega)).mono ?_
  rintro e w25 ⟨A20, n20, c20, rfl, h20, hv⟩
  clear h18 h19
  replace h17 := h17.at_size (Nat.le_refl _) hv
  replace hS := hS.keep hv
  replace hb := hb.trans (hv.mono hb.size)
  clear hv
  go_wp2_with fail
  refine (ground_lit _ _ _ _ _ _ ([nFun] ++ [nW 0] ++ [nW 0]) ([nFun] ++ [nW 1] ++ [nW 0]) p q S0 false 0 _ h17 h20 (fits_app (fits_app (fits_cons fits_fun fits_nil) (fits_one 0)) (fits_one 0)) (fits_app (fits_app (fits_cons fits_fun fits_nil) (fits_one 1)) (fits_one 0)) (tfits_app (tfits_app (tfits_cons tfits_fun tfits_nil) (tfits_one (x := 0) (by omega))) (tfits_one (x := 0) (by omega))) (tfits_app (tfits_app (tfits_cons tfits_fun tfits_nil) (tfits_one (x := 1) (by omega))) (tfits_one (x := 0) (by omega))) hS g_b4 g_e4).mono ?_
  rintro e w26 ⟨rfl, hv⟩
  clear h17 h20
  replace hS := hS.keep hv
  replace hb := hb.trans (hv.mono hb.size)
  clear hv
  go_wp2_with fail
  refine (whole_any 0 _).mono ?_
  rintro e w27 ⟨A21, c21, rfl, h21, hv⟩
  replace hS := hS.keep hv
  replace hb := hb.trans (hv.mono hb.size)
  clear hv
  go_wp2_with fail
  refine (whole_any 0 _).mono ?_
  rintro e w28 ⟨A22, c22, rfl, h22, hv⟩
  replace h21 := h21.at_size (Nat.le_refl _) hv
  replace hS := hS.keep hv
  replace hb := hb.trans (hv.mono hb.size)
  clear hv
  go_wp2_with fail
  refine (ref_any _ _ _ _ _ h22 (by omega)).mono ?_
  rintro e w29 ⟨A23, n23, c23, rfl, h23, hv⟩
  clear h22
  replace h21 := h21.at_size (Nat.le_refl _) hv
  replace hS := hS.keep hv
  replace hb := hb.trans (hv.mono hb.size)
  clear hv
  go_wp2_with fail
  refine (ground_lit _ _ _ _ _ _ ([nW 0]) ([nRef] ++ [nW 0]) p q S0 false 0 _ h21 h23 (fits_one 0) (fits_app (fits_cons fits_ref fits_nil) (fits_one 0)) (tfits_one (x := 0) (by omega)) (tfits_app (tfits_cons tfits_ref tfits_nil) (tfits_one (x := 0) (by omega))) hS g_b5 g_e5).mono ?_
  rintro e w30 ⟨rfl, hv⟩
  clear h21 h23
  replace hS := hS.keep hv
  replace hb := hb.trans (hv.mono hb.size)
  clear hv
  have h24 : Ns (w30.alloc oV) (w30.alloc oV).heap.size (some ⟨w30.heap.size, 0, none⟩) 1 1 [nV] := Rs.of_blk ndc_len (heap_alloc_new w30 oV) ⟨[], rfl⟩ rfl (Nat.le_refl _) (by unfold maxLen; omega)
  have hv : Below w30.heap.size w30 (w30.alloc oV) := (Below.refl _ _).alloc (Nat.le_refl _) _
  replace hS := hS.keep hv
  replace hb := hb.trans (hv.mono hb.size)
  clear hv
  go_wp2_with fail
  refine (whole_any 0 _).mono ?_
  rintro e w31 ⟨A25, c25, rfl, h25, hv⟩
  replace h24 := h24.at_size (Nat.le_refl _) hv
  replace hS := hS.keep hv
  replace hb := hb.trans (hv.mono hb.size)
  clear hv
  go_wp2_with fail
  refine (ground_lit _ _ _ _ _ _ ([nV]) ([nW 0]) p q S0 false 1 _ h24 h25 (fits_cons fits_v fits_nil) (fits_one 0) (tfits_cons tfits_v tfits_nil) (tfits_one (x := 0) (by omega)) hS g_b6 g_e6).mono ?_
  rintro e w32 ⟨rfl, hv⟩
  clear h24 h25
  replace hS := hS.keep hv
  replace hb := hb.trans (hv.mono hb.size)
  clear hv
  go_wp2_with fail
  refine (whole_any 2 _).mono ?_
  rintro e w33 ⟨A26, c26, rfl, h26, hv⟩
  replace hS := hS.keep hv
  replace hb := hb.trans (hv.mono hb.size)
  clear hv
  go_wp2_with fail
  refine (whole_any 0 _).mono ?_
  rintro e w34 ⟨A27, c27, rfl, h27, hv⟩
  replace h26 := h26.at_size (Nat.le_refl _) hv
  replace hS := hS.keep hv
  replace hb := hb.trans (hv.mono hb.size)
  clear hv
  go_wp2_with fail
  refine (ground_lit _ _ _ _ _ _ ([nW 2]) ([nW 0]) p q S0 false 1 _ h26 h27 (fits_one 2) (fits_one 0) (tfits_one (x := 2) (by omega)) (tfits_one (x := 0) (by omega)) hS g_b7 g_e7).mono ?_
  rintro e w35 ⟨rfl, hv⟩
  clear h26 h27
  replace hS := hS.keep hv
  replace hb := hb.trans (hv.mono hb.size)
  clear hv
  go_wp2_with fail
  refine (whole_any 0 _).mono ?_
  rintro e w36 ⟨A28, c28, rfl, h28, hv⟩
  replace hS := hS.keep hv
  replace hb := hb.trans (hv.mono hb.size)
  clear hv
  go_wp2_with fail
  refine (ground_lit _ _ _ _ _ _ ([]) ([nW 0]) p q S0 false 4 _ (Rs.nil _ _) h28 (by simp) (fits_one 0) (by simp) (tfits_one (x := 0) (by omega)) hS g_b8 g_e8).mono ?_
  rintro e w37 ⟨rfl, hv⟩
  clear h28
  replace hS := hS.keep hv
  replace hb := hb.trans (hv.mono hb.size)
  clear hv
  go_wp2_with fail
  go_ret
  exact ⟨rfl, hb⟩
end Go.Proofs.Ytlcbcggcmmlfdaa

/- Two, or three, blocks that a call lays for what came in by value. No condition. -/
namespace Go.Proofs.Ytlcbcggcmmlfdaa
open Go.RowKit

theorem box2 (w : World) (o1 o2 : Obj) : ((w.alloc o1).alloc o2).heap[w.heap.size]? = some o1 ∧ ((w.alloc o1).alloc o2).heap[w.heap.size + 1]? = some o2 ∧ Below w.heap.size w ((w.alloc o1).alloc o2) := by
  have hb1 : Below w.heap.size w (w.alloc o1) := (Below.refl _ _).alloc (Nat.le_refl _) _
  refine ⟨(Below.heap_alloc _ _ _ (by simp)).trans (heap_alloc_new w _), ?_, hb1.alloc hb1.size _⟩
  have := heap_alloc_new (w.alloc o1) o2
  rwa [World.size_alloc] at this
theorem box3 (w : World) (o1 o2 o3 : Obj) : (((w.alloc o1).alloc o2).alloc o3).heap[w.heap.size]? = some o1 ∧ (((w.alloc o1).alloc o2).alloc o3).heap[w.heap.size + 1]? = some o2 ∧ (((w.alloc o1).alloc o2).alloc o3).heap[w.heap.size + 1 + 1]? = some o3 ∧ Below w.heap.size w (((w.alloc o1).alloc o2).alloc o3) := by
  obtain ⟨h1, h2, hb⟩ := box2 w o1 o2
  refine ⟨(Below.heap_alloc _ _ _ (by simp; omega)).trans h1, (Below.heap_alloc _ _ _ (by simp)).trans h2, ?_, hb.alloc hb.size _⟩
  have := heap_alloc_new ((w.alloc o1).alloc o2) o3
  rwa [World.size_alloc, World.size_alloc] at this

/-- A cell of old memory. -/
theorem cell_old {w w' : World} {p : Addr} {v : Value} (h : w.cell? p = some v) (hb : Below w.heap.size w w') : w'.cell? p = some v := (hb.cell (World.block_lt_of_cell? w p h)).trans h
end Go.Proofs.Ytlcbcggcmmlfdaa

/- What structs and arrays with slices in them that came in by value read as. Condition: they can be read. -/
namespace Go.Proofs.Ytlcbcggcmmlfdaa
open Go.ChangeShapes Go.WideShapes Go.ChangeAt Go.RowKit Go.Deep

theorem c22 : Try.prog.cellsOf 22 = 1 := by kernel_rfl
theorem c23 : Try.prog.cellsOf 23 = 1 := by kernel_rfl
theorem c25 : Try.prog.cellsOf 25 = 2 := by kernel_rfl
theorem c39 : Try.prog.cellsOf 39 = 3 := by kernel_rfl
theorem c41 : Try.prog.cellsOf 41 = 2 := by kernel_rfl
theorem c45 : Try.prog.cellsOf 45 = 1 := by kernel_rfl
theorem c48 : Try.prog.cellsOf 48 = 3 := by kernel_rfl

theorem one_of {α : Type} : ∀ {l : List α}, l.length = 1 → ∃ a, l = [a]
  | [a], _ => ⟨a, rfl⟩
theorem three_of {α : Type} : ∀ {l : List α}, l.length = 3 → ∃ a b c, l = [a, b, c]
  | [a, b, c], _ => ⟨a, b, c, rfl⟩
theorem agg_of {v : Value} {x y : Value} {l : List Value} (h : v.cells.toList = x :: y :: l) : v = .agg (x :: y :: l).toArray := by
  cases v <;> simp [Value.cells] at h
  rename_i xs
  congr 1
  apply Array.toList_inj.1
  simpa using h

section
variable {H : Type} {enc : TypeId × Value → H} {W : World}

theorem open_rows {n : Nat} {cs : List Value} {x : DataW H × List MemPlace} (h : DataW.trod enc Try.prog W 0 (fun _ => true) true n 23 cs = some x) :
    ∃ (a0 : Option Addr) (len0 cap0 : Nat) (l : List Nat), cs = [.slice a0 len0 cap0] ∧ Rd La.nm W W.heap.size a0 len0 cap0 l ∧ La.Fit l := by
  obtain ⟨a0, len0, cap0, e⟩ : ∃ a0 len0 cap0, cs = [Value.slice a0 len0 cap0] := by
    rcases open_slice Try.underlying23 h with ⟨hcs, _⟩ | ⟨x, l, c, m, n, D, Pl, hcs, _⟩
    · exact ⟨_, _, _, hcs⟩
    · exact ⟨_, _, _, hcs⟩
  subst e
  obtain ⟨us, h1, h2⟩ := La.opened_nums (t := 23) (e := 46) (d := x.1) (p := x.2) Try.underlying23 Try.underlying46 c32 ⟨n, h⟩
  exact ⟨a0, len0, cap0, us, rfl, h1, h2⟩

theorem opened_sorts {v : Value} {d : DataW H} {p : List MemPlace} (h : DataW.Trod enc Try.prog W 0 (fun _ => true) true 25 v d p) :
    ∃ (a0 : Option Addr) (len0 cap0 : Nat) (k : Int) (l : List Nat), v = zV a0 len0 cap0 k ∧ Rd La.nm W W.heap.size a0 len0 cap0 l ∧ La.Fit l := by
  obtain ⟨fuel, h⟩ := h
  obtain ⟨xs, m, _, _, hl, hlen, hf⟩ := DataW.trod_struct Try.underlying25 h
  rw [c25] at hl
  match xs, hlen with
  | [y0, y1], _ =>
    have h0 : DataW.trod enc Try.prog W 0 (fun _ => true) true m 23 (List.take (Try.prog.cellsOf 23) (List.drop 0 v.cells.toList)) = some y0 := hf 0 _ rfl
    have h1 : DataW.trod enc Try.prog W 0 (fun _ => true) true m 3 (List.take (Try.prog.cellsOf 3) (List.drop 1 v.cells.toList)) = some y1 := hf 1 _ rfl
    rw [c23] at h0
    rw [c3] at h1
    obtain ⟨a0, len0, cap0, l, e0, hr, hfit⟩ := open_rows h0
    obtain ⟨k, e1, _, _⟩ := DataW.trod_int Try.underlying3 h1
    obtain ⟨u0, u1, e⟩ := two_of hl
    rw [e] at e0 e1
    simp at e0 e1
    subst e0 e1
    exact ⟨a0, len0, cap0, k, l, agg_of e, hr, hfit⟩

/-- Bodies handed in by value. -/
structure Came (W : World) (A : Option Addr) (n c : Nat) (l : List Nd) : Prop where
  rs : Ns W W.heap.size A n c l
  fit : ∀ x ∈ l, x.Fits
  tfit : ∀ x ∈ l, x.TFits

theorem opened_arr3 {v : Value} {d : DataW H} {p : List MemPlace} (h : DataW.Trod enc Try.prog W 0 (fun _ => true) true 39 v d p) :
    ∃ (A0 : Option Addr) (n0 k0 : Nat) (l0 : List Nd) (A1 : Option Addr) (n1 k1 : Nat) (l1 : List Nd) (A2 : Option Addr) (n2 k2 : Nat) (l2 : List Nd), v = .agg #[.slice A0 n0 k0, .slice A1 n1 k1, .slice A2 n2 k2] ∧ Came W A0 n0 k0 l0 ∧ Came W A1 n1 k1 l1 ∧ Came W A2 n2 k2 l2 := by
  obtain ⟨fuel, h⟩ := h
  have h39 : Try.prog.underlying 39 = some (.array 3 22) := Try.underlying39
  obtain ⟨xs, m, _, _, hlen, hxl, hel⟩ := DataW.trod_array h39 h
  rw [c39] at hlen
  match xs, hxl with
  | [y0, y1, y2], _ =>
    have h0 := hel 0 (by decide)
    have h1 := hel 1 (by decide)
    have h2 := hel 2 (by decide)
    rw [c22] at h0 h1 h2
    obtain ⟨u0, u1, u2, e⟩ := three_of hlen
    rw [e] at h0 h1 h2
    have h0 : DataW.trod enc Try.prog W 0 (fun _ => true) true m 22 [u0] = some y0 := h0
    have h1 : DataW.trod enc Try.prog W 0 (fun _ => true) true m 22 [u1] = some y1 := h1
    have h2 : DataW.trod enc Try.prog W 0 (fun _ => true) true m 22 [u2] = some y2 := h2
    obtain ⟨A0, n0, k0, l0, e0, a1, a2, a3⟩ := open_nodes h0
    obtain ⟨A1, n1, k1, l1, e1, b1, b2, b3⟩ := open_nodes h1
    obtain ⟨A2, n2, k2, l2, e2, d1, d2, d3⟩ := open_nodes h2
    simp at e0 e1 e2
    subst e0 e1 e2
    exact ⟨A0, n0, k0, l0, A1, n1, k1, l1, A2, n2, k2, l2, agg_of e, ⟨a1, a2, a3⟩, ⟨b1, b2, b3⟩, ⟨d1, d2, d3⟩⟩

theorem opened_arr2 {v : Value} {d : DataW H} {p : List MemPlace} (h : DataW.Trod enc Try.prog W 0 (fun _ => true) true 41 v d p) :
    ∃ (A0 : Option Addr) (n0 k0 : Nat) (l0 : List Nd) (A1 : Option Addr) (n1 k1 : Nat) (l1 : List Nd), v = .agg #[.slice A0 n0 k0, .slice A1 n1 k1] ∧ Came W A0 n0 k0 l0 ∧ Came W A1 n1 k1 l1 := by
  obtain ⟨fuel, h⟩ := h
  have h41 : Try.prog.underlying 41 = some (.array 2 22) := Try.underlying41
  obtain ⟨xs, m, _, _, hlen, hxl, hel⟩ := DataW.trod_array h41 h
  rw [c41] at hlen
  match xs, hxl with
  | [y0, y1], _ =>
    have h0 := hel 0 (by decide)
    have h1 := hel 1 (by decide)
    rw [c22] at h0 h1
    obtain ⟨u0, u1, e⟩ := two_of hlen
    rw [e] at h0 h1
    have h0 : DataW.trod enc Try.prog W 0 (fun _ => true) true m 22 [u0] = some y0 := h0
    have h1 : DataW.trod enc Try.prog W 0 (fun _ => true) true m 22 [u1] = some y1 := h1
    obtain ⟨A0, n0, k0, l0, e0, a1, a2, a3⟩ := open_nodes h0
    obtain ⟨A1, n1, k1, l1, e1, b1, b2, b3⟩ := open_nodes h1
    simp at e0 e1
    subst e0 e1
    exact ⟨A0, n0, k0, l0, A1, n1, k1, l1, agg_of e, ⟨a1, a2, a3⟩, ⟨b1, b2, b3⟩⟩

theorem opened_moved {v : Value} {d : DataW H} {p : List MemPlace} (h : DataW.Trod enc Try.prog W 0 (fun _ => true) true 48 v d p) :
    ∃ (A0 : Option Addr) (n0 k0 : Nat) (l0 : List Nd) (z v0 : Int), v = .agg #[.slice A0 n0 k0, .int .u16 z, .int .u64 v0] ∧ Came W A0 n0 k0 l0 ∧ (Lit.int .u16 z).wf = true ∧ U64 v0 := by
  obtain ⟨fuel, h⟩ := h
  obtain ⟨xs, m, _, _, hl, hlen, hf⟩ := DataW.trod_struct Try.underlying48 h
  rw [c48] at hl
  match xs, hlen with
  | [y0, y1, y2], _ =>
    have h0 : DataW.trod enc Try.prog W 0 (fun _ => true) true m 22 (List.take (Try.prog.cellsOf 22) (List.drop 0 v.cells.toList)) = some y0 := hf 0 _ rfl
    have h1 : DataW.trod enc Try.prog W 0 (fun _ => true) true m 45 (List.take (Try.prog.cellsOf 45) (List.drop 1 v.cells.toList)) = some y1 := hf 1 _ rfl
    have h2 : DataW.trod enc Try.prog W 0 (fun _ => true) true m 46 (List.take (Try.prog.cellsOf 46) (List.drop 2 v.cells.toList)) = some y2 := hf 2 _ rfl
    rw [c22] at h0
    rw [c45] at h1
    rw [c32] at h2
    obtain ⟨A0, n0, k0, l0, e0, a1, a2, a3⟩ := open_nodes h0
    obtain ⟨z, e1, _, wz⟩ := DataW.trod_int Try.underlying45 h1
    obtain ⟨v0, e2, _, wv⟩ := DataW.trod_int Try.underlying46 h2
    have hv : U64 v0 := ⟨(u64_fits wv).1, (u64_fits wv).2⟩
    obtain ⟨u0, u1, u2, e⟩ := three_of hl
    rw [e] at e0 e1 e2
    simp at e0 e1 e2
    subst e0 e1 e2
    exact ⟨A0, n0, k0, l0, z, v0, agg_of e, ⟨a1, a2, a3⟩, wz, hv⟩
end
end Go.Proofs.Ytlcbcggcmmlfdaa
