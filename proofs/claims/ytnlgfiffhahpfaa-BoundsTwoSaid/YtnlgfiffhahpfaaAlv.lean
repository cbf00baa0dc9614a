/- What alive answers: examples that the document gives. No condition. -/
import Derived.Test.YtnlgfiffhahpfaaUniq
namespace Go.Proofs.Ytnlgfiffhahpfaa
open Go.RowKit

/-- 0 below 1 below 2. -/
def S0 : Sr := laS [7, 6, 4]
set_option maxRecDepth 100000 in
theorem chk0 : La.checkN [7, 6, 4] = 0 := by decide +kernel
theorem s0_of : srOf [7, 6, 4] false 0 = S0 := by
  unfold srOf
  rw [if_neg (by decide), if_pos chk0]
  rfl
theorem s0_ok : S0.Ok := la_ok (La.latOK_of chk0)
def B1 : List Bd := [⟨false, 1, true, 0⟩, ⟨true, 0, true, 1⟩]
def B2 : List Bd := [⟨false, 2, true, 0⟩, ⟨true, 0, false, 1⟩]
def B3 : List Bd := [⟨true, 1, true, 0⟩]
def B4 : List Bd := [⟨false, 3, false, 3⟩]
def B6 : List Bd := [⟨true, 0, true, 1⟩]

set_option maxRecDepth 100000 in
theorem ex1 {x : Int} {lo hi : List Nat} (h : SolveIs S0 2 B1 x lo hi) : x = 0 ∧ lo = [1, 1] ∧ hi = [2, 2] := by
  have hm : ∀ b ∈ B1, mayB S0 2 b = true := List.all_eq_true.1 (by decide +kernel : B1.all (mayB S0 2) = true)
  have h1 : Under S0 2 B1 (List.replicate 2 S0.bot) := Under.start s0_ok fun _ => by decide +kernel
  have h2 := h1.step s0_ok (b := ⟨false, 1, true, 0⟩) (by simp [B1]) (hm _ (by simp [B1])) rfl
  have h3 := h2.step s0_ok (b := ⟨true, 0, true, 1⟩) (by simp [B1]) (hm _ (by simp [B1])) rfl
  have e : (((List.replicate 2 S0.bot).set (Bd.mk false 1 true 0).bn (S0.join ((List.replicate 2 S0.bot).getD (Bd.mk false 1 true 0).bn 0) (vl (List.replicate 2 S0.bot) (Bd.mk false 1 true 0).av (Bd.mk false 1 true 0).an))).set (Bd.mk true 0 true 1).bn
      (S0.join (((List.replicate 2 S0.bot).set (Bd.mk false 1 true 0).bn (S0.join ((List.replicate 2 S0.bot).getD (Bd.mk false 1 true 0).bn 0) (vl (List.replicate 2 S0.bot) (Bd.mk false 1 true 0).av (Bd.mk false 1 true 0).an))).getD (Bd.mk true 0 true 1).bn 0)
        (vl ((List.replicate 2 S0.bot).set (Bd.mk false 1 true 0).bn (S0.join ((List.replicate 2 S0.bot).getD (Bd.mk false 1 true 0).bn 0) (vl (List.replicate 2 S0.bot) (Bd.mk false 1 true 0).av (Bd.mk false 1 true 0).an))) (Bd.mk true 0 true 1).av (Bd.mk true 0 true 1).an))) = [1, 1] := by decide +kernel
  rw [e] at h3
  have low : IsLow S0 2 B1 [1, 1] := ⟨h3, led_of (by decide +kernel)⟩
  have g1 : Under S0.turn 2 (B1.map Bd.turn) (List.replicate 2 S0.turn.bot) := Under.start s0_ok.turn fun _ => by decide +kernel
  have e2 : List.replicate 2 S0.turn.bot = [2, 2] := by decide +kernel
  rw [e2] at g1
  have high : IsLow S0.turn 2 (B1.map Bd.turn) [2, 2] := ⟨g1, led_of (by decide +kernel)⟩
  have hc : chkS S0 2 B1 = 0 := chk_is (q := 2) (by decide) (by decide) hm
  rcases h with ⟨c1, n1, rfl, rfl⟩ | ⟨q, e, c1, rfl, rfl, rfl, no⟩ | ⟨q, e, c1, rfl, k1, k2, k3⟩
  · exact absurd (c1.symm.trans hc) n1
  · obtain rfl : q = 2 := by omega
    have := no _ low.has
    rw [show holdS S0 [1, 1] B1 = true by decide +kernel] at this
    cases this
  · obtain rfl : q = 2 := by omega
    exact ⟨rfl, low_uniq s0_ok k1 low, low_uniq s0_ok.turn k2 high⟩

set_option maxRecDepth 100000 in
theorem ex2 {x : Int} {lo hi : List Nat} (h : SolveIs S0 1 B2 x lo hi) : x = 10 := by
  have hm : ∀ b ∈ B2, mayB S0 1 b = true := List.all_eq_true.1 (by decide +kernel : B2.all (mayB S0 1) = true)
  have hc : chkS S0 1 B2 = 0 := chk_is (q := 1) (by decide) (by decide) hm
  rcases h with ⟨c1, n1, rfl, rfl⟩ | ⟨q, e, c1, rfl, rfl, rfl, no⟩ | ⟨q, e, c1, rfl, k1, k2, k3⟩
  · exact absurd (c1.symm.trans hc) n1
  · rfl
  · have k4 := List.all_eq_true.1 k3 ⟨false, 2, true, 0⟩ (by simp [B2])
    have k5 := List.all_eq_true.1 k3 ⟨true, 0, false, 1⟩ (by simp [B2])
    have := s0_ok.trans _ _ _ (Bool.and_eq_true_iff.1 k4).2 (Bool.and_eq_true_iff.1 k5).2
    rw [show S0.below (vl lo false 2) (vl lo false 1) = false from (by decide +kernel : S0.below 2 1 = false)] at this
    cases this

set_option maxRecDepth 100000 in
theorem ex3 {x : Int} {lo hi : List Nat} (h : SolveIs S0 1 B3 x lo hi) : x = 1 := by
  have hc : chkS S0 1 B3 = 1 := by decide +kernel
  rcases h with ⟨c1, n1, rfl, rfl⟩ | ⟨q, e, c1, rfl, rfl, rfl, no⟩ | ⟨q, e, c1, rfl, k1, k2, k3⟩
  · exact c1.symm.trans hc
  · rw [hc] at c1
    cases c1
  · rw [hc] at c1
    cases c1

set_option maxRecDepth 100000 in
theorem ex4 {x : Int} {lo hi : List Nat} (h : SolveIs S0 0 B4 x lo hi) : x = 1 := by
  have hc : chkS S0 0 B4 = 1 := by decide +kernel
  rcases h with ⟨c1, n1, rfl, rfl⟩ | ⟨q, e, c1, rfl, rfl, rfl, no⟩ | ⟨q, e, c1, rfl, k1, k2, k3⟩
  · exact c1.symm.trans hc
  · rw [hc] at c1
    cases c1
  · rw [hc] at c1
    cases c1

theorem ex5 {x : Int} {lo hi : List Nat} (h : SolveIs S0 65 [] x lo hi) : x = 3 := by
  have hc : chkS S0 65 [] = 3 := by decide +kernel
  rcases h with ⟨c1, n1, rfl, rfl⟩ | ⟨q, e, c1, rfl, rfl, rfl, no⟩ | ⟨q, e, c1, rfl, k1, k2, k3⟩
  · exact c1.symm.trans hc
  · rw [hc] at c1
    cases c1
  · rw [hc] at c1
    cases c1
set_option maxRecDepth 100000 in
theorem ex6 : holdS S0 [0, 1] B6 = true := by decide +kernel
set_option maxRecDepth 100000 in
theorem ex7 : holdS S0 [1, 0] B6 = false := by decide +kernel
set_option maxRecDepth 100000 in
theorem ex8 : holdS S0 [0] B6 = false := by decide +kernel

set_option maxRecDepth 100000 in
theorem c_any (n : Nat) (w : World) : Calls Try.prog 17 #[.int .u64 (n : Int)] w fun e w' => e = .returned (.agg #[.bool false, .int .u64 (n : Int)]) ∧ Below w.heap.size w w' := by
  go_enter Try.func17, Try.ntmps17
  go_wp2
  exact bodyPost_ret (v := .agg #[.bool false, .int .u64 (n : Int)]) (by simp [results, Try.results17, go_sem]) rfl ⟨rfl, (Below.refl _ w).alloc (Nat.le_refl _) _⟩
set_option maxRecDepth 100000 in
theorem v_any (n : Nat) (w : World) : Calls Try.prog 18 #[.int .u64 (n : Int)] w fun e w' => e = .returned (.agg #[.bool true, .int .u64 (n : Int)]) ∧ Below w.heap.size w w' := by
  go_enter Try.func18, Try.ntmps18
  go_wp2
  exact bodyPost_ret (v := .agg #[.bool true, .int .u64 (n : Int)]) (by simp [results, Try.results18, go_sem]) rfl ⟨rfl, (Below.refl _ w).alloc (Nat.le_refl _) _⟩

set_option maxRecDepth 100000 in
set_option maxHeartbeats 8000000 in
theorem alive_any (w : World) : Calls Try.prog 15 #[] w fun e w' => e = .returned (.bool true) ∧ Below w.heap.size w w' := by
  have hrow := Rd.new (enc := La.nm) w #[.int .u64 7, .int .u64 6, .int .u64 4] 28 3 [7, 6, 4] rfl rfl (by unfold maxLen; omega)
  have hb : Below w.heap.size w (w.alloc (.cells #[.int .u64 7, .int .u64 6, .int .u64 4] 28)) := (Below.refl _ _).alloc (Nat.le_refl _) _
  have hfr : La.Fit [7, 6, 4] := fun x hx => by simp at hx; omega
  have hso := sort_any (some ⟨w.heap.size, 0, none⟩) 3 3 false 0 0 none 0 0 none 0 0 [7, 6, 4] _ hrow hfr
  rw [s0_of] at hso
  have HSO := Lib.hid hso
  unfold gV at HSO
  have HOK := Lib.hid s0_ok
  have HX1 : Hid (∀ x lo hi, SolveIs S0 2 B1 x lo hi → x = 0 ∧ lo = [1, 1] ∧ hi = [2, 2]) := Lib.hid fun _ _ _ h => ex1 h
  have HX2 : Hid (∀ x lo hi, SolveIs S0 1 B2 x lo hi → x = 10) := Lib.hid fun _ _ _ h => ex2 h
  have HX3 : Hid (∀ x lo hi, SolveIs S0 1 B3 x lo hi → x = 1) := Lib.hid fun _ _ _ h => ex3 h
  have HX4 : Hid (∀ x lo hi, SolveIs S0 0 B4 x lo hi → x = 1) := Lib.hid fun _ _ _ h => ex4 h
  have HX5 : Hid (∀ x lo hi, SolveIs S0 65 [] x lo hi → x = 3) := Lib.hid fun _ _ _ h => ex5 h
  have HX6 : Hid (holdS S0 [0, 1] B6 = true) := Lib.hid ex6
  have HX7 : Hid (holdS S0 [1, 0] B6 = false) := Lib.hid ex7
  have HX8 : Hid (holdS S0 [0] B6 = false) := Lib.hid ex8
  generalize S0 = S at *
  clear hso hrow hfr
  go_enter Try.func15, Try.ntmps15
  go_wp2_with fail
  refine (HSO.out).mono ?_
  rintro e w1 ⟨v, rfl, hS, hv⟩
  clear HSO
  replace hb := hb.trans (hv.mono hb.size)
  clear hv
  go_wp2_with fail
  refine (c_any 1 _).mono ?_
  rintro e w2 ⟨rfl, hv⟩
  replace hS := hS.keep hv
  replace hb := hb.trans (hv.mono hb.size)
  clear hv
  go_wp2_with fail
  refine (v_any 0 _).mono ?_
  rintro e w3 ⟨rfl, hv⟩
  replace hS := hS.keep hv
  replace hb := hb.trans (hv.mono hb.size)
  clear hv
  go_wp2_with fail
  refine (v_any 0 _).mono ?_
  rintro e w4 ⟨rfl, hv⟩
  replace hS := hS.keep hv
  replace hb := hb.trans (hv.mono hb.size)
  clear hv
  go_wp2_with fail
  refine (v_any 1 _).mono ?_
  rintro e w5 ⟨rfl, hv⟩
  replace hS := hS.keep hv
  replace hb := hb.trans (hv.mono hb.size)
  clear hv
  have hv : Below w5.heap.size w5 (w5.alloc (.cells #[.bool false, .int .u64 1, .bool true, .int .u64 0, .bool true, .int .u64 0, .bool true, .int .u64 1] 53)) := (Below.refl _ _).alloc (Nat.le_refl _) _
  have hl : Rs bdc 4 (w5.alloc (.cells #[.bool false, .int .u64 1, .bool true, .int .u64 0, .bool true, .int .u64 0, .bool true, .int .u64 1] 53)) (w5.alloc (.cells #[.bool false, .int .u64 1, .bool true, .int .u64 0, .bool true, .int .u64 0, .bool true, .int .u64 1] 53)).heap.size (some ⟨w5.heap.size, 0, none⟩) 2 2 B1 := Rs.of_blk bdc_len (heap_alloc_new w5 _) ⟨[], rfl⟩ rfl (Nat.le_refl _) (by unfold maxLen; omega)
  replace hS := hS.keep hv
  replace hb := hb.trans (hv.mono hb.size)
  clear hv
  go_wp2_with fail
  refine (solve_any v 2 (some ⟨w5.heap.size, 0, none⟩) 2 2 B1 S _ HOK.out hS.into hl (fun b hb => by simp [B1] at hb; rcases hb with rfl | rfl <;> exact ⟨by decide, by decide⟩)).mono ?_
  rintro e w6 ⟨A1, n1, c1, D1, m1, d1, x1, lo1, hi1, rfl, hlo1, hhi1, hans, hv⟩
  clear hl
  replace hS := hS.keep hv
  replace hb := hb.trans (hv.mono hb.size)
  clear hv
  obtain ⟨rfl, rfl, rfl⟩ := HX1.out _ _ _ hans
  clear hans HX1
  go_wp2_with fail
  refine (c_any 2 _).mono ?_
  rintro e w7 ⟨rfl, hv⟩
  replace hS := hS.keep hv
  replace hlo1 := hlo1.at_size (Nat.le_refl _) hv
  replace hhi1 := hhi1.at_size (Nat.le_refl _) hv
  replace hb := hb.trans (hv.mono hb.size)
  clear hv
  go_wp2_with fail
  refine (v_any 0 _).mono ?_
  rintro e w8 ⟨rfl, hv⟩
  replace hS := hS.keep hv
  replace hlo1 := hlo1.at_size (Nat.le_refl _) hv
  replace hhi1 := hhi1.at_size (Nat.le_refl _) hv
  replace hb := hb.trans (hv.mono hb.size)
  clear hv
  go_wp2_with fail
  refine (v_any 0 _).mono ?_
  rintro e w9 ⟨rfl, hv⟩
  replace hS := hS.keep hv
  replace hlo1 := hlo1.at_size (Nat.le_refl _) hv
  replace hhi1 := hhi1.at_size (Nat.le_refl _) hv
  replace hb := hb.trans (hv.mono hb.size)
  clear hv
  go_wp2_with fail
  refine (c_any 1 _).mono ?_
  rintro e w10 ⟨rfl, hv⟩
  replace hS := hS.keep hv
  replace hlo1 := hlo1.at_size (Nat.le_refl _) hv
  replace hhi1 := hhi1.at_size (Nat.le_refl _) hv
  replace hb := hb.trans (hv.mono hb.size)
  clear hv
  have hv : Below w10.heap.size w10 (w10.alloc (.cells #[.bool false, .int .u64 2, .bool true, .int .u64 0, .bool true, .int .u64 0, .bool false, .int .u64 1] 53)) := (Below.refl _ _).alloc (Nat.le_refl _) _
  have hl : Rs bdc 4 (w10.alloc (.cells #[.bool false, .int .u64 2, .bool true, .int .u64 0, .bool true, .int .u64 0, .bool false, .int .u64 1] 53)) (w10.alloc (.cells #[.bool false, .int .u64 2, .bool true, .int .u64 0, .bool true, .int .u64 0, .bool false, .int .u64 1] 53)).heap.size (some ⟨w10.heap.size, 0, none⟩) 2 2 B2 := Rs.of_blk bdc_len (heap_alloc_new w10 _) ⟨[], rfl⟩ rfl (Nat.le_refl _) (by unfold maxLen; omega)
  replace hS := hS.keep hv
  replace hlo1 := hlo1.at_size (Nat.le_refl _) hv
  replace hhi1 := hhi1.at_size (Nat.le_refl _) hv
  replace hb := hb.trans (hv.mono hb.size)
  clear hv
  go_wp2_with fail
  refine (solve_any v 1 (some ⟨w10.heap.size, 0, none⟩) 2 2 B2 S _ HOK.out hS.into hl (fun b hb => by simp [B2] at hb; rcases hb with rfl | rfl <;> exact ⟨by decide, by decide⟩)).mono ?_
  rintro e w11 ⟨A2, n2, c2, D2, m2, d2, x2, lo2, hi2, rfl, hlo2, hhi2, hans, hv⟩
  clear hl
  replace hS := hS.keep hv
  replace hlo1 := hlo1.at_size (Nat.le_refl _) hv
  replace hhi1 := hhi1.at_size (Nat.le_refl _) hv
  replace hb := hb.trans (hv.mono hb.size)
  clear hv
  obtain rfl := HX2.out _ _ _ hans
  clear hans HX2 hlo2 hhi2
  go_wp2_with fail
  refine (v_any 1 _).mono ?_
  rintro e w12 ⟨rfl, hv⟩
  replace hS := hS.keep hv
  replace hlo1 := hlo1.at_size (Nat.le_refl _) hv
  replace hhi1 := hhi1.at_size (Nat.le_refl _) hv
  replace hb := hb.trans (hv.mono hb.size)
  clear hv
  go_wp2_with fail
  refine (v_any 0 _).mono ?_
  rintro e w13 ⟨rfl, hv⟩
  replace hS := hS.keep hv
  replace hlo1 := hlo1.at_size (Nat.le_refl _) hv
  replace hhi1 := hhi1.at_size (Nat.le_refl _) hv
  replace hb := hb.trans (hv.mono hb.size)
  clear hv
  have hv : Below w13.heap.size w13 (w13.alloc (.cells #[.bool true, .int .u64 1, .bool true, .int .u64 0] 53)) := (Below.refl _ _).alloc (Nat.le_refl _) _
  have hl : Rs bdc 4 (w13.alloc (.cells #[.bool true, .int .u64 1, .bool true, .int .u64 0] 53)) (w13.alloc (.cells #[.bool true, .int .u64 1, .bool true, .int .u64 0] 53)).heap.size (some ⟨w13.heap.size, 0, none⟩) 1 1 B3 := Rs.of_blk bdc_len (heap_alloc_new w13 _) ⟨[], rfl⟩ rfl (Nat.le_refl _) (by unfold maxLen; omega)
  replace hS := hS.keep hv
  replace hlo1 := hlo1.at_size (Nat.le_refl _) hv
  replace hhi1 := hhi1.at_size (Nat.le_refl _) hv
  replace hb := hb.trans (hv.mono hb.size)
  clear hv
  go_wp2_with fail
  refine (solve_any v 1 (some ⟨w13.heap.size, 0, none⟩) 1 1 B3 S _ HOK.out hS.into hl (fun b hb => by simp [B3] at hb; subst hb; exact ⟨by decide, by decide⟩)).mono ?_
  rintro e w14 ⟨A3, n3, c3, D3, m3, d3, x3, lo3, hi3, rfl, hlo3, hhi3, hans, hv⟩
  clear hl
  replace hS := hS.keep hv
  replace hlo1 := hlo1.at_size (Nat.le_refl _) hv
  replace hhi1 := hhi1.at_size (Nat.le_refl _) hv
  replace hb := hb.trans (hv.mono hb.size)
  clear hv
  obtain rfl := HX3.out _ _ _ hans
  clear hans HX3 hlo3 hhi3
  go_wp2_with fail
  refine (c_any 3 _).mono ?_
  rintro e w15 ⟨rfl, hv⟩
  replace hS := hS.keep hv
  replace hlo1 := hlo1.at_size (Nat.le_refl _) hv
  replace hhi1 := hhi1.at_size (Nat.le_refl _) hv
  replace hb := hb.trans (hv.mono hb.size)
  clear hv
  go_wp2_with fail
  refine (c_any 3 _).mono ?_
  rintro e w16 ⟨rfl, hv⟩
  replace hS := hS.keep hv
  replace hlo1 := hlo1.at_size (Nat.le_refl _) hv
  replace hhi1 := hhi1.at_size (Nat.le_refl _) hv
  replace hb := hb.trans (hv.mono hb.size)
  clear hv
  have hv : Below w16.heap.size w16 (w16.alloc (.cells #[.bool false, .int .u64 3, .bool false, .int .u64 3] 53)) := (Below.refl _ _).alloc (Nat.le_refl _) _
  have hl : Rs bdc 4 (w16.alloc (.cells #[.bool false, .int .u64 3, .bool false, .int .u64 3] 53)) (w16.alloc (.cells #[.bool false, .int .u64 3, .bool false, .int .u64 3] 53)).heap.size (some ⟨w16.heap.size, 0, none⟩) 1 1 B4 := Rs.of_blk bdc_len (heap_alloc_new w16 _) ⟨[], rfl⟩ rfl (Nat.le_refl _) (by unfold maxLen; omega)
  replace hS := hS.keep hv
  replace hlo1 := hlo1.at_size (Nat.le_refl _) hv
  replace hhi1 := hhi1.at_size (Nat.le_refl _) hv
  replace hb := hb.trans (hv.mono hb.size)
  clear hv
  go_wp2_with fail
  refine (solve_any v 0 (some ⟨w16.heap.size, 0, none⟩) 1 1 B4 S _ HOK.out hS.into hl (fun b hb => by simp [B4] at hb; subst hb; exact ⟨by decide, by decide⟩)).mono ?_
  rintro e w17 ⟨A4, n4, c4, D4, m4, d4, x4, lo4, hi4, rfl, hlo4, hhi4, hans, hv⟩
  clear hl
  replace hS := hS.keep hv
  replace hlo1 := hlo1.at_size (Nat.le_refl _) hv
  replace hhi1 := hhi1.at_size (Nat.le_refl _) hv
  replace hb := hb.trans (hv.mono hb.size)
  clear hv
  obtain rfl := HX4.out _ _ _ hans
  clear hans HX4 hlo4 hhi4
  go_wp2_with fail
  refine (solve_any v 65 none 0 0 [] S _ HOK.out hS.into (Rs.nil _ _) (fun b hb => by cases hb)).mono ?_
  rintro e w18 ⟨A5, n5, c5, D5, m5, d5, x5, lo5, hi5, rfl, hlo5, hhi5, hans, hv⟩
  replace hS := hS.keep hv
  replace hlo1 := hlo1.at_size (Nat.le_refl _) hv
  replace hhi1 := hhi1.at_size (Nat.le_refl _) hv
  replace hb := hb.trans (hv.mono hb.size)
  clear hv
  obtain rfl := HX5.out _ _ _ hans
  clear hans HX5 hlo5 hhi5
  go_wp2_with fail
  refine (v_any 0 _).mono ?_
  rintro e w19 ⟨rfl, hv⟩
  replace hS := hS.keep hv
  replace hlo1 := hlo1.at_size (Nat.le_refl _) hv
  replace hhi1 := hhi1.at_size (Nat.le_refl _) hv
  replace hb := hb.trans (hv.mono hb.size)
  clear hv
  go_wp2_with fail
  refine (v_any 1 _).mono ?_
  rintro e w20 ⟨rfl, hv⟩
  replace hS := hS.keep hv
  replace hlo1 := hlo1.at_size (Nat.le_refl _) hv
  replace hhi1 := hhi1.at_size (Nat.le_refl _) hv
  replace hb := hb.trans (hv.mono hb.size)
  clear hv
  have hv : Below w20.heap.size w20 (w20.alloc (.cells #[.bool true, .int .u64 0, .bool true, .int .u64 1] 53)) := (Below.refl _ _).alloc (Nat.le_refl _) _
  have hl : Rs bdc 4 (w20.alloc (.cells #[.bool true, .int .u64 0, .bool true, .int .u64 1] 53)) (w20.alloc (.cells #[.bool true, .int .u64 0, .bool true, .int .u64 1] 53)).heap.size (some ⟨w20.heap.size, 0, none⟩) 1 1 B6 := Rs.of_blk bdc_len (heap_alloc_new w20 _) ⟨[], rfl⟩ rfl (Nat.le_refl _) (by unfold maxLen; omega)
  replace hS := hS.keep hv
  replace hlo1 := hlo1.at_size (Nat.le_refl _) hv
  replace hhi1 := hhi1.at_size (Nat.le_refl _) hv
  replace hb := hb.trans (hv.mono hb.size)
  clear hv
  have hq : Rs bdc 4 (w20.alloc (.cells #[.bool true, .int .u64 0, .bool true, .int .u64 1] 53)) (w20.alloc (.cells #[.bool true, .int .u64 0, .bool true, .int .u64 1] 53)).heap.size (some ⟨w20.heap.size, 0, none⟩) 1 1 B6 := hl
  clear hq
  have hv : Below (w20.alloc (.cells #[.bool true, .int .u64 0, .bool true, .int .u64 1] 53)).heap.size (w20.alloc (.cells #[.bool true, .int .u64 0, .bool true, .int .u64 1] 53)) ((w20.alloc (.cells #[.bool true, .int .u64 0, .bool true, .int .u64 1] 53)).alloc (.cells #[.int .u64 1, .int .u64 1] 28)) := (Below.refl _ _).alloc (Nat.le_refl _) _
  have hnn := Rd.new (enc := La.nm) (w20.alloc (.cells #[.bool true, .int .u64 0, .bool true, .int .u64 1] 53)) #[.int .u64 1, .int .u64 1] 28 2 [1, 1] rfl rfl (by unfold maxLen; omega)
  replace hS := hS.keep hv
  replace hlo1 := hlo1.at_size (Nat.le_refl _) hv
  replace hhi1 := hhi1.at_size (Nat.le_refl _) hv
  replace hl := hl.at_size (Nat.le_refl _) hv
  replace hb := hb.trans (hv.mono hb.size)
  clear hv
  have hsz : (w20.alloc (.cells #[.bool true, .int .u64 0, .bool true, .int .u64 1] 53)).heap.size = w20.heap.size + 1 := by simp
  rw [hsz] at hnn
  clear hsz
  go_wp2_with fail
  refine (same_lit true hlo1 hnn (by simp)).mono ?_
  rintro e w21 ⟨rfl, hv⟩
  clear hnn
  replace hS := hS.keep hv
  replace hhi1 := hhi1.at_size (Nat.le_refl _) hv
  replace hl := hl.at_size (Nat.le_refl _) hv
  replace hb := hb.trans (hv.mono hb.size)
  clear hv
  clear hlo1
  have hv : Below w21.heap.size w21 (w21.alloc (.cells #[.int .u64 2, .int .u64 2] 28)) := (Below.refl _ _).alloc (Nat.le_refl _) _
  have hnn := Rd.new (enc := La.nm) w21 #[.int .u64 2, .int .u64 2] 28 2 [2, 2] rfl rfl (by unfold maxLen; omega)
  replace hS := hS.keep hv
  replace hhi1 := hhi1.at_size (Nat.le_refl _) hv
  replace hl := hl.at_size (Nat.le_refl _) hv
  replace hb := hb.trans (hv.mono hb.size)
  clear hv
  go_wp2_with fail
  refine (same_lit true hhi1 hnn (by simp)).mono ?_
  rintro e w22 ⟨rfl, hv⟩
  clear hnn
  replace hS := hS.keep hv
  replace hl := hl.at_size (Nat.le_refl _) hv
  replace hb := hb.trans (hv.mono hb.size)
  clear hv
  clear hhi1
  have hv : Below w22.heap.size w22 (w22.alloc (.cells #[.int .u64 0, .int .u64 1] 28)) := (Below.refl _ _).alloc (Nat.le_refl _) _
  have hnn := Rd.new (enc := La.nm) w22 #[.int .u64 0, .int .u64 1] 28 2 [0, 1] rfl rfl (by unfold maxLen; omega)
  replace hS := hS.keep hv
  replace hl := hl.at_size (Nat.le_refl _) hv
  replace hb := hb.trans (hv.mono hb.size)
  clear hv
  go_wp2_with fail
  refine (hold_any v (some ⟨w22.heap.size, 0, none⟩) 2 2 [0, 1] (some ⟨w20.heap.size, 0, none⟩) 1 1 B6 S _ true hS.into hnn (fun x hx => by simp at hx; omega) hl (fun b hb => by simp [B6] at hb; subst hb; exact ⟨by decide, by decide⟩) HX6.out).mono ?_
  rintro e w23 ⟨rfl, hv⟩
  clear hnn
  replace hS := hS.keep hv
  replace hl := hl.at_size (Nat.le_refl _) hv
  replace hb := hb.trans (hv.mono hb.size)
  clear hv
  have hv : Below w23.heap.size w23 (w23.alloc (.cells #[.int .u64 1, .int .u64 0] 28)) := (Below.refl _ _).alloc (Nat.le_refl _) _
  have hnn := Rd.new (enc := La.nm) w23 #[.int .u64 1, .int .u64 0] 28 2 [1, 0] rfl rfl (by unfold maxLen; omega)
  replace hS := hS.keep hv
  replace hl := hl.at_size (Nat.le_refl _) hv
  replace hb := hb.trans (hv.mono hb.size)
  clear hv
  go_wp2_with fail
  refine (hold_any v (some ⟨w23.heap.size, 0, none⟩) 2 2 [1, 0] (some ⟨w20.heap.size, 0, none⟩) 1 1 B6 S _ false hS.into hnn (fun x hx => by simp at hx; omega) hl (fun b hb => by simp [B6] at hb; subst hb; exact ⟨by decide, by decide⟩) HX7.out).mono ?_
  rintro e w24 ⟨rfl, hv⟩
  clear hnn
  replace hS := hS.keep hv
  replace hl := hl.at_size (Nat.le_refl _) hv
  replace hb := hb.trans (hv.mono hb.size)
  clear hv
  have hv : Below w24.heap.size w24 (w24.alloc (.cells #[.int .u64 0] 28)) := (Below.refl _ _).alloc (Nat.le_refl _) _
  have hnn := Rd.new (enc := La.nm) w24 #[.int .u64 0] 28 1 [0] rfl rfl (by unfold maxLen; omega)
  replace hS := hS.keep hv
  replace hl := hl.at_size (Nat.le_refl _) hv
  replace hb := hb.trans (hv.mono hb.size)
  clear hv
  go_wp2_with fail
  refine (hold_any v (some ⟨w24.heap.size, 0, none⟩) 1 1 [0] (some ⟨w20.heap.size, 0, none⟩) 1 1 B6 S _ false hS.into hnn (fun x hx => by simp at hx; omega) hl (fun b hb => by simp [B6] at hb; subst hb; exact ⟨by decide, by decide⟩) HX8.out).mono ?_
  rintro e w25 ⟨rfl, hv⟩
  clear hnn
  replace hS := hS.keep hv
  replace hl := hl.at_size (Nat.le_refl _) hv
  replace hb := hb.trans (hv.mono hb.size)
  clear hv
  go_wp2_with fail
  go_ret
  exact ⟨rfl, hb⟩
end Go.Proofs.Ytnlgfiffhahpfaa
