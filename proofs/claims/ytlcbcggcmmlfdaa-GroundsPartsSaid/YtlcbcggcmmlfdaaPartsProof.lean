/- Proved: whatever the two bodies, the two others, the labels and the effects, GroundsParts answers true: a function is below another one just if its argument is above, its result below; a ref just if its content is below, and above; the arguments stay as they were. No condition. -/
import Derived.Test.YtlcbcggcmmlfdaaExamples
import Derived.Test.YtlcbcggcmmlfdaaGrParts
import Derived.Test.YtlcbcggcmmlfdaaRows
namespace Go.Proofs.Ytlcbcggcmmlfdaa.groundsParts
open Go.ChangeShapes Go.WideShapes Go.ChangeAt Go.RowKit

theorem own : ownKnob Try.prog.godebug = none := by kernel_rfl
theorem laidOut : laidOutB Try.prog = true := by kernel_rfl


theorem great_no {n n1 n2 : Nat} (h : false = (decide (64 < n) || (decide (200 < n1) || decide (200 < n2)))) : n1 ≤ 200 ∧ n2 ≤ 200 := by
  have h := h.symm
  rw [Bool.or_eq_false_iff, Bool.or_eq_false_iff, decide_eq_false_iff_not, decide_eq_false_iff_not, decide_eq_false_iff_not] at h
  omega

set_option maxRecDepth 100000 in
set_option maxHeartbeats 8000000 in
theorem walk (A0 : Option Addr) (n0 c0 : Nat) (l0 : List Nd) (A1 : Option Addr) (n1 c1 : Nat) (l1 : List Nd) (A2 : Option Addr) (n2 c2 : Nat) (l2 : List Nd) (A3 : Option Addr) (n3 c3 : Nat) (l3 : List Nd) (A : Option Addr) (n c : Nat) (k : Int) (rows : List Nat) (w : World)
    (hc0 : Came w A0 n0 c0 l0) (hc1 : Came w A1 n1 c1 l1) (hc2 : Came w A2 n2 c2 l2) (hc3 : Came w A3 n3 c3 l3) (hr : Rd La.nm w w.heap.size A n c rows) (hf : La.Fit rows) :
    Calls Try.prog 6 #[.agg #[.slice A0 n0 c0, .slice A1 n1 c1], .agg #[.slice A2 n2 c2, .slice A3 n3 c3], zV A n c k] w fun e w' => e = .returned (.bool true) ∧ Below w.heap.size w w' := by
  have HC0 := Lib.hid hc0
  have HC1 := Lib.hid hc1
  have HC2 := Lib.hid hc2
  have HC3 := Lib.hid hc3
  have HFR := Lib.hid hf
  have h0 := hc0.rs
  have h1 := hc1.rs
  have h2 := hc2.rs
  have h3 := hc3.rs
  clear hf hc0 hc1 hc2 hc3
  obtain ⟨g1, g2, g3, hv⟩ := box3 w (.cells #[.slice A0 n0 c0, .slice A1 n1 c1] 41) (.cells #[.slice A2 n2 c2, .slice A3 n3 c3] 41) (.cells #[.slice A n c, .int .i64 k] 25)
  replace h0 := h0.at_size (Nat.le_refl _) hv
  replace h1 := h1.at_size (Nat.le_refl _) hv
  replace h2 := h2.at_size (Nat.le_refl _) hv
  replace h3 := h3.at_size (Nat.le_refl _) hv
  replace hr := hr.at_size (Nat.le_refl _) hv
  have hb := hv
  have x0 := (cell_blk (i := 0) g1).trans rfl
  have x1 := (cell_blk (i := 1) g1).trans rfl
  have x2 := (cell_blk (i := 0) g2).trans rfl
  have x3 := (cell_blk (i := 1) g2).trans rfl
  have z0 := (cell_blk (i := 0) g3).trans rfl
  have z1 := (cell_blk (i := 1) g3).trans rfl
  have HS0 : Hid (soOf rows k).Ok := Lib.hid (soOk rows k)
  obtain ⟨gr, hgr⟩ : ∃ r, r = (decide (64 < n) || (decide (200 < n0) || decide (200 < n1))) := ⟨_, rfl⟩
  have HGR := Lib.hid hgr
  obtain ⟨gs, hgs⟩ : ∃ r, r = (decide (64 < n) || (decide (200 < n2) || decide (200 < n3))) := ⟨_, rfl⟩
  have HGS := Lib.hid hgs
  clear hgr hgs hv g1 g2 g3
  go_enter Try.func6, Try.ntmps6
  go_wp2_with fail
  refine (great_any A n c k A0 n0 c0 A1 n1 c1 _ gr HGR.out).mono ?_
  rintro e w1 ⟨rfl, hv⟩
  replace h0 := h0.at_size (Nat.le_refl _) hv
  replace h1 := h1.at_size (Nat.le_refl _) hv
  replace h2 := h2.at_size (Nat.le_refl _) hv
  replace h3 := h3.at_size (Nat.le_refl _) hv
  replace hr := hr.at_size (Nat.le_refl _) hv
  replace x0 := cell_old x0 hv
  replace x1 := cell_old x1 hv
  replace x2 := cell_old x2 hv
  replace x3 := cell_old x3 hv
  replace z0 := cell_old z0 hv
  replace z1 := cell_old z1 hv
  replace hb := hb.trans (hv.mono hb.size)
  clear hv
  cases gr with
  | true =>
    clear HGR HGS
    clear h0 h1 h2 h3 hr
    go_wp2_with fail
    refine (alive_any _).mono ?_
    rintro e wz ⟨rfl, hv⟩
    replace hb := hb.trans (hv.mono hb.size)
    clear hv
    go_wp2_with fail
    go_ret
    exact ⟨rfl, hb⟩
  | false =>
    go_wp2_with fail
    refine (great_any A n c k A2 n2 c2 A3 n3 c3 _ gs HGS.out).mono ?_
    rintro e w2 ⟨rfl, hv⟩
    replace h0 := h0.at_size (Nat.le_refl _) hv
    replace h1 := h1.at_size (Nat.le_refl _) hv
    replace h2 := h2.at_size (Nat.le_refl _) hv
    replace h3 := h3.at_size (Nat.le_refl _) hv
    replace hr := hr.at_size (Nat.le_refl _) hv
    replace x0 := cell_old x0 hv
    replace x1 := cell_old x1 hv
    replace x2 := cell_old x2 hv
    replace x3 := cell_old x3 hv
    replace z0 := cell_old z0 hv
    replace z1 := cell_old z1 hv
    replace hb := hb.trans (hv.mono hb.size)
    clear hv
    cases gs with
    | true =>
      clear HGR HGS
      clear h0 h1 h2 h3 hr
      go_wp2_with fail
      refine (alive_any _).mono ?_
      rintro e wz ⟨rfl, hv⟩
      replace hb := hb.trans (hv.mono hb.size)
      clear hv
      go_wp2_with fail
      go_ret
      exact ⟨rfl, hb⟩
    | false =>
      have b01 := great_no HGR.out
      have b23 := great_no HGS.out
      have wr1 : IntKind.i64.wrap ((n0 : Int) + (n1 : Int)) = (n0 : Int) + (n1 : Int) := by rw [IntKind.wrap_i64]; omega
      have wr2 : IntKind.i64.wrap ((n2 : Int) + (n3 : Int)) = (n2 : Int) + (n3 : Int) := by rw [IntKind.wrap_i64]; omega
      clear HGR HGS
      by_cases q1 : 126 < n0 + n1
      · have q1' : (126 : Int) < (n0 : Int) + (n1 : Int) := by omega
        clear q1 b01 b23
        clear h0 h1 h2 h3 hr
        go_wp2_with fail
        refine (alive_any _).mono ?_
        rintro e wz ⟨rfl, hv⟩
        replace hb := hb.trans (hv.mono hb.size)
        clear hv
        go_wp2_with fail
        go_ret
        exact ⟨rfl, hb⟩
      have q1' : ¬ (126 : Int) < (n0 : Int) + (n1 : Int) := by omega
      by_cases q2 : 126 < n2 + n3
      · have q2' : (126 : Int) < (n2 : Int) + (n3 : Int) := by omega
        clear q1 q2 b01 b23
        clear h0 h1 h2 h3 hr
        go_wp2_with fail
        refine (alive_any _).mono ?_
        rintro e wz ⟨rfl, hv⟩
        replace hb := hb.trans (hv.mono hb.size)
        clear hv
        go_wp2_with fail
        go_ret
        exact ⟨rfl, hb⟩
      have q2' : ¬ (126 : Int) < (n2 : Int) + (n3 : Int) := by omega
      have B01 := Lib.hid b01
      have B23 := Lib.hid b23
      clear q1 q2 b01 b23
      go_wp2_with fail
      refine (made_any A n c rows k _ hr HFR.out).mono ?_
      rintro e w3 ⟨p, q, rfl, hS, -, hq, hv⟩
      replace h0 := h0.at_size (Nat.le_refl _) hv
      replace h1 := h1.at_size (Nat.le_refl _) hv
      replace h2 := h2.at_size (Nat.le_refl _) hv
      replace h3 := h3.at_size (Nat.le_refl _) hv
      replace x0 := cell_old x0 hv
      replace x1 := cell_old x1 hv
      replace x2 := cell_old x2 hv
      replace x3 := cell_old x3 hv
      replace hb := hb.trans (hv.mono hb.size)
      clear hv
      have HM : Hid (q ≠ none → (soOf rows k).m = true) := Lib.hid fun h => by
        have hk : 0 ≤ k ∧ k ≤ 64 := Classical.byContradiction fun hk => h (hq.2 hk)
        show decide _ = true
        exact decide_eq_true hk
      clear hr z0 z1 q1' q2' wr1 wr2 HFR hq
      generalize soOf rows k = S at *
      obtain ⟨y4, hy4⟩ : ∃ x, grE S l2 l0 = x := ⟨_, rfl⟩
      obtain ⟨y6, hy6⟩ : ∃ x, grE S l1 l3 = x := ⟨_, rfl⟩
      obtain ⟨y7, hy7⟩ : ∃ x, grE S ([nFun] ++ l0 ++ l1) ([nFun] ++ l2 ++ l3) = x := ⟨_, rfl⟩
      obtain ⟨y8, hy8⟩ : ∃ x, grE S ([nRef] ++ l0) ([nRef] ++ l2) = x := ⟨_, rfl⟩
      obtain ⟨r4, hr4⟩ : ∃ x, grB S l2 l0 = x := ⟨_, rfl⟩
      obtain ⟨r5, hr5⟩ : ∃ x, grB S l0 l2 = x := ⟨_, rfl⟩
      obtain ⟨r6, hr6⟩ : ∃ x, grB S l1 l3 = x := ⟨_, rfl⟩
      obtain ⟨r7, hr7⟩ : ∃ x, grB S ([nFun] ++ l0 ++ l1) ([nFun] ++ l2 ++ l3) = x := ⟨_, rfl⟩
      obtain ⟨r8, hr8⟩ : ∃ x, grB S ([nRef] ++ l0) ([nRef] ++ l2) = x := ⟨_, rfl⟩
      obtain ⟨cP, hcP⟩ : ∃ x, checkB ([nFun] ++ l0 ++ l1) = x := ⟨_, rfl⟩
      obtain ⟨cQ, hcQ⟩ : ∃ x, checkB ([nFun] ++ l2 ++ l3) = x := ⟨_, rfl⟩
      obtain ⟨cA, hcA⟩ : ∃ x, checkB ([nRef] ++ l0) = x := ⟨_, rfl⟩
      obtain ⟨cB, hcB⟩ : ∃ x, checkB ([nRef] ++ l2) = x := ⟨_, rfl⟩
      have HFUN : Hid (q ≠ none → y4 = 0 → y6 = 0 → cP = 0 → cQ = 0 → y7 = 0 ∧ r7 = (r4 && r6)) := Lib.hid fun h1 h2 h3 h4 h5 => by
        have := gr_fun HS0.out (a := l0) (b := l2) (a' := l1) (b' := l3) (HM.out h1) (hy4.trans h2) (hy6.trans h3) (hcP.trans h4) (hcQ.trans h5)
        rwa [hy7, hr7, hr4, hr6] at this
      have HREF : Hid (y4 = 0 → cA = 0 → cB = 0 → y8 = 0 ∧ r8 = (r4 && r5)) := Lib.hid fun h1 h2 h3 => by
        have := gr_ref HS0.out (a := l0) (b := l2) (hy4.trans h1) (hcA.trans h2) (hcB.trans h3)
        rwa [hy8, hr8, hr4, hr5] at this
      have HR4 := Lib.hid hr4
      have HR5 := Lib.hid hr5
      have HR6 := Lib.hid hr6
      have HR7 := Lib.hid hr7
      have HR8 := Lib.hid hr8
      have HX4 := Lib.hid (congrArg (fun n : Nat => (n : Int)) hy4)
      have HX5 := Lib.hid (congrArg (fun n : Nat => (n : Int)) ((grE_comm S l0 l2).trans hy4))
      have HX6 := Lib.hid (congrArg (fun n : Nat => (n : Int)) hy6)
      have HX7 := Lib.hid (congrArg (fun n : Nat => (n : Int)) hy7)
      have HX8 := Lib.hid (congrArg (fun n : Nat => (n : Int)) hy8)
      have HP := Lib.hid hcP
      have HQ := Lib.hid hcQ
      have HA := Lib.hid hcA
      have HB := Lib.hid hcB
      have HF0 := Lib.hid (fits_app (fits_app (fits_cons fits_fun fits_nil) HC0.out.fit) HC1.out.fit)
      have HT0 := Lib.hid (tfits_app (tfits_app (tfits_cons tfits_fun tfits_nil) HC0.out.tfit) HC1.out.tfit)
      have HF2 := Lib.hid (fits_app (fits_app (fits_cons fits_fun fits_nil) HC2.out.fit) HC3.out.fit)
      have HT2 := Lib.hid (tfits_app (tfits_app (tfits_cons tfits_fun tfits_nil) HC2.out.tfit) HC3.out.tfit)
      have HG0 := Lib.hid (fits_app (fits_cons fits_ref fits_nil) HC0.out.fit)
      have HU0 := Lib.hid (tfits_app (tfits_cons tfits_ref tfits_nil) HC0.out.tfit)
      have HG2 := Lib.hid (fits_app (fits_cons fits_ref fits_nil) HC2.out.fit)
      have HU2 := Lib.hid (tfits_app (tfits_cons tfits_ref tfits_nil) HC2.out.tfit)
      clear hy4 hy6 hy7 hy8 hr4 hr5 hr6 hr7 hr8 hcP hcQ hcA hcB HM HS0
      go_wp2_with fail
      refine (ground_lit _ _ _ _ _ _ l2 l0 p q S r4 y4 _ h2 h0 HC2.out.fit HC0.out.fit HC2.out.tfit HC0.out.tfit hS HR4.out HX4.out).mono ?_
      rintro e w4 ⟨rfl, hv⟩
      replace h0 := h0.at_size (Nat.le_refl _) hv
      replace h1 := h1.at_size (Nat.le_refl _) hv
      replace h2 := h2.at_size (Nat.le_refl _) hv
      replace h3 := h3.at_size (Nat.le_refl _) hv
      replace x0 := cell_old x0 hv
      replace x1 := cell_old x1 hv
      replace x2 := cell_old x2 hv
      replace x3 := cell_old x3 hv
      replace hS := hS.keep hv
      replace hb := hb.trans (hv.mono hb.size)
      clear hv
      go_wp2_with fail
      refine (ground_lit _ _ _ _ _ _ l0 l2 p q S r5 y4 _ h0 h2 HC0.out.fit HC2.out.fit HC0.out.tfit HC2.out.tfit hS HR5.out HX5.out).mono ?_
      rintro e w5 ⟨rfl, hv⟩
      replace h0 := h0.at_size (Nat.le_refl _) hv
      replace h1 := h1.at_size (Nat.le_refl _) hv
      replace h2 := h2.at_size (Nat.le_refl _) hv
      replace h3 := h3.at_size (Nat.le_refl _) hv
      replace x0 := cell_old x0 hv
      replace x1 := cell_old x1 hv
      replace x2 := cell_old x2 hv
      replace x3 := cell_old x3 hv
      replace hS := hS.keep hv
      replace hb := hb.trans (hv.mono hb.size)
      clear hv
      go_wp2_with fail
      refine (ground_lit _ _ _ _ _ _ l1 l3 p q S r6 y6 _ h1 h3 HC1.out.fit HC3.out.fit HC1.out.tfit HC3.out.tfit hS HR6.out HX6.out).mono ?_
      rintro e w6 ⟨rfl, hv⟩
      replace h0 := h0.at_size (Nat.le_refl _) hv
      replace h1 := h1.at_size (Nat.le_refl _) hv
      replace h2 := h2.at_size (Nat.le_refl _) hv
      replace h3 := h3.at_size (Nat.le_refl _) hv
      replace x0 := cell_old x0 hv
      replace x1 := cell_old x1 hv
      replace x2 := cell_old x2 hv
      replace x3 := cell_old x3 hv
      replace hS := hS.keep hv
      replace hb := hb.trans (hv.mono hb.size)
      clear hv
      go_wp2_with fail
      refine (fun_any _ _ _ _ _ _ _ _ _ h0 h1 (by have := B01.out; omega) (by have := B01.out; omega)).mono ?_
      rintro e w7 ⟨AP, nP, cpP, rfl, hP, hv⟩
      replace h0 := h0.at_size (Nat.le_refl _) hv
      replace h1 := h1.at_size (Nat.le_refl _) hv
      replace h2 := h2.at_size (Nat.le_refl _) hv
      replace h3 := h3.at_size (Nat.le_refl _) hv
      replace x0 := cell_old x0 hv
      replace x1 := cell_old x1 hv
      replace x2 := cell_old x2 hv
      replace x3 := cell_old x3 hv
      replace hS := hS.keep hv
      replace hb := hb.trans (hv.mono hb.size)
      clear hv
      go_wp2_with fail
      refine (fun_any _ _ _ _ _ _ _ _ _ h2 h3 (by have := B23.out; omega) (by have := B23.out; omega)).mono ?_
      rintro e w8 ⟨AQ, nQ, cpQ, rfl, hQ, hv⟩
      replace h0 := h0.at_size (Nat.le_refl _) hv
      replace h2 := h2.at_size (Nat.le_refl _) hv
      replace hP := hP.at_size (Nat.le_refl _) hv
      replace x0 := cell_old x0 hv
      replace x1 := cell_old x1 hv
      replace x2 := cell_old x2 hv
      replace x3 := cell_old x3 hv
      replace hS := hS.keep hv
      replace hb := hb.trans (hv.mono hb.size)
      clear hv
      clear h1 h3
      go_wp2_with fail
      refine (ground_lit _ _ _ _ _ _ ([nFun] ++ l0 ++ l1) ([nFun] ++ l2 ++ l3) p q S r7 y7 _ hP hQ HF0.out HF2.out HT0.out HT2.out hS HR7.out HX7.out).mono ?_
      rintro e w9 ⟨rfl, hv⟩
      replace h0 := h0.at_size (Nat.le_refl _) hv
      replace h2 := h2.at_size (Nat.le_refl _) hv
      replace hP := hP.at_size (Nat.le_refl _) hv
      replace hQ := hQ.at_size (Nat.le_refl _) hv
      replace x0 := cell_old x0 hv
      replace x1 := cell_old x1 hv
      replace x2 := cell_old x2 hv
      replace x3 := cell_old x3 hv
      replace hS := hS.keep hv
      replace hb := hb.trans (hv.mono hb.size)
      clear hv
      rcases p with _ | ap
      · clear hS
        clear h0 h2 hP hQ
        go_wp2_with fail
        refine (alive_any _).mono ?_
        rintro e wz ⟨rfl, hv⟩
        replace hb := hb.trans (hv.mono hb.size)
        clear hv
        go_wp2_with fail
        go_ret
        exact ⟨rfl, hb⟩
      obtain ⟨gp, rfl⟩ : ∃ g, ap = ⟨g, 0, none⟩ := by
        rcases hS.lat with ⟨h, _⟩ | ⟨g, _, _, h, _⟩
        · cases h
        · injection h with h
          exact ⟨g, h⟩
      rcases q with _ | aq
      · clear hS
        clear h0 h2 hP hQ
        go_wp2_with fail
        refine (alive_any _).mono ?_
        rintro e wz ⟨rfl, hv⟩
        replace hb := hb.trans (hv.mono hb.size)
        clear hv
        go_wp2_with fail
        go_ret
        exact ⟨rfl, hb⟩
      obtain ⟨gq, rfl⟩ : ∃ g, aq = ⟨g, 0, none⟩ := by
        rcases hS.eff with ⟨h, _⟩ | ⟨g, h, _⟩
        · cases h
        · injection h with h
          exact ⟨g, h⟩
      replace HFUN := Lib.hid (HFUN.out (by simp))
      by_cases e4 : y4 = 0
      case neg =>
        have hne : ((y4 : Int) != 0) = true := by simp; omega
        clear hS e4
        clear h0 h2 hP hQ
        go_wp2_with fail
        refine (alive_any _).mono ?_
        rintro e wz ⟨rfl, hv⟩
        replace hb := hb.trans (hv.mono hb.size)
        clear hv
        go_wp2_with fail
        go_ret
        exact ⟨rfl, hb⟩
      subst e4
      replace HFUN := Lib.hid (HFUN.out rfl)
      replace HREF := Lib.hid (HREF.out rfl)
      by_cases e6 : y6 = 0
      case neg =>
        have hne : ((y6 : Int) != 0) = true := by simp; omega
        clear hS e6
        clear h0 h2 hP hQ
        go_wp2_with fail
        refine (alive_any _).mono ?_
        rintro e wz ⟨rfl, hv⟩
        replace hb := hb.trans (hv.mono hb.size)
        clear hv
        go_wp2_with fail
        go_ret
        exact ⟨rfl, hb⟩
      subst e6
      replace HFUN := Lib.hid (HFUN.out rfl)
      go_wp2_with fail
      refine (check_lit _ _ _ _ cP _ hP HF0.out HP.out).mono ?_
      rintro e w10 ⟨rfl, hv⟩
      replace h0 := h0.at_size (Nat.le_refl _) hv
      replace h2 := h2.at_size (Nat.le_refl _) hv
      replace hQ := hQ.at_size (Nat.le_refl _) hv
      replace x0 := cell_old x0 hv
      replace x1 := cell_old x1 hv
      replace x2 := cell_old x2 hv
      replace x3 := cell_old x3 hv
      replace hS := hS.keep hv
      replace hb := hb.trans (hv.mono hb.size)
      clear hv
      clear hP
      by_cases e7 : cP = 0
      case neg =>
        have hne : ((cP : Int) != 0) = true := by simp; omega
        clear hS e7
        clear h0 h2 hQ
        go_wp2_with fail
        refine (alive_any _).mono ?_
        rintro e wz ⟨rfl, hv⟩
        replace hb := hb.trans (hv.mono hb.size)
        clear hv
        go_wp2_with fail
        go_ret
        exact ⟨rfl, hb⟩
      subst e7
      replace HFUN := Lib.hid (HFUN.out rfl)
      go_wp2_with fail
      refine (check_lit _ _ _ _ cQ _ hQ HF2.out HQ.out).mono ?_
      rintro e w11 ⟨rfl, hv⟩
      replace h0 := h0.at_size (Nat.le_refl _) hv
      replace h2 := h2.at_size (Nat.le_refl _) hv
      replace x0 := cell_old x0 hv
      replace x1 := cell_old x1 hv
      replace x2 := cell_old x2 hv
      replace x3 := cell_old x3 hv
      replace hS := hS.keep hv
      replace hb := hb.trans (hv.mono hb.size)
      clear hv
      clear hQ
      by_cases e8 : cQ = 0
      case neg =>
        have hne : ((cQ : Int) != 0) = true := by simp; omega
        clear hS e8
        clear h0 h2
        go_wp2_with fail
        refine (alive_any _).mono ?_
        rintro e wz ⟨rfl, hv⟩
        replace hb := hb.trans (hv.mono hb.size)
        clear hv
        go_wp2_with fail
        go_ret
        exact ⟨rfl, hb⟩
      subst e8
      obtain ⟨rfl, h7⟩ := HFUN.out rfl
      have H7 := Lib.hid h7
      clear h7 HFUN
      go_wp2
      refine wp_region_ord [0, 1, 3, 4, 6, 7, 2, 5, 8, 9, 10, 11, 12, 13] [2, 5, 8] 14 (fun w' => w'.cell? ⟨w.heap.size, 0, none⟩ = some (.slice A0 n0 c0) ∧ w'.cell? ⟨w.heap.size + 1, 0, none⟩ = some (.slice A2 n2 c2)) (by kernel_rfl) (by kernel_rfl) (by kernel_rfl) (by kernel_rfl) (fun _ _ _ _ _ h => h) ⟨x0, x2⟩ ?_
      simp only [steps, List.getElem?_cons_zero, List.getElem?_cons_succ]
      repeat (first
        | (refine ord_no rfl ?_; simp only [Act.put, List.setIfInBounds_toArray, List.set_cons_zero, List.set_cons_succ])
        | (refine ord_yes (v := ?_) rfl rfl ?_ ?_; rotate_left; (focus (rintro w' ⟨hS0, hS1⟩; go_simp; try with_reducible rfl)); simp only [Act.put, List.setIfInBounds_toArray, List.set_cons_zero, List.set_cons_succ]))
      have hv : Below w11.heap.size w11 w11.drew := (Below.refl _ _).drew
      replace h0 := h0.at_size (Nat.le_refl _) hv
      replace h2 := h2.at_size (Nat.le_refl _) hv
      replace x0 := cell_old x0 hv
      replace x1 := cell_old x1 hv
      replace x2 := cell_old x2 hv
      replace x3 := cell_old x3 hv
      replace hS := hS.keep hv
      replace hb := hb.trans (hv.mono hb.size)
      clear hv
      refine ord_hard rfl rfl (fun K hK => ?_)
      go_simp
      refine (ref_any _ _ _ _ _ h0 (by have := B01.out; omega)).mono ?_
      rintro e w12 ⟨AA, nA, cA', rfl, hA, hv⟩
      replace h0 := h0.at_size (Nat.le_refl _) hv
      replace h2 := h2.at_size (Nat.le_refl _) hv
      replace x0 := cell_old x0 hv
      replace x1 := cell_old x1 hv
      replace x2 := cell_old x2 hv
      replace x3 := cell_old x3 hv
      replace hS := hS.keep hv
      replace hb := hb.trans (hv.mono hb.size)
      clear hv
      refine hK.out _ _ (fun _ => ⟨x0, x2⟩) ?_
      clear hK K
      try simp only [Act.put, List.setIfInBounds_toArray, List.set_cons_zero, List.set_cons_succ]
      refine ord_hard rfl rfl (fun K hK => ?_)
      go_simp
      refine (ref_any _ _ _ _ _ h2 (by have := B23.out; omega)).mono ?_
      rintro e w13 ⟨AB, nB, cB', rfl, hB, hv⟩
      replace h0 := h0.at_size (Nat.le_refl _) hv
      replace h2 := h2.at_size (Nat.le_refl _) hv
      replace hA := hA.at_size (Nat.le_refl _) hv
      replace x0 := cell_old x0 hv
      replace x1 := cell_old x1 hv
      replace x2 := cell_old x2 hv
      replace x3 := cell_old x3 hv
      replace hS := hS.keep hv
      replace hb := hb.trans (hv.mono hb.size)
      clear hv
      refine hK.out _ _ (fun _ => ⟨x0, x2⟩) ?_
      clear hK K
      try simp only [Act.put, List.setIfInBounds_toArray, List.set_cons_zero, List.set_cons_succ]
      refine ord_hard rfl rfl (fun K hK => ?_)
      go_simp
      refine (ground_lit _ _ _ _ _ _ ([nRef] ++ l0) ([nRef] ++ l2) _ _ S r8 y8 _ hA hB HG0.out HG2.out HU0.out HU2.out hS HR8.out HX8.out).mono ?_
      rintro e w14 ⟨rfl, hv⟩
      replace h0 := h0.at_size (Nat.le_refl _) hv
      replace h2 := h2.at_size (Nat.le_refl _) hv
      replace x0 := cell_old x0 hv
      replace x1 := cell_old x1 hv
      replace x2 := cell_old x2 hv
      replace x3 := cell_old x3 hv
      replace hS := hS.keep hv
      replace hb := hb.trans (hv.mono hb.size)
      clear hv
      clear hA hB
      refine hK.out _ _ (fun _ => ⟨x0, x2⟩) ?_
      clear hK K
      try simp only [Act.put, List.setIfInBounds_toArray, List.set_cons_zero, List.set_cons_succ]
      repeat (first
        | (refine ord_no rfl ?_; simp only [Act.put, List.setIfInBounds_toArray, List.set_cons_zero, List.set_cons_succ])
        | (refine ord_yes (v := ?_) rfl rfl ?_ ?_; rotate_left; (focus (rintro w' ⟨hS0, hS1⟩; go_simp; try with_reducible rfl)); simp only [Act.put, List.setIfInBounds_toArray, List.set_cons_zero, List.set_cons_succ]))
      refine ord_end ?_
      go_wp2_with fail
      refine (ref_any _ _ _ _ _ h0 (by have := B01.out; omega)).mono ?_
      rintro e w15 ⟨AA, nA, cA', rfl, hA, hv⟩
      replace h0 := h0.at_size (Nat.le_refl _) hv
      replace h2 := h2.at_size (Nat.le_refl _) hv
      replace x0 := cell_old x0 hv
      replace x1 := cell_old x1 hv
      replace x2 := cell_old x2 hv
      replace x3 := cell_old x3 hv
      replace hS := hS.keep hv
      replace hb := hb.trans (hv.mono hb.size)
      clear hv
      go_wp2_with fail
      refine (check_lit _ _ _ _ cA _ hA HG0.out HA.out).mono ?_
      rintro e w16 ⟨rfl, hv⟩
      replace h2 := h2.at_size (Nat.le_refl _) hv
      replace x0 := cell_old x0 hv
      replace x1 := cell_old x1 hv
      replace x2 := cell_old x2 hv
      replace x3 := cell_old x3 hv
      replace hS := hS.keep hv
      replace hb := hb.trans (hv.mono hb.size)
      clear hv
      clear hA h0
      by_cases e9 : cA = 0
      case neg =>
        have hne : ((cA : Int) != 0) = true := by simp; omega
        clear hS e9
        clear h2
        go_wp2_with fail
        refine (alive_any _).mono ?_
        rintro e wz ⟨rfl, hv⟩
        replace hb := hb.trans (hv.mono hb.size)
        clear hv
        go_wp2_with fail
        go_ret
        exact ⟨rfl, hb⟩
      subst e9
      replace HREF := Lib.hid (HREF.out rfl)
      go_wp2_with fail
      refine (ref_any _ _ _ _ _ h2 (by have := B23.out; omega)).mono ?_
      rintro e w17 ⟨AB, nB, cB', rfl, hB, hv⟩
      replace h2 := h2.at_size (Nat.le_refl _) hv
      replace x0 := cell_old x0 hv
      replace x1 := cell_old x1 hv
      replace x2 := cell_old x2 hv
      replace x3 := cell_old x3 hv
      replace hS := hS.keep hv
      replace hb := hb.trans (hv.mono hb.size)
      clear hv
      go_wp2_with fail
      refine (check_lit _ _ _ _ cB _ hB HG2.out HB.out).mono ?_
      rintro e w18 ⟨rfl, hv⟩
      replace hb := hb.trans (hv.mono hb.size)
      clear hv hB h2 hS
      by_cases e10 : cB = 0
      case neg =>
        have hne : ((cB : Int) != 0) = true := by simp; omega
        clear e10
        go_wp2_with fail
        refine (alive_any _).mono ?_
        rintro e wz ⟨rfl, hv⟩
        replace hb := hb.trans (hv.mono hb.size)
        clear hv
        go_wp2_with fail
        go_ret
        exact ⟨rfl, hb⟩
      subst e10
      obtain ⟨rfl, h8⟩ := HREF.out rfl
      have h7 := H7.out
      clear HREF H7 HR4 HR5 HR6 HR7 HR8 x0 x1 x2 x3
      go_wp2_with fail
      refine (alive_any _).mono ?_
      rintro e wz ⟨rfl, hv⟩
      replace hb := hb.trans (hv.mono hb.size)
      clear hv
      cases r4 <;> cases r5 <;> cases r6 <;> simp only [Bool.and_true, Bool.and_false] at h7 h8 <;> subst h7 <;> subst h8
      all_goals (
        go_wp2_with fail
        go_ret
        exact ⟨rfl, hb⟩)

set_option maxRecDepth 100000 in
theorem lifted (os : Os) (started : os.Started) (H : Type) (enc : TypeId × Value → H) :
    ReturnsInHanded {} Try.checked os 6 .any (Rows.groundsPartsSpec.pre6 enc Try.prog Try.f6 Rows.groundsPartsRow.domain false) (Rows.groundsPartsSpec.post enc Try.prog Try.f6 false true false false) := by
  refine returnsInHanded_of_change (C := Try.checked) own started (by kernel_rfl) Try.func6
    (ChangeSpec.witness6 (enc := enc) (C := Try.checked) false ⟨#[], #[.agg #[.slice none 0 0, .slice none 0 0], .agg #[.slice none 0 0, .slice none 0 0], .agg #[.slice none 0 0, .int .i64 0]], []⟩ 8 (by kernel_rfl) (by kernel_rfl) (by kernel_rfl) (by kernel_rfl)) ?_
  intro W base args ds gs before hval0 hW hcnd _
  have hval : ∀ (j : Nat) t v, Try.f6.params[j]? = some t → args[j]? = some v → Value.okWide Try.prog W .any base t v := hval0
  have hW' := hW
  obtain ⟨p, q, hA0, hV, rfl, hfz, hnd⟩ := hW
  have hA : DataW.TrodAll enc Try.prog W 0 (fun _ => true) true Try.f6.params.toList args.toList ds p := hA0
  rw [Try.params6] at hA hval
  obtain ⟨v0, vs0, d0, ds0, p0, q0, hargs, rfl, rfl, h0, r0⟩ := trodAll_cons hA
  obtain ⟨v1, vs1, d1, ds1, p1, q1, rfl, rfl, rfl, h1, r1⟩ := trodAll_cons r0
  obtain ⟨v2, vs2, d2, ds2, p2, q2, rfl, rfl, rfl, h2, r2⟩ := trodAll_cons r1
  obtain ⟨rfl, rfl, rfl⟩ := trodAll_nil r2
  obtain rfl : args = #[v0, v1, v2] := by cases args; simp_all
  obtain ⟨rfl, rfl⟩ := trodVars_none hV
  have lt0 : ∀ x ∈ p0, x.block < W.heap.size := by obtain ⟨m, hm⟩ := h0; exact DataW.trod_lt m _ _ _ hm
  obtain ⟨B0, m0, d0, l0, B1, m1, d1, l1, rfl, hc0, hc1⟩ := opened_arr2 h0
  have lt1 : ∀ x ∈ p1, x.block < W.heap.size := by obtain ⟨m, hm⟩ := h1; exact DataW.trod_lt m _ _ _ hm
  obtain ⟨B2, m2, d2, l2, B3, m3, d3, l3, rfl, hc2, hc3⟩ := opened_arr2 h1
  have lt2 : ∀ x ∈ p2, x.block < W.heap.size := by obtain ⟨m, hm⟩ := h2; exact DataW.trod_lt m _ _ _ hm
  obtain ⟨a2, len2, cap2, k2, l10, rfl, hr2, hf2⟩ := opened_sorts h2
  clear hA0 hval0
  refine (walk B0 m0 d0 l0 B1 m1 d1 l1 B2 m2 d2 l2 B3 m3 d3 l3 a2 len2 cap2 k2 l10 W hc0 hc1 hc2 hc3 hr2 hf2).mono fun e W' ⟨he, bel⟩ => ?_
  subst he
  exact ⟨_, rfl, _, _, _, [], _, [], hW', trodAll_mk1 (shut_bool Try.underlying4 _), (trodAll_cons_mk (Below.trod laidOut (by kernel_rfl) (of_decide_eq_true (by kernel_rfl)) h0 bel lt0) (trodAll_cons_mk (Below.trod laidOut (by kernel_rfl) (of_decide_eq_true (by kernel_rfl)) h1 bel lt1) (trodAll_cons_mk (Below.trod laidOut (by kernel_rfl) (of_decide_eq_true (by kernel_rfl)) h2 bel lt2) trodAll_mk0))), rfl, bel.frame _, fun h => by cases h⟩

theorem over : Rows.groundsPartsRow.holds Try.pinned (OpenSpec.ofChange Rows.groundsPartsSpec) :=
  OpenClaim.holds_of_wide 6 Try.f6 rfl rfl rfl rfl rfl rfl rfl ⟨rfl, rfl, rfl, rfl, rfl⟩ rfl rfl rfl rfl rfl (by kernel_rfl) Try.func6 (by kernel_rfl)
    (of_decide_eq_true (by kernel_rfl)) (by unfold Func.isWrapper; first | (rw [if_pos (by decide +kernel)]; kernel_rfl) | (rw [if_neg (by decide +kernel)]; exact ⟨rfl, rfl⟩))
    (fun os started H enc _ => lifted os started H enc)

theorem proved : Rows.GroundsPartsSaid := over
#print axioms proved

end Go.Proofs.Ytlcbcggcmmlfdaa.groundsParts
