/- Proved: whatever the three bodies, the labels and the effects, GroundsChain answers true: what is below one that is below another one is below that; two that are below one another are the same; the arguments stay as they were. No condition. -/
import Derived.Test.YtlcbcggcmmlfdaaExamples
import Derived.Test.YtlcbcggcmmlfdaaRows
namespace Go.Proofs.Ytlcbcggcmmlfdaa.groundsChain
open Go.ChangeShapes Go.WideShapes Go.ChangeAt Go.RowKit

theorem own : ownKnob Try.prog.godebug = none := by kernel_rfl
theorem laidOut : laidOutB Try.prog = true := by kernel_rfl


set_option maxRecDepth 100000 in
set_option maxHeartbeats 4000000 in
theorem walk (A0 : Option Addr) (n0 c0 : Nat) (l0 : List Nd) (A1 : Option Addr) (n1 c1 : Nat) (l1 : List Nd) (A2 : Option Addr) (n2 c2 : Nat) (l2 : List Nd) (A : Option Addr) (n c : Nat) (k : Int) (rows : List Nat) (w : World)
    (hc0 : Came w A0 n0 c0 l0) (hc1 : Came w A1 n1 c1 l1) (hc2 : Came w A2 n2 c2 l2) (hr : Rd La.nm w w.heap.size A n c rows) (hf : La.Fit rows) :
    Calls Try.prog 5 #[.agg #[.slice A0 n0 c0, .slice A1 n1 c1, .slice A2 n2 c2], zV A n c k] w fun e w' => e = .returned (.bool true) ∧ Below w.heap.size w w' := by
  have HC0 := Lib.hid hc0
  have HC1 := Lib.hid hc1
  have HC2 := Lib.hid hc2
  have HFR := Lib.hid hf
  have h0 := hc0.rs
  have h1 := hc1.rs
  have h2 := hc2.rs
  clear hf hc0 hc1 hc2
  obtain ⟨g1, g2, hv⟩ := box2 w (.cells #[.slice A0 n0 c0, .slice A1 n1 c1, .slice A2 n2 c2] 39) (.cells #[.slice A n c, .int .i64 k] 25)
  replace h0 := h0.at_size (Nat.le_refl _) hv
  replace h1 := h1.at_size (Nat.le_refl _) hv
  replace h2 := h2.at_size (Nat.le_refl _) hv
  replace hr := hr.at_size (Nat.le_refl _) hv
  have hb := hv
  have x0 := (cell_blk (i := 0) g1).trans rfl
  have x1 := (cell_blk (i := 1) g1).trans rfl
  have x2 := (cell_blk (i := 2) g1).trans rfl
  have z0 := (cell_blk (i := 0) g2).trans rfl
  have z1 := (cell_blk (i := 1) g2).trans rfl
  have HS0 : Hid (soOf rows k).Ok := Lib.hid (soOk rows k)
  obtain ⟨gr, hgr⟩ : ∃ r, r = (decide (64 < n) || (decide (200 < n0) || decide (200 < n1))) := ⟨_, rfl⟩
  have HGR := Lib.hid hgr
  clear hgr hv g1 g2
  go_enter Try.func5, Try.ntmps5
  go_wp2_with fail
  refine (great_any A n c k A0 n0 c0 A1 n1 c1 _ gr HGR.out).mono ?_
  rintro e w1 ⟨rfl, hv⟩
  replace h0 := h0.at_size (Nat.le_refl _) hv
  replace h1 := h1.at_size (Nat.le_refl _) hv
  replace h2 := h2.at_size (Nat.le_refl _) hv
  replace hr := hr.at_size (Nat.le_refl _) hv
  replace x0 := cell_old x0 hv
  replace x1 := cell_old x1 hv
  replace x2 := cell_old x2 hv
  replace z0 := cell_old z0 hv
  replace z1 := cell_old z1 hv
  replace hb := hb.trans (hv.mono hb.size)
  clear hv
  clear HGR
  cases gr with
  | true =>
    clear h0 h1 h2 hr
    go_wp2_with fail
    refine (alive_any _).mono ?_
    rintro e wz ⟨rfl, hv⟩
    replace hb := hb.trans (hv.mono hb.size)
    clear hv
    go_wp2_with fail
    go_ret
    exact ⟨rfl, hb⟩
  | false =>
    by_cases q2 : 200 < n2
    · have q2' : (200 : Int) < (n2 : Int) := by omega
      clear h0 h1 h2 hr q2
      go_wp2_with fail
      refine (alive_any _).mono ?_
      rintro e wz ⟨rfl, hv⟩
      replace hb := hb.trans (hv.mono hb.size)
      clear hv
      go_wp2_with fail
      go_ret
      exact ⟨rfl, hb⟩
    have q2' : ¬ (200 : Int) < (n2 : Int) := by omega
    go_wp2_with fail
    refine (made_any A n c rows k _ hr HFR.out).mono ?_
    rintro e w2 ⟨p, q, rfl, hS, -, -, hv⟩
    replace h0 := h0.at_size (Nat.le_refl _) hv
    replace h1 := h1.at_size (Nat.le_refl _) hv
    replace h2 := h2.at_size (Nat.le_refl _) hv
    replace x0 := cell_old x0 hv
    replace x1 := cell_old x1 hv
    replace x2 := cell_old x2 hv
    replace hb := hb.trans (hv.mono hb.size)
    clear hv
    clear hr z0 z1 q2 q2' HFR
    generalize soOf rows k = S at *
    obtain ⟨y4, hy4⟩ : ∃ x, grE S l0 l1 = x := ⟨_, rfl⟩
    obtain ⟨y5, hy5⟩ : ∃ x, grE S l1 l2 = x := ⟨_, rfl⟩
    obtain ⟨y6, hy6⟩ : ∃ x, grE S l0 l2 = x := ⟨_, rfl⟩
    obtain ⟨r4, hr4⟩ : ∃ x, grB S l0 l1 = x := ⟨_, rfl⟩
    obtain ⟨r5, hr5⟩ : ∃ x, grB S l1 l2 = x := ⟨_, rfl⟩
    obtain ⟨r6, hr6⟩ : ∃ x, grB S l0 l2 = x := ⟨_, rfl⟩
    obtain ⟨r7, hr7⟩ : ∃ x, grB S l1 l0 = x := ⟨_, rfl⟩
    have HR4 := Lib.hid hr4
    have HR5 := Lib.hid hr5
    have HR6 := Lib.hid hr6
    have HR7 := Lib.hid hr7
    have HX4 := Lib.hid (congrArg (fun n : Nat => (n : Int)) hy4)
    have HX5 := Lib.hid (congrArg (fun n : Nat => (n : Int)) hy5)
    have HX6 := Lib.hid (congrArg (fun n : Nat => (n : Int)) hy6)
    have HX7 := Lib.hid (congrArg (fun n : Nat => (n : Int)) ((grE_comm S l1 l0).trans hy4))
    by_cases hy : y4 = 0
    case neg =>
      have hne : ((y4 : Int) != 0) = true := by simp; omega
      clear hy4 hy5 hy6 hr4 hr5 hr6 hr7 hy
      go_wp2_with fail
      refine (ground_lit _ _ _ _ _ _ l0 l1 p q S r4 y4 _ h0 h1 HC0.out.fit HC1.out.fit HC0.out.tfit HC1.out.tfit hS HR4.out HX4.out).mono ?_
      rintro e w4 ⟨rfl, hv⟩
      replace h0 := h0.at_size (Nat.le_refl _) hv
      replace h1 := h1.at_size (Nat.le_refl _) hv
      replace h2 := h2.at_size (Nat.le_refl _) hv
      replace x0 := cell_old x0 hv
      replace x1 := cell_old x1 hv
      replace x2 := cell_old x2 hv
      replace hS := hS.keep hv
      replace hb := hb.trans (hv.mono hb.size)
      clear hv
      go_wp2_with fail
      refine (ground_lit _ _ _ _ _ _ l1 l2 p q S r5 y5 _ h1 h2 HC1.out.fit HC2.out.fit HC1.out.tfit HC2.out.tfit hS HR5.out HX5.out).mono ?_
      rintro e w5 ⟨rfl, hv⟩
      replace h0 := h0.at_size (Nat.le_refl _) hv
      replace h1 := h1.at_size (Nat.le_refl _) hv
      replace h2 := h2.at_size (Nat.le_refl _) hv
      replace x0 := cell_old x0 hv
      replace x1 := cell_old x1 hv
      replace x2 := cell_old x2 hv
      replace hS := hS.keep hv
      replace hb := hb.trans (hv.mono hb.size)
      clear hv
      go_wp2_with fail
      refine (ground_lit _ _ _ _ _ _ l0 l2 p q S r6 y6 _ h0 h2 HC0.out.fit HC2.out.fit HC0.out.tfit HC2.out.tfit hS HR6.out HX6.out).mono ?_
      rintro e w6 ⟨rfl, hv⟩
      replace h0 := h0.at_size (Nat.le_refl _) hv
      replace h1 := h1.at_size (Nat.le_refl _) hv
      replace h2 := h2.at_size (Nat.le_refl _) hv
      replace x0 := cell_old x0 hv
      replace x1 := cell_old x1 hv
      replace x2 := cell_old x2 hv
      replace hS := hS.keep hv
      replace hb := hb.trans (hv.mono hb.size)
      clear hv
      go_wp2_with fail
      refine (ground_lit _ _ _ _ _ _ l1 l0 p q S r7 y4 _ h1 h0 HC1.out.fit HC0.out.fit HC1.out.tfit HC0.out.tfit hS HR7.out HX7.out).mono ?_
      rintro e w7 ⟨rfl, hv⟩
      replace h0 := h0.at_size (Nat.le_refl _) hv
      replace h1 := h1.at_size (Nat.le_refl _) hv
      replace h2 := h2.at_size (Nat.le_refl _) hv
      replace x0 := cell_old x0 hv
      replace x1 := cell_old x1 hv
      replace x2 := cell_old x2 hv
      replace hS := hS.keep hv
      replace hb := hb.trans (hv.mono hb.size)
      clear hv
      clear h0 h1 h2
      go_wp2_with fail
      refine (alive_any _).mono ?_
      rintro e wz ⟨rfl, hv⟩
      replace hb := hb.trans (hv.mono hb.size)
      clear hv
      go_wp2_with fail
      go_ret
      exact ⟨rfl, hb⟩
    subst hy
    by_cases hy : y5 = 0
    case neg =>
      have hne : ((y5 : Int) != 0) = true := by simp; omega
      clear hy4 hy5 hy6 hr4 hr5 hr6 hr7 hy
      go_wp2_with fail
      refine (ground_lit _ _ _ _ _ _ l0 l1 p q S r4 0 _ h0 h1 HC0.out.fit HC1.out.fit HC0.out.tfit HC1.out.tfit hS HR4.out HX4.out).mono ?_
      rintro e w4 ⟨rfl, hv⟩
      replace h0 := h0.at_size (Nat.le_refl _) hv
      replace h1 := h1.at_size (Nat.le_refl _) hv
      replace h2 := h2.at_size (Nat.le_refl _) hv
      replace x0 := cell_old x0 hv
      replace x1 := cell_old x1 hv
      replace x2 := cell_old x2 hv
      replace hS := hS.keep hv
      replace hb := hb.trans (hv.mono hb.size)
      clear hv
      go_wp2_with fail
      refine (ground_lit _ _ _ _ _ _ l1 l2 p q S r5 y5 _ h1 h2 HC1.out.fit HC2.out.fit HC1.out.tfit HC2.out.tfit hS HR5.out HX5.out).mono ?_
      rintro e w5 ⟨rfl, hv⟩
      replace h0 := h0.at_size (Nat.le_refl _) hv
      replace h1 := h1.at_size (Nat.le_refl _) hv
      replace h2 := h2.at_size (Nat.le_refl _) hv
      replace x0 := cell_old x0 hv
      replace x1 := cell_old x1 hv
      replace x2 := cell_old x2 hv
      replace hS := hS.keep hv
      replace hb := hb.trans (hv.mono hb.size)
      clear hv
      go_wp2_with fail
      refine (ground_lit _ _ _ _ _ _ l0 l2 p q S r6 y6 _ h0 h2 HC0.out.fit HC2.out.fit HC0.out.tfit HC2.out.tfit hS HR6.out HX6.out).mono ?_
      rintro e w6 ⟨rfl, hv⟩
      replace h0 := h0.at_size (Nat.le_refl _) hv
      replace h1 := h1.at_size (Nat.le_refl _) hv
      replace h2 := h2.at_size (Nat.le_refl _) hv
      replace x0 := cell_old x0 hv
      replace x1 := cell_old x1 hv
      replace x2 := cell_old x2 hv
      replace hS := hS.keep hv
      replace hb := hb.trans (hv.mono hb.size)
      clear hv
      go_wp2_with fail
      refine (ground_lit _ _ _ _ _ _ l1 l0 p q S r7 0 _ h1 h0 HC1.out.fit HC0.out.fit HC1.out.tfit HC0.out.tfit hS HR7.out HX7.out).mono ?_
      rintro e w7 ⟨rfl, hv⟩
      replace h0 := h0.at_size (Nat.le_refl _) hv
      replace h1 := h1.at_size (Nat.le_refl _) hv
      replace h2 := h2.at_size (Nat.le_refl _) hv
      replace x0 := cell_old x0 hv
      replace x1 := cell_old x1 hv
      replace x2 := cell_old x2 hv
      replace hS := hS.keep hv
      replace hb := hb.trans (hv.mono hb.size)
      clear hv
      clear h0 h1 h2
      go_wp2_with fail
      refine (alive_any _).mono ?_
      rintro e wz ⟨rfl, hv⟩
      replace hb := hb.trans (hv.mono hb.size)
      clear hv
      go_wp2_with fail
      go_ret
      exact ⟨rfl, hb⟩
    subst hy
    obtain rfl : y6 = 0 := by
      rw [← hy6]
      obtain ⟨a1, _, a3, _⟩ := (grE_zero S).1 hy4
      obtain ⟨_, a2, _, a4⟩ := (grE_zero S).1 hy5
      exact (grE_zero S).2 ⟨a1, a2, a3, a4⟩
    have HTR : Hid (r4 = true → r5 = true → r6 = true) := Lib.hid fun h k => by
      rw [← hr6]
      exact gr_trans HS0.out hy4 hy5 (hr4.trans h) (hr5.trans k)
    have HAN : Hid (r4 = true → r7 = true → l0 = l1) := Lib.hid fun h k => gr_anti HS0.out HC0.out.tfit HC1.out.tfit hy4 (hr4.trans h) (hr7.trans k)
    have HSM : Hid (r4 = true → sameB l0 l1 = true) := Lib.hid fun h => by
      have := hr4.trans h
      rw [grB_iff S hy4, Bool.and_eq_true] at this
      exact this.1
    clear hy4 hy5 hy6 hr4 hr5 hr6 hr7
    go_wp2_with fail
    refine (ground_lit _ _ _ _ _ _ l0 l1 p q S r4 0 _ h0 h1 HC0.out.fit HC1.out.fit HC0.out.tfit HC1.out.tfit hS HR4.out HX4.out).mono ?_
    rintro e w4 ⟨rfl, hv⟩
    replace h0 := h0.at_size (Nat.le_refl _) hv
    replace h1 := h1.at_size (Nat.le_refl _) hv
    replace h2 := h2.at_size (Nat.le_refl _) hv
    replace x0 := cell_old x0 hv
    replace x1 := cell_old x1 hv
    replace x2 := cell_old x2 hv
    replace hS := hS.keep hv
    replace hb := hb.trans (hv.mono hb.size)
    clear hv
    go_wp2_with fail
    refine (ground_lit _ _ _ _ _ _ l1 l2 p q S r5 0 _ h1 h2 HC1.out.fit HC2.out.fit HC1.out.tfit HC2.out.tfit hS HR5.out HX5.out).mono ?_
    rintro e w5 ⟨rfl, hv⟩
    replace h0 := h0.at_size (Nat.le_refl _) hv
    replace h1 := h1.at_size (Nat.le_refl _) hv
    replace h2 := h2.at_size (Nat.le_refl _) hv
    replace x0 := cell_old x0 hv
    replace x1 := cell_old x1 hv
    replace x2 := cell_old x2 hv
    replace hS := hS.keep hv
    replace hb := hb.trans (hv.mono hb.size)
    clear hv
    go_wp2_with fail
    refine (ground_lit _ _ _ _ _ _ l0 l2 p q S r6 0 _ h0 h2 HC0.out.fit HC2.out.fit HC0.out.tfit HC2.out.tfit hS HR6.out HX6.out).mono ?_
    rintro e w6 ⟨rfl, hv⟩
    replace h0 := h0.at_size (Nat.le_refl _) hv
    replace h1 := h1.at_size (Nat.le_refl _) hv
    replace h2 := h2.at_size (Nat.le_refl _) hv
    replace x0 := cell_old x0 hv
    replace x1 := cell_old x1 hv
    replace x2 := cell_old x2 hv
    replace hS := hS.keep hv
    replace hb := hb.trans (hv.mono hb.size)
    clear hv
    go_wp2_with fail
    refine (ground_lit _ _ _ _ _ _ l1 l0 p q S r7 0 _ h1 h0 HC1.out.fit HC0.out.fit HC1.out.tfit HC0.out.tfit hS HR7.out HX7.out).mono ?_
    rintro e w7 ⟨rfl, hv⟩
    replace h0 := h0.at_size (Nat.le_refl _) hv
    replace h1 := h1.at_size (Nat.le_refl _) hv
    replace h2 := h2.at_size (Nat.le_refl _) hv
    replace x0 := cell_old x0 hv
    replace x1 := cell_old x1 hv
    replace x2 := cell_old x2 hv
    replace hS := hS.keep hv
    replace hb := hb.trans (hv.mono hb.size)
    clear hv
    clear h2 x2 hS HR4 HR5 HR6 HR7
    cases r4 with
    | false =>
      clear h0 h1
      go_wp2_with fail
      refine (alive_any _).mono ?_
      rintro e wz ⟨rfl, hv⟩
      replace hb := hb.trans (hv.mono hb.size)
      clear hv
      go_wp2_with fail
      go_ret
      exact ⟨rfl, hb⟩
    | true =>
      replace HTR := Lib.hid (HTR.out rfl)
      replace HAN := Lib.hid (HAN.out rfl)
      replace HSM := Lib.hid (HSM.out rfl)
      have h56 : (r5 = true ∧ r6 = true) ∨ r5 = false := by
        cases r5 with
        | false => exact .inr rfl
        | true => exact .inl ⟨rfl, HTR.out rfl⟩
      clear HTR
      cases r7 with
      | false =>
        clear HAN
        rcases h56 with ⟨rfl, rfl⟩ | rfl
        all_goals (
          go_wp2_with fail
          refine (alive_any _).mono ?_
          rintro e wz ⟨rfl, hv⟩
          replace h0 := h0.at_size (Nat.le_refl _) hv
          replace h1 := h1.at_size (Nat.le_refl _) hv
          replace x0 := cell_old x0 hv
          replace x1 := cell_old x1 hv
          replace hb := hb.trans (hv.mono hb.size)
          clear hv
          go_wp2_with fail
          refine (same_lit' _ _ _ _ _ _ l0 l1 true _ h0 h1 HSM.out).mono ?_
          rintro e w9 ⟨rfl, hv⟩
          replace hb := hb.trans (hv.mono hb.size)
          clear hv h0 h1
          go_wp2_with fail
          go_ret
          exact ⟨rfl, hb⟩)
      | true =>
        replace HAN := Lib.hid (HAN.out rfl)
        rcases h56 with ⟨rfl, rfl⟩ | rfl
        all_goals (
          go_wp2_with fail
          refine (alive_any _).mono ?_
          rintro e wz ⟨rfl, hv⟩
          replace h0 := h0.at_size (Nat.le_refl _) hv
          replace h1 := h1.at_size (Nat.le_refl _) hv
          replace x0 := cell_old x0 hv
          replace x1 := cell_old x1 hv
          replace hb := hb.trans (hv.mono hb.size)
          clear hv
          have hl0 : n0 = n1 := by rw [← h0.len, ← h1.len, HAN.out]
          have h1' : Ns wz wz.heap.size A1 n0 c1 l0 := by rw [HAN.out, hl0]; exact h1
          rw [← hl0] at x1 h1
          clear hl0
          go_wp2_with fail
          refine (sameNodes_any _ _ n0 _ _ _ _ l0 _ h0 h1').mono ?_
          rintro e w8 ⟨rfl, hv⟩
          clear h1'
          replace h0 := h0.at_size (Nat.le_refl _) hv
          replace h1 := h1.at_size (Nat.le_refl _) hv
          replace x0 := cell_old x0 hv
          replace x1 := cell_old x1 hv
          replace hb := hb.trans (hv.mono hb.size)
          clear hv
          go_wp2_with fail
          refine (same_lit' _ _ _ _ _ _ l0 l1 true _ h0 h1 HSM.out).mono ?_
          rintro e w9 ⟨rfl, hv⟩
          replace hb := hb.trans (hv.mono hb.size)
          clear hv h0 h1
          go_wp2_with fail
          go_ret
          exact ⟨rfl, hb⟩)

set_option maxRecDepth 100000 in
theorem lifted (os : Os) (started : os.Started) (H : Type) (enc : TypeId × Value → H) :
    ReturnsInHanded {} Try.checked os 5 .any (Rows.groundsChainSpec.pre6 enc Try.prog Try.f5 Rows.groundsChainRow.domain false) (Rows.groundsChainSpec.post enc Try.prog Try.f5 false true false false) := by
  refine returnsInHanded_of_change (C := Try.checked) own started (by kernel_rfl) Try.func5
    (ChangeSpec.witness6 (enc := enc) (C := Try.checked) false ⟨#[], #[.agg #[.slice none 0 0, .slice none 0 0, .slice none 0 0], .agg #[.slice none 0 0, .int .i64 0]], []⟩ 8 (by kernel_rfl) (by kernel_rfl) (by kernel_rfl) (by kernel_rfl)) ?_
  intro W base args ds gs before hval0 hW hcnd _
  have hval : ∀ (j : Nat) t v, Try.f5.params[j]? = some t → args[j]? = some v → Value.okWide Try.prog W .any base t v := hval0
  have hW' := hW
  obtain ⟨p, q, hA0, hV, rfl, hfz, hnd⟩ := hW
  have hA : DataW.TrodAll enc Try.prog W 0 (fun _ => true) true Try.f5.params.toList args.toList ds p := hA0
  rw [Try.params5] at hA hval
  obtain ⟨v0, vs0, d0, ds0, p0, q0, hargs, rfl, rfl, h0, r0⟩ := trodAll_cons hA
  obtain ⟨v1, vs1, d1, ds1, p1, q1, rfl, rfl, rfl, h1, r1⟩ := trodAll_cons r0
  obtain ⟨rfl, rfl, rfl⟩ := trodAll_nil r1
  obtain rfl : args = #[v0, v1] := by cases args; simp_all
  obtain ⟨rfl, rfl⟩ := trodVars_none hV
  have lt0 : ∀ x ∈ p0, x.block < W.heap.size := by obtain ⟨m, hm⟩ := h0; exact DataW.trod_lt m _ _ _ hm
  obtain ⟨B0, m0, d0, l0, B1, m1, d1, l1, B2, m2, d2, l2, rfl, hc0, hc1, hc2⟩ := opened_arr3 h0
  have lt1 : ∀ x ∈ p1, x.block < W.heap.size := by obtain ⟨m, hm⟩ := h1; exact DataW.trod_lt m _ _ _ hm
  obtain ⟨a1, len1, cap1, k1, l9, rfl, hr1, hf1⟩ := opened_sorts h1
  clear hA0 hval0
  refine (walk B0 m0 d0 l0 B1 m1 d1 l1 B2 m2 d2 l2 a1 len1 cap1 k1 l9 W hc0 hc1 hc2 hr1 hf1).mono fun e W' ⟨he, bel⟩ => ?_
  subst he
  exact ⟨_, rfl, _, _, _, [], _, [], hW', trodAll_mk1 (shut_bool Try.underlying4 _), (trodAll_cons_mk (Below.trod laidOut (by kernel_rfl) (of_decide_eq_true (by kernel_rfl)) h0 bel lt0) (trodAll_cons_mk (Below.trod laidOut (by kernel_rfl) (of_decide_eq_true (by kernel_rfl)) h1 bel lt1) trodAll_mk0)), rfl, bel.frame _, fun h => by cases h⟩

theorem over : Rows.groundsChainRow.holds Try.pinned (OpenSpec.ofChange Rows.groundsChainSpec) :=
  OpenClaim.holds_of_wide 5 Try.f5 rfl rfl rfl rfl rfl rfl rfl ⟨rfl, rfl, rfl, rfl, rfl⟩ rfl rfl rfl rfl rfl (by kernel_rfl) Try.func5 (by kernel_rfl)
    (of_decide_eq_true (by kernel_rfl)) (by unfold Func.isWrapper; first | (rw [if_pos (by decide +kernel)]; kernel_rfl) | (rw [if_neg (by decide +kernel)]; exact ⟨rfl, rfl⟩))
    (fun os started H enc _ => lifted os started H enc)

theorem proved : Rows.GroundsChainSaid := over
#print axioms proved

end Go.Proofs.Ytlcbcggcmmlfdaa.groundsChain
