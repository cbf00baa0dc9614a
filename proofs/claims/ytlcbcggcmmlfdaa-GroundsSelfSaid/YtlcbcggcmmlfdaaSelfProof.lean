/- Proved: whatever the bodies, the labels and the effects, GroundsSelf answers true: a type is below itself, if its values are such, and refused else, whatever it is held against; the arguments stay as they were. No condition. -/
import Derived.Test.YtlcbcggcmmlfdaaExamples
import Derived.Test.YtlcbcggcmmlfdaaRows
namespace Go.Proofs.Ytlcbcggcmmlfdaa.groundsSelf
open Go.ChangeShapes Go.WideShapes Go.ChangeAt Go.RowKit

theorem own : ownKnob Try.prog.godebug = none := by kernel_rfl
theorem laidOut : laidOutB Try.prog = true := by kernel_rfl


set_option maxRecDepth 100000 in
set_option maxHeartbeats 4000000 in
theorem walk (A0 : Option Addr) (n0 c0 : Nat) (l0 : List Nd) (A1 : Option Addr) (n1 c1 : Nat) (l1 : List Nd) (A2 : Option Addr) (n2 c2 : Nat) (k : Int) (rows : List Nat) (w : World)
    (h0 : Ns w w.heap.size A0 n0 c0 l0) (f0 : ∀ x ∈ l0, x.Fits) (t0 : ∀ x ∈ l0, x.TFits) (h1 : Ns w w.heap.size A1 n1 c1 l1) (f1 : ∀ x ∈ l1, x.Fits) (t1 : ∀ x ∈ l1, x.TFits) (h2 : Rd La.nm w w.heap.size A2 n2 c2 rows) (f2 : La.Fit rows) :
    Calls Try.prog 4 #[.slice A0 n0 c0, .slice A1 n1 c1, zV A2 n2 c2 k] w fun e w' => e = .returned (.bool true) ∧ Below w.heap.size w w' := by
  have HF0 := Lib.hid f0
  have HF1 := Lib.hid f1
  have HT0 := Lib.hid t0
  have HT1 := Lib.hid t1
  have HFR := Lib.hid f2
  clear f0 f1 t0 t1 f2
  have hal : Below w.heap.size w (w.alloc (.cells #[.slice A2 n2 c2, .int .i64 k] 25)) := (Below.refl _ _).alloc (Nat.le_refl _) _
  replace h0 := h0.at_size (Nat.le_refl _) hal
  replace h1 := h1.at_size (Nat.le_refl _) hal
  replace h2 := h2.at_size (Nat.le_refl _) hal
  have hb := hal
  have hz0 : (w.alloc (.cells #[.slice A2 n2 c2, .int .i64 k] 25)).cell? ⟨w.heap.size, 0, none⟩ = some (.slice A2 n2 c2) := (cell_blk (i := 0) (heap_alloc_new w _)).trans rfl
  have hz1 : (w.alloc (.cells #[.slice A2 n2 c2, .int .i64 k] 25)).cell? ⟨w.heap.size, 1, none⟩ = some (.int .i64 k) := (cell_blk (i := 1) (heap_alloc_new w _)).trans rfl
  have HS0 : Hid (soOf rows k).Ok := Lib.hid (soOk rows k)
  obtain ⟨gr, hgr⟩ : ∃ r, r = (decide (64 < n2) || (decide (200 < n0) || decide (200 < n1))) := ⟨_, rfl⟩
  have HGR := Lib.hid hgr
  clear hgr hal
  go_enter Try.func4, Try.ntmps4
  go_wp2_with fail
  refine (great_any A2 n2 c2 k A0 n0 c0 A1 n1 c1 _ gr HGR.out).mono ?_
  rintro e w1 ⟨rfl, hv⟩
  replace h0 := h0.at_size (Nat.le_refl _) hv
  replace h1 := h1.at_size (Nat.le_refl _) hv
  replace h2 := h2.at_size (Nat.le_refl _) hv
  replace hz0 := (hv.cell (p := ⟨w.heap.size, 0, none⟩) (World.block_lt_of_cell? _ _ hz0)).trans hz0
  replace hz1 := (hv.cell (p := ⟨w.heap.size, 1, none⟩) (World.block_lt_of_cell? _ _ hz1)).trans hz1
  replace hb := hb.trans (hv.mono hb.size)
  clear hv
  cases gr with
  | true =>
    clear h0 h1 h2 hz0 hz1
    go_wp2_with fail
    refine (alive_any _).mono ?_
    rintro e wz ⟨rfl, hbz⟩
    replace hb := hb.trans (hbz.mono hb.size)
    clear hbz
    go_wp2_with fail
    go_ret
    exact ⟨rfl, hb⟩
  | false =>
    go_wp2_with fail
    refine (made_any A2 n2 c2 rows k _ h2 HFR.out).mono ?_
    rintro e w2 ⟨p, q, rfl, hS, -, -, hv⟩
    replace h0 := h0.at_size (Nat.le_refl _) hv
    replace h1 := h1.at_size (Nat.le_refl _) hv
    replace hb := hb.trans (hv.mono hb.size)
    clear hv h2 hz0 hz1 HGR
    generalize soOf rows k = S at *
    obtain ⟨x4, hx4⟩ : ∃ x, grE S l0 l0 = x := ⟨_, rfl⟩
    obtain ⟨x5, hx5⟩ : ∃ x, grE S l0 l1 = x := ⟨_, rfl⟩
    obtain ⟨r4, hr4⟩ : ∃ x, grB S l0 l0 = x := ⟨_, rfl⟩
    obtain ⟨r5, hr5⟩ : ∃ x, grB S l0 l1 = x := ⟨_, rfl⟩
    obtain ⟨r6, hr6⟩ : ∃ x, grB S l1 l0 = x := ⟨_, rfl⟩
    have HX4 := Lib.hid (congrArg (fun n : Nat => (n : Int)) hx4)
    have HX5 := Lib.hid (congrArg (fun n : Nat => (n : Int)) hx5)
    have HX6 := Lib.hid (congrArg (fun n : Nat => (n : Int)) ((grE_comm S l1 l0).trans hx5))
    have HR4 := Lib.hid hr4
    have HR5 := Lib.hid hr5
    have HR6 := Lib.hid hr6
    have e5 : ((x5 : Int) == (x5 : Int)) = true := by simp
    by_cases hx : x4 = 0
    · subst hx
      obtain rfl : r4 = true := by rw [← hr4]; exact gr_self HS0.out hx4
      clear hx4 hx5 hr4 hr5 hr6
      go_wp2_with fail
      refine (ground_lit _ _ _ _ _ _ l0 l0 p q S true 0 _ h0 h0 HF0.out HF0.out HT0.out HT0.out hS HR4.out HX4.out).mono ?_
      rintro e w4 ⟨rfl, hv⟩
      replace h0 := h0.at_size (Nat.le_refl _) hv
      replace h1 := h1.at_size (Nat.le_refl _) hv
      replace hS := hS.keep hv
      replace hb := hb.trans (hv.mono hb.size)
      clear hv
      go_wp2_with fail
      refine (ground_lit _ _ _ _ _ _ l0 l1 p q S r5 x5 _ h0 h1 HF0.out HF1.out HT0.out HT1.out hS HR5.out HX5.out).mono ?_
      rintro e w5 ⟨rfl, hv⟩
      replace h0 := h0.at_size (Nat.le_refl _) hv
      replace h1 := h1.at_size (Nat.le_refl _) hv
      replace hS := hS.keep hv
      replace hb := hb.trans (hv.mono hb.size)
      clear hv
      go_wp2_with fail
      refine (ground_lit _ _ _ _ _ _ l1 l0 p q S r6 x5 _ h1 h0 HF1.out HF0.out HT1.out HT0.out hS HR6.out HX6.out).mono ?_
      rintro e w6 ⟨rfl, hv⟩
      replace h0 := h0.at_size (Nat.le_refl _) hv
      replace h1 := h1.at_size (Nat.le_refl _) hv
      replace hS := hS.keep hv
      replace hb := hb.trans (hv.mono hb.size)
      clear hv
      go_wp2_with fail
      refine (alive_any _).mono ?_
      rintro e wz ⟨rfl, hbz⟩
      replace hb := hb.trans (hbz.mono hb.size)
      clear hbz
      go_wp2_with fail
      go_ret
      exact ⟨rfl, hb⟩
    · have hne : ((x4 : Int) != 0) = true := by simp; omega
      have hne5 : ((x5 : Int) != 0) = true := by
        have := gr_self_no (b := l1) (by rw [hx4]; exact hx)
        rw [hx5] at this
        simp
        omega
      obtain rfl : r4 = false := by rw [← hr4]; exact grB_zero S (by rw [hx4]; exact hx)
      clear hx4 hx5 hr4 hr5 hr6 hx
      go_wp2_with fail
      refine (ground_lit _ _ _ _ _ _ l0 l0 p q S false x4 _ h0 h0 HF0.out HF0.out HT0.out HT0.out hS HR4.out HX4.out).mono ?_
      rintro e w4 ⟨rfl, hv⟩
      replace h0 := h0.at_size (Nat.le_refl _) hv
      replace h1 := h1.at_size (Nat.le_refl _) hv
      replace hS := hS.keep hv
      replace hb := hb.trans (hv.mono hb.size)
      clear hv
      go_wp2_with fail
      refine (ground_lit _ _ _ _ _ _ l0 l1 p q S r5 x5 _ h0 h1 HF0.out HF1.out HT0.out HT1.out hS HR5.out HX5.out).mono ?_
      rintro e w5 ⟨rfl, hv⟩
      replace h0 := h0.at_size (Nat.le_refl _) hv
      replace h1 := h1.at_size (Nat.le_refl _) hv
      replace hS := hS.keep hv
      replace hb := hb.trans (hv.mono hb.size)
      clear hv
      go_wp2_with fail
      refine (ground_lit _ _ _ _ _ _ l1 l0 p q S r6 x5 _ h1 h0 HF1.out HF0.out HT1.out HT0.out hS HR6.out HX6.out).mono ?_
      rintro e w6 ⟨rfl, hv⟩
      replace h0 := h0.at_size (Nat.le_refl _) hv
      replace h1 := h1.at_size (Nat.le_refl _) hv
      replace hS := hS.keep hv
      replace hb := hb.trans (hv.mono hb.size)
      clear hv
      go_wp2_with fail
      refine (alive_any _).mono ?_
      rintro e wz ⟨rfl, hbz⟩
      replace hb := hb.trans (hbz.mono hb.size)
      clear hbz
      go_wp2_with fail
      go_ret
      exact ⟨rfl, hb⟩

set_option maxRecDepth 100000 in
theorem lifted (os : Os) (started : os.Started) (H : Type) (enc : TypeId × Value → H) :
    ReturnsInHanded {} Try.checked os 4 .any (Rows.groundsSelfSpec.pre6 enc Try.prog Try.f4 Rows.groundsSelfRow.domain false) (Rows.groundsSelfSpec.post enc Try.prog Try.f4 false true false false) := by
  refine returnsInHanded_of_change (C := Try.checked) own started (by kernel_rfl) Try.func4
    (ChangeSpec.witness6 (enc := enc) (C := Try.checked) false ⟨#[], #[.slice none 0 0, .slice none 0 0, .agg #[.slice none 0 0, .int .i64 0]], []⟩ 8 (by kernel_rfl) (by kernel_rfl) (by kernel_rfl) (by kernel_rfl)) ?_
  intro W base args ds gs before hval0 hW hcnd _
  have hval : ∀ (j : Nat) t v, Try.f4.params[j]? = some t → args[j]? = some v → Value.okWide Try.prog W .any base t v := hval0
  have hW' := hW
  obtain ⟨p, q, hA0, hV, rfl, hfz, hnd⟩ := hW
  have hA : DataW.TrodAll enc Try.prog W 0 (fun _ => true) true Try.f4.params.toList args.toList ds p := hA0
  rw [Try.params4] at hA hval
  obtain ⟨v0, vs0, d0, ds0, p0, q0, hargs, rfl, rfl, h0, r0⟩ := trodAll_cons hA
  obtain ⟨v1, vs1, d1, ds1, p1, q1, rfl, rfl, rfl, h1, r1⟩ := trodAll_cons r0
  obtain ⟨v2, vs2, d2, ds2, p2, q2, rfl, rfl, rfl, h2, r2⟩ := trodAll_cons r1
  obtain ⟨rfl, rfl, rfl⟩ := trodAll_nil r2
  obtain rfl : args = #[v0, v1, v2] := by cases args; simp_all
  obtain ⟨rfl, rfl⟩ := trodVars_none hV
  obtain ⟨a0, len0, cap0, rfl⟩ := okWide_slice Try.underlying22 (hval 0 22 v0 rfl rfl)
  have lt0 : ∀ x ∈ p0, x.block < W.heap.size := by obtain ⟨m, hm⟩ := h0; exact DataW.trod_lt m _ _ _ hm
  obtain ⟨l0, hr0, hf0, ht0⟩ := opened_nodes h0
  obtain ⟨a1, len1, cap1, rfl⟩ := okWide_slice Try.underlying22 (hval 1 22 v1 rfl rfl)
  have lt1 : ∀ x ∈ p1, x.block < W.heap.size := by obtain ⟨m, hm⟩ := h1; exact DataW.trod_lt m _ _ _ hm
  obtain ⟨l1, hr1, hf1, ht1⟩ := opened_nodes h1
  have lt2 : ∀ x ∈ p2, x.block < W.heap.size := by obtain ⟨m, hm⟩ := h2; exact DataW.trod_lt m _ _ _ hm
  obtain ⟨a2, len2, cap2, k2, l2, rfl, hr2, hf2⟩ := opened_sorts h2
  clear hA0 hval0
  refine (walk a0 len0 cap0 l0 a1 len1 cap1 l1 a2 len2 cap2 k2 l2 W hr0 hf0 ht0 hr1 hf1 ht1 hr2 hf2).mono fun e W' ⟨he, bel⟩ => ?_
  subst he
  exact ⟨_, rfl, _, _, _, [], _, [], hW', trodAll_mk1 (shut_bool Try.underlying4 _), (trodAll_cons_mk (Below.trod laidOut (by kernel_rfl) (of_decide_eq_true (by kernel_rfl)) h0 bel lt0) (trodAll_cons_mk (Below.trod laidOut (by kernel_rfl) (of_decide_eq_true (by kernel_rfl)) h1 bel lt1) (trodAll_cons_mk (Below.trod laidOut (by kernel_rfl) (of_decide_eq_true (by kernel_rfl)) h2 bel lt2) trodAll_mk0))), rfl, bel.frame _, fun h => by cases h⟩

theorem over : Rows.groundsSelfRow.holds Try.pinned (OpenSpec.ofChange Rows.groundsSelfSpec) :=
  OpenClaim.holds_of_wide 4 Try.f4 rfl rfl rfl rfl rfl rfl rfl ⟨rfl, rfl, rfl, rfl, rfl⟩ rfl rfl rfl rfl rfl (by kernel_rfl) Try.func4 (by kernel_rfl)
    (of_decide_eq_true (by kernel_rfl)) (by unfold Func.isWrapper; first | (rw [if_pos (by decide +kernel)]; kernel_rfl) | (rw [if_neg (by decide +kernel)]; exact ⟨rfl, rfl⟩))
    (fun os started H enc _ => lifted os started H enc)

theorem proved : Rows.GroundsSelfSaid := over
#print axioms proved

end Go.Proofs.Ytlcbcggcmmlfdaa.groundsSelf
