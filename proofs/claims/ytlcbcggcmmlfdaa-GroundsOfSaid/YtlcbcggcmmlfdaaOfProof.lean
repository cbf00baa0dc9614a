/- Proved: whatever the bodies, the labels and the effects, GroundsOf answers true: whether a type is below another one is exactly as documented, or refused; bodies stay as they were. No condition. -/
import Derived.Test.YtlcbcggcmmlfdaaExamples
import Derived.Test.YtlcbcggcmmlfdaaRefGrB
import Derived.Test.YtlcbcggcmmlfdaaTwinNd
import Derived.Test.YtlcbcggcmmlfdaaRows
namespace Go.Proofs.Ytlcbcggcmmlfdaa.groundsOf
open Go.ChangeShapes Go.WideShapes Go.ChangeAt Go.RowKit

theorem own : ownKnob Try.prog.godebug = none := by kernel_rfl
theorem laidOut : laidOutB Try.prog = true := by kernel_rfl


theorem great_no {n n1 n2 : Nat} (h : false = (decide (64 < n) || (decide (200 < n1) || decide (200 < n2)))) : n1 ≤ 200 ∧ n2 ≤ 200 := by
  have h := h.symm
  rw [Bool.or_eq_false_iff, Bool.or_eq_false_iff, decide_eq_false_iff_not, decide_eq_false_iff_not, decide_eq_false_iff_not] at h
  omega

set_option maxRecDepth 100000 in
set_option maxHeartbeats 4000000 in
theorem walk (A0 : Option Addr) (n0 c0 : Nat) (l0 : List Nd) (A1 : Option Addr) (n1 c1 : Nat) (l1 : List Nd) (A2 : Option Addr) (n2 c2 : Nat) (k : Int) (rows : List Nat) (w : World)
    (h0 : Ns w w.heap.size A0 n0 c0 l0) (f0 : ∀ x ∈ l0, x.Fits) (t0 : ∀ x ∈ l0, x.TFits) (h1 : Ns w w.heap.size A1 n1 c1 l1) (f1 : ∀ x ∈ l1, x.Fits) (t1 : ∀ x ∈ l1, x.TFits) (h2 : Rd La.nm w w.heap.size A2 n2 c2 rows) (f2 : La.Fit rows) :
    Calls Try.prog 3 #[.slice A0 n0 c0, .slice A1 n1 c1, zV A2 n2 c2 k] w fun e w' => e = .returned (.bool true) ∧ Below w.heap.size w w' := by
  have HF0 := Lib.hid f0
  have HF1 := Lib.hid f1
  have HT0 := Lib.hid t0
  have HT1 := Lib.hid t1
  have HFR := Lib.hid f2
  clear f0 f1 t0 t1 f2
  have hv : Below w.heap.size w (w.alloc (.cells #[.slice A2 n2 c2, .int .i64 k] 25)) := (Below.refl _ _).alloc (Nat.le_refl _) _
  replace h0 := h0.at_size (Nat.le_refl _) hv
  replace h1 := h1.at_size (Nat.le_refl _) hv
  replace h2 := h2.at_size (Nat.le_refl _) hv
  have hb := hv
  have z0 : (w.alloc (.cells #[.slice A2 n2 c2, .int .i64 k] 25)).cell? ⟨w.heap.size, 0, none⟩ = some (.slice A2 n2 c2) := (cell_blk (i := 0) (heap_alloc_new w _)).trans rfl
  have z1 : (w.alloc (.cells #[.slice A2 n2 c2, .int .i64 k] 25)).cell? ⟨w.heap.size, 1, none⟩ = some (.int .i64 k) := (cell_blk (i := 1) (heap_alloc_new w _)).trans rfl
  obtain ⟨gr, hgr⟩ : ∃ r, r = (decide (64 < n2) || (decide (200 < n0) || decide (200 < n1))) := ⟨_, rfl⟩
  have HGR := Lib.hid hgr
  clear hgr hv
  go_enter Try.func3, Try.ntmps3
  go_wp2_with fail
  refine (great_any A2 n2 c2 k A0 n0 c0 A1 n1 c1 _ gr HGR.out).mono ?_
  rintro e w1 ⟨rfl, hv⟩
  replace h0 := h0.at_size (Nat.le_refl _) hv
  replace h1 := h1.at_size (Nat.le_refl _) hv
  replace h2 := h2.at_size (Nat.le_refl _) hv
  replace z0 := cell_old z0 hv
  replace z1 := cell_old z1 hv
  replace hb := hb.trans (hv.mono hb.size)
  clear hv
  cases gr with
  | true =>
    clear h0 h1 h2 HGR
    go_wp2_with fail
    go_ret
    exact ⟨rfl, hb⟩
  | false =>
    have BN := Lib.hid (great_no HGR.out)
    clear HGR
    go_wp2_with fail
    refine (made_any A2 n2 c2 rows k _ h2 HFR.out).mono ?_
    rintro e w2 ⟨p, q, rfl, hS, -, -, hv⟩
    replace h0 := h0.at_size (Nat.le_refl _) hv
    replace h1 := h1.at_size (Nat.le_refl _) hv
    replace h2 := h2.at_size (Nat.le_refl _) hv
    replace z0 := cell_old z0 hv
    replace z1 := cell_old z1 hv
    replace hb := hb.trans (hv.mono hb.size)
    clear hv
    obtain ⟨G, hG⟩ : ∃ x, grB (soOf rows k) l0 l1 = x := ⟨_, rfl⟩
    obtain ⟨E, hE⟩ : ∃ x, (grE (soOf rows k) l0 l1 : Int) = x := ⟨_, rfl⟩
    have HG := Lib.hid hG
    have HE := Lib.hid hE
    have e0 : (E == E) = true := by simp
    clear hG hE
    go_wp2_with fail
    refine (twin_any A0 n0 c0 l0 _ h0 (by have := BN.out; omega)).mono ?_
    rintro e w3 ⟨g, rfl, tw0, hv⟩
    replace h0 := h0.at_size (Nat.le_refl _) hv
    replace h1 := h1.at_size (Nat.le_refl _) hv
    replace h2 := h2.at_size (Nat.le_refl _) hv
    replace z0 := cell_old z0 hv
    replace z1 := cell_old z1 hv
    replace hS := hS.keep hv
    replace hb := hb.trans (hv.mono hb.size)
    clear hv
    go_wp2_with fail
    refine (twin_any A1 n1 c1 l1 _ h1 (by have := BN.out; omega)).mono ?_
    rintro e w4 ⟨g', rfl, tw1, hv⟩
    replace h0 := h0.at_size (Nat.le_refl _) hv
    replace h1 := h1.at_size (Nat.le_refl _) hv
    replace h2 := h2.at_size (Nat.le_refl _) hv
    replace z0 := cell_old z0 hv
    replace z1 := cell_old z1 hv
    replace tw0 := tw0.keep hv
    replace hS := hS.keep hv
    replace hb := hb.trans (hv.mono hb.size)
    clear hv
    go_wp2_with fail
    refine (ground_lit _ _ _ _ _ _ l0 l1 p q (soOf rows k) G E _ tw0.rs tw1.rs HF0.out HF1.out HT0.out HT1.out hS HG.out HE.out).mono ?_
    rintro e w5 ⟨rfl, hv⟩
    replace h0 := h0.at_size (Nat.le_refl _) hv
    replace h1 := h1.at_size (Nat.le_refl _) hv
    replace h2 := h2.at_size (Nat.le_refl _) hv
    replace z0 := cell_old z0 hv
    replace z1 := cell_old z1 hv
    replace tw0 := tw0.keep hv
    replace tw1 := tw1.keep hv
    replace hb := hb.trans (hv.mono hb.size)
    clear hv
    clear hS
    go_wp2_with fail
    refine (refGround_any A0 n0 c0 l0 A1 n1 c1 l1 A2 n2 c2 rows k _ h0 h1 HF0.out HF1.out HT0.out HT1.out h2 HFR.out G E HG.out HE.out).mono ?_
    rintro e w6 ⟨rfl, hv⟩
    replace h0 := h0.at_size (Nat.le_refl _) hv
    replace h1 := h1.at_size (Nat.le_refl _) hv
    replace tw0 := tw0.keep hv
    replace tw1 := tw1.keep hv
    replace hb := hb.trans (hv.mono hb.size)
    clear hv
    clear h2 z0 z1
    cases G
    all_goals (
      go_wp2_with fail
      refine (left_any _ _ A0 g n0 c0 l0 _ tw0 h0).mono ?_
      rintro e w7 ⟨rfl, hv⟩
      replace h1 := h1.at_size (Nat.le_refl _) hv
      replace tw1 := tw1.keep hv
      replace hb := hb.trans (hv.mono hb.size)
      clear hv
      clear h0 tw0
      go_wp2_with fail
      refine (left_any _ _ A1 g' n1 c1 l1 _ tw1 h1).mono ?_
      rintro e w8 ⟨rfl, hv⟩
      replace hb := hb.trans (hv.mono hb.size)
      clear hv h1 tw1
      go_wp2_with fail
      go_ret
      exact ⟨rfl, hb⟩)

set_option maxRecDepth 100000 in
theorem lifted (os : Os) (started : os.Started) (H : Type) (enc : TypeId × Value → H) :
    ReturnsInHanded {} Try.checked os 3 .any (Rows.groundsOfSpec.pre6 enc Try.prog Try.f3 Rows.groundsOfRow.domain false) (Rows.groundsOfSpec.post enc Try.prog Try.f3 false true false false) := by
  refine returnsInHanded_of_change (C := Try.checked) own started (by kernel_rfl) Try.func3
    (ChangeSpec.witness6 (enc := enc) (C := Try.checked) false ⟨#[], #[.slice none 0 0, .slice none 0 0, .agg #[.slice none 0 0, .int .i64 0]], []⟩ 8 (by kernel_rfl) (by kernel_rfl) (by kernel_rfl) (by kernel_rfl)) ?_
  intro W base args ds gs before hval0 hW hcnd _
  have hval : ∀ (j : Nat) t v, Try.f3.params[j]? = some t → args[j]? = some v → Value.okWide Try.prog W .any base t v := hval0
  have hW' := hW
  obtain ⟨p, q, hA0, hV, rfl, hfz, hnd⟩ := hW
  have hA : DataW.TrodAll enc Try.prog W 0 (fun _ => true) true Try.f3.params.toList args.toList ds p := hA0
  rw [Try.params3] at hA hval
  obtain ⟨v0, vs0, d0, ds0, p0, q0, hargs, rfl, rfl, h0, r0⟩ := trodAll_cons hA
  obtain ⟨v1, vs1, d1, ds1, p1, q1, rfl, rfl, rfl, h1, r1⟩ := trodAll_cons r0
  obtain ⟨v2, vs2, d2, ds2, p2, q2, rfl, rfl, rfl, h2, r2⟩ := trodAll_cons r1
  obtain ⟨rfl, rfl, rfl⟩ := trodAll_nil r2
  obtain rfl : args = #[v0, v1, v2] := by cases args; simp_all
  obtain ⟨rfl, rfl⟩ := trodVars_none hV
  obtain ⟨a0, len0, cap0, rfl⟩ := okWide_slice Try.underlying22 (hval 0 22 v0 rfl rfl)
  have lt0 : ∀ x ∈ p0, x.block < W.heap.size := by obtain ⟨m, hm⟩ := h0; exact DataW.trod_lt m _ _ _ hm
  obtain ⟨l0, hr0, hf0, ht0⟩ := opened_nodes h0
  obtain ⟨a1, len1, cap1, rfl⟩ := okWide_slice Try.underlying22 (hval 1 22 v1 rfl rfl)
  have lt1 : ∀ x ∈ p1, x.block < W.heap.size := by obtain ⟨m, hm⟩ := h1; exact DataW.trod_lt m _ _ _ hm
  obtain ⟨l1, hr1, hf1, ht1⟩ := opened_nodes h1
  have lt2 : ∀ x ∈ p2, x.block < W.heap.size := by obtain ⟨m, hm⟩ := h2; exact DataW.trod_lt m _ _ _ hm
  obtain ⟨a2, len2, cap2, k2, l2, rfl, hr2, hf2⟩ := opened_sorts h2
  clear hA0 hval0
  refine (walk a0 len0 cap0 l0 a1 len1 cap1 l1 a2 len2 cap2 k2 l2 W hr0 hf0 ht0 hr1 hf1 ht1 hr2 hf2).mono fun e W' ⟨he, bel⟩ => ?_
  subst he
  exact ⟨_, rfl, _, _, _, [], _, [], hW', trodAll_mk1 (shut_bool Try.underlying4 _), (trodAll_cons_mk (Below.trod laidOut (by kernel_rfl) (of_decide_eq_true (by kernel_rfl)) h0 bel lt0) (trodAll_cons_mk (Below.trod laidOut (by kernel_rfl) (of_decide_eq_true (by kernel_rfl)) h1 bel lt1) (trodAll_cons_mk (Below.trod laidOut (by kernel_rfl) (of_decide_eq_true (by kernel_rfl)) h2 bel lt2) trodAll_mk0))), rfl, bel.frame _, fun h => by cases h⟩

theorem over : Rows.groundsOfRow.holds Try.pinned (OpenSpec.ofChange Rows.groundsOfSpec) :=
  OpenClaim.holds_of_wide 3 Try.f3 rfl rfl rfl rfl rfl rfl rfl ⟨rfl, rfl, rfl, rfl, rfl⟩ rfl rfl rfl rfl rfl (by kernel_rfl) Try.func3 (by kernel_rfl)
    (of_decide_eq_true (by kernel_rfl)) (by unfold Func.isWrapper; first | (rw [if_pos (by decide +kernel)]; kernel_rfl) | (rw [if_neg (by decide +kernel)]; exact ⟨rfl, rfl⟩))
    (fun os started H enc _ => lifted os started H enc)

theorem proved : Rows.GroundsOfSaid := over
#print axioms proved

end Go.Proofs.Ytlcbcggcmmlfdaa.groundsOf
