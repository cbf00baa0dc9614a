/- Proved: whatever the nodes and the terms, SpotsRefuse answers true: terms are put just if the body may be and there are as many as spots, of labels and of effects; the arguments stay as they were. No condition. -/
import Derived.Test.YtabfbelbcdbkaaaLaw
import Derived.Test.YtabfbelbcdbkaaaOpenNd
import Derived.Test.YtabfbelbcdbkaaaRows
namespace Go.Proofs.Ytabfbelbcdbkaaa.spotsRefuse
open Go.ChangeShapes Go.WideShapes Go.ChangeAt Go.RowKit

theorem own : ownKnob Try.prog.godebug = none := by kernel_rfl
theorem laidOut : laidOutB Try.prog = true := by kernel_rfl


set_option maxRecDepth 100000 in
set_option maxHeartbeats 4000000 in
theorem walk (A : Option Addr) (n c : Nat) (l : List Nd) (A1 : Option Addr) (n1 c1 : Nat) (ts : List Tm) (A2 : Option Addr) (n2 c2 : Nat) (us : List Tm) (w : World) (h : Ns w w.heap.size A n c l) (hf : ∀ x ∈ l, x.Fits) (h1 : Rs tmc 2 w w.heap.size A1 n1 c1 ts) (h2 : Rs tmc 2 w w.heap.size A2 n2 c2 us) :
    Calls Try.prog 6 #[.slice A n c, .slice A1 n1 c1, .slice A2 n2 c2] w fun e w' => e = .returned (.bool true) ∧ Below w.heap.size w w' := by
  by_cases a0 : 300 < n
  · have a0' : (300 : Int) < (n : Int) := by omega
    clear h hf h1 h2
    go_enter Try.func6, Try.ntmps6
    go_wp2_with fail
    refine (alive_any _).mono ?_
    rintro e w1 ⟨rfl, hb⟩
    go_wp2_with fail
    go_ret
    exact ⟨rfl, hb⟩
  have a0' : ¬ (300 : Int) < (n : Int) := by omega
  by_cases a1 : 600 < n1
  · have a1' : (600 : Int) < (n1 : Int) := by omega
    clear h hf h1 h2
    go_enter Try.func6, Try.ntmps6
    go_wp2_with fail
    refine (alive_any _).mono ?_
    rintro e w1 ⟨rfl, hb⟩
    go_wp2_with fail
    go_ret
    exact ⟨rfl, hb⟩
  have a1' : ¬ (600 : Int) < (n1 : Int) := by omega
  by_cases a2 : 600 < n2
  · have a2' : (600 : Int) < (n2 : Int) := by omega
    clear h hf h1 h2
    go_enter Try.func6, Try.ntmps6
    go_wp2_with fail
    refine (alive_any _).mono ?_
    rintro e w1 ⟨rfl, hb⟩
    go_wp2_with fail
    go_ret
    exact ⟨rfl, hb⟩
  have a2' : ¬ (600 : Int) < (n2 : Int) := by omega
  have HL1 := Lib.hid h1.len
  have HL2 := Lib.hid h2.len
  have HF := Lib.hid hf
  obtain ⟨kl, hkl⟩ : ∃ x, (labB l).length = x := ⟨_, rfl⟩
  obtain ⟨ke, hke⟩ : ∃ x, (effB l).length = x := ⟨_, rfl⟩
  have HKL := Lib.hid hkl
  have HKE := Lib.hid hke
  clear hkl hke
  obtain ⟨r, hr⟩ : ∃ x, checkB l = x := ⟨_, rfl⟩
  have HC := Lib.hid hr
  have HO : Hid (∀ W, Ns W W.heap.size A n c l → Calls Try.prog 9 #[.slice A n c] W fun e w' => ∃ A1 c1 A2 c2, e = .returned (.tuple #[.slice A1 kl c1, .slice A2 ke c2]) ∧ Below W.heap.size W w') := by
    refine Lib.hid fun W hW => (of_lit A n c l _ _ W hW HF.out rfl rfl).mono ?_
    rintro e w1 ⟨Av, nv, cv, Au, nu, cu, rfl, ov, ou, -, hb⟩
    have e1 := rs_own_len spc_len (by decide) ov
    have e2 := rs_own_len spc_len (by decide) ou
    rw [HKL.out] at e1
    rw [HKE.out] at e2
    subst e1
    subst e2
    exact ⟨Av, cv, Au, cu, rfl, hb⟩
  have HP : Hid (∀ (W : World) (r : Nat) (m : List Nd), Ns W W.heap.size A n c l → Rs tmc 2 W W.heap.size A1 n1 c1 ts → Rs tmc 2 W W.heap.size A2 n2 c2 us → putR l ts us = r → putV l ts us = m →
      Calls Try.prog 10 #[.slice A n c, .slice A1 n1 c1, .slice A2 n2 c2] W fun e w' => ∃ A' k c', e = .returned (.tuple #[.slice A' k c', .int .i64 (r : Int)]) ∧ Ns w' w'.heap.size A' k c' m ∧ Below W.heap.size W w') := by
    refine Lib.hid fun W r m g1 g2 g3 e1 e2 => ?_
    have := put_any A A1 A2 n c n1 c1 n2 c2 l ts us W g1 HF.out g2 g3
    rw [e1, e2] at this
    refine this.mono ?_
    rintro e w' ⟨A', k, c', rfl, ho, hb⟩
    exact ⟨A', k, c', rfl, Rs.of_own ndc_len (by decide) ho, hb⟩
  clear hf
  by_cases hc : r = 0
  case neg =>
    have hne : ((r : Int) != 0) = true := by simp; omega
    have HQ : Hid (putR l ts us = 4 ∧ putV l ts us = []) := Lib.hid (by
      have h4 : putR l ts us = 4 := by unfold putR; rw [if_pos (by rw [hr]; exact hc)]
      exact ⟨h4, by unfold putV; rw [h4, if_neg (by decide)]⟩)
    clear hr hc
    go_enter Try.func6, Try.ntmps6
    go_wp2_with fail
    refine (HO.out _ h).mono ?_
    rintro e w1 ⟨Av, cv, Au, cu, rfl, hb⟩
    replace h := h.at_size (Nat.le_refl _) hb
    replace h1 := h1.at_size (Nat.le_refl _) hb
    replace h2 := h2.at_size (Nat.le_refl _) hb
    go_wp2_with fail
    refine (HP.out _ 4 [] h h1 h2 HQ.out.1 HQ.out.2).mono ?_
    rintro e w2 ⟨A', k, c', rfl, hm, hb2⟩
    obtain rfl : k = 0 := hm.len.symm
    replace h := h.at_size (Nat.le_refl _) hb2
    replace hb := hb.trans (hb2.mono hb.size)
    clear hb2 h1 h2
    go_wp2_with fail
    refine (check_lit _ _ _ _ r _ h HF.out HC.out).mono ?_
    rintro e w3 ⟨rfl, hb3⟩
    replace hb := hb.trans (hb3.mono hb.size)
    clear hb3 h hm
    go_wp2_with fail
    refine (alive_any _).mono ?_
    rintro e w4 ⟨rfl, hb4⟩
    replace hb := hb.trans (hb4.mono hb.size)
    clear hb4
    go_wp2_with fail
    go_ret
    exact ⟨rfl, hb⟩
  subst hc
  have HPR : Hid (putR l ts us = if n1 = kl ∧ n2 = ke then 0 else 1) := Lib.hid (by unfold putR; rw [if_neg (by rw [hr]; simp), HL1.out, HL2.out, HKL.out, HKE.out])
  clear hr
  by_cases g1 : n1 = kl
  case neg =>
    have e1 : ((n1 : Int) == (kl : Int)) = false := by simp; omega
    have HQ : Hid (putR l ts us = 1 ∧ putV l ts us = []) := Lib.hid (by
      have h4 : putR l ts us = 1 := by rw [HPR.out, if_neg (by omega)]
      exact ⟨h4, by unfold putV; rw [h4, if_neg (by decide)]⟩)
    clear HPR
    go_enter Try.func6, Try.ntmps6
    go_wp2_with fail
    refine (HO.out _ h).mono ?_
    rintro e w1 ⟨Av, cv, Au, cu, rfl, hb⟩
    replace h := h.at_size (Nat.le_refl _) hb
    replace h1 := h1.at_size (Nat.le_refl _) hb
    replace h2 := h2.at_size (Nat.le_refl _) hb
    go_wp2_with fail
    refine (HP.out _ 1 [] h h1 h2 HQ.out.1 HQ.out.2).mono ?_
    rintro e w2 ⟨A', k, c', rfl, hm, hb2⟩
    obtain rfl : k = 0 := hm.len.symm
    replace h := h.at_size (Nat.le_refl _) hb2
    replace hb := hb.trans (hb2.mono hb.size)
    clear hb2 h1 h2
    go_wp2_with fail
    refine (check_lit _ _ _ _ 0 _ h HF.out HC.out).mono ?_
    rintro e w3 ⟨rfl, hb3⟩
    replace hb := hb.trans (hb3.mono hb.size)
    clear hb3 h hm
    go_wp2_with fail
    refine (alive_any _).mono ?_
    rintro e w4 ⟨rfl, hb4⟩
    replace hb := hb.trans (hb4.mono hb.size)
    clear hb4
    go_wp2_with fail
    go_ret
    exact ⟨rfl, hb⟩
  subst g1
  have e1 : ((n1 : Int) == (n1 : Int)) = true := by simp
  by_cases g2 : n2 = ke
  case neg =>
    have e2 : ((n2 : Int) == (ke : Int)) = false := by simp; omega
    have HQ : Hid (putR l ts us = 1 ∧ putV l ts us = []) := Lib.hid (by
      have h4 : putR l ts us = 1 := by rw [HPR.out, if_neg (by omega)]
      exact ⟨h4, by unfold putV; rw [h4, if_neg (by decide)]⟩)
    clear HPR
    go_enter Try.func6, Try.ntmps6
    go_wp2_with fail
    refine (HO.out _ h).mono ?_
    rintro e w1 ⟨Av, cv, Au, cu, rfl, hb⟩
    replace h := h.at_size (Nat.le_refl _) hb
    replace h1 := h1.at_size (Nat.le_refl _) hb
    replace h2 := h2.at_size (Nat.le_refl _) hb
    go_wp2_with fail
    refine (HP.out _ 1 [] h h1 h2 HQ.out.1 HQ.out.2).mono ?_
    rintro e w2 ⟨A', k, c', rfl, hm, hb2⟩
    obtain rfl : k = 0 := hm.len.symm
    replace h := h.at_size (Nat.le_refl _) hb2
    replace hb := hb.trans (hb2.mono hb.size)
    clear hb2 h1 h2
    go_wp2_with fail
    refine (check_lit _ _ _ _ 0 _ h HF.out HC.out).mono ?_
    rintro e w3 ⟨rfl, hb3⟩
    replace hb := hb.trans (hb3.mono hb.size)
    clear hb3 h hm
    go_wp2_with fail
    refine (alive_any _).mono ?_
    rintro e w4 ⟨rfl, hb4⟩
    replace hb := hb.trans (hb4.mono hb.size)
    clear hb4
    go_wp2_with fail
    go_ret
    exact ⟨rfl, hb⟩
  subst g2
  have e2 : ((n2 : Int) == (n2 : Int)) = true := by simp
  have HQ : Hid (putR l ts us = 0 ∧ putV l ts us = putB l ts us) := Lib.hid (by
    have h4 : putR l ts us = 0 := by rw [HPR.out, if_pos ⟨rfl, rfl⟩]
    exact ⟨h4, by unfold putV; rw [h4, if_pos rfl]⟩)
  have HCB := Lib.hid (show checkB (putB l ts us) = 0 by rw [putB_check, HC.out])
  have HFB := Lib.hid (fits_putB ts us HF.out)
  clear HPR
  go_enter Try.func6, Try.ntmps6
  go_wp2_with fail
  refine (HO.out _ h).mono ?_
  rintro e w1 ⟨Av, cv, Au, cu, rfl, hb⟩
  replace h := h.at_size (Nat.le_refl _) hb
  replace h1 := h1.at_size (Nat.le_refl _) hb
  replace h2 := h2.at_size (Nat.le_refl _) hb
  go_wp2_with fail
  refine (HP.out _ 0 _ h h1 h2 HQ.out.1 HQ.out.2).mono ?_
  rintro e w2 ⟨A', k, c', rfl, hm, hb2⟩
  replace h := h.at_size (Nat.le_refl _) hb2
  replace hb := hb.trans (hb2.mono hb.size)
  clear hb2 h1 h2
  go_wp2_with fail
  refine (check_lit _ _ _ _ 0 _ h HF.out HC.out).mono ?_
  rintro e w3 ⟨rfl, hb3⟩
  replace hb := hb.trans (hb3.mono hb.size)
  replace hm := hm.at_size (Nat.le_refl _) hb3
  clear hb3 h
  go_wp2_with fail
  refine (alive_any _).mono ?_
  rintro e w4 ⟨rfl, hb4⟩
  replace hb := hb.trans (hb4.mono hb.size)
  replace hm := hm.at_size (Nat.le_refl _) hb4
  clear hb4
  go_wp2_with fail
  refine (check_lit _ _ _ _ 0 _ hm HFB.out HCB.out).mono ?_
  rintro e w5 ⟨rfl, hb5⟩
  replace hb := hb.trans (hb5.mono hb.size)
  clear hb5
  go_wp2_with fail
  go_ret
  exact ⟨rfl, hb⟩

set_option maxRecDepth 100000 in
theorem lifted (os : Os) (started : os.Started) (H : Type) (enc : TypeId × Value → H) :
    ReturnsInHanded {} Try.checked os 6 .any (Rows.spotsRefuseSpec.pre6 enc Try.prog Try.f6 Rows.spotsRefuseRow.domain false) (Rows.spotsRefuseSpec.post enc Try.prog Try.f6 false true false false) := by
  refine returnsInHanded_of_change (C := Try.checked) own started (by kernel_rfl) Try.func6
    (ChangeSpec.witness6 (enc := enc) (C := Try.checked) false ⟨#[], #[.slice none 0 0, .slice none 0 0, .slice none 0 0], []⟩ 8 (by kernel_rfl) (by kernel_rfl) (by kernel_rfl) (by kernel_rfl)) ?_
  intro W base args ds gs before hval0 hW hcnd _
  have hval : ∀ (j : Nat) t v, Try.f6.params[j]? = some t → args[j]? = some v → Value.okWide Try.prog W .any base t v := hval0
  have hW' := hW
  obtain ⟨p, q, hA0, hV, rfl, hfz, hnd⟩ := hW
  have hA : DataW.TrodAll enc Try.prog W 0 (fun _ => true) true Try.f6.params.toList args.toList ds p := hA0
  rw [Try.params6] at hA hval
  obtain ⟨v0, vs0, d0, ds0, p0, q0, hargs, rfl, rfl, h0, r0⟩ := trodAll_cons hA
  obtain ⟨v1, vs1, d1, ds1, p1, q1, rfl, rfl, rfl, h1, r1⟩ := trodAll_cons r0
  obtain ⟨v2, vs2, d2, ds2, p2, q2, rfl, rfl, rfl, h2, r2⟩ := trodAll_cons r1
  obtain ⟨rfl, rfl, rfl⟩ := trodAll_nil r2
  obtain rfl : args = #[v0, v1, v2] := by cases args; simp_all
  obtain ⟨rfl, rfl⟩ := trodVars_none hV
  obtain ⟨a0, len0, cap0, rfl⟩ := okWide_slice Try.underlying22 (hval 0 22 v0 rfl rfl)
  have lt0 : ∀ x ∈ p0, x.block < W.heap.size := by obtain ⟨m, hm⟩ := h0; exact DataW.trod_lt m _ _ _ hm
  obtain ⟨l0, hr0, hf0⟩ := opened_nodes h0
  obtain ⟨a1, len1, cap1, rfl⟩ := okWide_slice Try.underlying23 (hval 1 23 v1 rfl rfl)
  have lt1 : ∀ x ∈ p1, x.block < W.heap.size := by obtain ⟨m, hm⟩ := h1; exact DataW.trod_lt m _ _ _ hm
  obtain ⟨l1, hr1⟩ := opened_terms h1
  obtain ⟨a2, len2, cap2, rfl⟩ := okWide_slice Try.underlying23 (hval 2 23 v2 rfl rfl)
  have lt2 : ∀ x ∈ p2, x.block < W.heap.size := by obtain ⟨m, hm⟩ := h2; exact DataW.trod_lt m _ _ _ hm
  obtain ⟨l2, hr2⟩ := opened_terms h2
  clear hA0 hval0
  refine (walk a0 len0 cap0 l0 a1 len1 cap1 l1 a2 len2 cap2 l2 W hr0 hf0 hr1 hr2).mono fun e W' ⟨he, bel⟩ => ?_
  subst he
  exact ⟨_, rfl, _, _, _, [], _, [], hW', trodAll_mk1 (shut_bool Try.underlying4 _), (trodAll_cons_mk (Below.trod laidOut (by kernel_rfl) (of_decide_eq_true (by kernel_rfl)) h0 bel lt0) (trodAll_cons_mk (Below.trod laidOut (by kernel_rfl) (of_decide_eq_true (by kernel_rfl)) h1 bel lt1) (trodAll_cons_mk (Below.trod laidOut (by kernel_rfl) (of_decide_eq_true (by kernel_rfl)) h2 bel lt2) trodAll_mk0))), rfl, bel.frame _, fun h => by cases h⟩

theorem over : Rows.spotsRefuseRow.holds Try.pinned (OpenSpec.ofChange Rows.spotsRefuseSpec) :=
  OpenClaim.holds_of_wide 6 Try.f6 rfl rfl rfl rfl rfl rfl rfl ⟨rfl, rfl, rfl, rfl, rfl⟩ rfl rfl rfl rfl rfl (by kernel_rfl) Try.func6 (by kernel_rfl)
    (of_decide_eq_true (by kernel_rfl)) (by unfold Func.isWrapper; first | (rw [if_pos (by decide +kernel)]; kernel_rfl) | (rw [if_neg (by decide +kernel)]; exact ⟨rfl, rfl⟩))
    (fun os started H enc _ => lifted os started H enc)

theorem proved : Rows.SpotsRefuseSaid := over
#print axioms proved

end Go.Proofs.Ytabfbelbcdbkaaa.spotsRefuse
