/- Proved: whatever the nodes, SpotsMany answers true: there is a label's spot of each node, a function has two of labels, and one of effects, beside it, no other node one of effects; they stand in the order of nodes; the argument stays as it was. No condition. -/
import Derived.Test.YtabfbelbcdbkaaaSpMany
import Derived.Test.YtabfbelbcdbkaaaLaw2
import Derived.Test.YtabfbelbcdbkaaaOpenNd
import Derived.Test.YtabfbelbcdbkaaaRows
namespace Go.Proofs.Ytabfbelbcdbkaaa.spotsMany
open Go.ChangeShapes Go.WideShapes Go.ChangeAt Go.RowKit

theorem own : ownKnob Try.prog.godebug = none := by kernel_rfl
theorem laidOut : laidOutB Try.prog = true := by kernel_rfl


theorem k_l0 : labB [] = [] := by
  have : (labB []).length = 0 := by decide +kernel
  exact List.eq_nil_of_length_eq_zero this
theorem k_e0 : effB [] = [] := by
  have : (effB []).length = 0 := by decide +kernel
  exact List.eq_nil_of_length_eq_zero this

/-- i nodes are looked at. -/
def MaRel (l : List Nd) (w : World) (v7 v8 v9 : Value) (wr : World) : Prop :=
  ∃ i a e q : Nat, v7 = .int .i64 (a : Int) ∧ v8 = .int .i64 (e : Int) ∧ v9 = .int .i64 (i : Int) ∧ i ≤ l.length ∧ Many l i a e ∧ wr = w.drewN q

set_option maxRecDepth 100000 in
set_option maxHeartbeats 4000000 in
theorem walk (A : Option Addr) (n c : Nat) (l : List Nd) (w : World) (h : Ns w w.heap.size A n c l) (hf : ∀ x ∈ l, x.Fits) :
    Calls Try.prog 4 #[.slice A n c] w fun e w' => e = .returned (.bool true) ∧ Below w.heap.size w w' := by
  have HL := Lib.hid h.len
  have HF := Lib.hid hf
  clear hf
  have hb := Below.refl w.heap.size w
  by_cases a0 : 300 < n
  · have a0' : (300 : Int) < (n : Int) := by omega
    clear h
    go_enter Try.func4, Try.ntmps4
    go_wp2_with fail
    refine (of_len none 0 0 [] [] [] 0 0 _ (Rs.nil _ _) (by simp) k_l0 k_e0 rfl rfl).mono ?_
    rintro e w2 ⟨Av, cv, Au, cu, rfl, hT⟩
    replace hb := hb.trans (hT.bel.mono hb.size)
    clear hT
    go_wp2_with fail
    refine (alive_any _).mono ?_
    rintro e wz ⟨rfl, hbz⟩
    replace hb := hb.trans (hbz.mono hb.size)
    clear hbz
    go_wp2_with fail
    go_ret
    exact ⟨rfl, hb⟩
  have a0' : ¬ (300 : Int) < (n : Int) := by omega
  obtain ⟨r, hr⟩ : ∃ x, checkB l = x := ⟨_, rfl⟩
  have HC := Lib.hid hr
  by_cases hc : r = 0
  case neg =>
    have hne : ((r : Int) != 0) = true := by simp; omega
    clear hr hc hb
    go_enter Try.func4, Try.ntmps4
    go_wp2_with fail
    refine (check_lit _ _ _ l r _ h HF.out HC.out).mono ?_
    rintro e w1 ⟨rfl, hb⟩
    replace h := h.at_size (Nat.le_refl _) hb
    go_wp2_with fail
    refine (of_len none 0 0 [] [] [] 0 0 _ (Rs.nil _ _) (by simp) k_l0 k_e0 rfl rfl).mono ?_
    rintro e w2 ⟨Av, cv, Au, cu, rfl, hT⟩
    replace hb := hb.trans (hT.bel.mono hb.size)
    clear hT
    go_wp2_with fail
    refine (alive_any _).mono ?_
    rintro e wz ⟨rfl, hbz⟩
    replace hb := hb.trans (hbz.mono hb.size)
    clear hbz
    go_wp2_with fail
    go_ret
    exact ⟨rfl, hb⟩
  subst hc
  obtain ⟨ls, hls⟩ : ∃ x, labB l = x := ⟨_, rfl⟩
  obtain ⟨es, hes⟩ : ∃ x, effB l = x := ⟨_, rfl⟩
  have HLS := Lib.hid hls
  have HES := Lib.hid hes
  obtain ⟨kl, hkl⟩ : ∃ x, ls.length = x := ⟨_, rfl⟩
  obtain ⟨ke, hke⟩ : ∃ x, es.length = x := ⟨_, rfl⟩
  have HKL := Lib.hid hkl
  have HKE := Lib.hid hke
  have hk256 : kl ≤ 256 := by have := labB_len l; rw [hls, hkl] at this; exact this
  have he256 : ke ≤ 128 := by have := effB_len l; rw [hes, hke] at this; exact this
  clear hls hes hkl hke hr hb
  go_enter Try.func4, Try.ntmps4
  go_wp2_with fail
  refine (check_lit _ _ _ l 0 _ h HF.out HC.out).mono ?_
  rintro e w1 ⟨rfl, hb⟩
  replace h := h.at_size (Nat.le_refl _) hb
  go_wp2_with fail
  refine (of_len A n c l ls es kl ke _ h HF.out HLS.out HES.out HKL.out HKE.out).mono ?_
  rintro e w3 ⟨Av, cv, Au, cu, rfl, hT⟩
  have R0 := Lib.hid (h.at_size (Nat.le_refl _) hT.bel)
  have R1 := Lib.hid hT.r1
  have R2 := Lib.hid hT.r2
  have HB := Lib.hid (hb.trans (hT.bel.mono hb.size))
  clear hT h hb
  go_wp2
  go_loopw [7, 8, 9] (fun v7 v8 v9 wr => MaRel l w3 v7 v8 v9 wr) (fun _ _ v9 _ => n - (intOf v9).toNat)
  case atStart => exact ⟨0, 0, 0, 0, rfl, rfl, rfl, Nat.zero_le _, many0 l, rfl⟩
  case round =>
    obtain ⟨i, a, e, q, rfl, rfl, rfl, hi, hm, rfl⟩ := hrel
    by_cases hlt : i < n
    · have hi' : i < l.length := by rw [HL.out]; exact hlt
      obtain ⟨b, o, rfl, -, c0, c1, c2, c3, c4, c5, c6, c7, c8, c9⟩ := R0.out.node hi'
      by_cases h5 : l[i].k = 5
      case neg =>
        obtain ⟨s, hs2, ⟨j1, f1⟩, hm'⟩ := many_one HC.out hm hi' h5
        have R1' := R1.out
        rw [← HLS.out] at R1'
        obtain ⟨b1, o1, rfl, -, s0, s1, s2, s3, s4⟩ := spot_at R1' j1
        rw [f1] at s0 s1 s2 s3 s4
        simp only at s0 s1 s2 s3 s4
        replace s1 : w3.cell? ⟨b1, o1 + a * 5 + 1, none⟩ = some (.int .u8 0) := s1
        rw [HLS.out, HKL.out] at j1
        have h5' : (l[i].k != 5) = true := by simp [h5]
        have HM := Lib.hid hm'
        have hd1 : decide ((kl : Int) ≤ (a : Int)) = false := by simp; omega
        have hd1' : decide (kl ≤ a) = false := by simp; omega
        clear hm hm' f1 R1' h5
        generalize l[i] = x at *
        obtain ⟨xk, xm, xs, xn, xlv, xln, xpv, xpn, xev, xen⟩ := x
        simp only at c0 c1 c2 c3 c4 c5 c6 c7 c8 c9 s3 s4 h5'
        go_wp2
        go_big_quiet (fail)
        go_wp2
        go_roundw
        case rel => exact ⟨i + 1, a + 1, e, _, by go_num, rfl, by go_num, hi', HM.out, rfl⟩
        case measure => simp [intOf]; omega
      case pos =>
        obtain ⟨s, hs2, ⟨j1, f1⟩, ⟨j2, f2⟩, ⟨j3, f3⟩, hm'⟩ := many_two HC.out hm hi' h5
        have R1' := R1.out
        rw [← HLS.out] at R1'
        have R2' := R2.out
        rw [← HES.out] at R2'
        obtain ⟨b1, o1, rfl, -, s0, s1, s2, s3, s4⟩ := spot_at R1' j1
        obtain ⟨b1', o1', heq, -, t0, t1, t2, t3, t4⟩ := spot_at R1' j2
        injection heq with heq
        injection heq with e1 e2
        subst e1
        subst e2
        obtain ⟨b2, o2, rfl, -, u0, u1, u2, u3, u4⟩ := spot_at R2' j3
        rw [f1] at s0 s1 s2 s3 s4
        rw [f2] at t0 t1 t2 t3 t4
        rw [f3] at u0 u1 u2 u3 u4
        simp only at s0 s1 s2 s3 s4 t0 t1 t2 t3 t4 u0 u1 u2 u3 u4
        replace s1 : w3.cell? ⟨b1, o1 + a * 5 + 1, none⟩ = some (.int .u8 0) := s1
        replace t1 : w3.cell? ⟨b1, o1 + (a + 1) * 5 + 1, none⟩ = some (.int .u8 1) := t1
        replace u1 : w3.cell? ⟨b2, o2 + e * 5 + 1, none⟩ = some (.int .u8 2) := u1
        rw [HLS.out, HKL.out] at j1 j2
        rw [HES.out, HKE.out] at j3
        have HM := Lib.hid hm'
        clear hm hm' f1 f2 f3 R1' R2'
        rw [h5] at c0
        clear h5
        generalize l[i] = x at *
        obtain ⟨xk, xm, xs, xn, xlv, xln, xpv, xpn, xev, xen⟩ := x
        simp only at c0 c1 c2 c3 c4 c5 c6 c7 c8 c9 s3 s4 t3 t4 u3 u4
        obtain ⟨a1, ha1⟩ : ∃ a1, a + 1 = a1 := ⟨_, rfl⟩
        rw [ha1] at t0 t1 t2 t3 t4 j2
        obtain ⟨a2, ha2⟩ : ∃ a2, a + 2 = a2 := ⟨_, rfl⟩
        rw [ha2] at HM
        have hw1 : (a : Int) + 1 = (a1 : Int) := by omega
        have hw2 : (a1 : Int) + 1 = (a2 : Int) := by omega
        have hw3 : IntKind.i64.wrap ((a1 : Int) - 1) = (a : Int) := by rw [IntKind.wrap_i64]; omega
        have hw4 : IntKind.i64.wrap ((a2 : Int) - 2) = (a : Int) := by rw [IntKind.wrap_i64]; omega
        have HW1 := Lib.hid hw1
        have HW2 := Lib.hid hw2
        clear ha1 ha2 hw1 hw2
        have h3 : s = 0 ∨ s = 1 ∨ s = 2 := by omega
        clear hs2
        have hd1 : decide ((kl : Int) ≤ (a : Int)) = false := by simp; omega
        have hd1' : decide (kl ≤ a) = false := by simp; omega
        have hd2 : decide ((kl : Int) ≤ (a1 : Int)) = false := by simp; omega
        have hd2' : decide (kl ≤ a1) = false := by simp; omega
        have hd3 : decide ((ke : Int) ≤ (e : Int)) = false := by simp; omega
        have hd3' : decide (ke ≤ e) = false := by simp; omega
        rcases h3 with rfl | rfl | rfl
        · replace s2 : w3.cell? ⟨b1, o1 + a * 5 + 2, none⟩ = some (.int .u8 0) := s2
          replace t2 : w3.cell? ⟨b1, o1 + a1 * 5 + 2, none⟩ = some (.int .u8 1) := t2
          replace u2 : w3.cell? ⟨b2, o2 + e * 5 + 2, none⟩ = some (.int .u8 0) := u2
          go_wp2
          go_big_quiet (fail)
          go_wp2
          rw [HW1.out]
          go_big_quiet (fail)
          go_wp2
          rw [HW2.out]
          go_big_quiet (fail)
          go_wp2
          go_roundw
          case rel => exact ⟨i + 1, a2, e + 1, _, rfl, by go_num, by go_num, hi', HM.out, rfl⟩
          case measure => simp [intOf]; omega
        · replace s2 : w3.cell? ⟨b1, o1 + a * 5 + 2, none⟩ = some (.int .u8 1) := s2
          replace t2 : w3.cell? ⟨b1, o1 + a1 * 5 + 2, none⟩ = some (.int .u8 0) := t2
          replace u2 : w3.cell? ⟨b2, o2 + e * 5 + 2, none⟩ = some (.int .u8 1) := u2
          go_wp2
          go_big_quiet (fail)
          go_wp2
          rw [HW1.out]
          go_big_quiet (fail)
          go_wp2
          rw [HW2.out]
          go_big_quiet (fail)
          go_wp2
          go_roundw
          case rel => exact ⟨i + 1, a2, e + 1, _, rfl, by go_num, by go_num, hi', HM.out, rfl⟩
          case measure => simp [intOf]; omega
        · replace s2 : w3.cell? ⟨b1, o1 + a * 5 + 2, none⟩ = some (.int .u8 2) := s2
          replace t2 : w3.cell? ⟨b1, o1 + a1 * 5 + 2, none⟩ = some (.int .u8 2) := t2
          replace u2 : w3.cell? ⟨b2, o2 + e * 5 + 2, none⟩ = some (.int .u8 2) := u2
          go_wp2
          go_big_quiet (fail)
          go_wp2
          rw [HW1.out]
          go_big_quiet (fail)
          go_wp2
          rw [HW2.out]
          go_big_quiet (fail)
          go_wp2
          go_roundw
          case rel => exact ⟨i + 1, a2, e + 1, _, rfl, by go_num, by go_num, hi', HM.out, rfl⟩
          case measure => simp [intOf]; omega
    · obtain rfl : i = n := by have := HL.out; omega
      have hb := HB.out.trans ((below_drewN w3 q).mono HB.out.size)
      rw [← HL.out] at hm
      obtain ⟨g1, g2⟩ := many_all HC.out hm
      rw [HLS.out, HKL.out] at g1
      rw [HES.out, HKE.out] at g2
      subst g1
      subst g2
      clear hm
      go_wp2_with fail
      refine (alive_any _).mono ?_
      rintro e wz ⟨rfl, hbz⟩
      replace hb := hb.trans (hbz.mono hb.size)
      clear hbz
      go_wp2_with fail
      go_ret
      exact ⟨rfl, hb⟩

set_option maxRecDepth 100000 in
theorem lifted (os : Os) (started : os.Started) (H : Type) (enc : TypeId × Value → H) :
    ReturnsInHanded {} Try.checked os 4 .any (Rows.spotsManySpec.pre6 enc Try.prog Try.f4 Rows.spotsManyRow.domain false) (Rows.spotsManySpec.post enc Try.prog Try.f4 false true false false) := by
  refine returnsInHanded_of_change (C := Try.checked) own started (by kernel_rfl) Try.func4
    (ChangeSpec.witness6 (enc := enc) (C := Try.checked) false ⟨#[], #[.slice none 0 0], []⟩ 8 (by kernel_rfl) (by kernel_rfl) (by kernel_rfl) (by kernel_rfl)) ?_
  intro W base args ds gs before hval0 hW hcnd _
  have hval : ∀ (j : Nat) t v, Try.f4.params[j]? = some t → args[j]? = some v → Value.okWide Try.prog W .any base t v := hval0
  have hW' := hW
  obtain ⟨p, q, hA0, hV, rfl, hfz, hnd⟩ := hW
  have hA : DataW.TrodAll enc Try.prog W 0 (fun _ => true) true Try.f4.params.toList args.toList ds p := hA0
  rw [Try.params4] at hA hval
  obtain ⟨v0, vs0, d0, ds0, p0, q0, hargs, rfl, rfl, h0, r0⟩ := trodAll_cons hA
  obtain ⟨rfl, rfl, rfl⟩ := trodAll_nil r0
  obtain rfl : args = #[v0] := by cases args; simp_all
  obtain ⟨rfl, rfl⟩ := trodVars_none hV
  obtain ⟨a0, len0, cap0, rfl⟩ := okWide_slice Try.underlying22 (hval 0 22 v0 rfl rfl)
  have lt0 : ∀ x ∈ p0, x.block < W.heap.size := by obtain ⟨m, hm⟩ := h0; exact DataW.trod_lt m _ _ _ hm
  obtain ⟨l0, hr0, hf0⟩ := opened_nodes h0
  clear hA0 hval0
  refine (walk a0 len0 cap0 l0 W hr0 hf0).mono fun e W' ⟨he, bel⟩ => ?_
  subst he
  exact ⟨_, rfl, _, _, _, [], _, [], hW', trodAll_mk1 (shut_bool Try.underlying4 _), (trodAll_cons_mk (Below.trod laidOut (by kernel_rfl) (of_decide_eq_true (by kernel_rfl)) h0 bel lt0) trodAll_mk0), rfl, bel.frame _, fun h => by cases h⟩

theorem over : Rows.spotsManyRow.holds Try.pinned (OpenSpec.ofChange Rows.spotsManySpec) :=
  OpenClaim.holds_of_wide 4 Try.f4 rfl rfl rfl rfl rfl rfl rfl ⟨rfl, rfl, rfl, rfl, rfl⟩ rfl rfl rfl rfl rfl (by kernel_rfl) Try.func4 (by kernel_rfl)
    (of_decide_eq_true (by kernel_rfl)) (by unfold Func.isWrapper; first | (rw [if_pos (by decide +kernel)]; kernel_rfl) | (rw [if_neg (by decide +kernel)]; exact ⟨rfl, rfl⟩))
    (fun os started H enc _ => lifted os started H enc)

theorem proved : Rows.SpotsManySaid := over
#print axioms proved

end Go.Proofs.Ytabfbelbcdbkaaa.spotsMany
