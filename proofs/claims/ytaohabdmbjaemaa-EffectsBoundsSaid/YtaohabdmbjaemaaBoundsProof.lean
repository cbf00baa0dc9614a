/- Proved: whatever the number and the three sets, EffectsBounds answers true: a join is below whatever is above both, and below nothing else; a meet is above whatever is below both; the arguments stay as they were. No condition. -/
import Derived.Test.YtaohabdmbjaemaaAlive
import Derived.Test.YtaohabdmbjaemaaOpen
import Derived.Test.YtaohabdmbjaemaaRows
namespace Go.Proofs.Ytaohabdmbjaemaa.effectsBounds
open Go.ChangeShapes Go.WideShapes Go.ChangeAt Go.RowKit

theorem own : ownKnob Try.prog.godebug = none := by kernel_rfl
theorem laidOut : laidOutB Try.prog = true := by kernel_rfl

theorem below_cut {a b t : Nat} (h : subB a t = true) (k : subB b t = true) : belowE true t a b = subB a b := by
  rw [belowE, bothE, h, k]
  rfl

set_option maxRecDepth 100000 in
set_option maxHeartbeats 2000000 in
theorem walk (n z0 z1 z2 : Nat) (w : World) (hn : n < 256) (h0 : z0 < 18446744073709551616) (h1 : z1 < 18446744073709551616) (h2 : z2 < 18446744073709551616) :
    Calls Try.prog 6 #[.int .u8 (n : Int), .agg #[.int .u64 (z0 : Int), .int .u64 (z1 : Int), .int .u64 (z2 : Int)]] w fun e w' => e = .returned (.bool true) ∧ Below w.heap.size w w' := by
  have hmod : (n : Int) % 65 = ((n % 65 : Nat) : Int) := by omega
  have hk : n % 65 ≤ 64 := by omega
  generalize n % 65 = k at *
  have hfit := topN_lt hk
  have hnew := Lib.hid fun W => new_yes k hk W
  generalize topN k = t at *
  have hcut0 := u64_and_nat z0 t h0 hfit
  have hcut1 := u64_and_nat z1 t h1 hfit
  have hcut2 := u64_and_nat z2 t h2 hfit
  have ha : z0 &&& t < 18446744073709551616 := and_lt h0
  have hb : z1 &&& t < 18446744073709551616 := and_lt h1
  have hc : z2 &&& t < 18446744073709551616 := and_lt h2
  have sa : subB (z0 &&& t) t = true := sub_cut _ _
  have sb : subB (z1 &&& t) t = true := sub_cut _ _
  have sc : subB (z2 &&& t) t = true := sub_cut _ _
  generalize z0 &&& t = a at *
  generalize z1 &&& t = b at *
  generalize z2 &&& t = c at *
  have f1 : belowE true t a c = subB a c := below_cut sa sc
  have f2 : belowE true t b c = subB b c := below_cut sb sc
  have f3 : belowE true t (a ||| b) c = subB (a ||| b) c := below_cut (sub_or sa sb) sc
  have f4 : belowE true t c a = subB c a := below_cut sc sa
  have f5 : belowE true t c b = subB c b := below_cut sc sb
  have f6 : belowE true t c (a &&& b) = subB c (a &&& b) := below_cut sc (sub_and sa)
  have f7 : joinE true t a b = a ||| b := by rw [joinE, bothE, sa, sb]; rfl
  have f8 : meetE true t a b = a &&& b := by rw [meetE, bothE, sa, sb]; rfl
  rw [← join_bound] at f3
  rw [← meet_bound] at f6
  have hj : a ||| b < 18446744073709551616 := or_lt ha hb
  have hm : a &&& b < 18446744073709551616 := and_lt ha
  generalize a ||| b = j at *
  generalize a &&& b = m at *
  generalize subB a c = r1 at *
  generalize subB b c = r2 at *
  generalize subB c a = s1 at *
  generalize subB c b = s2 at *
  clear sa sb sc
  have HA := Lib.hid ha
  have HB := Lib.hid hb
  have HC := Lib.hid hc
  have HJ := Lib.hid hj
  have HM := Lib.hid hm
  have F1 := Lib.hid f1
  have F2 := Lib.hid f2
  have F3 := Lib.hid f3
  have F4 := Lib.hid f4
  have F5 := Lib.hid f5
  have F6 := Lib.hid f6
  have F7 := Lib.hid f7
  have F8 := Lib.hid f8
  clear f1 f2 f3 f4 f5 f6 f7 f8 ha hb hc hj hm h0 h1 h2
  have q1 : (r2 == r2) = true := by simp
  have q2 : (s2 == s2) = true := by simp
  go_enter Try.func6, Try.ntmps6
  go_wp2_with fail
  rw [hmod]
  refine (hnew.out _).mono ?_
  rintro e w1 ⟨g, rfl, hx, b1⟩
  have hc0 : w1.cell? ⟨w.heap.size, 0, none⟩ = some (.int .u64 (z0 : Int)) := by
    rw [b1.cell (p := ⟨w.heap.size, 0, none⟩) (by simp), cell_blk (heap_alloc_new w _)]
    rfl
  have hc1 : w1.cell? ⟨w.heap.size, 1, none⟩ = some (.int .u64 (z1 : Int)) := by
    rw [b1.cell (p := ⟨w.heap.size, 1, none⟩) (by simp), cell_blk (heap_alloc_new w _)]
    rfl
  have hc2 : w1.cell? ⟨w.heap.size, 2, none⟩ = some (.int .u64 (z2 : Int)) := by
    rw [b1.cell (p := ⟨w.heap.size, 2, none⟩) (by simp), cell_blk (heap_alloc_new w _)]
    rfl
  have B := Below.next (Below.refl _ w) b1
  have PX := Lib.hid hx
  have HCALL := Lib.hid fun (W : World) (hW : W.heap = w1.heap) => (top_any (some ⟨g, 0, none⟩) true t W (hx.heap hW).p).mono (fun e w' h => (⟨h.1, h.2.symm⟩ : e = .returned (.int .u64 (t : Int)) ∧ w' = W))
  clear hx b1 hnew
  go_wp2
  go_quiet ((go_at_call 17; exact Calls.quiet_of_same (HCALL.out _ rfl)))
  replace hc1 : (w1.drewN nq).cell? ⟨w.heap.size, 1, none⟩ = some (.int .u64 (z1 : Int)) := hc1
  replace hc2 : (w1.drewN nq).cell? ⟨w.heap.size, 2, none⟩ = some (.int .u64 (z2 : Int)) := hc2
  replace B : Below w.heap.size w (w1.drewN nq) := B.trans (below_drewN _ _)
  replace PX : Hid (EffAt (w1.drewN nq) g true t) := Lib.hid (PX.out.heap rfl)
  replace HCALL : Hid (∀ W : World, W.heap = (w1.drewN nq).heap → Calls Try.prog 17 #[.pointer (some ⟨g, 0, none⟩)] W fun e w' => e = .returned (.int .u64 (t : Int)) ∧ w' = W) := HCALL
  generalize w1.drewN nq = w2 at *
  clear nq
  go_wp2
  go_quiet ((go_at_call 17; exact Calls.quiet_of_same (HCALL.out _ rfl)))
  replace hc2 : (w2.drewN nq).cell? ⟨w.heap.size, 2, none⟩ = some (.int .u64 (z2 : Int)) := hc2
  replace B : Below w.heap.size w (w2.drewN nq) := B.trans (below_drewN _ _)
  replace PX : Hid (EffAt (w2.drewN nq) g true t) := Lib.hid (PX.out.heap rfl)
  replace HCALL : Hid (∀ W : World, W.heap = (w2.drewN nq).heap → Calls Try.prog 17 #[.pointer (some ⟨g, 0, none⟩)] W fun e w' => e = .returned (.int .u64 (t : Int)) ∧ w' = W) := HCALL
  generalize w2.drewN nq = w3 at *
  clear nq
  go_wp2
  go_quiet ((go_at_call 17; exact Calls.quiet_of_same (HCALL.out _ rfl)))
  replace B : Below w.heap.size w (w3.drewN nq) := B.trans (below_drewN _ _)
  replace PX : Hid (EffAt (w3.drewN nq) g true t) := Lib.hid (PX.out.heap rfl)
  replace HCALL : Hid (∀ W : World, W.heap = (w3.drewN nq).heap → Calls Try.prog 17 #[.pointer (some ⟨g, 0, none⟩)] W fun e w' => e = .returned (.int .u64 (t : Int)) ∧ w' = W) := HCALL
  generalize w3.drewN nq = w4 at *
  clear nq
  have px := PX.out.p
  clear HCALL PX
  go_wp2_with fail
  refine (alive_any _).mono ?_
  rintro e w5 ⟨rfl, hb⟩
  replace px := px.keep hb
  replace B := Below.then B (Nat.le_refl _) hb
  clear hb
  cases r1 with
  | true =>
    replace F3 := Lib.hid (F3.out.trans (Bool.true_and r2))
    cases s1 with
    | true =>
      replace F6 := Lib.hid (F6.out.trans (Bool.true_and s2))
      go_wp2_with fail
      refine (below_is px a c HA.out HC.out _ F1.out).mono ?_
      rintro e w6 ⟨rfl, hb⟩
      replace px := px.keep hb
      replace B := Below.then B (Nat.le_refl _) hb
      clear hb
      go_wp2_with fail
      refine (below_is px b c HB.out HC.out r2 F2.out).mono ?_
      rintro e w7 ⟨rfl, hb⟩
      replace px := px.keep hb
      replace B := Below.then B (Nat.le_refl _) hb
      clear hb
      go_wp2_with fail
      refine (join_is px a b HA.out HB.out (j : Int) (by rw [F7.out])).mono ?_
      rintro e w8 ⟨rfl, hb⟩
      replace px := px.keep hb
      replace B := Below.then B (Nat.le_refl _) hb
      clear hb
      go_wp2_with fail
      refine (below_is px j c HJ.out HC.out _ F3.out).mono ?_
      rintro e w9 ⟨rfl, hb⟩
      replace px := px.keep hb
      replace B := Below.then B (Nat.le_refl _) hb
      clear hb
      go_wp2_with fail
      refine (below_is px c a HC.out HA.out _ F4.out).mono ?_
      rintro e w10 ⟨rfl, hb⟩
      replace px := px.keep hb
      replace B := Below.then B (Nat.le_refl _) hb
      clear hb
      go_wp2_with fail
      refine (below_is px c b HC.out HB.out s2 F5.out).mono ?_
      rintro e w11 ⟨rfl, hb⟩
      replace px := px.keep hb
      replace B := Below.then B (Nat.le_refl _) hb
      clear hb
      go_wp2_with fail
      refine (meet_is px a b HA.out HB.out (m : Int) (by rw [F8.out])).mono ?_
      rintro e w12 ⟨rfl, hb⟩
      replace px := px.keep hb
      replace B := Below.then B (Nat.le_refl _) hb
      clear hb
      go_wp2_with fail
      refine (below_is px c m HC.out HM.out _ F6.out).mono ?_
      rintro e w13 ⟨rfl, hb⟩
      replace px := px.keep hb
      replace B := Below.then B (Nat.le_refl _) hb
      clear hb
      go_wp2_with fail
      go_ret
      exact ⟨rfl, B⟩
    | false =>
      replace F6 := Lib.hid (F6.out.trans (Bool.false_and s2))
      go_wp2_with fail
      refine (below_is px a c HA.out HC.out _ F1.out).mono ?_
      rintro e w6 ⟨rfl, hb⟩
      replace px := px.keep hb
      replace B := Below.then B (Nat.le_refl _) hb
      clear hb
      go_wp2_with fail
      refine (below_is px b c HB.out HC.out r2 F2.out).mono ?_
      rintro e w7 ⟨rfl, hb⟩
      replace px := px.keep hb
      replace B := Below.then B (Nat.le_refl _) hb
      clear hb
      go_wp2_with fail
      refine (join_is px a b HA.out HB.out (j : Int) (by rw [F7.out])).mono ?_
      rintro e w8 ⟨rfl, hb⟩
      replace px := px.keep hb
      replace B := Below.then B (Nat.le_refl _) hb
      clear hb
      go_wp2_with fail
      refine (below_is px j c HJ.out HC.out _ F3.out).mono ?_
      rintro e w9 ⟨rfl, hb⟩
      replace px := px.keep hb
      replace B := Below.then B (Nat.le_refl _) hb
      clear hb
      go_wp2_with fail
      refine (below_is px c a HC.out HA.out _ F4.out).mono ?_
      rintro e w10 ⟨rfl, hb⟩
      replace px := px.keep hb
      replace B := Below.then B (Nat.le_refl _) hb
      clear hb
      go_wp2_with fail
      refine (meet_is px a b HA.out HB.out (m : Int) (by rw [F8.out])).mono ?_
      rintro e w11 ⟨rfl, hb⟩
      replace px := px.keep hb
      replace B := Below.then B (Nat.le_refl _) hb
      clear hb
      go_wp2_with fail
      refine (below_is px c m HC.out HM.out _ F6.out).mono ?_
      rintro e w12 ⟨rfl, hb⟩
      replace px := px.keep hb
      replace B := Below.then B (Nat.le_refl _) hb
      clear hb
      go_wp2_with fail
      go_ret
      exact ⟨rfl, B⟩
  | false =>
    replace F3 := Lib.hid (F3.out.trans (Bool.false_and r2))
    cases s1 with
    | true =>
      replace F6 := Lib.hid (F6.out.trans (Bool.true_and s2))
      go_wp2_with fail
      refine (below_is px a c HA.out HC.out _ F1.out).mono ?_
      rintro e w6 ⟨rfl, hb⟩
      replace px := px.keep hb
      replace B := Below.then B (Nat.le_refl _) hb
      clear hb
      go_wp2_with fail
      refine (join_is px a b HA.out HB.out (j : Int) (by rw [F7.out])).mono ?_
      rintro e w7 ⟨rfl, hb⟩
      replace px := px.keep hb
      replace B := Below.then B (Nat.le_refl _) hb
      clear hb
      go_wp2_with fail
      refine (below_is px j c HJ.out HC.out _ F3.out).mono ?_
      rintro e w8 ⟨rfl, hb⟩
      replace px := px.keep hb
      replace B := Below.then B (Nat.le_refl _) hb
      clear hb
      go_wp2_with fail
      refine (below_is px c a HC.out HA.out _ F4.out).mono ?_
      rintro e w9 ⟨rfl, hb⟩
      replace px := px.keep hb
      replace B := Below.then B (Nat.le_refl _) hb
      clear hb
      go_wp2_with fail
      refine (below_is px c b HC.out HB.out s2 F5.out).mono ?_
      rintro e w10 ⟨rfl, hb⟩
      replace px := px.keep hb
      replace B := Below.then B (Nat.le_refl _) hb
      clear hb
      go_wp2_with fail
      refine (meet_is px a b HA.out HB.out (m : Int) (by rw [F8.out])).mono ?_
      rintro e w11 ⟨rfl, hb⟩
      replace px := px.keep hb
      replace B := Below.then B (Nat.le_refl _) hb
      clear hb
      go_wp2_with fail
      refine (below_is px c m HC.out HM.out _ F6.out).mono ?_
      rintro e w12 ⟨rfl, hb⟩
      replace px := px.keep hb
      replace B := Below.then B (Nat.le_refl _) hb
      clear hb
      go_wp2_with fail
      go_ret
      exact ⟨rfl, B⟩
    | false =>
      replace F6 := Lib.hid (F6.out.trans (Bool.false_and s2))
      go_wp2_with fail
      refine (below_is px a c HA.out HC.out _ F1.out).mono ?_
      rintro e w6 ⟨rfl, hb⟩
      replace px := px.keep hb
      replace B := Below.then B (Nat.le_refl _) hb
      clear hb
      go_wp2_with fail
      refine (join_is px a b HA.out HB.out (j : Int) (by rw [F7.out])).mono ?_
      rintro e w7 ⟨rfl, hb⟩
      replace px := px.keep hb
      replace B := Below.then B (Nat.le_refl _) hb
      clear hb
      go_wp2_with fail
      refine (below_is px j c HJ.out HC.out _ F3.out).mono ?_
      rintro e w8 ⟨rfl, hb⟩
      replace px := px.keep hb
      replace B := Below.then B (Nat.le_refl _) hb
      clear hb
      go_wp2_with fail
      refine (below_is px c a HC.out HA.out _ F4.out).mono ?_
      rintro e w9 ⟨rfl, hb⟩
      replace px := px.keep hb
      replace B := Below.then B (Nat.le_refl _) hb
      clear hb
      go_wp2_with fail
      refine (meet_is px a b HA.out HB.out (m : Int) (by rw [F8.out])).mono ?_
      rintro e w10 ⟨rfl, hb⟩
      replace px := px.keep hb
      replace B := Below.then B (Nat.le_refl _) hb
      clear hb
      go_wp2_with fail
      refine (below_is px c m HC.out HM.out _ F6.out).mono ?_
      rintro e w11 ⟨rfl, hb⟩
      replace px := px.keep hb
      replace B := Below.then B (Nat.le_refl _) hb
      clear hb
      go_wp2_with fail
      go_ret
      exact ⟨rfl, B⟩

set_option maxRecDepth 100000 in
theorem lifted (os : Os) (started : os.Started) (H : Type) (enc : TypeId × Value → H) :
    ReturnsInHanded {} Try.checked os 6 .any (Rows.effectsBoundsSpec.pre6 enc Try.prog Try.f6 Rows.effectsBoundsRow.domain false) (Rows.effectsBoundsSpec.post enc Try.prog Try.f6 false true false false) := by
  refine returnsInHanded_of_change (C := Try.checked) own started (by kernel_rfl) Try.func6
    (ChangeSpec.witness6 (enc := enc) (C := Try.checked) false ⟨#[], #[.int .u8 0, .agg #[.int .u64 0, .int .u64 0, .int .u64 0]], []⟩ 8 (by kernel_rfl) (by kernel_rfl) (by kernel_rfl) (by kernel_rfl)) ?_
  intro W base args ds gs before hval0 hW hcnd _
  have hval : ∀ (j : Nat) t v, Try.f6.params[j]? = some t → args[j]? = some v → Value.okWide Try.prog W .any base t v := hval0
  have hW' := hW
  obtain ⟨p, q, hA0, hV, rfl, hfz, hnd⟩ := hW
  have hA : DataW.TrodAll enc Try.prog W 0 (fun _ => true) true Try.f6.params.toList args.toList ds p := hA0
  rw [Try.params6] at hA hval
  obtain ⟨v0, vs0, d0, ds0, p0, q0, hargs, rfl, rfl, h0, r0⟩ := trodAll_cons hA
  obtain ⟨v1, vs1, d1, ds1, p1, q1, rfl, rfl, rfl, h1, r1⟩ := trodAll_cons r0
  obtain ⟨rfl, rfl, rfl⟩ := trodAll_nil r1
  obtain rfl : args = #[v0, v1] := by cases args; simp_all
  obtain ⟨rfl, rfl⟩ := trodVars_none hV
  obtain ⟨x0, rfl, rfl, rfl, w0⟩ := open_int Try.underlying5 (hval 0 5 v0 rfl rfl) h0
  have lt1 : ∀ x ∈ p1, x.block < W.heap.size := by obtain ⟨m, hm⟩ := h1; exact DataW.trod_lt m _ _ _ hm
  obtain ⟨z0, z1, z2, rfl, wz0, wz1, wz2⟩ := opened_three Try.underlying41 Try.underlying22 (by kernel_rfl) (by kernel_rfl) h1
  clear hA0 hval0
  have w0' := w0
  obtain ⟨y0, rfl, hy0⟩ := u8_nat2 w0
  obtain ⟨b0, rfl, hb0⟩ := u64_nat wz0
  obtain ⟨b1, rfl, hb1⟩ := u64_nat wz1
  obtain ⟨b2, rfl, hb2⟩ := u64_nat wz2
  refine (walk y0 b0 b1 b2 W hy0 hb0 hb1 hb2).mono fun e W' ⟨he, bel⟩ => ?_
  subst he
  exact ⟨_, rfl, _, _, _, [], _, [], hW', trodAll_mk1 (shut_bool Try.underlying4 _), (trodAll_cons_mk (shut_int Try.underlying5 w0') (trodAll_cons_mk (Below.trod laidOut (by kernel_rfl) (of_decide_eq_true (by kernel_rfl)) h1 bel lt1) trodAll_mk0)), rfl, bel.frame _, fun h => by cases h⟩

theorem over : Rows.effectsBoundsRow.holds Try.pinned (OpenSpec.ofChange Rows.effectsBoundsSpec) :=
  OpenClaim.holds_of_wide 6 Try.f6 rfl rfl rfl rfl rfl rfl rfl ⟨rfl, rfl, rfl, rfl, rfl⟩ rfl rfl rfl rfl rfl (by kernel_rfl) Try.func6 (by kernel_rfl)
    (of_decide_eq_true (by kernel_rfl)) (by unfold Func.isWrapper; first | (rw [if_pos (by decide +kernel)]; kernel_rfl) | (rw [if_neg (by decide +kernel)]; exact ⟨rfl, rfl⟩))
    (fun os started H enc _ => lifted os started H enc)

theorem proved : Rows.EffectsBoundsSaid := over
#print axioms proved

end Go.Proofs.Ytaohabdmbjaemaa.effectsBounds
