/- The document's answer, whole. Condition: nodes and rows can be read. -/
import Derived.Test.YtlcbcggcmmlfdaaRefGr
import Derived.Deep.QuietTactic
import Derived.BigQuiet
namespace Go.Proofs.Ytlcbcggcmmlfdaa
open Go.RowKit

theorem so_rows {rows : List Nat} {k : Int} {x : Nat} (h : (soOf rows k).h1 x = true) : (soOf rows k).L = rows := by
  by_cases hc : La.checkN rows = 0
  · unfold soOf
    simp only [if_pos hc]
  · unfold soOf So.h1 at h
    simp only [if_neg hc] at h
    cases h
theorem so_range {rows : List Nat} {k : Int} (h : (soOf rows k).m = true) : 0 ≤ k ∧ k ≤ 64 := by
  unfold soOf at h
  exact of_decide_eq_true h

theorem refR1_any (A : Option Addr) (n c B : Nat) (rows : List Nat) (k : Int) (x y : Nat) (r : Bool) (w : World) (h : Rd La.nm w B A n c rows) (hf : La.Fit rows) (hx : x < 18446744073709551616) (hy : y < 18446744073709551616) (hL : (soOf rows k).L = rows) (hr : (soOf rows k).r1 x y = r) :
    Calls Try.prog 35 #[.slice A n c, .int .u64 (x : Int), .int .u64 (y : Int)] w fun e w' => e = .returned (.bool r) ∧ w' = w := by
  unfold So.r1 at hr
  rw [hL] at hr
  subst hr
  exact (La.refBelow_any A n c B rows x y w h hf hx hy).mono fun e w' ⟨he, hw⟩ => ⟨he, hw.symm⟩
theorem refR2_any (rows : List Nat) (k : Int) (x y : Nat) (r : Bool) (w : World) (hx : x < 18446744073709551616) (hy : y < 18446744073709551616) (hm : (soOf rows k).m = true) (hr : (soOf rows k).r2 x y = r) :
    Calls Try.prog 36 #[.int .i64 k, .int .u64 (x : Int), .int .u64 (y : Int)] w fun e w' => e = .returned (.bool r) ∧ w' = w := by
  obtain ⟨h0, h1⟩ := so_range hm
  obtain ⟨z, rfl⟩ : ∃ z : Nat, k = (z : Int) := ⟨k.toNat, by omega⟩
  have e : (soOf rows (z : Int)).r2 x y = Ef.belowE true (Ef.topN z) x y := by
    unfold soOf So.r2
    simp only [if_pos (show (0 : Int) ≤ (z : Int) ∧ (z : Int) ≤ 64 from ⟨h0, h1⟩), decide_eq_true (show (0 : Int) ≤ (z : Int) ∧ (z : Int) ≤ 64 from ⟨h0, h1⟩), Int.toNat_natCast]
  rw [e] at hr
  subst hr
  exact (Ef.refBelow_any z (by omega) w x y hx hy).mono fun e w' ⟨he, hw⟩ => ⟨he, hw.symm⟩

theorem hold_step {ls ms : List Sp} {R : Nat → Nat → Bool} {i : Nat} (h1 : i < ls.length) (h2 : i < ms.length) (h : holdB (ls.take i) (ms.take i) R = true) : holdB (ls.take (i + 1)) (ms.take (i + 1)) R = mustB ls[i].s R ls[i].z.toNat ms[i].z.toNat := by
  have e : (ls.take i).length = (ms.take i).length := by rw [List.length_take, List.length_take]; omega
  unfold holdB at *
  rw [List.take_succ_eq_append_getElem h1, List.take_succ_eq_append_getElem h2, List.zip_append e, List.all_append, h, Bool.true_and]
  show (pairB R (ls[i], ms[i]) && true) = _
  rw [Bool.and_true]
  rfl
theorem hold_no {ls ms : List Sp} {R : Nat → Nat → Bool} {i : Nat} (h1 : i < ls.length) (h2 : i < ms.length) (h : mustB ls[i].s R ls[i].z.toNat ms[i].z.toNat = false) : holdB ls ms R = false := by
  refine Bool.eq_false_iff.2 fun e => ?_
  have := holdB_iff.1 e i h1 h2
  rw [h] at this
  cases this

/-- The first i pairs hold. -/
def HdRel (R : Nat → Nat → Bool) (ls ms : List Sp) (w : World) (v14 : Value) (wr : World) : Prop := ∃ i : Nat, v14 = .int .i64 (i : Int) ∧ i ≤ ls.length ∧ holdB (ls.take i) (ms.take i) R = true ∧ Below w.heap.size w wr

theorem eff_le2 : ∀ (l : List Nd) (k : Nat) (ss : List Nat), (∀ y ∈ ss, y ≤ 2) → ∀ p ∈ eff k l ss, p.s ≤ 2
  | [], _, _, _, p, h => by simp [eff] at h
  | _ :: _, _, [], _, p, h => by simp [eff] at h
  | x :: l, k, s :: ss, hs, p, h => by
    have h0 := hs s List.mem_cons_self
    simp only [eff, List.mem_append] at h
    rcases h with h | h
    · unfold effS at h
      split at h
      · simp only [List.mem_cons, List.not_mem_nil, or_false] at h
        subst h
        exact h0
      · simp at h
    · exact eff_le2 l (k + 1) ss (fun y hy => hs y (List.mem_cons_of_mem _ hy)) p h
theorem effB_le2 (l : List Nd) : ∀ p ∈ effB l, p.s ≤ 2 := by
  unfold effB
  split
  · exact eff_le2 l 0 _ (sds_le l [0] (by simp))
  · simp


set_option maxRecDepth 100000 in
set_option maxHeartbeats 8000000 in
theorem refGround_any (A : Option Addr) (n c : Nat) (a : List Nd) (A2 : Option Addr) (n2 c2 : Nat) (b : List Nd) (A3 : Option Addr) (n3 c3 : Nat) (rows : List Nat) (k : Int) (w : World) (h1 : Ns w w.heap.size A n c a) (h2 : Ns w w.heap.size A2 n2 c2 b) (f1 : ∀ x ∈ a, x.Fits) (f2 : ∀ x ∈ b, x.Fits) (t1 : ∀ x ∈ a, x.TFits) (t2 : ∀ x ∈ b, x.TFits) (h3 : Rd La.nm w w.heap.size A3 n3 c3 rows) (f3 : La.Fit rows) (G : Bool) (E : Int) (hG : grB (soOf rows k) a b = G) (hE : (grE (soOf rows k) a b : Int) = E) :
    Calls Try.prog 12 #[.slice A n c, .slice A2 n2 c2, .slice A3 n3 c3, .int .i64 k] w fun e w' => e = .returned (.tuple #[.bool G, .int .i64 E]) ∧ Below w.heap.size w w' := by
  have HF1 := Lib.hid f1
  have HF2 := Lib.hid f2
  have HT1 := Lib.hid t1
  have HT2 := Lib.hid t2
  have HF3 := Lib.hid f3
  have hb := Below.refl w.heap.size w
  clear f1 f2 t1 t2 f3
  have hE4 : ¬ (checkB a = 0 ∧ checkB b = 0) → E = 4 ∧ G = false := fun h => by
    have e : grE (soOf rows k) a b = 4 := by unfold grE; rw [if_neg h]
    refine ⟨by rw [← hE, e]; rfl, ?_⟩
    rw [← hG]
    exact grB_zero _ (by rw [e]; decide)
  by_cases hca : checkB a = 0
  case neg =>
    obtain ⟨r, hr⟩ : ∃ r, checkB a = r := ⟨_, rfl⟩
    have HR := Lib.hid hr
    have hne : ((r : Int) != 0) = true := by simp; omega
    obtain ⟨rfl, rfl⟩ := hE4 (fun h => hca h.1)
    rw [hr] at hca
    clear hr hE4 hG hE
    have hcheck := refCheck_any A n c a w h1 HF1.out
    rw [HR.out] at hcheck
    clear hb
    go_enter Try.func12, Try.ntmps12
    go_wp2_with fail
    refine hcheck.mono ?_
    rintro e w1 ⟨rfl, hb⟩
    go_wp2_with fail
    refine bodyPost_ret (v := .tuple #[.bool false, .int .i64 4]) (by simp [results, Try.results12, go_sem]) rfl ⟨rfl, hb⟩
  by_cases hcb : checkB b = 0
  case neg =>
    obtain ⟨r, hr⟩ : ∃ r, checkB b = r := ⟨_, rfl⟩
    have HR := Lib.hid hr
    have hne : ((r : Int) != 0) = true := by simp; omega
    obtain ⟨rfl, rfl⟩ := hE4 (fun h => hcb h.2)
    have HA := Lib.hid hca
    clear hr hE4 hG hE hcb hca
    have hcheck := refCheck_any A n c a w h1 HF1.out
    rw [HA.out] at hcheck
    clear hb
    go_enter Try.func12, Try.ntmps12
    go_wp2_with fail
    refine hcheck.mono ?_
    rintro e w1 ⟨rfl, hb⟩
    replace h2 := h2.at_size (Nat.le_refl _) hb
    have hcheck2 := refCheck_any A2 n2 c2 b w1 h2 HF2.out
    rw [HR.out] at hcheck2
    clear hcheck
    go_wp2_with fail
    refine hcheck2.mono ?_
    rintro e w2 ⟨rfl, hv⟩
    replace hb := hb.trans (hv.mono hb.size)
    clear hv
    go_wp2_with fail
    refine bodyPost_ret (v := .tuple #[.bool false, .int .i64 4]) (by simp [results, Try.results12, go_sem]) rfl ⟨rfl, hb⟩
  have HA := Lib.hid hca
  have HB := Lib.hid hcb
  have HSO := Lib.hid (soOk rows k)
  obtain ⟨V1, hV1⟩ : ∃ V, (soOf rows k).vals a = V := ⟨_, rfl⟩
  obtain ⟨V2, hV2⟩ : ∃ V, (soOf rows k).vals b = V := ⟨_, rfl⟩
  obtain ⟨V3, hV3⟩ : ∃ V, sameB a b = V := ⟨_, rfl⟩
  have HV1 := Lib.hid hV1
  have HV2 := Lib.hid hV2
  have HV3 := Lib.hid hV3
  have hEE : grE (soOf rows k) a b = if V1 && V2 then 0 else 1 := by unfold grE; rw [if_pos ⟨hca, hcb⟩, hV1, hV2]
  have HE1 : Hid ((V1 && V2) = false → E = 1 ∧ G = false) := Lib.hid fun h => by
    rw [h] at hEE
    refine ⟨by rw [← hE, hEE]; rfl, ?_⟩
    rw [← hG]
    exact grB_zero _ (by rw [hEE]; decide)
  have HE0 : Hid ((V1 && V2) = true → E = 0 ∧ G = (V3 && grH (soOf rows k) a b)) := Lib.hid fun h => by
    rw [h] at hEE
    refine ⟨by rw [← hE, hEE]; rfl, ?_⟩
    rw [← hG, grB_iff _ (by rw [hEE]; rfl), hV3]
  clear hE4 hG hE hca hcb hV1 hV2 hV3 hEE
  have hcheck := refCheck_any A n c a w h1 HF1.out
  rw [HA.out] at hcheck
  clear hb
  go_enter Try.func12, Try.ntmps12
  go_wp2_with fail
  refine hcheck.mono ?_
  rintro e w1 ⟨rfl, hb⟩
  replace h1 := h1.at_size (Nat.le_refl _) hb
  replace h2 := h2.at_size (Nat.le_refl _) hb
  replace h3 := h3.at_size (Nat.le_refl _) hb
  have hcheck2 := refCheck_any A2 n2 c2 b w1 h2 HF2.out
  rw [HB.out] at hcheck2
  clear hcheck
  go_wp2_with fail
  refine hcheck2.mono ?_
  rintro e w2 ⟨rfl, hv⟩
  clear hcheck2
  replace h1 := h1.at_size (Nat.le_refl _) hv
  replace h2 := h2.at_size (Nat.le_refl _) hv
  replace h3 := h3.at_size (Nat.le_refl _) hv
  replace hb := hb.trans (hv.mono hb.size)
  clear hv
  go_wp2_with fail
  refine (refVals_any A n c a A3 n3 c3 rows k V1 _ h1 HF1.out HT1.out h3 HF3.out HV1.out).mono ?_
  rintro e w3 ⟨rfl, hv⟩
  replace h1 := h1.at_size (Nat.le_refl _) hv
  replace h2 := h2.at_size (Nat.le_refl _) hv
  replace h3 := h3.at_size (Nat.le_refl _) hv
  replace hb := hb.trans (hv.mono hb.size)
  clear hv
  cases V1 with
  | false =>
    obtain ⟨rfl, rfl⟩ := HE1.out rfl
    clear h1 h2 h3
    go_wp2_with fail
    refine bodyPost_ret (v := .tuple #[.bool false, .int .i64 1]) (by simp [results, Try.results12, go_sem]) rfl ⟨rfl, hb⟩
  | true =>
    go_wp2_with fail
    refine (refVals_any A2 n2 c2 b A3 n3 c3 rows k V2 _ h2 HF2.out HT2.out h3 HF3.out HV2.out).mono ?_
    rintro e w4 ⟨rfl, hv⟩
    replace h1 := h1.at_size (Nat.le_refl _) hv
    replace h2 := h2.at_size (Nat.le_refl _) hv
    replace h3 := h3.at_size (Nat.le_refl _) hv
    replace hb := hb.trans (hv.mono hb.size)
    clear hv
    cases V2 with
    | false =>
      obtain ⟨rfl, rfl⟩ := HE1.out rfl
      clear h1 h2 h3
      go_wp2_with fail
      refine bodyPost_ret (v := .tuple #[.bool false, .int .i64 1]) (by simp [results, Try.results12, go_sem]) rfl ⟨rfl, hb⟩
    | true =>
      obtain ⟨rfl, hG⟩ := HE0.out rfl
      have HG := Lib.hid hG
      clear hG HE0 HE1
      go_wp2_with fail
      refine (refSame_any A A2 n c n2 c2 w4.heap.size a b w4 h1 h2).mono ?_
      rintro e w5 ⟨rfl, q5, rfl⟩
      have hv : Below w4.heap.size w4 (w4.drewN q5) := below_drewN _ _
      replace h1 := h1.at_size (Nat.le_refl _) hv
      replace h2 := h2.at_size (Nat.le_refl _) hv
      replace h3 := h3.at_size (Nat.le_refl _) hv
      replace hb := hb.trans (hv.mono hb.size)
      clear hv
      generalize w4.drewN q5 = w5 at *
      rw [HV3.out]
      cases V3 with
      | false =>
        obtain rfl : G = false := HG.out
        clear h1 h2 h3
        go_wp2_with fail
        refine bodyPost_ret (v := .tuple #[.bool false, .int .i64 0]) (by simp [results, Try.results12, go_sem]) rfl ⟨rfl, hb⟩
      | true =>
        have al := same_alks HV3.out HA.out HB.out
        have hlen := labB_alks al HA.out HB.out
        obtain ⟨va, wa⟩ := vals_l _ HV1.out
        obtain ⟨vb, wb⟩ := vals_l _ HV2.out
        have HVA := Lib.hid va
        have HVB := Lib.hid vb
        have HWA := Lib.hid wa
        have HWB := Lib.hid wb
        have HU1 := Lib.hid (labB_u64 HT1.out)
        have HU2 := Lib.hid (labB_u64 HT2.out)
        have HU3 := Lib.hid (effB_u64 HT1.out)
        have HU4 := Lib.hid (effB_u64 HT2.out)
        have HS1 := Lib.hid (labB_le a)
        have HS2 : Hid (∀ p ∈ effB a, p.s ≤ 2) := Lib.hid (effB_le2 a)
        have HG2 : Hid (G = (holdB (labB a) (labB b) (soOf rows k).r1 && holdB (effB a) (effB b) (soOf rows k).r2)) := Lib.hid HG.out
        have hof1 := refOf_any A n c a w5 h1 HF1.out
        have hof2 := fun (W : World) (hW : Below w5.heap.size w5 W) => refOf_any A2 n2 c2 b W (h2.at_size (Nat.le_refl _) hW) HF2.out
        obtain ⟨l1, k1⟩ := hlen
        generalize labB a = ls at *
        generalize labB b = ms at *
        generalize effB a = es at *
        generalize effB b = fs at *
        obtain ⟨kl, hkl⟩ : ∃ x, ls.length = x := ⟨_, rfl⟩
        obtain ⟨ke, hke⟩ : ∃ x, es.length = x := ⟨_, rfl⟩
        have HKL := Lib.hid hkl
        have HKE := Lib.hid hke
        have HML := Lib.hid (l1.symm.trans hkl)
        have HME := Lib.hid (k1.symm.trans hke)
        have HH3 := Lib.hid h3
        clear al va vb wa wb hkl hke l1 k1 h1 h2 HG
        go_wp2_with fail
        refine hof1.mono ?_
        rintro e w6 ⟨v, u, rfl, hT⟩
        obtain ⟨B1, d1, rfl⟩ := rs_own_form hT.o2
        obtain ⟨B2, d2, rfl⟩ := rs_own_form hT.o3
        have r1 := Rs.lab hT.o2
        have r2 := Rs.lab hT.o3
        rw [HKL.out] at r1
        rw [HKE.out] at r2
        rw [HKL.out, HKE.out]
        have hof2' := hof2 w6 hT.bel
        have h3' := h3.at_size (Nat.le_refl _) hT.bel
        replace hb := hb.trans (hT.bel.mono hb.size)
        clear hof1 hof2 hT h3 HH3
        go_wp2_with fail
        refine hof2'.mono ?_
        rintro e w7 ⟨v, u, rfl, hT⟩
        obtain ⟨B3, d3, rfl⟩ := rs_own_form hT.o2
        obtain ⟨B4, d4, rfl⟩ := rs_own_form hT.o3
        have r3 := Rs.lab hT.o2
        have r4 := Rs.lab hT.o3
        rw [HML.out] at r3
        rw [HME.out] at r4
        rw [HML.out, HME.out]
        have R1 := Lib.hid (r1.at_size (Nat.le_refl _) hT.bel)
        have R2 := Lib.hid (r2.at_size (Nat.le_refl _) hT.bel)
        have R3 := Lib.hid r3
        have R4 := Lib.hid r4
        have H3 := Lib.hid (h3'.at_size (Nat.le_refl _) hT.bel)
        have HBB := Lib.hid (hb.trans (hT.bel.mono hb.size))
        have b1 : kl ≤ 9223372036854775807 := by have := r1.top; have := r1.cap; unfold maxLen at *; omega
        have b2 : ke ≤ 9223372036854775807 := by have := r2.top; have := r2.cap; unfold maxLen at *; omega
        clear r1 r2 r3 r4 hT h3' hb hof2'
        go_wp2_with fail
        go_loopw [14] (fun v14 wr => HdRel (soOf rows k).r1 ls ms w7 v14 wr) (fun v14 _ => kl - (intOf v14).toNat)
        case atStart => exact ⟨0, rfl, by omega, rfl, Below.refl _ _⟩
        case round =>
          obtain ⟨i, rfl, hi, hh, hb⟩ := hrel
          by_cases hlt : i < kl
          · have hi1 : i < ls.length := by rw [HKL.out]; exact hlt
            have hi2 : i < ms.length := by rw [HML.out]; exact hlt
            obtain ⟨b, o, rfl, hbb, s0, s1, s2, s3, s4⟩ := spot_at (R1.out.below hb) hi1
            obtain ⟨b', o', rfl, hbb', g0, g1, g2, g3, g4⟩ := spot_at (R3.out.below hb) hi2
            have hu1 := HU1.out _ (List.getElem_mem hi1)
            have hu2 := HU2.out _ (List.getElem_mem hi2)
            have hsd := HS1.out _ (List.getElem_mem hi1)
            have hv1 := (valB_at HVA.out i hi1).2
            have hv2 := (valB_at HVB.out i hi2).2
            obtain ⟨r, hr⟩ : ∃ r, mustB ls[i].s (soOf rows k).r1 ls[i].z.toNat ms[i].z.toNat = r := ⟨_, rfl⟩
            have HST := Lib.hid (hold_step hi1 hi2 hh)
            rw [hr] at HST
            have HNO : Hid (r = false → G = false) := Lib.hid fun e => by
              rw [HG2.out, hold_no hi1 hi2 (hr.trans e)]
              first | rfl | exact Bool.and_false _
            clear hh
            generalize ls[i] = x at *
            generalize ms[i] = y at *
            obtain ⟨xn, xp, xs, xv, xz⟩ := x
            obtain ⟨yn, yp, ys, yv, yz⟩ := y
            simp only at s0 s1 s2 s3 s4 g0 g1 g2 g3 g4 hu1 hu2 hsd hr hv1 hv2
            obtain ⟨zx, rfl, hzx⟩ := hu1.nat
            obtain ⟨zy, rfl, hzy⟩ := hu2.nat
            rw [Int.toNat_natCast] at hv1 hv2
            rw [Int.toNat_natCast, Int.toNat_natCast] at hr
            obtain ⟨p1, hp1⟩ : ∃ p, (soOf rows k).r1 zx zy = p := ⟨_, rfl⟩
            obtain ⟨p2, hp2⟩ : ∃ p, (soOf rows k).r1 zy zx = p := ⟨_, rfl⟩
            have hhd : hldB xs p1 p2 = r := by
              rw [← hp1, ← hp2, ← hr]
              exact hld_must hsd (fun e => by subst e; exact ⟨r1_refl HSO.out hv1, r1_refl HSO.out hv1⟩) (r1_anti HSO.out hv1 hv2)
            have hL := so_rows hv1
            have HC1 : Hid (∀ N, Calls Try.prog 35 #[.slice A3 n3 c3, .int .u64 (zx : Int), .int .u64 (zy : Int)] (wr.drewN N) fun e w' => e = .returned (.bool p1) ∧ ∃ n, w' = wr.drewN n) := Lib.hid fun N => (refR1_any A3 n3 c3 w7.heap.size rows k zx zy p1 (wr.drewN N) ((H3.out.below hb).keep fun _ _ => rfl) HF3.out hzx hzy hL hp1).mono fun e w' ⟨h1, h2⟩ => ⟨h1, N, h2⟩
            have HC2 : Hid (∀ N, Calls Try.prog 35 #[.slice A3 n3 c3, .int .u64 (zy : Int), .int .u64 (zx : Int)] (wr.drewN N) fun e w' => e = .returned (.bool p2) ∧ ∃ n, w' = wr.drewN n) := Lib.hid fun N => (refR1_any A3 n3 c3 w7.heap.size rows k zy zx p2 (wr.drewN N) ((H3.out.below hb).keep fun _ _ => rfl) HF3.out hzy hzx hL hp2).mono fun e w' ⟨h1, h2⟩ => ⟨h1, N, h2⟩
            clear hL
            have HC3 : Hid (∀ N, Calls Try.prog 34 #[.int .u8 (xs : Int), .bool p1, .bool p2] (wr.drewN N) fun e w' => e = .returned (.bool r) ∧ ∃ n, w' = wr.drewN n) := Lib.hid fun N => (refHolds_any xs p1 p2 r _ hhd).mono fun e w' ⟨h1, h2⟩ => ⟨h1, N, h2⟩
            have HB6 := Lib.hid hb
            clear hhd hp1 hp2 hr hv1 hv2 hzx hzy hsd hu1 hu2 hb hbb hbb'
            go_wp2
            go_big_quiet (first | (go_at_call 35; first | with_reducible exact HC1.out _ | with_reducible exact HC2.out _) | (go_at_call 34; with_reducible exact HC3.out _))
            have HB7 := Lib.hid (HB6.out.trans (below_drewN wr nq))
            clear HB6 HC1 HC2 HC3
            generalize wr.drewN nq = wn at *
            clear nq
            cases r with
            | true =>
              clear HNO
              go_wp2_with fail
              go_roundw
              case rel => exact ⟨i + 1, by go_num, hi1, HST.out, HB7.out⟩
              case measure => simp [intOf]; omega
            | false =>
              obtain rfl := HNO.out rfl
              have hb := HBB.out.trans (HB7.out.mono HBB.out.size)
              clear HST HNO HB7
              go_wp2_with fail
              refine bodyPost_ret (v := .tuple #[.bool false, .int .i64 0]) (by simp [results, Try.results12, go_sem]) rfl ⟨rfl, hb⟩
          · obtain rfl : i = kl := by have := HKL.out; omega
            rw [List.take_of_length_le (by rw [HKL.out]; exact Nat.le_refl _), List.take_of_length_le (by rw [HML.out]; exact Nat.le_refl _)] at hh
            have HH1 := Lib.hid hh
            have HB5 := Lib.hid hb
            obtain ⟨wo, rfl⟩ : ∃ wo, wo = wr := ⟨_, rfl⟩
            clear hh hb hlt hi
            go_wp2
            have hdk : decide ((i : Int) < (i : Int)) = false := decide_eq_false (by omega)
            try simp only [hdk]
            clear hdk
            go_loopw [17] (fun v17 wr => HdRel (soOf rows k).r2 es fs wo v17 wr) (fun v17 _ => ke - (intOf v17).toNat)
            case atStart => exact ⟨0, rfl, by omega, rfl, Below.refl _ _⟩
            case round =>
              obtain ⟨j, rfl, hj, hh, hb⟩ := hrel
              by_cases hlt : j < ke
              · have hi1 : j < es.length := by rw [HKE.out]; exact hlt
                have hi2 : j < fs.length := by rw [HME.out]; exact hlt
                obtain ⟨b, o, rfl, hbb, s0, s1, s2, s3, s4⟩ := spot_at (R2.out.below (HB5.out.trans (hb.mono HB5.out.size))) hi1
                obtain ⟨b', o', rfl, hbb', g0, g1, g2, g3, g4⟩ := spot_at (R4.out.below (HB5.out.trans (hb.mono HB5.out.size))) hi2
                have hu1 := HU3.out _ (List.getElem_mem hi1)
                have hu2 := HU4.out _ (List.getElem_mem hi2)
                have hsd := HS2.out _ (List.getElem_mem hi1)
                have hv1 := (valB_at HWA.out j hi1).2
                have hv2 := (valB_at HWB.out j hi2).2
                obtain ⟨r, hr⟩ : ∃ r, mustB es[j].s (soOf rows k).r2 es[j].z.toNat fs[j].z.toNat = r := ⟨_, rfl⟩
                have HST := Lib.hid (hold_step hi1 hi2 hh)
                rw [hr] at HST
                have HNO : Hid (r = false → G = false) := Lib.hid fun e => by
                  rw [HG2.out, hold_no hi1 hi2 (hr.trans e)]
                  first | rfl | exact Bool.and_false _
                clear hh
                generalize es[j] = x at *
                generalize fs[j] = y at *
                obtain ⟨xn, xp, xs, xv, xz⟩ := x
                obtain ⟨yn, yp, ys, yv, yz⟩ := y
                simp only at s0 s1 s2 s3 s4 g0 g1 g2 g3 g4 hu1 hu2 hsd hr hv1 hv2
                obtain ⟨zx, rfl, hzx⟩ := hu1.nat
                obtain ⟨zy, rfl, hzy⟩ := hu2.nat
                rw [Int.toNat_natCast] at hv1 hv2
                rw [Int.toNat_natCast, Int.toNat_natCast] at hr
                obtain ⟨p1, hp1⟩ : ∃ p, (soOf rows k).r2 zx zy = p := ⟨_, rfl⟩
                obtain ⟨p2, hp2⟩ : ∃ p, (soOf rows k).r2 zy zx = p := ⟨_, rfl⟩
                have hhd : hldB xs p1 p2 = r := by
                  rw [← hp1, ← hp2, ← hr]
                  exact hld_must hsd (fun e => by subst e; exact ⟨r2_refl hv1, r2_refl hv1⟩) r2_anti
                have hm := ((h2_iff zx).1 hv1).1
                have HC1 : Hid (∀ N, Calls Try.prog 36 #[.int .i64 k, .int .u64 (zx : Int), .int .u64 (zy : Int)] (wr.drewN N) fun e w' => e = .returned (.bool p1) ∧ ∃ n, w' = wr.drewN n) := Lib.hid fun N => (refR2_any rows k zx zy p1 _ hzx hzy hm hp1).mono fun e w' ⟨h1, h2⟩ => ⟨h1, N, h2⟩
                have HC2 : Hid (∀ N, Calls Try.prog 36 #[.int .i64 k, .int .u64 (zy : Int), .int .u64 (zx : Int)] (wr.drewN N) fun e w' => e = .returned (.bool p2) ∧ ∃ n, w' = wr.drewN n) := Lib.hid fun N => (refR2_any rows k zy zx p2 _ hzy hzx hm hp2).mono fun e w' ⟨h1, h2⟩ => ⟨h1, N, h2⟩
                clear hm
                have HC3 : Hid (∀ N, Calls Try.prog 34 #[.int .u8 (xs : Int), .bool p1, .bool p2] (wr.drewN N) fun e w' => e = .returned (.bool r) ∧ ∃ n, w' = wr.drewN n) := Lib.hid fun N => (refHolds_any xs p1 p2 r _ hhd).mono fun e w' ⟨h1, h2⟩ => ⟨h1, N, h2⟩
                have HB6 := Lib.hid hb
                clear hhd hp1 hp2 hr hv1 hv2 hzx hzy hsd hu1 hu2 hb hbb hbb'
                go_wp2
                go_big_quiet (first | (go_at_call 36; first | with_reducible exact HC1.out _ | with_reducible exact HC2.out _) | (go_at_call 34; with_reducible exact HC3.out _))
                have HB7 := Lib.hid (HB6.out.trans (below_drewN wr nq))
                clear HB6 HC1 HC2 HC3
                generalize wr.drewN nq = wn at *
                clear nq
                cases r with
                | true =>
                  clear HNO
                  go_wp2_with fail
                  go_roundw
                  case rel => exact ⟨j + 1, by go_num, hi1, HST.out, HB7.out⟩
                  case measure => simp [intOf]; omega
                | false =>
                  obtain rfl := HNO.out rfl
                  have hb := HBB.out.trans ((HB5.out.trans (HB7.out.mono HB5.out.size)).mono HBB.out.size)
                  clear HST HNO HB7
                  go_wp2_with fail
                  refine bodyPost_ret (v := .tuple #[.bool false, .int .i64 0]) (by simp [results, Try.results12, go_sem]) rfl ⟨rfl, hb⟩
              · obtain rfl : j = ke := by have := HKE.out; omega
                rw [List.take_of_length_le (by rw [HKE.out]; exact Nat.le_refl _), List.take_of_length_le (by rw [HME.out]; exact Nat.le_refl _)] at hh
                obtain rfl : G = true := by rw [HG2.out, HH1.out, hh]; rfl
                replace hb := HBB.out.trans ((HB5.out.trans (hb.mono HB5.out.size)).mono HBB.out.size)
                clear hh hlt hj
                go_wp2
                refine bodyPost_ret (v := .tuple #[.bool true, .int .i64 0]) (by simp [results, Try.results12, go_sem]) rfl ⟨rfl, hb⟩
end Go.Proofs.Ytlcbcggcmmlfdaa
