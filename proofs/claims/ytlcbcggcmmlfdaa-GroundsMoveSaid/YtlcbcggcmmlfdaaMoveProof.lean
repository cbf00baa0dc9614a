/- Proved: whatever the body, the spot, the value, the labels and the effects, GroundsMove answers true: with another value at one spot a type is above just if that goes up, and it is greater, or down, and less, and below the other way; at one that goes both it is neither; the arguments stay as they were. No condition. -/
import Derived.Test.YtlcbcggcmmlfdaaExamples
import Derived.Test.YtlcbcggcmmlfdaaGrMove
import Derived.Test.YtlcbcggcmmlfdaaRows
namespace Go.Proofs.Ytlcbcggcmmlfdaa.groundsMove
open Go.ChangeShapes Go.WideShapes Go.ChangeAt Go.RowKit

theorem own : ownKnob Try.prog.godebug = none := by kernel_rfl
theorem laidOut : laidOutB Try.prog = true := by kernel_rfl


theorem u16_nat {a : Int} (h : (Lit.int .u16 a).wf = true) : ∃ x : Nat, a = (x : Int) ∧ x < 65536 := by
  have hb : IntKind.u16.min ≤ a ∧ a ≤ IntKind.u16.max := by simpa [Lit.wf] using h
  have e1 : IntKind.u16.min = 0 := by decide
  have e2 : IntKind.u16.max = 65535 := by decide
  rw [e1, e2] at hb
  exact ⟨a.toNat, by omega, by omega⟩

set_option maxRecDepth 100000 in
set_option maxHeartbeats 8000000 in
theorem walk (A0 : Option Addr) (n0 c0 : Nat) (l : List Nd) (z v : Int) (A : Option Addr) (n c : Nat) (k : Int) (rows : List Nat) (w : World)
    (hc0 : Came w A0 n0 c0 l) (hz : (Lit.int .u16 z).wf = true) (hv0 : U64 v) (hr : Rd La.nm w w.heap.size A n c rows) (hf : La.Fit rows) :
    Calls Try.prog 7 #[.agg #[.slice A0 n0 c0, .int .u16 z, .int .u64 v], zV A n c k] w fun e w' => e = .returned (.bool true) ∧ Below w.heap.size w w' := by
  obtain ⟨zz, rfl, hzz⟩ := u16_nat hz
  have HV0 := Lib.hid hv0
  obtain ⟨V, rfl, hVV⟩ := hv0.nat
  have HVV := Lib.hid hVV
  have HC0 := Lib.hid hc0
  have HFR := Lib.hid hf
  have h0 := hc0.rs
  clear hf hc0 hz hv0 hVV
  obtain ⟨g1, g2, hv⟩ := box2 w (.cells #[.slice A0 n0 c0, .int .u16 (zz : Int), .int .u64 (V : Int)] 48) (.cells #[.slice A n c, .int .i64 k] 25)
  replace h0 := h0.at_size (Nat.le_refl _) hv
  replace hr := hr.at_size (Nat.le_refl _) hv
  have hb := hv
  have x0 := (cell_blk (i := 0) g1).trans rfl
  have x1 := (cell_blk (i := 1) g1).trans rfl
  have x2 := (cell_blk (i := 2) g1).trans rfl
  have z0 := (cell_blk (i := 0) g2).trans rfl
  have z1 := (cell_blk (i := 1) g2).trans rfl
  have HS0 : Hid (soOf rows k).Ok := Lib.hid (soOk rows k)
  obtain ⟨gr, hgr⟩ : ∃ r, r = (decide (64 < n) || (decide (200 < n0) || decide (200 < 0))) := ⟨_, rfl⟩
  have HGR := Lib.hid hgr
  clear hgr hv g1 g2
  go_enter Try.func7, Try.ntmps7
  go_wp2_with fail
  refine (great_any A n c k A0 n0 c0 none 0 0 _ gr HGR.out).mono ?_
  rintro e w1 ⟨rfl, hv⟩
  replace h0 := h0.at_size (Nat.le_refl _) hv
  replace hr := hr.at_size (Nat.le_refl _) hv
  replace x0 := cell_old x0 hv
  replace x1 := cell_old x1 hv
  replace x2 := cell_old x2 hv
  replace z0 := cell_old z0 hv
  replace z1 := cell_old z1 hv
  replace hb := hb.trans (hv.mono hb.size)
  clear hv
  clear HGR
  cases gr with
  | true =>
    clear h0 hr
    go_wp2_with fail
    refine (alive_any _).mono ?_
    rintro e wz ⟨rfl, hv⟩
    replace hb := hb.trans (hv.mono hb.size)
    clear hv
    go_wp2_with fail
    go_ret
    exact ⟨rfl, hb⟩
  | false =>
    go_wp2_with fail
    refine (made_any A n c rows k _ hr HFR.out).mono ?_
    rintro e w2 ⟨p, q, rfl, hS, -, -, hv⟩
    replace h0 := h0.at_size (Nat.le_refl _) hv
    replace x0 := cell_old x0 hv
    replace x1 := cell_old x1 hv
    replace x2 := cell_old x2 hv
    replace hb := hb.trans (hv.mono hb.size)
    clear hv
    clear hr z0 z1 HFR
    generalize soOf rows k = S at *
    obtain ⟨y4, hy4⟩ : ∃ x, grE S l l = x := ⟨_, rfl⟩
    obtain ⟨r4, hr4⟩ : ∃ x, grB S l l = x := ⟨_, rfl⟩
    have HX4 := Lib.hid (congrArg (fun n : Nat => (n : Int)) hy4)
    have HY4 := Lib.hid hy4
    have HR4 := Lib.hid hr4
    obtain ⟨ls, hls⟩ : ∃ x, labB l = x := ⟨_, rfl⟩
    obtain ⟨es, hes⟩ : ∃ x, effB l = x := ⟨_, rfl⟩
    have HLS := Lib.hid hls
    have HES := Lib.hid hes
    obtain ⟨kl, hkl⟩ : ∃ x, ls.length = x := ⟨_, rfl⟩
    obtain ⟨ke, hke⟩ : ∃ x, es.length = x := ⟨_, rfl⟩
    have HKL := Lib.hid hkl
    have HKE := Lib.hid hke
    have hk256 : kl ≤ 256 := by have := labB_len l; rw [hls, hkl] at this; exact this
    have hke128 : ke ≤ 128 := by have := effB_len l; rw [hes, hke] at this; exact this
    clear hy4 hr4 hls hes hkl hke
    go_wp2_with fail
    refine (ground_lit _ _ _ _ _ _ l l p q S r4 y4 _ h0 h0 HC0.out.fit HC0.out.fit HC0.out.tfit HC0.out.tfit hS HR4.out HX4.out).mono ?_
    rintro e w3 ⟨rfl, hv⟩
    replace h0 := h0.at_size (Nat.le_refl _) hv
    replace x0 := cell_old x0 hv
    replace x1 := cell_old x1 hv
    replace x2 := cell_old x2 hv
    replace hS := hS.keep hv
    replace hb := hb.trans (hv.mono hb.size)
    clear hv
    go_wp2_with fail
    refine (of_len A0 n0 c0 l ls es kl ke _ h0 HC0.out.fit HLS.out HES.out HKL.out HKE.out).mono ?_
    rintro e w4 ⟨Av, cv, Au, cu, rfl, hT⟩
    have r1 := hT.r1
    have r2 := hT.r2
    have hv := hT.bel
    clear hT
    replace h0 := h0.at_size (Nat.le_refl _) hv
    replace x0 := cell_old x0 hv
    replace x1 := cell_old x1 hv
    replace x2 := cell_old x2 hv
    replace hS := hS.keep hv
    replace hb := hb.trans (hv.mono hb.size)
    clear hv
    by_cases e4 : y4 = 0
    case neg =>
      have hne : ((y4 : Int) != 0) = true := by simp; omega
      clear hS e4
      clear h0 r1 r2
      go_wp2_with fail
      refine (alive_any _).mono ?_
      rintro e wz ⟨rfl, hv⟩
      replace hb := hb.trans (hv.mono hb.size)
      clear hv
      go_wp2_with fail
      go_ret
      exact ⟨rfl, hb⟩
    subst e4
    have HCK : Hid (checkB l = 0) := Lib.hid ((grE_zero S).1 HY4.out).1
    have hkl0 : 0 < kl := by
      obtain ⟨x, t, rfl⟩ : ∃ x t, l = x :: t := by
        cases l with
        | nil => exact absurd (check_len HCK.out).1 (by simp)
        | cons x t => exact ⟨x, t, rfl⟩
      rw [← HKL.out, ← HLS.out]
      unfold labB
      rw [if_pos HCK.out]
      show 0 < (labS 0 x 0 ++ lab 1 t _).length
      have := (labS_len 0 x 0).1
      rw [List.length_append]
      omega
    have hk0 : ((kl : Int) == 0) = false := by simp; omega
    have hk0' : ¬ (kl : Int) = 0 := by omega
    have hk0n : ¬ kl = 0 := by omega
    obtain ⟨hh, hhh⟩ : ∃ x, S.h1 V = x := ⟨_, rfl⟩
    have HHH := Lib.hid hhh
    clear hhh
    go_wp2_with fail
    refine (so_has V hh _ hS HHH.out).mono ?_
    rintro e w5 ⟨rfl, hv⟩
    replace h0 := h0.at_size (Nat.le_refl _) hv
    replace r1 := r1.at_size (Nat.le_refl _) hv
    replace r2 := r2.at_size (Nat.le_refl _) hv
    replace x0 := cell_old x0 hv
    replace x1 := cell_old x1 hv
    replace x2 := cell_old x2 hv
    replace hS := hS.keep hv
    replace hb := hb.trans (hv.mono hb.size)
    clear hv
    cases hh with
    | false =>
      clear hS
      clear h0 r1 r2
      go_wp2_with fail
      refine (alive_any _).mono ?_
      rintro e wz ⟨rfl, hv⟩
      replace hb := hb.trans (hv.mono hb.size)
      clear hv
      go_wp2_with fail
      go_ret
      exact ⟨rfl, hb⟩
    | true =>
      have hkk : zz % kl < kl := Nat.mod_lt _ hkl0
      have hrem : (zz : Int) % (kl : Int) = ((zz % kl : Nat) : Int) := by rw [Int.natCast_emod]
      generalize zz % kl = kk at *
      have hkls : kk < ls.length := by rw [HKL.out]; exact hkk
      have hkls' : kk < (labB l).length := by rw [HLS.out]; exact hkls
      obtain ⟨b, o, rfl, hbb, s0, s1, s2, s3, s4⟩ := spot_at r1 hkls
      have hu := labB_u64 HC0.out.tfit _ (List.getElem_mem hkls')
      have hsd := labB_le l _ (List.getElem_mem hkls')
      have hgetl : (labB l)[kk] = ls[kk] := by simp only [HLS.out]
      have hmv := mv_facts HCK.out hkls' (V : Int) HS0.out HY4.out (by rw [Int.toNat_natCast]; exact HHH.out)
      rw [hgetl] at hu hsd hmv
      rw [Int.toNat_natCast] at hmv
      have HMV := Lib.hid hmv
      have HGX : Hid (ls[kk] = ls[kk]) := Lib.hid rfl
      generalize ls[kk] = qs at *
      obtain ⟨qn, qp, qsd, qv, qz⟩ := qs
      simp only at s0 s1 s2 s3 s4 hu hsd HMV
      obtain ⟨zw, rfl, hzw⟩ := hu.nat
      rw [Int.toNat_natCast] at HMV
      have HZW := Lib.hid hzw
      have S2 := Lib.hid s2
      have HBB := Lib.hid hbb
      clear hzw hu hmv hgetl s0 s1 s3 HGX hkls' hbb
      go_wp2
      try simp only [hrem]
      clear hk0 hk0' hk0n hrem s4
      have HKKL := Lib.hid hkk
      have HKLS := Lib.hid hkls
      have HSD := Lib.hid hsd
      clear hkk hkls hsd hkl0 hzz
      have H0 := Lib.hid h0
      have R1 := Lib.hid r1
      have R2 := Lib.hid r2
      have HSS := Lib.hid hS
      have HB := Lib.hid hb
      have HX0 := Lib.hid x0
      have HX2 := Lib.hid x2
      clear h0 r1 r2 hS hb x0 x1 x2 s2
      go_loopw [13, 15] (fun v3 v4 wr => TmRel ls w5 v3 v4 wr) (fun _ v4 _ => kl - (intOf v4).toNat)
      case atStart => exact ⟨0, none, 0, 0, rfl, rfl, Nat.zero_le _, World.ownsRow_nil _ _ _ _, Below.refl _ _⟩
      case round =>
        obtain ⟨i, A3, N3, c3, rfl, rfl, hi, hown, hbl⟩ := hrel
        by_cases hlt : i < kl
        · have hi' : i < ls.length := by rw [HKL.out]; exact hlt
          have hN := rs_own_len tmc_len (by decide) hown
          rw [List.length_map, List.length_take] at hN
          have hN1 : N3 + 1 ≤ 100000 := by omega
          obtain ⟨b', o', hbo, -, s0, s1, s2, s3, s4⟩ := spot_at (R1.out.below hbl) hi'
          obtain ⟨rfl, rfl⟩ : b = b' ∧ o = o' := by
            injection hbo with hbo
            injection hbo with h1 h2
            exact ⟨h1, h2⟩
          have HS : Hid ((ls.take i).map Sp.t ++ [ls[i].t] = (ls.take (i + 1)).map Sp.t) := Lib.hid (by rw [List.take_succ_eq_append_getElem hi', List.map_append]; rfl)
          generalize ls[i] = qi at *
          obtain ⟨in0, ip, is, iv, iz⟩ := qi
          simp only [Sp.t] at s0 s1 s2 s3 s4 HS
          have HO := Lib.hid (show Rs tmc 2 (wr.alloc (.cells #[.bool iv, .int .u64 iz] 54)) (wr.alloc (.cells #[.bool iv, .int .u64 iz] 54)).heap.size (some ⟨wr.heap.size, 0, none⟩) 1 1 [(iv, iz)] from Rs.of_blk tmc_len (heap_alloc_new wr _) ⟨[], rfl⟩ rfl (Nat.le_refl _) (by unfold maxLen; omega))
          have hal : Below wr.heap.size wr (wr.alloc (.cells #[.bool iv, .int .u64 iz] 54)) := (Below.refl _ _).alloc (Nat.le_refl _) _
          have HW := Lib.hid (own_behind hown hal)
          have hsz : w5.heap.size ≤ (wr.alloc (.cells #[.bool iv, .int .u64 iz] 54)).heap.size := Nat.le_trans hbl.size hal.size
          clear hN hbo
          go_wp2_with (refine wpList_append_rs tmc_len (by decide) tmc_one Try.underlying59 tm_inf rfl (by decide) rfl (.tmp 84) (.tmp 90) rfl w5.heap.size _ N3 _ rfl HW.out _ _ 1 1 [(iv, iz)] rfl HO.out hN1 hsz ?_; intro A' k' c' w' HK HA)
          go_roundw
          case rel => exact ⟨i + 1, A', k', c', by go_num, rfl, hi', by rw [← HS.out]; exact HA.out.own, (hbl.trans (hal.mono hbl.size)).grown HA.out.grown hsz fun j hj => (HW.out.lt j hj).1⟩
          case measure => simp [intOf]; omega
        · obtain rfl : i = kl := by have := HKL.out; omega
          rw [List.take_of_length_le (by rw [HKL.out]; exact Nat.le_refl _)] at hown
          have HO1 := Lib.hid hown
          have HBL := Lib.hid hbl
          clear hown hbl hlt hi
          obtain ⟨wo, rfl⟩ : ∃ wo, wo = wr := ⟨_, rfl⟩
          go_wp2
          have hdk : decide ((i : Int) < (i : Int)) = false := decide_eq_false (by omega)
          try simp only [hdk]
          clear hdk
          go_loopw [14, 16] (fun v3 v4 wr => TmRel es wo v3 v4 wr) (fun _ v4 _ => ke - (intOf v4).toNat)
          case atStart => exact ⟨0, none, 0, 0, rfl, rfl, Nat.zero_le _, World.ownsRow_nil _ _ _ _, Below.refl _ _⟩
          case round =>
            obtain ⟨j, A4, N4, c4, rfl, rfl, hj, hown, hbl⟩ := hrel
            by_cases hlt : j < ke
            · have hi' : j < es.length := by rw [HKE.out]; exact hlt
              have hN := rs_own_len tmc_len (by decide) hown
              rw [List.length_map, List.length_take] at hN
              have hN1 : N4 + 1 ≤ 100000 := by omega
              obtain ⟨b', o', rfl, -, s0, s1, s2, s3, s4⟩ := spot_at (R2.out.below (HBL.out.trans (hbl.mono HBL.out.size))) hi'
              have HS : Hid ((es.take j).map Sp.t ++ [es[j].t] = (es.take (j + 1)).map Sp.t) := Lib.hid (by rw [List.take_succ_eq_append_getElem hi', List.map_append]; rfl)
              generalize es[j] = qi at *
              obtain ⟨in0, ip, is, iv, iz⟩ := qi
              simp only [Sp.t] at s0 s1 s2 s3 s4 HS
              have HO := Lib.hid (show Rs tmc 2 (wr.alloc (.cells #[.bool iv, .int .u64 iz] 54)) (wr.alloc (.cells #[.bool iv, .int .u64 iz] 54)).heap.size (some ⟨wr.heap.size, 0, none⟩) 1 1 [(iv, iz)] from Rs.of_blk tmc_len (heap_alloc_new wr _) ⟨[], rfl⟩ rfl (Nat.le_refl _) (by unfold maxLen; omega))
              have hal : Below wr.heap.size wr (wr.alloc (.cells #[.bool iv, .int .u64 iz] 54)) := (Below.refl _ _).alloc (Nat.le_refl _) _
              have HW := Lib.hid (own_behind hown hal)
              have hsz : wo.heap.size ≤ (wr.alloc (.cells #[.bool iv, .int .u64 iz] 54)).heap.size := Nat.le_trans hbl.size hal.size
              clear hN
              go_wp2_with (refine wpList_append_rs tmc_len (by decide) tmc_one Try.underlying59 tm_inf rfl (by decide) rfl (.tmp 98) (.tmp 104) rfl wo.heap.size _ N4 _ rfl HW.out _ _ 1 1 [(iv, iz)] rfl HO.out hN1 hsz ?_; intro A' k' c' w' HK HA)
              go_roundw
              case rel => exact ⟨j + 1, A', k', c', by go_num, rfl, hi', by rw [← HS.out]; exact HA.out.own, (hbl.trans (hal.mono hbl.size)).grown HA.out.grown hsz fun j hj => (HW.out.lt j hj).1⟩
              case measure => simp [intOf]; omega
            · obtain rfl : j = ke := by have := HKE.out; omega
              rw [List.take_of_length_le (by rw [HKE.out]; exact Nat.le_refl _)] at hown
              have HO2 := Lib.hid hown
              have HBW := Lib.hid (HBL.out.trans (hbl.mono HBL.out.size))
              have HA1 := Lib.hid (own_behind HO1.out hbl)
              clear hown hlt hj
              have hN := rs_own_len tmc_len (by decide) HA1.out
              rw [List.length_map, HKL.out] at hN
              subst hN
              have hkm : kk < (ls.map Sp.t).length := by rw [List.length_map]; exact HKLS.out
              obtain ⟨g, rfl, hgb, hgl, hgc, hgf⟩ := own_term HA1.out hkm
              have f0 := hgf (kk * 2)
              have f1 := hgf (kk * 2 + 1)
              obtain ⟨u0, hg0⟩ : ∃ u0, wr.cell? ⟨g, kk * 2, none⟩ = some (.bool u0) := ⟨_, by simpa using hgc 0 _ rfl⟩
              obtain ⟨u1, hg1⟩ : ∃ u1, wr.cell? ⟨g, kk * 2 + 1, none⟩ = some (.int .u64 u1) := ⟨_, hgc 1 _ rfl⟩
              have hgo : g < wo.heap.size := by
                rcases HO1.out.2 with ⟨hq, _⟩ | ⟨g', _, _, hq, _, hg', _⟩
                · cases hq
                · injection hq with hq
                  injection hq with hq
                  injection hq with hq
                  rw [hq]
                  exact lt_blk hg'
              have HTS := Lib.hid (own_term_set HA1.out hkm (false, (V : Int)))
              have HBS := Lib.hid ((HBW.out.setCell (p := ⟨g, kk * 2, none⟩) hgb (.bool false)).setCell (p := ⟨g, kk * 2 + 1, none⟩) hgb (.int .u64 (V : Int)))
              have HOB : Hid (((wr.setCell ⟨g, kk * 2, none⟩ (.bool false)).setCell ⟨g, kk * 2 + 1, none⟩ (.int .u64 (V : Int))).ownsRow wo.heap.size 54 2 (.slice A4 N4 c4) N4 ((es.map Sp.t).flatMap tmc)) := by
                have hne : (Value.slice A4 N4 c4).ownBlock ≠ some g := fun e => by
                  rcases HO2.out.2 with ⟨hq, _⟩ | ⟨g', _, _, hq, hg', _⟩
                  · rw [hq] at e; cases e
                  · rw [hq] at e
                    have e : g' = g := by simpa [Value.ownBlock] using e
                    omega
                exact Lib.hid (own_setOther (own_setOther HO2.out hne _) hne _)
              have hkN : (kk : Int) < (i : Int) := by have := HKKL.out; omega
              have x2 := cell_old HX2.out HBW.out
              have HTM : Hid ((ls.map Sp.t).set kk (false, (V : Int)) = mvT l kk V) := Lib.hid (by unfold mvT; rw [HLS.out])
              have HEM : Hid (es.map Sp.t = (effB l).map Sp.t) := Lib.hid (by rw [HES.out])
              clear HO1 HO2 HA1 HBL hbl hgc hgf hgb hgl hkm hgo
              have x0s := cell_old HX0.out HBS.out
              go_wp2_with fail
              clear x0s x2 f0 f1 hg0 hg1 hkN
              have h0 := H0.out.at_size (Nat.le_refl _) HBS.out
              have r1 := R1.out.at_size (Nat.le_refl _) HBS.out
              have hS := HSS.out.keep HBS.out
              have hb := HB.out.trans (HBS.out.mono HB.out.size)
              have x0 := cell_old HX0.out HBS.out
              have x2 := cell_old HX2.out HBS.out
              have s2 := cell_old S2.out HBS.out
              have ta := Rs.of_ownW tmc_len (by decide) HTS.out
              have tb := Rs.of_ownW tmc_len (by decide) HOB.out
              rw [HTM.out] at ta
              rw [HEM.out] at tb
              clear H0 R1 R2 HSS HB HX0 HX2 S2 HTS HOB HBS HBW HTM HEM
              generalize ((wr.setCell ⟨g, kk * 2, none⟩ (.bool false)).setCell ⟨g, kk * 2 + 1, none⟩ (.int .u64 (V : Int))) = ws at *
              have hput := put_any A0 (some ⟨g, 0, none⟩) A4 n0 c0 i c3 N4 c4 l (mvT l kk (V : Int)) ((effB l).map Sp.t) ws h0 HC0.out.fit ta tb
              rw [(mv_put HCK.out (k := kk) (V : Int)).1, (mv_put HCK.out (k := kk) (V : Int)).2] at hput
              refine hput.mono ?_
              rintro e w7 ⟨Ao, no, co, rfl, ho, hv⟩
              have hoN : Ns w7 w7.heap.size Ao no co (mvB l kk (V : Int)) := Rs.of_own ndc_len (by decide) ho
              clear hput ta tb ho
              replace h0 := h0.at_size (Nat.le_refl _) hv
              replace x0 := cell_old x0 hv
              replace x2 := cell_old x2 hv
              replace s2 := cell_old s2 hv
              replace hS := hS.keep hv
              replace hb := hb.trans (hv.mono hb.size)
              clear hv
              have HMF := Lib.hid (mv_fits HC0.out.fit kk (V : Int))
              have HMT := Lib.hid (mv_tfits HC0.out.tfit kk HV0.out)
              generalize mvB l kk (V : Int) = m at *
              obtain ⟨ra, hra⟩ : ∃ x, grB S l m = x := ⟨_, rfl⟩
              obtain ⟨rb, hrb⟩ : ∃ x, grB S m l = x := ⟨_, rfl⟩
              obtain ⟨u, hu⟩ : ∃ x, S.r1 zw V = x := ⟨_, rfl⟩
              obtain ⟨d, hd⟩ : ∃ x, S.r1 V zw = x := ⟨_, rfl⟩
              have HRA := Lib.hid hra
              have HRB := Lib.hid hrb
              have HU := Lib.hid hu
              have HD := Lib.hid hd
              have HXA : Hid ((grE S l m : Int) = 0) := Lib.hid (by rw [HMV.out.1]; rfl)
              have HXB : Hid ((grE S m l : Int) = 0) := Lib.hid (by rw [grE_comm, HMV.out.1]; rfl)
              have HMA : Hid (ra = mustB qsd S.r1 zw V) := Lib.hid (hra.symm.trans HMV.out.2.1)
              have HMB : Hid (rb = mustB qsd S.r1 V zw) := Lib.hid (hrb.symm.trans HMV.out.2.2)
              clear hra hrb hu hd HMV
              go_wp2_with fail
              refine (ground_lit _ _ _ _ _ _ l m p q S ra 0 _ h0 hoN HC0.out.fit HMF.out HC0.out.tfit HMT.out hS HRA.out HXA.out).mono ?_
              rintro e w8 ⟨rfl, hv⟩
              replace h0 := h0.at_size (Nat.le_refl _) hv
              replace hoN := hoN.at_size (Nat.le_refl _) hv
              replace x0 := cell_old x0 hv
              replace x2 := cell_old x2 hv
              replace s2 := cell_old s2 hv
              replace hS := hS.keep hv
              replace hb := hb.trans (hv.mono hb.size)
              clear hv
              go_wp2_with fail
              refine (ground_lit _ _ _ _ _ _ m l p q S rb 0 _ hoN h0 HMF.out HC0.out.fit HMT.out HC0.out.tfit hS HRB.out HXB.out).mono ?_
              rintro e w9 ⟨rfl, hv⟩
              replace x0 := cell_old x0 hv
              replace x2 := cell_old x2 hv
              replace s2 := cell_old s2 hv
              replace hS := hS.keep hv
              replace hb := hb.trans (hv.mono hb.size)
              clear hv
              clear h0 hoN
              go_wp2_with fail
              refine (so_bel zw V u _ hS HZW.out HVV.out HU.out).mono ?_
              rintro e w10 ⟨rfl, hv⟩
              replace x0 := cell_old x0 hv
              replace x2 := cell_old x2 hv
              replace s2 := cell_old s2 hv
              replace hS := hS.keep hv
              replace hb := hb.trans (hv.mono hb.size)
              clear hv
              go_wp2_with fail
              refine (so_bel V zw d _ hS HVV.out HZW.out HD.out).mono ?_
              rintro e w11 ⟨rfl, hv⟩
              replace x0 := cell_old x0 hv
              replace x2 := cell_old x2 hv
              replace s2 := cell_old s2 hv
              replace hS := hS.keep hv
              replace hb := hb.trans (hv.mono hb.size)
              clear hv
              clear hS
              have hq : qsd = 0 ∨ qsd = 1 ∨ qsd = 2 := by have := HSD.out; omega
              rcases hq with rfl | rfl | rfl
              · have ea : ra = u := by rw [HMA.out, ← HU.out]; rfl
                have eb : rb = d := by rw [HMB.out, ← HD.out]; rfl
                subst ea
                subst eb
                clear HMA HMB HRA HRB HU HD
                replace s2 : w11.cell? ⟨b, o + kk * 5 + 2, none⟩ = some (.int .u8 0) := s2
                go_wp2_with fail
                refine (alive_any _).mono ?_
                rintro e wz ⟨rfl, hv⟩
                replace hb := hb.trans (hv.mono hb.size)
                clear hv
                cases ra <;> cases rb
                all_goals (
                  go_wp2_with fail
                  go_ret
                  exact ⟨rfl, hb⟩)
              · have ea : ra = d := by rw [HMA.out, ← HD.out]; rfl
                have eb : rb = u := by rw [HMB.out, ← HU.out]; rfl
                subst ea
                subst eb
                clear HMA HMB HRA HRB HU HD
                replace s2 : w11.cell? ⟨b, o + kk * 5 + 2, none⟩ = some (.int .u8 1) := s2
                go_wp2_with fail
                refine (alive_any _).mono ?_
                rintro e wz ⟨rfl, hv⟩
                replace hb := hb.trans (hv.mono hb.size)
                clear hv
                cases ra <;> cases rb
                all_goals (
                  go_wp2_with fail
                  go_ret
                  exact ⟨rfl, hb⟩)
              · have ea : ra = decide (zw = V) := HMA.out
                have eb : rb = decide (V = zw) := HMB.out
                clear HMA HMB HRA HRB HU HD
                replace s2 : w11.cell? ⟨b, o + kk * 5 + 2, none⟩ = some (.int .u8 2) := s2
                by_cases hzv : zw = V
                · have e0 : ((zw : Int) == (V : Int)) = true := by simp; omega
                  rw [decide_eq_true hzv] at ea
                  rw [decide_eq_true hzv.symm] at eb
                  subst ea
                  subst eb
                  clear hzv
                  go_wp2_with fail
                  refine (alive_any _).mono ?_
                  rintro e wz ⟨rfl, hv⟩
                  replace x2 := cell_old x2 hv
                  replace hb := hb.trans (hv.mono hb.size)
                  clear hv
                  go_wp2_with fail
                  go_ret
                  exact ⟨rfl, hb⟩
                · have e0 : ((zw : Int) == (V : Int)) = false := by simp; omega
                  rw [decide_eq_false hzv] at ea
                  rw [decide_eq_false (fun h => hzv h.symm)] at eb
                  subst ea
                  subst eb
                  clear hzv
                  go_wp2_with fail
                  refine (alive_any _).mono ?_
                  rintro e wz ⟨rfl, hv⟩
                  replace x2 := cell_old x2 hv
                  replace hb := hb.trans (hv.mono hb.size)
                  clear hv
                  go_wp2_with fail
                  go_ret
                  exact ⟨rfl, hb⟩

set_option maxRecDepth 100000 in
theorem lifted (os : Os) (started : os.Started) (H : Type) (enc : TypeId × Value → H) :
    ReturnsInHanded {} Try.checked os 7 .any (Rows.groundsMoveSpec.pre6 enc Try.prog Try.f7 Rows.groundsMoveRow.domain false) (Rows.groundsMoveSpec.post enc Try.prog Try.f7 false true false false) := by
  refine returnsInHanded_of_change (C := Try.checked) own started (by kernel_rfl) Try.func7
    (ChangeSpec.witness6 (enc := enc) (C := Try.checked) false ⟨#[], #[.agg #[.slice none 0 0, .int .u16 0, .int .u64 0], .agg #[.slice none 0 0, .int .i64 0]], []⟩ 8 (by kernel_rfl) (by kernel_rfl) (by kernel_rfl) (by kernel_rfl)) ?_
  intro W base args ds gs before hval0 hW hcnd _
  have hval : ∀ (j : Nat) t v, Try.f7.params[j]? = some t → args[j]? = some v → Value.okWide Try.prog W .any base t v := hval0
  have hW' := hW
  obtain ⟨p, q, hA0, hV, rfl, hfz, hnd⟩ := hW
  have hA : DataW.TrodAll enc Try.prog W 0 (fun _ => true) true Try.f7.params.toList args.toList ds p := hA0
  rw [Try.params7] at hA hval
  obtain ⟨v0, vs0, d0, ds0, p0, q0, hargs, rfl, rfl, h0, r0⟩ := trodAll_cons hA
  obtain ⟨v1, vs1, d1, ds1, p1, q1, rfl, rfl, rfl, h1, r1⟩ := trodAll_cons r0
  obtain ⟨rfl, rfl, rfl⟩ := trodAll_nil r1
  obtain rfl : args = #[v0, v1] := by cases args; simp_all
  obtain ⟨rfl, rfl⟩ := trodVars_none hV
  have lt0 : ∀ x ∈ p0, x.block < W.heap.size := by obtain ⟨m, hm⟩ := h0; exact DataW.trod_lt m _ _ _ hm
  obtain ⟨B0, m0, d0, l0, z0, v0, rfl, hc0, hz0, hv0⟩ := opened_moved h0
  have lt1 : ∀ x ∈ p1, x.block < W.heap.size := by obtain ⟨m, hm⟩ := h1; exact DataW.trod_lt m _ _ _ hm
  obtain ⟨a1, len1, cap1, k1, l9, rfl, hr1, hf1⟩ := opened_sorts h1
  clear hA0 hval0
  refine (walk B0 m0 d0 l0 z0 v0 a1 len1 cap1 k1 l9 W hc0 hz0 hv0 hr1 hf1).mono fun e W' ⟨he, bel⟩ => ?_
  subst he
  exact ⟨_, rfl, _, _, _, [], _, [], hW', trodAll_mk1 (shut_bool Try.underlying4 _), (trodAll_cons_mk (Below.trod laidOut (by kernel_rfl) (of_decide_eq_true (by kernel_rfl)) h0 bel lt0) (trodAll_cons_mk (Below.trod laidOut (by kernel_rfl) (of_decide_eq_true (by kernel_rfl)) h1 bel lt1) trodAll_mk0)), rfl, bel.frame _, fun h => by cases h⟩

theorem over : Rows.groundsMoveRow.holds Try.pinned (OpenSpec.ofChange Rows.groundsMoveSpec) :=
  OpenClaim.holds_of_wide 7 Try.f7 rfl rfl rfl rfl rfl rfl rfl ⟨rfl, rfl, rfl, rfl, rfl⟩ rfl rfl rfl rfl rfl (by kernel_rfl) Try.func7 (by kernel_rfl)
    (of_decide_eq_true (by kernel_rfl)) (by unfold Func.isWrapper; first | (rw [if_pos (by decide +kernel)]; kernel_rfl) | (rw [if_neg (by decide +kernel)]; exact ⟨rfl, rfl⟩))
    (fun os started H enc _ => lifted os started H enc)

theorem proved : Rows.GroundsMoveSaid := over
#print axioms proved

end Go.Proofs.Ytlcbcggcmmlfdaa.groundsMove
