/- Proved: whatever the nodes, and whichever one is put ahead, SpotsBelow answers true: below a ref all spots go both; below a tuple they go as they would alone; so does a function's result, and its argument's spots go turned; the argument stays as it was. No condition. -/
import Derived.Test.YtabfbelbcdbkaaaSpBelow
import Derived.Test.YtabfbelbcdbkaaaLaw2
import Derived.Test.YtabfbelbcdbkaaaOpenNd
import Derived.Test.YtabfbelbcdbkaaaRows
namespace Go.Proofs.Ytabfbelbcdbkaaa.spotsBelow
open Go.ChangeShapes Go.WideShapes Go.ChangeAt Go.RowKit

theorem own : ownKnob Try.prog.godebug = none := by kernel_rfl
theorem laidOut : laidOutB Try.prog = true := by kernel_rfl


theorem u8_nat {a : Int} (h : (Lit.int .u8 a).wf = true) : ∃ x : Nat, a = (x : Int) ∧ x < 256 := by
  obtain ⟨h1, h2⟩ := u8_fits h
  exact ⟨a.toNat, by omega, by omega⟩

set_option maxRecDepth 100000 in
set_option maxHeartbeats 4000000 in
theorem walk (A : Option Addr) (n c : Nat) (l : List Nd) (z : Nat) (w : World) (h : Ns w w.heap.size A n c l) (hf : ∀ x ∈ l, x.Fits) (hz : z < 256) :
    Calls Try.prog 5 #[.slice A n c, .int .u8 (z : Int)] w fun e w' => e = .returned (.bool true) ∧ Below w.heap.size w w' := by
  have HL := Lib.hid h.len
  have HF := Lib.hid hf
  clear hf
  have hb := Below.refl w.heap.size w
  by_cases a0 : 120 < n
  · have a0' : (120 : Int) < (n : Int) := by omega
    clear h
    go_enter Try.func5, Try.ntmps5
    go_wp2_with fail
    refine (alive_any _).mono ?_
    rintro e wz ⟨rfl, hbz⟩
    replace hb := hb.trans (hbz.mono hb.size)
    clear hbz
    go_wp2_with fail
    go_ret
    exact ⟨rfl, hb⟩
  have a0' : ¬ (120 : Int) < (n : Int) := by omega
  obtain ⟨r, hr⟩ : ∃ x, checkB l = x := ⟨_, rfl⟩
  have HC := Lib.hid hr
  by_cases hc : r = 0
  case neg =>
    have hne : ((r : Int) != 0) = true := by simp; omega
    clear hr hc hb
    go_enter Try.func5, Try.ntmps5
    go_wp2_with fail
    refine (check_lit _ _ _ l r _ h HF.out HC.out).mono ?_
    rintro e w1 ⟨rfl, hb⟩
    replace h := h.at_size (Nat.le_refl _) hb
    go_wp2_with fail
    refine (alive_any _).mono ?_
    rintro e wz ⟨rfl, hbz⟩
    replace hb := hb.trans (hbz.mono hb.size)
    clear hbz
    go_wp2_with fail
    go_ret
    exact ⟨rfl, hb⟩
  subst hc
  obtain ⟨D, hD0⟩ : ∃ x, F.top (depB l) = x := ⟨_, rfl⟩
  have HD := Lib.hid hD0
  clear hD0
  by_cases a1 : 15 < D
  · have a1' : (15 : Int) < (D : Int) := by omega
    clear hr hb
    go_enter Try.func5, Try.ntmps5
    go_wp2_with fail
    refine (check_lit _ _ _ l 0 _ h HF.out HC.out).mono ?_
    rintro e w1 ⟨rfl, hb⟩
    replace h := h.at_size (Nat.le_refl _) hb
    go_wp2_with fail
    refine (deep_lit _ _ _ l D _ h HF.out HD.out).mono ?_
    rintro e w2 ⟨rfl, hb2⟩
    replace h := h.at_size (Nat.le_refl _) hb2
    replace hb := hb.trans (hb2.mono hb.size)
    clear hb2
    go_wp2_with fail
    refine (alive_any _).mono ?_
    rintro e wz ⟨rfl, hbz⟩
    replace hb := hb.trans (hbz.mono hb.size)
    clear hbz
    go_wp2_with fail
    go_ret
    exact ⟨rfl, hb⟩
  have a1' : ¬ (15 : Int) < (D : Int) := by omega
  have hmod : ((z : Int) % 4) = ((z % 4 : Nat) : Int) := by omega
  have hr4 : z % 4 = 0 ∨ z % 4 = 1 ∨ z % 4 = 2 ∨ z % 4 = 3 := by omega
  obtain ⟨ls, hls⟩ : ∃ x, labB l = x := ⟨_, rfl⟩
  obtain ⟨es, hes⟩ : ∃ x, effB l = x := ⟨_, rfl⟩
  have HLS := Lib.hid hls
  have HES := Lib.hid hes
  obtain ⟨kl, hkl⟩ : ∃ x, ls.length = x := ⟨_, rfl⟩
  obtain ⟨ke, hke⟩ : ∃ x, es.length = x := ⟨_, rfl⟩
  have HKL := Lib.hid hkl
  have HKE := Lib.hid hke
  have hk256 : kl ≤ 256 := by have := labB_len l; rw [hls, hkl] at this; exact this
  clear hls hes hkl hke hr hb
  go_enter Try.func5, Try.ntmps5
  go_wp2_with fail
  refine (check_lit _ _ _ l 0 _ h HF.out HC.out).mono ?_
  rintro e w1 ⟨rfl, hb⟩
  replace h := h.at_size (Nat.le_refl _) hb
  go_wp2_with fail
  refine (deep_lit _ _ _ l D _ h HF.out HD.out).mono ?_
  rintro e w2 ⟨rfl, hb2⟩
  replace h := h.at_size (Nat.le_refl _) hb2
  replace hb := hb.trans (hb2.mono hb.size)
  clear hb2
  go_wp2_with fail
  refine (of_len A n c l ls es kl ke _ h HF.out HLS.out HES.out HKL.out HKE.out).mono ?_
  rintro e w3 ⟨Av, cv, Au, cu, rfl, hT⟩
  have r1 := hT.r1
  replace h := h.at_size (Nat.le_refl _) hT.bel
  replace hb := hb.trans (hT.bel.mono hb.size)
  clear hT
  rcases hr4 with hr | hr | hr | hr <;> rw [hr] at hmod
  · have hal : Below w3.heap.size w3 (w3.alloc oRef) := (Below.refl _ _).alloc (Nat.le_refl _) _
    have HO := Lib.hid (own_of_blk (l := [nRef]) (n := 1) (heap_alloc_new w3 oRef) (Nat.le_refl _) rfl rfl (by unfold maxLen; omega))
    have hbo := h.at_size (Nat.le_refl _) hal
    go_wp2_with (refine wpList_append_nd rfl (.tmp 37) (.tmp 38) rfl w3.heap.size _ 1 [nRef] rfl HO.out _ A n c l rfl hbo (by omega) hal.size ?_; intro A1 k1 c1 u1 HK HA)
    have hgr := hal.grown HA.out.grown hal.size fun j hj => (HO.out.lt j hj).1
    have hL : Ns u1 u1.heap.size A1 k1 c1 ([nRef] ++ l) := Rs.of_own ndc_len (by decide) HA.out.own
    replace r1 := r1.at_size (Nat.le_refl _) hgr
    replace hb := hb.trans (hgr.mono hb.size)
    clear hgr
    have hlen : ([nRef] ++ l).length ≤ 128 := by have := HL.out; simp only [List.length_append, List.length_cons, List.length_nil]; omega
    have hput := (put_facts (L := [nRef] ++ l) HC.out put0).2.2 hlen (by rw [HD.out]; omega)
    have HFF : Hid (∀ y ∈ [nRef] ++ l, y.Fits) := Lib.hid (fits_app (fits_cons fits_ref fits_nil) HF.out)
    have HBI : Hid (BelowIs l (labB ([nRef] ++ l)) 1 (fun _ => 2)) := Lib.hid (below0 HC.out hput.1)
    obtain ⟨ms, hms⟩ : ∃ x, labB ([nRef] ++ l) = x := ⟨_, rfl⟩
    rw [hms] at HBI
    have HMS := Lib.hid hms
    obtain ⟨nm, hnm⟩ : ∃ x, ms.length = x := ⟨_, rfl⟩
    have HNM := Lib.hid hnm
    have hm256 : nm ≤ 256 := by have := labB_len ([nRef] ++ l); rw [hms, hnm] at this; exact this
    have hskip : 1 + kl ≤ nm := by have := HBI.out.len; rw [HLS.out, HKL.out, HNM.out] at this; exact this
    clear hlen hput hms hnm
    go_wp2_with fail
    refine (of_len _ _ _ _ ms _ nm _ _ hL HFF.out HMS.out rfl HNM.out rfl).mono ?_
    rintro e w9 ⟨Am, cm, Ax, cx, rfl, hT⟩
    have r2 := hT.r1
    replace r1 := r1.at_size (Nat.le_refl _) hT.bel
    replace hb := hb.trans (hT.bel.mono hb.size)
    have R1 := Lib.hid r1
    have R2 := Lib.hid r2
    have HB := Lib.hid hb
    clear hT hL r1 r2 hb
    have hnl : ¬ (nm : Int) < 1 + (kl : Int) := by omega
    go_wp2
    go_loopw [11] (fun v11 wr => LfRel kl w9 v11 wr) (fun v11 _ => kl - (intOf v11).toNat)
    case atStart => exact ⟨0, 0, rfl, by omega, rfl⟩
    case round =>
      obtain ⟨k, q, rfl, hk, rfl⟩ := hrel
      by_cases hlt : k < kl
      · have hk1 : k < (labB l).length := by rw [HLS.out, HKL.out]; exact hlt
        obtain ⟨hj, ep, es'⟩ := HBI.out.spot k hk1
        have hle := labB_le l _ (List.getElem_mem hk1)
        have R1' := R1.out
        rw [← HLS.out] at R1'
        obtain ⟨b, o, rfl, -, s0, s1, s2, s3, s4⟩ := spot_at R1' hk1
        obtain ⟨b2, o2, rfl, -, t0, t1, t2, t3, t4⟩ := spot_at R2.out hj
        rw [ep] at t1
        rw [es'] at t2
        clear t0 t3 t4 ep es' R1' s0 s3 s4 hnl
        generalize (labB l)[k] = x at *
        obtain ⟨xn, xp, xs, xv, xz⟩ := x
        simp only at s1 s2 t1 t2 hle
        obtain ⟨j, hj'⟩ : ∃ j, k + 1 = j := ⟨_, rfl⟩
        rw [hj'] at t1 t2 hj
        have hjm : j < nm := by rw [← HNM.out]; exact hj
        have hwj : IntKind.i64.wrap ((1 : Int) + (k : Int)) = (j : Int) := by rw [IntKind.wrap_i64]; omega
        have HJ := Lib.hid hj'
        clear hj hj' hk1
        go_wp2
        go_quiet (fail)
        go_wp2
        go_roundw
        case rel => exact ⟨k + 1, _, by go_num, by omega, rfl⟩
        case measure => simp [intOf]; omega
      · obtain rfl : k = kl := by omega
        have hb := HB.out.trans ((below_drewN w9 q).mono HB.out.size)
        clear hnl
        go_wp2_with fail
        refine (alive_any _).mono ?_
        rintro e wz ⟨rfl, hbz⟩
        replace hb := hb.trans (hbz.mono hb.size)
        clear hbz
        go_wp2_with fail
        go_ret
        exact ⟨rfl, hb⟩
  · go_wp2_with fail
    refine (whole_any _).mono ?_
    rintro e w4 ⟨rfl, hv⟩
    replace hb := hb.trans (hv.mono hb.size)
    replace h := h.at_size (Nat.le_refl _) hv
    replace r1 := r1.at_size (Nat.le_refl _) hv
    clear hv
    have hal : Below w4.heap.size w4 (w4.alloc oTup) := (Below.refl _ _).alloc (Nat.le_refl _) _
    have HO := Lib.hid (own_of_blk (l := [nTup, nInt]) (n := 2) (heap_alloc_new w4 oTup) (Nat.le_refl _) rfl rfl (by unfold maxLen; omega))
    have hbo := h.at_size (Nat.le_refl _) hal
    go_wp2_with (refine wpList_append_nd rfl (.tmp 44) (.tmp 45) rfl w4.heap.size _ 2 [nTup, nInt] rfl HO.out _ A n c l rfl hbo (by omega) hal.size ?_; intro A1 k1 c1 u1 HK HA)
    have hgr := hal.grown HA.out.grown hal.size fun j hj => (HO.out.lt j hj).1
    have hL : Ns u1 u1.heap.size A1 k1 c1 ([nTup, nInt] ++ l) := Rs.of_own ndc_len (by decide) HA.out.own
    replace r1 := r1.at_size (Nat.le_refl _) hgr
    replace hb := hb.trans (hgr.mono hb.size)
    clear hgr
    have hlen : ([nTup, nInt] ++ l).length ≤ 128 := by have := HL.out; simp only [List.length_append, List.length_cons, List.length_nil]; omega
    have hput := (put_facts (L := [nTup, nInt] ++ l) HC.out put1).2.2 hlen (by rw [HD.out]; omega)
    have HFF : Hid (∀ y ∈ [nTup, nInt] ++ l, y.Fits) := Lib.hid (fits_app (fits_cons fits_tup (fits_cons fits_int fits_nil)) HF.out)
    have HBI : Hid (BelowIs l (labB ([nTup, nInt] ++ l)) 2 (fun s => s)) := Lib.hid (below1 HC.out hput.1)
    obtain ⟨ms, hms⟩ : ∃ x, labB ([nTup, nInt] ++ l) = x := ⟨_, rfl⟩
    rw [hms] at HBI
    have HMS := Lib.hid hms
    obtain ⟨nm, hnm⟩ : ∃ x, ms.length = x := ⟨_, rfl⟩
    have HNM := Lib.hid hnm
    have hm256 : nm ≤ 256 := by have := labB_len ([nTup, nInt] ++ l); rw [hms, hnm] at this; exact this
    have hskip : 2 + kl ≤ nm := by have := HBI.out.len; rw [HLS.out, HKL.out, HNM.out] at this; exact this
    clear hlen hput hms hnm
    go_wp2_with fail
    refine (of_len _ _ _ _ ms _ nm _ _ hL HFF.out HMS.out rfl HNM.out rfl).mono ?_
    rintro e w9 ⟨Am, cm, Ax, cx, rfl, hT⟩
    have r2 := hT.r1
    replace r1 := r1.at_size (Nat.le_refl _) hT.bel
    replace hb := hb.trans (hT.bel.mono hb.size)
    have R1 := Lib.hid r1
    have R2 := Lib.hid r2
    have HB := Lib.hid hb
    clear hT hL r1 r2 hb
    have hnl : ¬ (nm : Int) < 2 + (kl : Int) := by omega
    go_wp2
    go_loopw [11] (fun v11 wr => LfRel kl w9 v11 wr) (fun v11 _ => kl - (intOf v11).toNat)
    case atStart => exact ⟨0, 0, rfl, by omega, rfl⟩
    case round =>
      obtain ⟨k, q, rfl, hk, rfl⟩ := hrel
      by_cases hlt : k < kl
      · have hk1 : k < (labB l).length := by rw [HLS.out, HKL.out]; exact hlt
        obtain ⟨hj, ep, es'⟩ := HBI.out.spot k hk1
        have hle := labB_le l _ (List.getElem_mem hk1)
        have R1' := R1.out
        rw [← HLS.out] at R1'
        obtain ⟨b, o, rfl, -, s0, s1, s2, s3, s4⟩ := spot_at R1' hk1
        obtain ⟨b2, o2, rfl, -, t0, t1, t2, t3, t4⟩ := spot_at R2.out hj
        rw [ep] at t1
        rw [es'] at t2
        clear t0 t3 t4 ep es' R1' s0 s3 s4 hnl
        generalize (labB l)[k] = x at *
        obtain ⟨xn, xp, xs, xv, xz⟩ := x
        simp only at s1 s2 t1 t2 hle
        obtain ⟨j, hj'⟩ : ∃ j, k + 2 = j := ⟨_, rfl⟩
        rw [hj'] at t1 t2 hj
        have hjm : j < nm := by rw [← HNM.out]; exact hj
        have hwj : IntKind.i64.wrap ((2 : Int) + (k : Int)) = (j : Int) := by rw [IntKind.wrap_i64]; omega
        have HJ := Lib.hid hj'
        clear hj hj' hk1
        go_wp2
        go_quiet (fail)
        go_wp2
        go_roundw
        case rel => exact ⟨k + 1, _, by go_num, by omega, rfl⟩
        case measure => simp [intOf]; omega
      · obtain rfl : k = kl := by omega
        have hb := HB.out.trans ((below_drewN w9 q).mono HB.out.size)
        clear hnl
        go_wp2_with fail
        refine (alive_any _).mono ?_
        rintro e wz ⟨rfl, hbz⟩
        replace hb := hb.trans (hbz.mono hb.size)
        clear hbz
        go_wp2_with fail
        go_ret
        exact ⟨rfl, hb⟩
  · go_wp2_with fail
    refine (fun_any _).mono ?_
    rintro e w4 ⟨rfl, hv⟩
    replace hb := hb.trans (hv.mono hb.size)
    replace h := h.at_size (Nat.le_refl _) hv
    replace r1 := r1.at_size (Nat.le_refl _) hv
    clear hv
    go_wp2_with fail
    refine (whole_any _).mono ?_
    rintro e w5 ⟨rfl, hv⟩
    replace hb := hb.trans (hv.mono hb.size)
    replace h := h.at_size (Nat.le_refl _) hv
    replace r1 := r1.at_size (Nat.le_refl _) hv
    clear hv
    have hal : Below w5.heap.size w5 (w5.alloc oFi) := (Below.refl _ _).alloc (Nat.le_refl _) _
    have HO := Lib.hid (own_of_blk (l := [nFun, nInt]) (n := 2) (heap_alloc_new w5 oFi) (Nat.le_refl _) rfl rfl (by unfold maxLen; omega))
    have hbo := h.at_size (Nat.le_refl _) hal
    go_wp2_with (refine wpList_append_nd rfl (.tmp 51) (.tmp 52) rfl w5.heap.size _ 2 [nFun, nInt] rfl HO.out _ A n c l rfl hbo (by omega) hal.size ?_; intro A1 k1 c1 u1 HK HA)
    have hgr := hal.grown HA.out.grown hal.size fun j hj => (HO.out.lt j hj).1
    have hL : Ns u1 u1.heap.size A1 k1 c1 ([nFun, nInt] ++ l) := Rs.of_own ndc_len (by decide) HA.out.own
    replace r1 := r1.at_size (Nat.le_refl _) hgr
    replace hb := hb.trans (hgr.mono hb.size)
    clear hgr
    have hlen : ([nFun, nInt] ++ l).length ≤ 128 := by have := HL.out; simp only [List.length_append, List.length_cons, List.length_nil]; omega
    have hput := (put_facts (L := [nFun, nInt] ++ l) HC.out put2).2.2 hlen (by rw [HD.out]; omega)
    have HFF : Hid (∀ y ∈ [nFun, nInt] ++ l, y.Fits) := Lib.hid (fits_app (fits_cons fits_fun (fits_cons fits_int fits_nil)) HF.out)
    have HBI : Hid (BelowIs l (labB ([nFun, nInt] ++ l)) 3 (fun s => s)) := Lib.hid (below2 HC.out hput.1)
    obtain ⟨ms, hms⟩ : ∃ x, labB ([nFun, nInt] ++ l) = x := ⟨_, rfl⟩
    rw [hms] at HBI
    have HMS := Lib.hid hms
    obtain ⟨nm, hnm⟩ : ∃ x, ms.length = x := ⟨_, rfl⟩
    have HNM := Lib.hid hnm
    have hm256 : nm ≤ 256 := by have := labB_len ([nFun, nInt] ++ l); rw [hms, hnm] at this; exact this
    have hskip : 3 + kl ≤ nm := by have := HBI.out.len; rw [HLS.out, HKL.out, HNM.out] at this; exact this
    clear hlen hput hms hnm
    go_wp2_with fail
    refine (of_len _ _ _ _ ms _ nm _ _ hL HFF.out HMS.out rfl HNM.out rfl).mono ?_
    rintro e w9 ⟨Am, cm, Ax, cx, rfl, hT⟩
    have r2 := hT.r1
    replace r1 := r1.at_size (Nat.le_refl _) hT.bel
    replace hb := hb.trans (hT.bel.mono hb.size)
    have R1 := Lib.hid r1
    have R2 := Lib.hid r2
    have HB := Lib.hid hb
    clear hT hL r1 r2 hb
    have hnl : ¬ (nm : Int) < 3 + (kl : Int) := by omega
    go_wp2
    go_loopw [11] (fun v11 wr => LfRel kl w9 v11 wr) (fun v11 _ => kl - (intOf v11).toNat)
    case atStart => exact ⟨0, 0, rfl, by omega, rfl⟩
    case round =>
      obtain ⟨k, q, rfl, hk, rfl⟩ := hrel
      by_cases hlt : k < kl
      · have hk1 : k < (labB l).length := by rw [HLS.out, HKL.out]; exact hlt
        obtain ⟨hj, ep, es'⟩ := HBI.out.spot k hk1
        have hle := labB_le l _ (List.getElem_mem hk1)
        have R1' := R1.out
        rw [← HLS.out] at R1'
        obtain ⟨b, o, rfl, -, s0, s1, s2, s3, s4⟩ := spot_at R1' hk1
        obtain ⟨b2, o2, rfl, -, t0, t1, t2, t3, t4⟩ := spot_at R2.out hj
        rw [ep] at t1
        rw [es'] at t2
        clear t0 t3 t4 ep es' R1' s0 s3 s4 hnl
        generalize (labB l)[k] = x at *
        obtain ⟨xn, xp, xs, xv, xz⟩ := x
        simp only at s1 s2 t1 t2 hle
        obtain ⟨j, hj'⟩ : ∃ j, k + 3 = j := ⟨_, rfl⟩
        rw [hj'] at t1 t2 hj
        have hjm : j < nm := by rw [← HNM.out]; exact hj
        have hwj : IntKind.i64.wrap ((3 : Int) + (k : Int)) = (j : Int) := by rw [IntKind.wrap_i64]; omega
        have HJ := Lib.hid hj'
        clear hj hj' hk1
        go_wp2
        go_quiet (fail)
        go_wp2
        go_roundw
        case rel => exact ⟨k + 1, _, by go_num, by omega, rfl⟩
        case measure => simp [intOf]; omega
      · obtain rfl : k = kl := by omega
        have hb := HB.out.trans ((below_drewN w9 q).mono HB.out.size)
        clear hnl
        go_wp2_with fail
        refine (alive_any _).mono ?_
        rintro e wz ⟨rfl, hbz⟩
        replace hb := hb.trans (hbz.mono hb.size)
        clear hbz
        go_wp2_with fail
        go_ret
        exact ⟨rfl, hb⟩
  · go_wp2_with fail
    refine (fun_any _).mono ?_
    rintro e w4 ⟨rfl, hv⟩
    replace hb := hb.trans (hv.mono hb.size)
    replace h := h.at_size (Nat.le_refl _) hv
    replace r1 := r1.at_size (Nat.le_refl _) hv
    clear hv
    have hal : Below w4.heap.size w4 (w4.alloc oF) := (Below.refl _ _).alloc (Nat.le_refl _) _
    have HO := Lib.hid (own_of_blk (l := [nFun]) (n := 1) (heap_alloc_new w4 oF) (Nat.le_refl _) rfl rfl (by unfold maxLen; omega))
    have hbo := h.at_size (Nat.le_refl _) hal
    go_wp2_with (refine wpList_append_nd rfl (.tmp 57) (.tmp 58) rfl w4.heap.size _ 1 [nFun] rfl HO.out _ A n c l rfl hbo (by omega) hal.size ?_; intro A0 k0 c0 u0 HK0 HA0)
    have hgr0 := hal.grown HA0.out.grown hal.size fun j hj => (HO.out.lt j hj).1
    have hsz0 := hgr0.size
    clear hbo
    refine (whole_any _).mono ?_
    rintro e w5 ⟨rfl, hv⟩
    have ho3 := own_behind HA0.out.own hv
    have hgr1 := hgr0.trans (hv.mono hgr0.size)
    clear hgr0
    have hsz1 := hgr1.size
    have hnw := Rs.of_blk (l := [nInt]) (n := 1) (c := 1) ndc_len (heap_alloc_new w5 oOne) ⟨[], rfl⟩ rfl (Nat.le_refl _) (by unfold maxLen; omega)
    have hal3 : Below w4.heap.size w4 (w5.alloc oOne) := hgr1.alloc hgr1.size _
    have HO3 := Lib.hid (own_behind (w' := w5.alloc oOne) ho3 ((Below.refl _ _).alloc (Nat.le_refl _) _))
    clear ho3
    go_wp2_with (refine wpList_append_nd rfl (.tmp 59) (.tmp 61) rfl w4.heap.size _ k0 ([nFun] ++ l) rfl HO3.out _ _ 1 1 [nInt] rfl hnw (by have := HK0.out; omega) hal3.size ?_; intro A1 k1 c1 u1 HK HA)
    have hgr := hal3.grown HA.out.grown hal3.size fun j hj => (HO3.out.lt j hj).1
    have hL : Ns u1 u1.heap.size A1 k1 c1 ([nFun] ++ l ++ [nInt]) := Rs.of_own ndc_len (by decide) HA.out.own
    replace r1 := r1.at_size (Nat.le_refl _) hgr
    replace hb := hb.trans (hgr.mono hb.size)
    clear hgr
    have hlen : ([nFun] ++ l ++ [nInt]).length ≤ 128 := by have := HL.out; simp only [List.length_append, List.length_cons, List.length_nil]; omega
    have hput := (put_facts (L := [nFun] ++ l ++ [nInt]) HC.out put3).2.2 hlen (by rw [HD.out]; omega)
    have HFF : Hid (∀ y ∈ [nFun] ++ l ++ [nInt], y.Fits) := Lib.hid (fits_app (fits_app (fits_cons fits_fun fits_nil) HF.out) (fits_cons fits_int fits_nil))
    have HBI : Hid (BelowIs l (labB ([nFun] ++ l ++ [nInt])) 2 turnS) := Lib.hid (below3 HC.out hput.1)
    obtain ⟨ms, hms⟩ : ∃ x, labB ([nFun] ++ l ++ [nInt]) = x := ⟨_, rfl⟩
    rw [hms] at HBI
    have HMS := Lib.hid hms
    obtain ⟨nm, hnm⟩ : ∃ x, ms.length = x := ⟨_, rfl⟩
    have HNM := Lib.hid hnm
    have hm256 : nm ≤ 256 := by have := labB_len ([nFun] ++ l ++ [nInt]); rw [hms, hnm] at this; exact this
    have hskip : 2 + kl ≤ nm := by have := HBI.out.len; rw [HLS.out, HKL.out, HNM.out] at this; exact this
    clear hlen hput hms hnm
    go_wp2_with fail
    refine (of_len _ _ _ _ ms _ nm _ _ hL HFF.out HMS.out rfl HNM.out rfl).mono ?_
    rintro e w9 ⟨Am, cm, Ax, cx, rfl, hT⟩
    have r2 := hT.r1
    replace r1 := r1.at_size (Nat.le_refl _) hT.bel
    replace hb := hb.trans (hT.bel.mono hb.size)
    have R1 := Lib.hid r1
    have R2 := Lib.hid r2
    have HB := Lib.hid hb
    clear hT hL r1 r2 hb
    have hnl : ¬ (nm : Int) < 2 + (kl : Int) := by omega
    go_wp2
    go_loopw [11] (fun v11 wr => LfRel kl w9 v11 wr) (fun v11 _ => kl - (intOf v11).toNat)
    case atStart => exact ⟨0, 0, rfl, by omega, rfl⟩
    case round =>
      obtain ⟨k, q, rfl, hk, rfl⟩ := hrel
      by_cases hlt : k < kl
      · have hk1 : k < (labB l).length := by rw [HLS.out, HKL.out]; exact hlt
        obtain ⟨hj, ep, es'⟩ := HBI.out.spot k hk1
        have hle := labB_le l _ (List.getElem_mem hk1)
        have R1' := R1.out
        rw [← HLS.out] at R1'
        obtain ⟨b, o, rfl, -, s0, s1, s2, s3, s4⟩ := spot_at R1' hk1
        obtain ⟨b2, o2, rfl, -, t0, t1, t2, t3, t4⟩ := spot_at R2.out hj
        rw [ep] at t1
        rw [es'] at t2
        clear t0 t3 t4 ep es' R1' s0 s3 s4 hnl
        generalize (labB l)[k] = x at *
        obtain ⟨xn, xp, xs, xv, xz⟩ := x
        simp only at s1 s2 t1 t2 hle
        obtain ⟨j, hj'⟩ : ∃ j, k + 2 = j := ⟨_, rfl⟩
        rw [hj'] at t1 t2 hj
        have hjm : j < nm := by rw [← HNM.out]; exact hj
        have hwj : IntKind.i64.wrap ((2 : Int) + (k : Int)) = (j : Int) := by rw [IntKind.wrap_i64]; omega
        have HJ := Lib.hid hj'
        clear hj hj' hk1
        have h3 : xs = 0 ∨ xs = 1 ∨ xs = 2 := by omega
        clear hle
        rcases h3 with rfl | rfl | rfl
        · rw [show turnS 0 = 1 from rfl] at t2
          go_wp2
          go_quiet (fail)
          go_wp2
          go_roundw
          case rel => exact ⟨k + 1, _, by go_num, by omega, rfl⟩
          case measure => simp [intOf]; omega
        · rw [show turnS 1 = 0 from rfl] at t2
          go_wp2
          go_quiet (fail)
          go_wp2
          go_roundw
          case rel => exact ⟨k + 1, _, by go_num, by omega, rfl⟩
          case measure => simp [intOf]; omega
        · rw [show turnS 2 = 2 from rfl] at t2
          go_wp2
          go_quiet (fail)
          go_wp2
          go_roundw
          case rel => exact ⟨k + 1, _, by go_num, by omega, rfl⟩
          case measure => simp [intOf]; omega
      · obtain rfl : k = kl := by omega
        have hb := HB.out.trans ((below_drewN w9 q).mono HB.out.size)
        clear hnl
        go_wp2_with fail
        refine (alive_any _).mono ?_
        rintro e wz ⟨rfl, hbz⟩
        replace hb := hb.trans (hbz.mono hb.size)
        clear hbz
        go_wp2_with fail
        go_ret
        exact ⟨rfl, hb⟩

set_option maxRecDepth 100000 in
theorem lifted (os : Os) (started : os.Started) (H : Type) (enc : TypeId × Value → H) :
    ReturnsInHanded {} Try.checked os 5 .any (Rows.spotsBelowSpec.pre6 enc Try.prog Try.f5 Rows.spotsBelowRow.domain false) (Rows.spotsBelowSpec.post enc Try.prog Try.f5 false true false false) := by
  refine returnsInHanded_of_change (C := Try.checked) own started (by kernel_rfl) Try.func5
    (ChangeSpec.witness6 (enc := enc) (C := Try.checked) false ⟨#[], #[.slice none 0 0, .int .u8 0], []⟩ 8 (by kernel_rfl) (by kernel_rfl) (by kernel_rfl) (by kernel_rfl)) ?_
  intro W base args ds gs before hval0 hW hcnd _
  have hval : ∀ (j : Nat) t v, Try.f5.params[j]? = some t → args[j]? = some v → Value.okWide Try.prog W .any base t v := hval0
  have hW' := hW
  obtain ⟨p, q, hA0, hV, rfl, hfz, hnd⟩ := hW
  have hA : DataW.TrodAll enc Try.prog W 0 (fun _ => true) true Try.f5.params.toList args.toList ds p := hA0
  rw [Try.params5] at hA hval
  obtain ⟨v0, vs0, d0, ds0, p0, q0, hargs, rfl, rfl, h0, r0⟩ := trodAll_cons hA
  obtain ⟨v1, vs1, d1, ds1, p1, q1, rfl, rfl, rfl, h1, r1⟩ := trodAll_cons r0
  obtain ⟨rfl, rfl, rfl⟩ := trodAll_nil r1
  obtain rfl : args = #[v0, v1] := by cases args; simp_all
  obtain ⟨rfl, rfl⟩ := trodVars_none hV
  obtain ⟨a0, len0, cap0, rfl⟩ := okWide_slice Try.underlying22 (hval 0 22 v0 rfl rfl)
  have lt0 : ∀ x ∈ p0, x.block < W.heap.size := by obtain ⟨m, hm⟩ := h0; exact DataW.trod_lt m _ _ _ hm
  obtain ⟨l0, hr0, hf0⟩ := opened_nodes h0
  obtain ⟨x1, rfl, rfl, rfl, w1⟩ := open_int Try.underlying5 (hval 1 5 v1 rfl rfl) h1
  clear hA0 hval0
  have w1' := w1
  obtain ⟨y1, rfl, hy1⟩ := u8_nat w1
  refine (walk a0 len0 cap0 l0 y1 W hr0 hf0 hy1).mono fun e W' ⟨he, bel⟩ => ?_
  subst he
  exact ⟨_, rfl, _, _, _, [], _, [], hW', trodAll_mk1 (shut_bool Try.underlying4 _), (trodAll_cons_mk (Below.trod laidOut (by kernel_rfl) (of_decide_eq_true (by kernel_rfl)) h0 bel lt0) (trodAll_cons_mk (shut_int Try.underlying5 w1') trodAll_mk0)), rfl, bel.frame _, fun h => by cases h⟩

theorem over : Rows.spotsBelowRow.holds Try.pinned (OpenSpec.ofChange Rows.spotsBelowSpec) :=
  OpenClaim.holds_of_wide 5 Try.f5 rfl rfl rfl rfl rfl rfl rfl ⟨rfl, rfl, rfl, rfl, rfl⟩ rfl rfl rfl rfl rfl (by kernel_rfl) Try.func5 (by kernel_rfl)
    (of_decide_eq_true (by kernel_rfl)) (by unfold Func.isWrapper; first | (rw [if_pos (by decide +kernel)]; kernel_rfl) | (rw [if_neg (by decide +kernel)]; exact ⟨rfl, rfl⟩))
    (fun os started H enc _ => lifted os started H enc)

theorem proved : Rows.SpotsBelowSaid := over
#print axioms proved

end Go.Proofs.Ytabfbelbcdbkaaa.spotsBelow
