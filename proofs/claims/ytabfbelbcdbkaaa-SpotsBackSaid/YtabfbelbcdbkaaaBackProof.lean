/- Proved: whatever the nodes and the terms, SpotsBack answers true: what is put stands at the spots, which are the same else; a body with its own terms put is itself; the arguments stay as they were. No condition. -/
import Derived.Test.YtabfbelbcdbkaaaSpBack
import Derived.Test.YtabfbelbcdbkaaaOpenNd
import Derived.Test.YtabfbelbcdbkaaaRows
namespace Go.Proofs.Ytabfbelbcdbkaaa.spotsBack
open Go.ChangeShapes Go.WideShapes Go.ChangeAt Go.RowKit

theorem own : ownKnob Try.prog.godebug = none := by kernel_rfl
theorem laidOut : laidOutB Try.prog = true := by kernel_rfl


theorem terms_rs (A : Option Addr) (n c : Nat) (l : List Sp) (W : World) (h : Rs spc 5 W W.heap.size A n c l) (hn : n ≤ 1000) :
    Calls Try.prog 11 #[.slice A n c] W fun e w' => ∃ A' c', e = .returned (.slice A' n c') ∧ Rs tmc 2 w' w'.heap.size A' n c' (l.map Sp.t) ∧ Below W.heap.size W w' := by
  refine (termsOf_any A n c _ l W h (Nat.le_refl _) hn).mono ?_
  rintro e w' ⟨A', N, c', rfl, ho, hb⟩
  have hl := h.len
  have hN := rs_own_len tmc_len (by decide) ho
  rw [List.length_map] at hN
  obtain rfl : N = n := by omega
  exact ⟨A', c', rfl, Rs.of_own tmc_len (by decide) ho, hb⟩

theorem put_rs (A A1 A2 : Option Addr) (n c n1 c1 n2 c2 : Nat) (l : List Nd) (ts us : List Tm) (m : List Nd) (W : World) (hr : Ns W W.heap.size A n c l) (hf : ∀ x ∈ l, x.Fits) (h1 : Rs tmc 2 W W.heap.size A1 n1 c1 ts) (h2 : Rs tmc 2 W W.heap.size A2 n2 c2 us)
    (hc : checkB l = 0) (e1 : ts.length = (labB l).length) (e2 : us.length = (effB l).length) (hm : putB l ts us = m) :
    Calls Try.prog 10 #[.slice A n c, .slice A1 n1 c1, .slice A2 n2 c2] W fun e w' => ∃ A' c', e = .returned (.tuple #[.slice A' n c', .int .i64 0]) ∧ Ns w' w'.heap.size A' n c' m ∧ Below W.heap.size W w' := by
  have h4 : putR l ts us = 0 := by unfold putR; rw [if_neg (by simp [hc]), if_pos ⟨e1, e2⟩]
  have h5 : putV l ts us = m := by unfold putV; rw [h4, if_pos rfl, hm]
  have := put_any A A1 A2 n c n1 c1 n2 c2 l ts us W hr hf h1 h2
  rw [h4, h5] at this
  refine this.mono ?_
  rintro e w' ⟨A', k, c', rfl, ho, hb⟩
  have hN := rs_own_len ndc_len (by decide) ho
  have hl := hr.len
  have ha := (alks_putB l ts us).len
  rw [hm] at ha
  obtain rfl : k = n := by omega
  exact ⟨A', c', rfl, Rs.of_own ndc_len (by decide) ho, hb⟩

set_option maxRecDepth 100000 in
set_option maxHeartbeats 8000000 in
theorem walk (A : Option Addr) (n c : Nat) (l : List Nd) (Az : Option Addr) (m cz : Nat) (zs : List Tm) (w : World) (h : Ns w w.heap.size A n c l) (hf : ∀ x ∈ l, x.Fits) (h2 : Rs tmc 2 w w.heap.size Az m cz zs) :
    Calls Try.prog 3 #[.slice A n c, .slice Az m cz] w fun e w' => e = .returned (.bool true) ∧ Below w.heap.size w w' := by
  have HL := Lib.hid h.len
  have HF := Lib.hid hf
  clear hf
  have hb := Below.refl w.heap.size w
  by_cases a0 : 300 < n
  · have a0' : (300 : Int) < (n : Int) := by omega
    clear h h2
    go_enter Try.func3, Try.ntmps3
    go_wp2_with fail
    refine (alive_any _).mono ?_
    rintro e wz ⟨rfl, hbz⟩
    replace hb := hb.trans (hbz.mono hb.size)
    clear hbz
    go_wp2_with fail
    go_ret
    exact ⟨rfl, hb⟩
  have a0' : ¬ (300 : Int) < (n : Int) := by omega
  by_cases a1 : m = 0
  · subst a1
    clear h h2
    go_enter Try.func3, Try.ntmps3
    go_wp2_with fail
    refine (alive_any _).mono ?_
    rintro e wz ⟨rfl, hbz⟩
    replace hb := hb.trans (hbz.mono hb.size)
    clear hbz
    go_wp2_with fail
    go_ret
    exact ⟨rfl, hb⟩
  have a1' : ((m : Int) == 0) = false := by simp; omega
  obtain ⟨r, hr⟩ : ∃ x, checkB l = x := ⟨_, rfl⟩
  have HC := Lib.hid hr
  by_cases hc : r = 0
  case neg =>
    have hne : ((r : Int) != 0) = true := by simp; omega
    clear hr hc h2
    go_enter Try.func3, Try.ntmps3
    go_wp2_with fail
    refine (check_lit _ _ _ l r _ h HF.out HC.out).mono ?_
    rintro e w1 ⟨rfl, hb1⟩
    replace hb := hb.trans (hb1.mono hb.size)
    clear hb1 h
    go_wp2_with fail
    refine (alive_any _).mono ?_
    rintro e wz ⟨rfl, hbz⟩
    replace hb := hb.trans (hbz.mono hb.size)
    clear hbz
    go_wp2_with fail
    go_ret
    exact ⟨rfl, hb⟩
  subst hc
  obtain ⟨ls, hls⟩ : ∃ x, labB l = x := ⟨_, rfl⟩
  obtain ⟨es, hes⟩ : ∃ x, effB l = x := ⟨_, rfl⟩
  have HLS := Lib.hid hls
  have HES := Lib.hid hes
  obtain ⟨kl, hkl⟩ : ∃ x, ls.length = x := ⟨_, rfl⟩
  obtain ⟨ke, hke⟩ : ∃ x, es.length = x := ⟨_, rfl⟩
  have HKL := Lib.hid hkl
  have HKE := Lib.hid hke
  have hk256 : kl ≤ 256 := by have := labB_len l; rw [hls, hkl] at this; exact this
  have he256 : ke ≤ 128 := by have := effB_len l; rw [hes, hke] at this; exact this
  have HOWN : Hid (putB l (ls.map Sp.t) (es.map Sp.t) = l) := Lib.hid (by rw [← hls, ← hes]; exact putB_own hr)
  clear hls hes hkl hke hr
  have HN0 := Lib.hid h
  have HLZ := Lib.hid h2.len
  have htop := h2.top
  have hcap := h2.cap
  unfold maxLen at htop
  obtain ⟨bz, oz, rfl, hbz, hzc⟩ := h2.spot (by omega)
  have HZC : Hid (∀ W, Below w.heap.size w W → ∀ j (h : j < zs.length), W.cell? ⟨bz, oz + j * 2, none⟩ = some (.bool zs[j].1) ∧ W.cell? ⟨bz, oz + j * 2 + 1, none⟩ = some (.int .u64 zs[j].2)) :=
    Lib.hid fun W hW j hj => ⟨(hW.cell (p := ⟨bz, oz + j * 2, none⟩) hbz).trans (hzc j hj 0 _ rfl), (hW.cell (p := ⟨bz, oz + j * 2 + 1, none⟩) hbz).trans (hzc j hj 1 _ rfl)⟩
  clear h h2 hzc hbz
  have r1 : ¬ (m : Int) = 0 := by omega
  go_enter Try.func3, Try.ntmps3
  go_wp2_with fail
  refine (check_lit _ _ _ l 0 _ HN0.out HF.out HC.out).mono ?_
  rintro e w1 ⟨rfl, hb1⟩
  replace hb := hb.trans (hb1.mono hb.size)
  clear hb1
  go_wp2_with fail
  refine (of_len A n c l ls es kl ke _ ((HN0.out.below hb).mono hb.size) HF.out HLS.out HES.out HKL.out HKE.out).mono ?_
  rintro e w2 ⟨A1, c1, A2, c2, rfl, hT⟩
  have hbase := hb.size
  obtain ⟨base, hbs⟩ : ∃ x, x = w1.heap.size := ⟨_, rfl⟩
  have o1 := hT.o1
  have o2 := hT.o2
  have AP := Lib.hid hT.ap
  replace hb := hb.trans (hT.bel.mono hb.size)
  have hsb := hT.bel.size
  rw [← hbs] at o1 o2 hbase hsb
  clear hT hbs
  go_wp2_with fail
  refine (terms_rs _ _ _ ls _ (Rs.of_own spc_len (by decide) o1) (by omega)).mono ?_
  rintro e w3 ⟨At, ct, rfl, rt, hv⟩
  replace hb := hb.trans (hv.mono hb.size)
  replace o1 := own_behind o1 hv
  replace hsb := Nat.le_trans hsb hv.size
  replace o2 := own_behind o2 hv
  clear hv
  go_wp2_with fail
  refine (terms_rs _ _ _ es _ (Rs.of_own spc_len (by decide) o2) (by omega)).mono ?_
  rintro e w4 ⟨Au, cu, rfl, ru, hv⟩
  replace hb := hb.trans (hv.mono hb.size)
  replace o1 := own_behind o1 hv
  replace hsb := Nat.le_trans hsb hv.size
  replace o2 := own_behind o2 hv
  replace rt := rt.at_size (Nat.le_refl _) hv
  clear hv
  go_wp2_with fail
  refine (put_rs _ _ _ _ _ _ _ _ _ l (ls.map Sp.t) (es.map Sp.t) l _ ((HN0.out.below hb).mono hb.size) HF.out rt ru HC.out (by rw [List.length_map, HLS.out]) (by rw [List.length_map, HES.out]) HOWN.out).mono ?_
  rintro e w5 ⟨Ao, co, rfl, ro, hv⟩
  replace hb := hb.trans (hv.mono hb.size)
  replace o1 := own_behind o1 hv
  replace hsb := Nat.le_trans hsb hv.size
  replace o2 := own_behind o2 hv
  clear hv rt ru
  go_wp2_with fail
  refine (sameNodes_any _ _ _ _ _ _ _ l _ ro ((HN0.out.below hb).mono hb.size)).mono ?_
  rintro e wB ⟨rfl, hv⟩
  replace hb := hb.trans (hv.mono hb.size)
  replace o1 := own_behind o1 hv
  replace hsb := Nat.le_trans hsb hv.size
  replace o2 := own_behind o2 hv
  clear hv ro
  obtain ⟨ta, hta⟩ : ∃ x, turnT zs 0 kl = x := ⟨_, rfl⟩
  obtain ⟨tb, htb⟩ : ∃ x, turnT zs 1 ke = x := ⟨_, rfl⟩
  have HTAL : Hid (ta.length = kl) := Lib.hid (by rw [← hta, turnT_len])
  have HTBL : Hid (tb.length = ke) := Lib.hid (by rw [← htb, turnT_len])
  have HTA : Hid (∀ i (h : i < ta.length) (hj : i % m < zs.length), ta[i] = zs[i % m]) := Lib.hid (by
    subst hta
    intro i h hj
    have := turnT_at (zs := zs) (d := 0) (k := kl) h (by rw [HLZ.out, Nat.add_zero]; rw [HLZ.out] at hj; exact hj)
    simp only [HLZ.out, Nat.add_zero] at this
    exact this)
  have HTB : Hid (∀ i (h : i < tb.length) (hj : (i + 1) % m < zs.length), tb[i] = zs[(i + 1) % m]) := Lib.hid (by
    subst htb
    intro i h hj
    have := turnT_at (zs := zs) (d := 1) (k := ke) h (by rw [HLZ.out]; rw [HLZ.out] at hj; exact hj)
    simp only [HLZ.out] at this
    exact this)
  clear hta htb
  have HB1 := Lib.hid hb
  have HO1 := Lib.hid o1
  have HX1 := Lib.hid o2
  clear hb o1 o2
  go_wp2
  go_loopw [9, 11] (fun v9 v11 wr => BkRel wB base A1 kl c1 ls ta v9 v11 wr) (fun _ v11 _ => kl - (intOf v11).toNat)
  case atStart => exact ⟨0, none, 0, 0, rfl, rfl, Nat.zero_le _, World.ownsRow_nil _ _ _ _, by rw [mix_zero]; exact HO1.out, Kept.refl _ _⟩
  case round =>
    obtain ⟨i, Aa, N, ca, rfl, rfl, hi, hoa, hol, hk⟩ := hrel
    have hbr : Below w.heap.size w wr := HB1.out.trans ((hk.below (B := base) hsb fun b e => (own_block HO1.out e).1).mono hbase)
    have hwB : w.heap.size ≤ wB.heap.size := HB1.out.size
    by_cases hlt : i < kl
    · have hlen : ta.length = ls.length := by rw [HTAL.out, HKL.out]
      have hil : i < (mix ls ta i).length := by rw [mix_len hlen, HKL.out]; exact hlt
      obtain ⟨g, rfl, hgb, hgl, hgc, hgf⟩ := own_spot hol hil
      have hgB : g < wB.heap.size := (own_block HO1.out rfl).2.1
      have hits : i < ta.length := by rw [HTAL.out]; exact hlt
      have hmd : i % m < m := Nat.mod_lt _ (by omega)
      have hj0 : i % m < zs.length := by rw [HLZ.out]; exact hmd
      have e1 := HTA.out i hits hj0
      have HT2 : Hid (∀ W, Below w.heap.size w W → W.cell? ⟨bz, oz + i % m * 2, none⟩ = some (.bool ta[i].1) ∧ W.cell? ⟨bz, oz + i % m * 2 + 1, none⟩ = some (.int .u64 ta[i].2)) := Lib.hid fun W hW => by
        rw [e1]
        exact HZC.out W hW _ hj0
      have HSET : Hid (∀ t, ta[i] = t → (mix ls ta i).set i ((mix ls ta i)[i].re t) = mix ls ta (i + 1)) := Lib.hid fun t et => by
        subst et
        exact mix_step hlen (by rw [HKL.out]; exact hlt) hil
      have HS : Hid (∀ t, ta[i] = t → ta.take i ++ [t] = ta.take (i + 1)) := Lib.hid fun t et => by
        subst et
        exact (List.take_succ_eq_append_getElem hits).symm
      obtain ⟨t, ht⟩ : ∃ t, ta[i] = t := ⟨_, rfl⟩
      replace HSET := Lib.hid (HSET.out t ht)
      replace HS := Lib.hid (HS.out t ht)
      rw [ht] at HT2
      clear e1 ht hj0
      obtain ⟨tv, tz⟩ := t
      simp only at HT2 HSET HS
      have HM0 : Hid ((i : Int) % (m : Int) = ((i % m : Nat) : Int)) := Lib.hid (by rw [Int.natCast_emod])
      generalize i % m = j0 at *
      obtain ⟨t0, t1⟩ := HT2.out wr hbr
      have hN := rs_own_len tmc_len (by decide) hoa
      rw [List.length_take] at hN
      have hN1 : N + 1 ≤ 100000 := by omega
      have d3 := hgc 3 _ rfl
      have d4 := hgc 4 _ rfl
      have f3 := hgf (i * 5 + 3)
      have f4 := hgf (i * 5 + 4)
      have HRE : Hid (∀ W : World, W.heap[g]? = wr.heap[g]? → W.ownsRow base 40 5 (.slice (some ⟨g, 0, none⟩) kl c1) kl ((mix ls ta i).flatMap spc)) := Lib.hid fun W hW => own_blk hol fun g' e => by
        have : g = g' := by simpa [Value.ownBlock] using e
        subst this
        exact hW
      have HOLD : Hid (∀ W : World, W.heap[g]? = wr.heap[g]? → (W.cell? ⟨g, i * 5 + 3, none⟩ = some (.bool (mix ls ta i)[i].v) ∧ W.cell? ⟨g, i * 5 + 4, none⟩ = some (.int .u64 (mix ls ta i)[i].z)) ∧ W.frozen? ⟨g, i * 5 + 3, none⟩ = false ∧ W.frozen? ⟨g, i * 5 + 4, none⟩ = false) :=
        Lib.hid fun W hW => ⟨⟨(World.cell?_of_block (a := ⟨g, i * 5 + 3, none⟩) hW).trans d3, (World.cell?_of_block (a := ⟨g, i * 5 + 4, none⟩) hW).trans d4⟩, (World.frozen?_of_block (a := ⟨g, i * 5 + 3, none⟩) hW).trans f3, (World.frozen?_of_block (a := ⟨g, i * 5 + 4, none⟩) hW).trans f4⟩
      clear d3 d4 f3 f4
      have HO := Lib.hid (show Rs tmc 2 (wr.alloc (.cells #[.bool tv, .int .u64 tz] 36)) (wr.alloc (.cells #[.bool tv, .int .u64 tz] 36)).heap.size (some ⟨wr.heap.size, 0, none⟩) 1 1 [(tv, tz)] from Rs.of_blk tmc_len (heap_alloc_new wr _) ⟨[], rfl⟩ rfl (Nat.le_refl _) (by unfold maxLen; omega))
      have hal : Below wr.heap.size wr (wr.alloc (.cells #[.bool tv, .int .u64 tz] 36)) := (Below.refl _ _).alloc (Nat.le_refl _) _
      have HW := Lib.hid (own_behind hoa hal)
      have hsz : wB.heap.size ≤ (wr.alloc (.cells #[.bool tv, .int .u64 tz] 36)).heap.size := Nat.le_trans hk.size hal.size
      have HAL := Lib.hid (hal.mono hk.size)
      have HKK := Lib.hid hk
      have HBR := Lib.hid hbr
      clear hN hgc hgf hoa hol hk hal hbr hlen hits
      go_wp2_with (first | (rw [HM0.out]) | (refine wpList_append_rs tmc_len (by decide) tmc_one Try.underlying23 tm_inf rfl (by decide) rfl (.tmp 59) (.tmp 67) rfl wB.heap.size _ N _ rfl HW.out _ _ 1 1 [(tv, tz)] rfl HO.out hN1 hsz ?_; intro A' k' c' w' HK HA; have hgr := HAL.out.grown HA.out.grown hsz (fun j hj => (HW.out.lt j hj).1); have hblk := hgr.block g hgB; have HGR := Lib.hid hgr; obtain ⟨⟨d3, d4⟩, f3, f4⟩ := HOLD.out w' hblk; obtain ⟨t0', t1'⟩ := HT2.out w' (HBR.out.trans (hgr.mono hwB)); have HBLK := Lib.hid hblk; clear hgr hblk))
      have hne : (Value.slice A' k' c').ownBlock ≠ some g := fun e => by have := (own_block HA.out.own e).1; omega
      go_roundw
      case rel => exact ⟨i + 1, A', k', c', by go_num, rfl, by omega, by rw [← HS.out]; exact own_setOther (own_setOther HA.out.own hne _) hne _, by rw [← HSET.out]; exact own_re (HRE.out w' HBLK.out) _ (tv, tz), ((HKK.out.on HGR.out).setCell (p := ⟨g, i * 5 + 3, none⟩) (.inl rfl) _).setCell (p := ⟨g, i * 5 + 4, none⟩) (.inl rfl) _⟩
      case measure => simp [intOf]; omega
    · obtain rfl : i = kl := by omega
      rw [mix_all (by rw [HKL.out]; exact Nat.le_refl _) (by rw [HTAL.out]; exact Nat.le_refl _)] at hol
      rw [List.take_of_length_le (by rw [HTAL.out]; exact Nat.le_refl _)] at hoa
      obtain rfl : N = i := by have := rs_own_len tmc_len (by decide) hoa; rw [HTAL.out] at this; exact this.symm
      have hb := hbr
      have o1 := hol
      have o2 := own_blk HX1.out (fun g' e => hk.block g' (own_block HX1.out e).2.1 fun d => AP.out g' d e)
      replace hsb := Nat.le_trans hsb hk.size
      have HAP : Hid (∀ q, (Value.slice Aa N ca).ownBlock = some q → (Value.slice A2 ke c2).ownBlock ≠ some q) := Lib.hid fun q e1 e2 => by
        have g1 := (own_block hoa e1).1
        have g2 := (own_block HX1.out e2).2.1
        omega
      have HA0 := Lib.hid hoa
      obtain ⟨wC, hwC⟩ : ∃ x, x = wr := ⟨_, rfl⟩
      rw [← hwC] at hb o1 o2 hsb HA0 ⊢
      clear hoa hol hk hbr hwB hwC hlt hi HB1 HO1 HX1 HTA
      have HB2 := Lib.hid hb
      have HO2 := Lib.hid o2
      have HX2 := Lib.hid o1
      clear hb o1 o2
      go_wp2
      go_loopw [10, 12] (fun v9 v11 wr => BkRel wC base A2 ke c2 es tb v9 v11 wr) (fun _ v11 _ => ke - (intOf v11).toNat)
      case atStart => exact ⟨0, none, 0, 0, rfl, rfl, Nat.zero_le _, World.ownsRow_nil _ _ _ _, by rw [mix_zero]; exact HO2.out, Kept.refl _ _⟩
      case round =>
        obtain ⟨i, Ab, N_b, cb, rfl, rfl, hi, hoa, hol, hk⟩ := hrel
        have hbr : Below w.heap.size w wr := HB2.out.trans ((hk.below (B := base) hsb fun b e => (own_block HO2.out e).1).mono hbase)
        have hwB : w.heap.size ≤ wC.heap.size := HB2.out.size
        by_cases hlt : i < ke
        · have hlen : tb.length = es.length := by rw [HTBL.out, HKE.out]
          have hil : i < (mix es tb i).length := by rw [mix_len hlen, HKE.out]; exact hlt
          obtain ⟨g, rfl, hgb, hgl, hgc, hgf⟩ := own_spot hol hil
          have hgB : g < wC.heap.size := (own_block HO2.out rfl).2.1
          have hits : i < tb.length := by rw [HTBL.out]; exact hlt
          have hmd : (i + 1) % m < m := Nat.mod_lt _ (by omega)
          have hj0 : (i + 1) % m < zs.length := by rw [HLZ.out]; exact hmd
          have e1 := HTB.out i hits hj0
          have HT2 : Hid (∀ W, Below w.heap.size w W → W.cell? ⟨bz, oz + (i + 1) % m * 2, none⟩ = some (.bool tb[i].1) ∧ W.cell? ⟨bz, oz + (i + 1) % m * 2 + 1, none⟩ = some (.int .u64 tb[i].2)) := Lib.hid fun W hW => by
            rw [e1]
            exact HZC.out W hW _ hj0
          have HSET : Hid (∀ t, tb[i] = t → (mix es tb i).set i ((mix es tb i)[i].re t) = mix es tb (i + 1)) := Lib.hid fun t et => by
            subst et
            exact mix_step hlen (by rw [HKE.out]; exact hlt) hil
          have HS : Hid (∀ t, tb[i] = t → tb.take i ++ [t] = tb.take (i + 1)) := Lib.hid fun t et => by
            subst et
            exact (List.take_succ_eq_append_getElem hits).symm
          obtain ⟨t, ht⟩ : ∃ t, tb[i] = t := ⟨_, rfl⟩
          replace HSET := Lib.hid (HSET.out t ht)
          replace HS := Lib.hid (HS.out t ht)
          rw [ht] at HT2
          clear e1 ht hj0
          obtain ⟨tv, tz⟩ := t
          simp only at HT2 HSET HS
          have HM0 : Hid (((i : Int) + 1) % (m : Int) = (((i + 1) % m : Nat) : Int)) := Lib.hid (by rw [Int.natCast_emod]; rfl)
          generalize (i + 1) % m = j0 at *
          obtain ⟨t0, t1⟩ := HT2.out wr hbr
          have hN := rs_own_len tmc_len (by decide) hoa
          rw [List.length_take] at hN
          have hN1 : N_b + 1 ≤ 100000 := by omega
          have d3 := hgc 3 _ rfl
          have d4 := hgc 4 _ rfl
          have f3 := hgf (i * 5 + 3)
          have f4 := hgf (i * 5 + 4)
          have HRE : Hid (∀ W : World, W.heap[g]? = wr.heap[g]? → W.ownsRow base 40 5 (.slice (some ⟨g, 0, none⟩) ke c2) ke ((mix es tb i).flatMap spc)) := Lib.hid fun W hW => own_blk hol fun g' e => by
            have : g = g' := by simpa [Value.ownBlock] using e
            subst this
            exact hW
          have HOLD : Hid (∀ W : World, W.heap[g]? = wr.heap[g]? → (W.cell? ⟨g, i * 5 + 3, none⟩ = some (.bool (mix es tb i)[i].v) ∧ W.cell? ⟨g, i * 5 + 4, none⟩ = some (.int .u64 (mix es tb i)[i].z)) ∧ W.frozen? ⟨g, i * 5 + 3, none⟩ = false ∧ W.frozen? ⟨g, i * 5 + 4, none⟩ = false) :=
            Lib.hid fun W hW => ⟨⟨(World.cell?_of_block (a := ⟨g, i * 5 + 3, none⟩) hW).trans d3, (World.cell?_of_block (a := ⟨g, i * 5 + 4, none⟩) hW).trans d4⟩, (World.frozen?_of_block (a := ⟨g, i * 5 + 3, none⟩) hW).trans f3, (World.frozen?_of_block (a := ⟨g, i * 5 + 4, none⟩) hW).trans f4⟩
          clear d3 d4 f3 f4
          have HO := Lib.hid (show Rs tmc 2 (wr.alloc (.cells #[.bool tv, .int .u64 tz] 36)) (wr.alloc (.cells #[.bool tv, .int .u64 tz] 36)).heap.size (some ⟨wr.heap.size, 0, none⟩) 1 1 [(tv, tz)] from Rs.of_blk tmc_len (heap_alloc_new wr _) ⟨[], rfl⟩ rfl (Nat.le_refl _) (by unfold maxLen; omega))
          have hal : Below wr.heap.size wr (wr.alloc (.cells #[.bool tv, .int .u64 tz] 36)) := (Below.refl _ _).alloc (Nat.le_refl _) _
          have HW := Lib.hid (own_behind hoa hal)
          have hsz : wC.heap.size ≤ (wr.alloc (.cells #[.bool tv, .int .u64 tz] 36)).heap.size := Nat.le_trans hk.size hal.size
          have HAL := Lib.hid (hal.mono hk.size)
          have HKK := Lib.hid hk
          have HBR := Lib.hid hbr
          clear hN hgc hgf hoa hol hk hal hbr hlen hits
          go_wp2_with (first | (rw [HM0.out]) | (refine wpList_append_rs tmc_len (by decide) tmc_one Try.underlying23 tm_inf rfl (by decide) rfl (.tmp 86) (.tmp 95) rfl wC.heap.size _ N_b _ rfl HW.out _ _ 1 1 [(tv, tz)] rfl HO.out hN1 hsz ?_; intro A' k' c' w' HK HA; have hgr := HAL.out.grown HA.out.grown hsz (fun j hj => (HW.out.lt j hj).1); have hblk := hgr.block g hgB; have HGR := Lib.hid hgr; obtain ⟨⟨d3, d4⟩, f3, f4⟩ := HOLD.out w' hblk; obtain ⟨t0', t1'⟩ := HT2.out w' (HBR.out.trans (hgr.mono hwB)); have HBLK := Lib.hid hblk; clear hgr hblk))
          have hne : (Value.slice A' k' c').ownBlock ≠ some g := fun e => by have := (own_block HA.out.own e).1; omega
          go_roundw
          case rel => exact ⟨i + 1, A', k', c', by go_num, rfl, by omega, by rw [← HS.out]; exact own_setOther (own_setOther HA.out.own hne _) hne _, by rw [← HSET.out]; exact own_re (HRE.out w' HBLK.out) _ (tv, tz), ((HKK.out.on HGR.out).setCell (p := ⟨g, i * 5 + 3, none⟩) (.inl rfl) _).setCell (p := ⟨g, i * 5 + 4, none⟩) (.inl rfl) _⟩
          case measure => simp [intOf]; omega
        · obtain rfl : i = ke := by omega
          rw [mix_all (by rw [HKE.out]; exact Nat.le_refl _) (by rw [HTBL.out]; exact Nat.le_refl _)] at hol
          rw [List.take_of_length_le (by rw [HTBL.out]; exact Nat.le_refl _)] at hoa
          obtain rfl : N_b = i := by have := rs_own_len tmc_len (by decide) hoa; rw [HTBL.out] at this; exact this.symm
          have hb := hbr
          have o2 := hol
          have o1 := own_blk HX2.out (fun g' e => hk.block g' (own_block HX2.out e).2.1 fun d => AP.out g' e d)
          have oa := own_blk HA0.out (fun g' e => hk.block g' (own_block HA0.out e).2.1 fun d => HAP.out g' e d)
          clear hol hk hbr hwB hlt hi HB2 HO2 HX2 HTB HA0 HAP AP hsb
          have RA := Rs.of_own tmc_len (by decide) oa
          have RB := Rs.of_own tmc_len (by decide) hoa
          have RL := Rs.of_own spc_len (by decide) o1
          have RX := Rs.of_own spc_len (by decide) o2
          clear oa hoa o1 o2
          have hlta : ta.length = (labB l).length := by rw [HTAL.out, HLS.out, HKL.out]
          have hltb : tb.length = (effB l).length := by rw [HTBL.out, HES.out, HKE.out]
          obtain ⟨p, hp⟩ : ∃ x, putB l ta tb = x := ⟨_, rfl⟩
          have HP := Lib.hid hp
          have HPF : Hid (∀ x ∈ p, x.Fits) := Lib.hid (by rw [← hp]; exact fits_putB ta tb HF.out)
          have HPS : Hid (sameB l p = true) := Lib.hid (by rw [← hp]; exact putB_same l ta tb)
          have HPL : Hid (labB p = List.zipWith Sp.re ls ta) := Lib.hid (by rw [← hp, putB_lab HC.out hlta, HLS.out])
          have HPE : Hid (effB p = List.zipWith Sp.re es tb) := Lib.hid (by rw [← hp, putB_eff HC.out hltb, HES.out])
          have HLA := Lib.hid hlta
          have HLB := Lib.hid hltb
          have HZL := Lib.hid RL.len
          have HZX := Lib.hid RX.len
          clear hp hlta hltb
          go_wp2_with fail
          refine (put_rs _ _ _ _ _ _ _ _ _ l ta tb p _ ((HN0.out.below hb).mono hb.size) HF.out RA RB HC.out HLA.out HLB.out HP.out).mono ?_
          rintro e w6 ⟨Ap, cp, rfl, ro, hv⟩
          replace hb := hb.trans (hv.mono hb.size)
          replace RL := RL.at_size (Nat.le_refl _) hv
          replace RX := RX.at_size (Nat.le_refl _) hv
          clear hv RA RB
          go_wp2_with fail
          refine (of_len _ _ _ p _ _ _ _ _ ro HPF.out HPL.out HPE.out HZL.out HZX.out).mono ?_
          rintro e w7 ⟨A5, c5, A6, c6, rfl, hT⟩
          replace hb := hb.trans (hT.bel.mono hb.size)
          replace RL := RL.at_size (Nat.le_refl _) hT.bel
          replace RX := RX.at_size (Nat.le_refl _) hT.bel
          replace ro := ro.at_size (Nat.le_refl _) hT.bel
          have R5 := hT.r1
          have R6 := hT.r2
          clear hT
          go_wp2_with fail
          refine (alive_any _).mono ?_
          rintro e w8 ⟨rfl, hv⟩
          replace hb := hb.trans (hv.mono hb.size)
          replace RL := RL.at_size (Nat.le_refl _) hv
          replace RX := RX.at_size (Nat.le_refl _) hv
          replace ro := ro.at_size (Nat.le_refl _) hv
          replace R5 := R5.at_size (Nat.le_refl _) hv
          replace R6 := R6.at_size (Nat.le_refl _) hv
          clear hv
          go_wp2_with fail
          refine (same_lit' _ _ _ _ _ _ l p true _ ((HN0.out.below hb).mono hb.size) ro HPS.out).mono ?_
          rintro e w9 ⟨rfl, hv⟩
          replace hb := hb.trans (hv.mono hb.size)
          replace RL := RL.at_size (Nat.le_refl _) hv
          replace RX := RX.at_size (Nat.le_refl _) hv
          replace R5 := R5.at_size (Nat.le_refl _) hv
          replace R6 := R6.at_size (Nat.le_refl _) hv
          clear hv ro
          go_wp2_with fail
          refine (sameSpots_any _ _ _ _ _ _ _ _ _ RL R5).mono ?_
          rintro e w10 ⟨rfl, hv⟩
          replace hb := hb.trans (hv.mono hb.size)
          replace RX := RX.at_size (Nat.le_refl _) hv
          replace R6 := R6.at_size (Nat.le_refl _) hv
          clear hv RL R5
          go_wp2_with fail
          refine (sameSpots_any _ _ _ _ _ _ _ _ _ RX R6).mono ?_
          rintro e w11 ⟨rfl, hv⟩
          replace hb := hb.trans (hv.mono hb.size)
          clear hv RX R6
          go_wp2_with fail
          go_ret
          exact ⟨rfl, hb⟩

set_option maxRecDepth 100000 in
theorem lifted (os : Os) (started : os.Started) (H : Type) (enc : TypeId × Value → H) :
    ReturnsInHanded {} Try.checked os 3 .any (Rows.spotsBackSpec.pre6 enc Try.prog Try.f3 Rows.spotsBackRow.domain false) (Rows.spotsBackSpec.post enc Try.prog Try.f3 false true false false) := by
  refine returnsInHanded_of_change (C := Try.checked) own started (by kernel_rfl) Try.func3
    (ChangeSpec.witness6 (enc := enc) (C := Try.checked) false ⟨#[], #[.slice none 0 0, .slice none 0 0], []⟩ 8 (by kernel_rfl) (by kernel_rfl) (by kernel_rfl) (by kernel_rfl)) ?_
  intro W base args ds gs before hval0 hW hcnd _
  have hval : ∀ (j : Nat) t v, Try.f3.params[j]? = some t → args[j]? = some v → Value.okWide Try.prog W .any base t v := hval0
  have hW' := hW
  obtain ⟨p, q, hA0, hV, rfl, hfz, hnd⟩ := hW
  have hA : DataW.TrodAll enc Try.prog W 0 (fun _ => true) true Try.f3.params.toList args.toList ds p := hA0
  rw [Try.params3] at hA hval
  obtain ⟨v0, vs0, d0, ds0, p0, q0, hargs, rfl, rfl, h0, r0⟩ := trodAll_cons hA
  obtain ⟨v1, vs1, d1, ds1, p1, q1, rfl, rfl, rfl, h1, r1⟩ := trodAll_cons r0
  obtain ⟨rfl, rfl, rfl⟩ := trodAll_nil r1
  obtain rfl : args = #[v0, v1] := by cases args; simp_all
  obtain ⟨rfl, rfl⟩ := trodVars_none hV
  obtain ⟨a0, len0, cap0, rfl⟩ := okWide_slice Try.underlying22 (hval 0 22 v0 rfl rfl)
  have lt0 : ∀ x ∈ p0, x.block < W.heap.size := by obtain ⟨m, hm⟩ := h0; exact DataW.trod_lt m _ _ _ hm
  obtain ⟨l0, hr0, hf0⟩ := opened_nodes h0
  obtain ⟨a1, len1, cap1, rfl⟩ := okWide_slice Try.underlying23 (hval 1 23 v1 rfl rfl)
  have lt1 : ∀ x ∈ p1, x.block < W.heap.size := by obtain ⟨m, hm⟩ := h1; exact DataW.trod_lt m _ _ _ hm
  obtain ⟨l1, hr1⟩ := opened_terms h1
  clear hA0 hval0
  refine (walk a0 len0 cap0 l0 a1 len1 cap1 l1 W hr0 hf0 hr1).mono fun e W' ⟨he, bel⟩ => ?_
  subst he
  exact ⟨_, rfl, _, _, _, [], _, [], hW', trodAll_mk1 (shut_bool Try.underlying4 _), (trodAll_cons_mk (Below.trod laidOut (by kernel_rfl) (of_decide_eq_true (by kernel_rfl)) h0 bel lt0) (trodAll_cons_mk (Below.trod laidOut (by kernel_rfl) (of_decide_eq_true (by kernel_rfl)) h1 bel lt1) trodAll_mk0)), rfl, bel.frame _, fun h => by cases h⟩

theorem over : Rows.spotsBackRow.holds Try.pinned (OpenSpec.ofChange Rows.spotsBackSpec) :=
  OpenClaim.holds_of_wide 3 Try.f3 rfl rfl rfl rfl rfl rfl rfl ⟨rfl, rfl, rfl, rfl, rfl⟩ rfl rfl rfl rfl rfl (by kernel_rfl) Try.func3 (by kernel_rfl)
    (of_decide_eq_true (by kernel_rfl)) (by unfold Func.isWrapper; first | (rw [if_pos (by decide +kernel)]; kernel_rfl) | (rw [if_neg (by decide +kernel)]; exact ⟨rfl, rfl⟩))
    (fun os started H enc _ => lifted os started H enc)

theorem proved : Rows.SpotsBackSaid := over
#print axioms proved

end Go.Proofs.Ytabfbelbcdbkaaa.spotsBack
