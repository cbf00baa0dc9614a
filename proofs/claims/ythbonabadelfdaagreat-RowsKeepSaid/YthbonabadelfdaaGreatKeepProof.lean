/- RowsKeep is true: where fixed spots' terms are constants, the scheme has the same senses. Condition: none but those of the statement. -/
import Derived.Test.YthbonabadelfdaaGreatLiv
import Derived.Test.YthbonabadelfdaaGreatRows
namespace Go.Proofs.YthbonabadelfdaaGreat
open Go.RowKit
open I (sd bb lw hg fixB valF)

theorem wh_toI {z : Sen} (h : wholeS z = true) : I.wholeS (toI z) = true := by
  obtain ⟨a1, a2, a3, a4, a5⟩ := whole_iff.1 h
  refine I.whole_iff.2 ⟨by simpa [toI] using a1, by simpa [toI] using a2, by simpa [toI] using a3, ?_, by simpa [toI] using a5⟩
  intro p hp
  simp only [toI, List.mem_map] at hp
  obtain ⟨x, hx, rfl⟩ := hp
  exact a4 x hx

/-! ### The terms, where fixed ones are constants -/
def fxP (S : Bo.Sr) (z : I.Sen) (i : Nat) (p : I.Sp) : Tm := if fixB S z i = true then (false, (valF z i : Int)) else (p.v, p.z)
def fxI (S : Bo.Sr) (z : I.Sen) : List Tm := z.p.mapIdx fun i p => fxP S z i p
theorem fxI_len (S : Bo.Sr) (z : I.Sen) : (fxI S z).length = z.p.length := by simp [fxI]
theorem fxI_toI (S : Bo.Sr) (z : Sen) : fxI S (toI z) = fxL S z := by
  apply List.ext_getElem (by simp [fxI, fxL, toI])
  intro i h1 h2
  simp only [fxI, fxL, List.getElem_mapIdx]
  unfold fxP fxT
  split
  · rfl
  · simp [toI, Sp.t]
theorem fxI_next {S : Bo.Sr} {z : I.Sen} {i : Nat} (h : i < z.p.length) : (fxI S z).take i ++ [fxP S z i z.p[i]] = (fxI S z).take (i + 1) := by
  rw [List.take_succ_eq_append_getElem (by rw [fxI_len]; exact h)]
  simp [fxI]

set_option maxRecDepth 100000 in
set_option maxHeartbeats 4000000 in
theorem fixedT_any (v : Value) (S : Bo.Sr) (z : I.Sen) (A1 : Option Addr) (n1 c1 : Nat) (A2 : Option Addr) (n2 c2 : Nat) (A3 : Option Addr) (n3 c3 : Nat) (A4 : Option Addr) (n4 c4 : Nat) (w : World) (hs : Bo.SrtIn w v S) (h : I.SenAt w z A1 n1 c1 A2 n2 c2 A3 n3 c3 A4 n4 c4) (hwh : I.wholeS z = true) (hn : n1 ≤ 1000) :
    Calls Tryz.prog 15 #[v, senV A1 n1 c1 A2 n2 c2 A3 n3 c3 A4 n4 c4] w fun e w' => ∃ A N c, e = .returned (.slice A N c) ∧ w'.ownsRow w.heap.size 44 2 (.slice A N c) N ((fxI S z).flatMap tmc) ∧ Below w.heap.size w w' := by
  have hz0 := I.ZB.of (heap_alloc_new w (.cells #[.slice A1 n1 c1, .slice A2 n2 c2, .slice A3 n3 c3, .slice A4 n4 c4] 28))
  have hb0 : Below w.heap.size w (w.alloc (.cells #[.slice A1 n1 c1, .slice A2 n2 c2, .slice A3 n3 c3, .slice A4 n4 c4] 28)) := (Below.refl _ _).alloc (Nat.le_refl _) _
  have HFX := Lib.hid (I.fixed_any v S z A1 n1 c1 A2 n2 c2 A3 n3 c3 A4 n4 c4 _ (hs.keep hb0) (h.keep hb0) (by omega))
  have HSW : Hid (∀ W, Below w.heap.size w W → I.SenAt W z A1 n1 c1 A2 n2 c2 A3 n3 c3 A4 n4 c4) := Lib.hid fun W hW => h.keep hW
  have HLEN := Lib.hid h.rp.len
  have HZ0 := Lib.hid hz0
  have HB0 := Lib.hid hb0
  have HN := Lib.hid hn
  have HWH := Lib.hid hwh
  have y0 := hz0.p0
  have y1 := hz0.p1
  have y2 := hz0.p2
  have y3 := hz0.p3
  clear hz0 hb0 h hn hs hwh
  unfold senV at HFX ⊢
  go_enter Tryz.func15, Tryz.ntmps15
  go_wp2_with fail
  refine HFX.out.mono ?_
  rintro e w1 ⟨A, n, c, B, m, d, rfl, hfx⟩
  have HB1 := Lib.hid (HB0.out.trans (hfx.1.mono HB0.out.size))
  have HZ1 := Lib.hid (HZ0.out.keep hfx.1)
  rcases hfx.2 with ⟨hw, -⟩ | ⟨hw, ga, gb, rfl, hnn, g2, rfl, g3, g4, hfa⟩
  · rw [HWH.out] at hw
    cases hw
  obtain rfl : n = n1 := by have := HLEN.out; omega
  obtain rfl : n = c := g2.symm
  obtain rfl : n = m := g3.symm
  obtain rfl : n = d := g4.symm
  have HFA := Lib.hid hfa
  clear hfx hw hnn hfa y0 y1 y2 y3 HFX HB0 HZ0 g2 g3 g4
  have y0 := HZ1.out.p0
  go_wp2_with fail
  clear y0
  go_loopw [7, 8] (fun v7 v8 wr => ∃ (i : Nat) (A : Option Addr) (N c : Nat), v8 = .int .i64 (i : Int) ∧ v7 = .slice A N c ∧ i ≤ n ∧ wr.ownsRow w1.heap.size 44 2 (.slice A N c) N (((fxI S z).take i).flatMap tmc) ∧ Below w1.heap.size w1 wr) (fun _ v8 _ => n - (intOf v8).toNat)
  case atStart => exact ⟨0, none, 0, 0, rfl, rfl, Nat.zero_le _, World.ownsRow_nil _ _ _ _, Below.refl _ _⟩
  case round =>
    obtain ⟨i, A5, N5, c5, rfl, rfl, hi, hown, hb⟩ := hrel
    have y0 := (HZ1.out.keep hb).p0
    by_cases hlt : i < n
    · have hsn := HSW.out w1 HB1.out
      have hip : i < z.p.length := by rw [HLEN.out]; exact hlt
      obtain ⟨p0, o0, rfl, -, -, -, -, e3, e4⟩ := I.spot_at hsn.rp hip
      have d0 := (cell_blk (i := i) HFA.out.a).trans (I.bcl_at (by rw [I.fxB_len]; exact hlt))
      have d1 := (cell_blk (i := i) HFA.out.b).trans (La.cl_at (by rw [I.fxV_len]; exact hlt))
      have q0 : (I.fxB S z n n)[i]'(by rw [I.fxB_len]; exact hlt) = fixB S z i := by simp [I.fxB, hlt]
      have q1 : (I.fxV S z n n)[i]'(by rw [I.fxV_len]; exact hlt) = if fixB S z i = true then valF z i else 0 := by simp [I.fxV, hlt]
      rw [q0] at d0
      rw [q1] at d1
      have hN := rs_own_len tmc_len (by decide) hown
      rw [List.length_take, fxI_len] at hN
      have hN1 : N5 + 1 ≤ 100000 := by have := HN.out; omega
      have HS := Lib.hid (fxI_next (S := S) hip)
      unfold fxP at HS
      generalize z.p[i] = sp at *
      obtain ⟨xn, xp, xs, xv, xz⟩ := sp
      simp only at e3 e4 HS
      obtain ⟨is, his⟩ : ∃ x, fixB S z i = x := ⟨_, rfl⟩
      rw [his] at d0 d1 HS
      obtain ⟨vf, hvf⟩ : ∃ x, valF z i = x := ⟨_, rfl⟩
      rw [hvf] at d1 HS
      have HLT := Lib.hid hlt
      have hin : (i : Int) < (n : Int) := by omega
      have hi9 : i ≤ 60000 := by have := HN.out; omega
      replace d0 := cell_old d0 hb
      replace e3 := cell_old e3 hb
      replace e4 := cell_old e4 hb
      replace d1 := cell_old d1 hb
      have HB := Lib.hid hb
      have HOWN := Lib.hid hown
      clear hi hlt hsn hip q0 q1 his hvf hN hb hown
      cases is with
      | true =>
        rw [if_pos rfl] at d1 HS
        have HO := Lib.hid (show Rs tmc 2 (wr.alloc (.cells #[.bool false, .int .u64 (vf : Int)] 44)) (wr.alloc (.cells #[.bool false, .int .u64 (vf : Int)] 44)).heap.size (some ⟨wr.heap.size, 0, none⟩) 1 1 [(false, (vf : Int))] from Rs.of_blk tmc_len (heap_alloc_new wr _) ⟨[], rfl⟩ rfl (Nat.le_refl _) (by unfold maxLen; omega))
        have HAL := Lib.hid (show Below wr.heap.size wr (wr.alloc (.cells #[.bool false, .int .u64 (vf : Int)] 44)) from (Below.refl _ _).alloc (Nat.le_refl _) _)
        have HW := Lib.hid (own_behind HOWN.out HAL.out)
        have hsz : w1.heap.size ≤ (wr.alloc (.cells #[.bool false, .int .u64 (vf : Int)] 44)).heap.size := Nat.le_trans HB.out.size HAL.out.size
        go_wp2_with (refine wpList_append_rs tmc_len (by decide) tmc_one Tryz.underlying58 tm_inf rfl (by decide) rfl (.tmp 38) (.tmp 44) rfl w1.heap.size _ N5 _ rfl HW.out _ _ 1 1 [(false, (vf : Int))] rfl HO.out hN1 hsz ?_; intro A' k' c' w' HK HA)
        go_roundw
        case rel => exact ⟨i + 1, A', k', c', by go_num, rfl, HLT.out, by rw [← HS.out]; exact HA.out.own, (HB.out.trans (HAL.out.mono HB.out.size)).grown HA.out.grown hsz fun j hj => (HW.out.lt j hj).1⟩
        case measure =>
          have := HLT.out
          simp [intOf]
          omega
      | false =>
        rw [if_neg (by decide)] at d1 HS
        have HO := Lib.hid (show Rs tmc 2 (wr.alloc (.cells #[.bool xv, .int .u64 xz] 44)) (wr.alloc (.cells #[.bool xv, .int .u64 xz] 44)).heap.size (some ⟨wr.heap.size, 0, none⟩) 1 1 [(xv, xz)] from Rs.of_blk tmc_len (heap_alloc_new wr _) ⟨[], rfl⟩ rfl (Nat.le_refl _) (by unfold maxLen; omega))
        have HAL := Lib.hid (show Below wr.heap.size wr (wr.alloc (.cells #[.bool xv, .int .u64 xz] 44)) from (Below.refl _ _).alloc (Nat.le_refl _) _)
        have HW := Lib.hid (own_behind HOWN.out HAL.out)
        have hsz : w1.heap.size ≤ (wr.alloc (.cells #[.bool xv, .int .u64 xz] 44)).heap.size := Nat.le_trans HB.out.size HAL.out.size
        go_wp2_with (refine wpList_append_rs tmc_len (by decide) tmc_one Tryz.underlying58 tm_inf rfl (by decide) rfl (.tmp 46) (.tmp 53) rfl w1.heap.size _ N5 _ rfl HW.out _ _ 1 1 [(xv, xz)] rfl HO.out hN1 hsz ?_; intro A' k' c' w' HK HA)
        go_roundw
        case rel => exact ⟨i + 1, A', k', c', by go_num, rfl, HLT.out, by rw [← HS.out]; exact HA.out.own, (HB.out.trans (HAL.out.mono HB.out.size)).grown HA.out.grown hsz fun j hj => (HW.out.lt j hj).1⟩
        case measure =>
          have := HLT.out
          simp [intOf]
          omega
    · obtain rfl : i = n := by omega
      have HO := Lib.hid (show wr.ownsRow w.heap.size 44 2 (.slice A5 N5 c5) N5 ((fxI S z).flatMap tmc) from (by
        rw [List.take_of_length_le (by rw [fxI_len, HLEN.out]; exact Nat.le_refl _)] at hown
        exact own_baseN hown HB1.out.size))
      have HB := Lib.hid (HB1.out.trans (hb.mono HB1.out.size))
      clear hlt hb hown
      go_wp2_with fail
      go_ret
      exact ⟨A5, N5, c5, rfl, HO.out, HB.out⟩

set_option maxRecDepth 100000 in
set_option maxHeartbeats 2000000 in
theorem sameZ_any (lo hi : List Nat) (be : List (List Bool)) (A1 : Option Addr) (n1 c1 : Nat) (A2 : Option Addr) (n2 c2 : Nat) (A3 : Option Addr) (n3 c3 : Nat) (A4 : Option Addr) (n4 c4 : Nat) (B1 : Option Addr) (m1 d1 : Nat) (B2 : Option Addr) (d2 : Nat) (B3 : Option Addr) (d3 : Nat) (B4 : Option Addr) (d4 : Nat) (w : World)
    (h2 : Rd La.nm w w.heap.size A2 n2 c2 lo) (h3 : Rd La.nm w w.heap.size A3 n3 c3 hi) (h4 : BRows w w.heap.size A4 n4 c4 be) (k2 : Rd La.nm w w.heap.size B2 n2 d2 lo) (k3 : Rd La.nm w w.heap.size B3 n3 d3 hi) (k4 : BRows w w.heap.size B4 n4 d4 be) :
    Calls Tryz.prog 16 #[senV A1 n1 c1 A2 n2 c2 A3 n3 c3 A4 n4 c4, senV B1 m1 d1 B2 n2 d2 B3 n3 d3 B4 n4 d4] w fun e w' => e = .returned (.bool true) ∧ Below w.heap.size w w' := by
  have h8 := B8.new w A1 n1 c1 A2 n2 c2 A3 n3 c3 A4 n4 c4 B1 m1 d1 B2 n2 d2 B3 n3 d3 B4 n4 d4
  have hal := two_below w (.cells #[.slice A1 n1 c1, .slice A2 n2 c2, .slice A3 n3 c3, .slice A4 n4 c4] 28) (.cells #[.slice B1 m1 d1, .slice B2 n2 d2, .slice B3 n3 d3, .slice B4 n4 d4] 28)
  obtain ⟨wa, hwa⟩ : ∃ wa, (w.alloc (.cells #[.slice A1 n1 c1, .slice A2 n2 c2, .slice A3 n3 c3, .slice A4 n4 c4] 28)).alloc (.cells #[.slice B1 m1 d1, .slice B2 n2 d2, .slice B3 n3 d3, .slice B4 n4 d4] 28) = wa := ⟨_, rfl⟩
  rw [hwa] at h8 hal
  have HB := Lib.hid hal
  have H8 := Lib.hid h8
  have HC2 : Hid (∀ W, Below wa.heap.size wa W → Calls Tryz.prog 20 #[.slice A2 n2 c2, .slice B2 n2 d2] W fun e w' => e = .returned (.bool true) ∧ Below W.heap.size W w') := Lib.hid fun W hW => sameNums_any A2 B2 n2 c2 d2 _ _ lo W (h2.below (hal.trans (hW.mono hal.size))) (k2.below (hal.trans (hW.mono hal.size)))
  have HC3 : Hid (∀ W, Below wa.heap.size wa W → Calls Tryz.prog 20 #[.slice A3 n3 c3, .slice B3 n3 d3] W fun e w' => e = .returned (.bool true) ∧ Below W.heap.size W w') := Lib.hid fun W hW => sameNums_any A3 B3 n3 c3 d3 _ _ hi W (h3.below (hal.trans (hW.mono hal.size))) (k3.below (hal.trans (hW.mono hal.size)))
  have HC4 : Hid (∀ W, Below wa.heap.size wa W → Calls Tryz.prog 38 #[.slice A4 n4 c4, .slice B4 n4 d4] W fun e w' => e = .returned (.bool true) ∧ Below W.heap.size W w') := Lib.hid fun W hW => sameLists_any A4 B4 n4 c4 d4 be W (h4.at_size (Nat.le_refl _) (hal.trans (hW.mono hal.size))) (k4.at_size (Nat.le_refl _) (hal.trans (hW.mono hal.size)))
  have p1 := h8.p1
  have q1 := h8.q1
  clear h2 h3 h4 k2 k3 k4 hal h8
  unfold senV
  go_enter Tryz.func16, Tryz.ntmps16
  go_wp2_with fail
  clear hwa
  refine (HC2.out wa (Below.refl _ _)).mono ?_
  rintro e w1 ⟨rfl, hv⟩
  have HV1 := Lib.hid hv
  have p2 := (H8.out.keep hv).p2
  have q2 := (H8.out.keep hv).q2
  clear hv p1 q1 HC2
  go_wp2_with fail
  refine (HC3.out w1 HV1.out).mono ?_
  rintro e w2 ⟨rfl, hv⟩
  have HV2 := Lib.hid (HV1.out.trans (hv.mono HV1.out.size))
  have p3 := (H8.out.keep HV2.out).p3
  have q3 := (H8.out.keep HV2.out).q3
  clear hv p2 q2 HC3 HV1
  go_wp2_with fail
  refine (HC4.out w2 HV2.out).mono ?_
  rintro e w3 ⟨rfl, hv⟩
  have HV3 := Lib.hid (HB.out.trans ((HV2.out.trans (hv.mono HV2.out.size)).mono HB.out.size))
  clear hv p3 q3 HC4 HV2
  go_wp2_with fail
  go_ret
  exact ⟨rfl, HV3.out⟩

/-! ### What Of tells of the scheme, where fixed ones are constants -/
theorem keep_of {S X : Bo.Sr} {s : Sch} {ql qe : Nat} {lo hi lo' hi' : List Nat} (hok : OfOk S X s ql qe lo hi lo' hi') {w : World} {x : Int} {p q : Q4}
    (hof : OfIs S X (fxS S X s (senS S lo hi (rcB ql s.l) (labB s.b)) (senS X lo' hi' (rcB qe s.e) (effB s.b))) w x p q) :
    x = 0 ∧ SenIn w (senS S lo hi (rcB ql s.l) (List.zipWith Sp.re (labB s.b) (fxL S (senS S lo hi (rcB ql s.l) (labB s.b))))) p ∧ SenIn w (senS X lo' hi' (rcB qe s.e) (List.zipWith Sp.re (effB s.b) (fxL X (senS X lo' hi' (rcB qe s.e) (effB s.b))))) q := by
  obtain ⟨c1, c2, c3, c4, c5⟩ := Sch.check_is.1 hok.chk
  have e1 := fx_lab (S := S) (lo := lo) (hi := hi) (rc := rcB ql s.l) (fxL X (senS X lo' hi' (rcB qe s.e) (effB s.b))) c1
  have e2 := fx_eff (S := X) (lo := lo') (hi := hi') (rc := rcB qe s.e) (fxL S (senS S lo hi (rcB ql s.l) (labB s.b))) c1
  rw [hok.lv] at c4
  rw [hok.ev] at c5
  have hchk : (fxS S X s (senS S lo hi (rcB ql s.l) (labB s.b)) (senS X lo' hi' (rcB qe s.e) (effB s.b))).check S X = 0 := Sch.check_is.2 ⟨(putB_check _ _).trans c1, c2, c3,
    fun p hp => by
      show may1 S s.lv p = true
      rw [hok.lv]
      exact fx_may hok.gl c4 p (e1 ▸ hp),
    fun p hp => by
      show may1 X s.ev p = true
      rw [hok.ev]
      exact fx_may hok.ge c5 p (e2 ▸ hp)⟩
  rcases hof with ⟨hx, -, -, h | ⟨-, -, h⟩⟩ | ⟨hx, q2, r2, l2, h2, l3, h3, ho, hp, hq⟩
  · exact absurd (h.symm.trans hchk) hx
  · exfalso
    rcases h with ⟨k, e, hn⟩ | ⟨k, e, hn⟩
    · replace e : s.lv = (k : Int) := e
      obtain rfl : ql = k := by have := hok.lv; omega
      have := hn lo hok.gl.low.has
      replace this : Bo.holdS S lo s.l = false := this
      rw [hok.gl.hold] at this
      cases this
    · replace e : s.ev = (k : Int) := e
      obtain rfl : qe = k := by have := hok.ev; omega
      have := hn lo' hok.ge.low.has
      replace this : Bo.holdS X lo' s.e = false := this
      rw [hok.ge.hold] at this
      cases this
  · have f1 : s.lv = (q2 : Int) := ho.lv
    have f2 : s.ev = (r2 : Int) := ho.ev
    obtain rfl : ql = q2 := by have := hok.lv; omega
    obtain rfl : qe = r2 := by have := hok.ev; omega
    have g1 := Bo.low_uniq hok.gl.ok hok.gl.low ho.gl.low
    have g2 := Bo.low_uniq hok.gl.ok.turn hok.gl.high ho.gl.high
    have g3 := Bo.low_uniq hok.ge.ok hok.ge.low ho.ge.low
    have g4 := Bo.low_uniq hok.ge.ok.turn hok.ge.high ho.ge.high
    subst g1 g2 g3 g4
    refine ⟨hx, ?_, ?_⟩
    · rw [← e1]; exact hp
    · rw [← e2]; exact hq

theorem put_rs (A A1 A2 : Option Addr) (n c n1 c1 n2 c2 : Nat) (l : List Nd) (ts us : List Tm) (W : World) (hr : Ns W W.heap.size A n c l) (hf : ∀ x ∈ l, x.Fits) (h1 : Rs tmc 2 W W.heap.size A1 n1 c1 ts) (h2 : Rs tmc 2 W W.heap.size A2 n2 c2 us)
    (hc : checkB l = 0) (e1 : ts.length = (labB l).length) (e2 : us.length = (effB l).length) :
    Calls Tryz.prog 14 #[.slice A n c, .slice A1 n1 c1, .slice A2 n2 c2] W fun e w' => ∃ A' k c', e = .returned (.tuple #[.slice A' k c', .int .i64 0]) ∧ w'.ownsRow W.heap.size 97 10 (.slice A' k c') k ((putB l ts us).flatMap ndc) ∧ Below W.heap.size W w' := by
  have h4 : putR l ts us = 0 := by unfold putR; rw [if_neg (by simp [hc]), if_pos ⟨e1, e2⟩]
  have h5 : putV l ts us = putB l ts us := by unfold putV; rw [h4, if_pos rfl]
  have := put_any A A1 A2 n c n1 c1 n2 c2 l ts us W hr hf h1 h2
  rw [h4, h5] at this
  refine this.mono ?_
  rintro e w' ⟨A', k, c', rfl, ho, hb⟩
  exact ⟨A', k, c', rfl, ho, hb⟩

/-- What is read while the body is built anew. -/
structure KpR (w : World) (g gs : Nat) (A1 : Option Addr) (n1 c1 : Nat) (A2 : Option Addr) (n2 c2 : Nat) (A3 : Option Addr) (n3 c3 : Nat) (A4 : Option Addr) (n4 c4 : Nat) (B1 : Option Addr) (m1 d1 : Nat) (B2 : Option Addr) (m2 d2 : Nat) (B3 : Option Addr) (m3 d3 : Nat) (B4 : Option Addr) (m4 d4 : Nat) (A : Option Addr) (n c : Nat) : Prop where
  p0 : w.cell? ⟨g, 0, none⟩ = some (.slice A1 n1 c1)
  p1 : w.cell? ⟨g, 1, none⟩ = some (.slice A2 n2 c2)
  p2 : w.cell? ⟨g, 2, none⟩ = some (.slice A3 n3 c3)
  p3 : w.cell? ⟨g, 3, none⟩ = some (.slice A4 n4 c4)
  q0 : w.cell? ⟨g + 1, 0, none⟩ = some (.slice B1 m1 d1)
  q1 : w.cell? ⟨g + 1, 1, none⟩ = some (.slice B2 m2 d2)
  q2 : w.cell? ⟨g + 1, 2, none⟩ = some (.slice B3 m3 d3)
  q3 : w.cell? ⟨g + 1, 3, none⟩ = some (.slice B4 m4 d4)
  s : w.cell? ⟨gs, 2, none⟩ = some (.slice A n c)
theorem u64_fx {S : Bo.Sr} {lo hi : List Nat} {rc : Nat → Nat → Bool} {l : List Sp} (hz : ∀ p ∈ l, U64 p.z) (fl : La.Fit (senS S lo hi rc l).lo) (fh : La.Fit (senS S lo hi rc l).hi) : ∀ t ∈ fxL S (senS S lo hi rc l), U64 t.2 := by
  intro t ht
  unfold fxL at ht
  obtain ⟨i, g', rfl⟩ := List.mem_mapIdx.1 ht
  have g : i < l.length := g'
  show U64 (fxT S (senS S lo hi rc l) i l[i]).2
  unfold fxT
  split
  · rw [val_is g]
    split
    · have := fh (highS S hi l[i]) (by show _ ∈ l.map _; exact List.mem_map.2 ⟨_, List.getElem_mem g, rfl⟩)
      exact ⟨by simp, by show ((highS S hi l[i] : Nat) : Int) < _; omega⟩
    · have := fl (lowS S lo l[i]) (by show _ ∈ l.map _; exact List.mem_map.2 ⟨_, List.getElem_mem g, rfl⟩)
      exact ⟨by simp, by show ((lowS S lo l[i] : Nat) : Int) < _; omega⟩
  · exact hz _ (List.getElem_mem g)
end Go.Proofs.YthbonabadelfdaaGreat

namespace Go.Proofs.YthbonabadelfdaaGreat.rowsKeep
open Go.ChangeShapes Go.WideShapes Go.ChangeAt Go.RowKit

set_option maxRecDepth 100000 in
set_option maxHeartbeats 8000000 in
theorem walk (s : Sch) (A : Option Addr) (n c : Nat) (A1 : Option Addr) (n1 c1 : Nat) (A2 : Option Addr) (n2 c2 : Nat) (A3 : Option Addr) (n3 c3 : Nat) (k : Int) (rows : List Nat) (w : World) (h : SchAt w s A n c A1 n1 c1 A2 n2 c2) (hr : Rd La.nm w w.heap.size A3 n3 c3 rows) (hrf : La.Fit rows) :
    Calls Tryz.prog 4 #[zV A3 n3 c3 k, schV s A n c A1 n1 c1 A2 n2 c2] w fun e w' => e = .returned (.bool true) ∧ Below w.heap.size w w' := by
  have HSA : Hid (∀ W, Below w.heap.size w W → SchAt W s A n c A1 n1 c1 A2 n2 c2) := Lib.hid fun W hW => h.keep hW
  have HR : Hid (∀ W, Below w.heap.size w W → Rd La.nm W W.heap.size A3 n3 c3 rows) := Lib.hid fun W hW => hr.at_size (Nat.le_refl _) hW
  have HRF := Lib.hid hrf
  have hlen1 := h.l.len
  have HGC : Hid (∀ W : World, Calls Tryz.prog 12 #[schV s A n c A1 n1 c1 A2 n2 c2] W fun e w' => TellsB e (fun r => r = false → n ≤ 60 ∧ (n1 + n2 ≤ 9223372036854775807 → n1 + n2 ≤ 80)) ∧ Below W.heap.size W w') := Lib.hid fun W => great_any s A n c A1 n1 c1 A2 n2 c2 W (by have := h.l.cap; have := h.l.top; unfold maxLen at this; omega) (by have := h.e.cap; have := h.e.top; unfold maxLen at this; omega)
  have HPC : Hid (∀ W, Below w.heap.size w W → Calls Tryz.prog 9 #[zV A3 n3 c3 k] W fun e w' => ∃ a b, e = .returned (.tuple #[.iface 70 (.pointer a), .iface 73 (.pointer b)]) ∧ Both w' a b (laOf rows) (efOf k) ∧ Below W.heap.size W w') := Lib.hid fun W hW => of_sorts A3 n3 c3 k rows W (HR.out W hW) hrf
  have HOC : Hid (∀ (a b : Option Addr) (W : World), Below w.heap.size w W → Both W a b (laOf rows) (efOf k) → Calls Tryz.prog 13 #[schV s A n c A1 n1 c1 A2 n2 c2, .iface 70 (.pointer a), .iface 73 (.pointer b)] W fun e w' => ∃ x p q, e = .returned (.tuple #[Q4.v p, Q4.v q, .int .i64 x]) ∧ OfIs (laOf rows) (efOf k) s w' x p q ∧ Below W.heap.size W w') := Lib.hid fun a b W hW hbo => senOf_any s A n c A1 n1 c1 A2 n2 c2 a b _ _ W (HSA.out W hW) hbo (laOf_ok _) (efOf_ok _)
  clear hlen1
  obtain ⟨x, hx⟩ : ∃ x, w.alloc (.cells #[.slice A3 n3 c3, .int .i64 k] 24) = x := ⟨_, rfl⟩
  obtain ⟨y, hy⟩ : ∃ y, x.alloc (.cells #[.int .i64 s.lv, .int .i64 s.ev, .slice A n c, .slice A1 n1 c1, .slice A2 n2 c2] 51) = y := ⟨_, rfl⟩
  have b0 : Below w.heap.size w x := hx ▸ (Below.refl _ _).alloc (Nat.le_refl _) _
  have sx : x.heap.size = w.heap.size + 1 := by rw [← hx, World.size_alloc]
  have b1 : Below x.heap.size x y := hy ▸ (Below.refl _ _).alloc (Nat.le_refl _) _
  have k0 : y.heap[w.heap.size]? = some (.cells #[.slice A3 n3 c3, .int .i64 k] 24 (0, 0)) := (b1.block _ (by rw [sx]; omega)).trans (hx ▸ heap_alloc_new w _)
  have hbx : Box y (w.heap.size + 1) s.lv s.ev A n c A1 n1 c1 A2 n2 c2 := by rw [← sx, ← hy]; exact Box.new x s.lv s.ev A n c A1 n1 c1 A2 n2 c2
  have hb : Below w.heap.size w y := b0.trans (b1.mono b0.size)
  have s0 := (cell_blk (i := 0) k0).trans rfl
  have s1 := (cell_blk (i := 1) k0).trans rfl
  have HB := Lib.hid hb
  have HBX := Lib.hid hbx
  have HS0 := Lib.hid s0
  have HS1 := Lib.hid s1
  have z0 := hbx.z0
  have z1 := hbx.z1
  have z2 := hbx.z2
  have z3 := hbx.z3
  have z4 := hbx.z4
  clear b0 b1 sx k0 hb hbx h hr hrf s1
  subst hx
  unfold schV at HGC HOC ⊢
  unfold zV at HPC ⊢
  go_enter Tryz.func4, Tryz.ntmps4
  go_wp2_with fail
  clear hy
  refine (HGC.out _).mono ?_
  rintro e w1 ⟨⟨gr, rfl, hgr⟩, hv⟩
  have HGR := Lib.hid hgr
  have HV1 := Lib.hid hv
  replace s0 := cell_old s0 hv
  clear hv hgr z0 z1 z2 z3 z4 HGC
  cases gr with
  | true =>
    have HBZ := Lib.hid (HB.out.trans (HV1.out.mono HB.out.size))
    go_wp2_with fail
    refine (lives_any _).mono ?_
    rintro e wz ⟨rfl, hv⟩
    have HZ := Lib.hid (HBZ.out.trans (hv.mono HBZ.out.size))
    clear hv
    go_wp2_with fail
    go_ret
    exact ⟨rfl, HZ.out⟩
  | false =>
  by_cases hbig : 100 < n3
  · have hbig' : (100 : Int) < (n3 : Int) := by omega
    have HBZ := Lib.hid (HB.out.trans (HV1.out.mono HB.out.size))
    clear hbig
    go_wp2_with fail
    refine (lives_any _).mono ?_
    rintro e wz ⟨rfl, hv⟩
    have HZ := Lib.hid (HBZ.out.trans (hv.mono HBZ.out.size))
    clear hv
    go_wp2_with fail
    go_ret
    exact ⟨rfl, HZ.out⟩
  have hbig' : ¬ (100 : Int) < (n3 : Int) := by omega
  have s1 := cell_old HS1.out HV1.out
  have hcp := HPC.out w1 (HB.out.trans (HV1.out.mono HB.out.size))
  have HCP := Lib.hid hcp
  clear hcp hbig HPC
  go_wp2_with fail
  refine HCP.out.mono ?_
  rintro e w2 ⟨a, b, rfl, hbo, hv⟩
  have HV2 := Lib.hid (HV1.out.trans (hv.mono HV1.out.size))
  have HBO2 := Lib.hid hbo
  have hbx := HBX.out.keep HV2.out
  have z0 := hbx.z0
  have z1 := hbx.z1
  have z2 := hbx.z2
  have z3 := hbx.z3
  have z4 := hbx.z4
  have hco := HOC.out a b w2 (HB.out.trans (HV2.out.mono HB.out.size)) hbo
  have HCO := Lib.hid hco
  clear hv hbo hbx hco hbig' s0 s1 HCP HOC HV1
  go_wp2_with fail
  refine HCO.out.mono ?_
  rintro e w3 ⟨er, p, q, rfl, hof, hv⟩
  have HV3 := Lib.hid (HV2.out.trans (hv.mono HV2.out.size))
  have HBO3 := Lib.hid (HBO2.out.keep hv)
  clear hv z0 z1 z2 z3 z4 HCO HBO2 HV2
  obtain ⟨B1, m1, d1, B2, m2, d2, B3, m3, d3, B4, m4, d4⟩ := p
  obtain ⟨C1, k1, f1, C2, k2, f2, C3, k3, f3, C4, k4, f4⟩ := q
  simp only [Q4.v, senV]
  have h8 := B8.new w3 B1 m1 d1 B2 m2 d2 B3 m3 d3 B4 m4 d4 C1 k1 f1 C2 k2 f2 C3 k3 f3 C4 k4 f4
  have hal := two_below w3 (.cells #[.slice B1 m1 d1, .slice B2 m2 d2, .slice B3 m3 d3, .slice B4 m4 d4] 28) (.cells #[.slice C1 k1 f1, .slice C2 k2 f2, .slice C3 k3 f3, .slice C4 k4 f4] 28)
  obtain ⟨wa, hwa⟩ : ∃ wa, (w3.alloc (.cells #[.slice B1 m1 d1, .slice B2 m2 d2, .slice B3 m3 d3, .slice B4 m4 d4] 28)).alloc (.cells #[.slice C1 k1 f1, .slice C2 k2 f2, .slice C3 k3 f3, .slice C4 k4 f4] 28) = wa := ⟨_, rfl⟩
  rw [hwa] at h8 hal
  have HVA := Lib.hid (HV3.out.trans (hal.mono HV3.out.size))
  have HBA := Lib.hid (HB.out.trans (HVA.out.mono HB.out.size))
  have HBOA := Lib.hid (HBO3.out.keep hal)
  have H8 := Lib.hid h8
  rcases hof with ⟨hne0, -, -, -⟩ | ⟨rfl, ql, qe, lo, hi, lo', hi', hok, hp, hq⟩
  · have hne : (er != 0) = true := by simpa using hne0
    clear hne0 h8 hal
    go_wp2_with fail
    clear hwa
    refine (lives_any _).mono ?_
    rintro e wz ⟨rfl, hv⟩
    have HZ := Lib.hid (HBA.out.trans (hv.mono HBA.out.size))
    clear hv
    go_wp2_with fail
    go_ret
    exact ⟨rfl, HZ.out⟩
  have HOK := Lib.hid hok
  replace hp : SenAt w3 (senS (laOf rows) lo hi (rcB ql s.l) (labB s.b)) B1 m1 d1 B2 m2 d2 B3 m3 d3 B4 m4 d4 := hp
  replace hq : SenAt w3 (senS (efOf k) lo' hi' (rcB qe s.e) (effB s.b)) C1 k1 f1 C2 k2 f2 C3 k3 f3 C4 k4 f4 := hq
  have HP := Lib.hid (hp.keep hal)
  have HQ := Lib.hid (hq.keep hal)
  have hbx := HBX.out.keep HVA.out
  have z0 := hbx.z0
  have z1 := hbx.z1
  have z2 := hbx.z2
  have z3 := hbx.z3
  have z4 := hbx.z4
  obtain ⟨k1', k2', k3', k4', k5'⟩ := Sch.check_is.1 HOK.out.chk
  have HCK := Lib.hid k1'
  have hl1 : m1 ≤ 1000 := by rw [← HP.out.rp.len]; exact Nat.le_trans (labB_len s.b) (by decide)
  have hl2 : k1 ≤ 1000 := by rw [← HQ.out.rp.len]; exact Nat.le_trans (effB_len s.b) (by decide)
  have HSA4 := Lib.hid (HSA.out wa HBA.out)
  have HF1 : Hid (∀ W, Below wa.heap.size wa W → Calls Tryz.prog 15 #[.iface 70 (.pointer a), senV B1 m1 d1 B2 m2 d2 B3 m3 d3 B4 m4 d4] W fun e w' => ∃ A N c, e = .returned (.slice A N c) ∧ w'.ownsRow W.heap.size 44 2 (.slice A N c) N ((fxL (laOf rows) (senS (laOf rows) lo hi (rcB ql s.l) (labB s.b))).flatMap tmc) ∧ Below W.heap.size W w') := Lib.hid fun W hW => fxI_toI (laOf rows) _ ▸ fixedT_any (.iface 70 (.pointer a)) _ _ B1 m1 d1 B2 m2 d2 B3 m3 d3 B4 m4 d4 W (HBOA.out.keep hW).sl.into (HP.out.keep hW).toI (wh_toI (sen_whole (labB_le s.b))) hl1
  have HF2 : Hid (∀ W, Below wa.heap.size wa W → Calls Tryz.prog 15 #[.iface 73 (.pointer b), senV C1 k1 f1 C2 k2 f2 C3 k3 f3 C4 k4 f4] W fun e w' => ∃ A N c, e = .returned (.slice A N c) ∧ w'.ownsRow W.heap.size 44 2 (.slice A N c) N ((fxL (efOf k) (senS (efOf k) lo' hi' (rcB qe s.e) (effB s.b))).flatMap tmc) ∧ Below W.heap.size W w') := Lib.hid fun W hW => fxI_toI (efOf k) _ ▸ fixedT_any (.iface 73 (.pointer b)) _ _ C1 k1 f1 C2 k2 f2 C3 k3 f3 C4 k4 f4 W (HBOA.out.keep hW).sx.into (HQ.out.keep hW).toI (wh_toI (sen_whole (effB_le s.b))) hl2
  have h8 := H8.out
  have t0 := h8.p0
  have t1 := h8.p1
  have t2 := h8.p2
  have t3 := h8.p3
  have t4 := h8.q0
  have t5 := h8.q1
  have t6 := h8.q2
  have t7 := h8.q3
  clear hp hq hal hok hl1 hl2 hbx h8 k1' k2' k3' k4' k5'
  unfold senV at HF1 HF2
  go_wp2_with fail
  clear hwa
  have hal : Below wa.heap.size wa (wa.alloc (.cells #[.int .i64 s.lv, .int .i64 s.ev, .slice A n c, .slice A1 n1 c1, .slice A2 n2 c2] 51)) := (Below.refl _ _).alloc (Nat.le_refl _) _
  have hkt := heap_alloc_new wa (.cells #[.int .i64 s.lv, .int .i64 s.ev, .slice A n c, .slice A1 n1 c1, .slice A2 n2 c2] 51)
  generalize wa.alloc (.cells #[.int .i64 s.lv, .int .i64 s.ev, .slice A n c, .slice A1 n1 c1, .slice A2 n2 c2] 51) = wb at *
  have HAL := Lib.hid hal
  have HKT := Lib.hid hkt
  have HKP : Hid (∀ W, Below wb.heap.size wb W → KpR W w3.heap.size (w.heap.size + 1) B1 m1 d1 B2 m2 d2 B3 m3 d3 B4 m4 d4 C1 k1 f1 C2 k2 f2 C3 k3 f3 C4 k4 f4 A n c) := Lib.hid fun W hW => ⟨cell_old t0 (HAL.out.trans (hW.mono HAL.out.size)), cell_old t1 (HAL.out.trans (hW.mono HAL.out.size)), cell_old t2 (HAL.out.trans (hW.mono HAL.out.size)), cell_old t3 (HAL.out.trans (hW.mono HAL.out.size)), cell_old t4 (HAL.out.trans (hW.mono HAL.out.size)), cell_old t5 (HAL.out.trans (hW.mono HAL.out.size)), cell_old t6 (HAL.out.trans (hW.mono HAL.out.size)), cell_old t7 (HAL.out.trans (hW.mono HAL.out.size)), cell_old z2 (HAL.out.trans (hW.mono HAL.out.size))⟩
  clear hal hkt t0 t1 t2 t3 t4 t5 t6 t7 z0 z1 z2 z3 z4
  have hkp := HKP.out _ (Below.refl wb.heap.size wb).drew
  refine wp_region_ord [0, 1, 2, 3, 5, 6, 4, 7, 8, 9, 10, 11, 12, 13] [4, 7, 8] 14 (fun W => KpR W w3.heap.size (w.heap.size + 1) B1 m1 d1 B2 m2 d2 B3 m3 d3 B4 m4 d4 C1 k1 f1 C2 k2 f2 C3 k3 f3 C4 k4 f4 A n c) (by kernel_rfl) (by kernel_rfl) (by kernel_rfl) (by kernel_rfl) (fun _ _ _ _ _ h => h) hkp ?_
  simp only [steps, List.getElem?_cons_zero, List.getElem?_cons_succ]
  repeat (first
    | (refine ord_no rfl ?_; simp only [Act.put, List.setIfInBounds_toArray, List.set_cons_zero, List.set_cons_succ])
    | (refine ord_yes (v := ?_) rfl rfl ?_ ?_; rotate_left; (focus (rintro w' ⟨x0, x1, x2, x3, x4, x5, x6, x7, x8⟩; go_simp; try with_reducible rfl)); simp only [Act.put, List.setIfInBounds_toArray, List.set_cons_zero, List.set_cons_succ]))
  clear hkp
  have HVD := Lib.hid (show Below wb.heap.size wb wb.drew from (Below.refl _ _).drew)
  generalize World.drew wb = wc at *
  refine ord_hard rfl rfl (fun K hK => ?_)
  go_simp
  refine (HF1.out _ (HAL.out.trans (HVD.out.mono HAL.out.size))).mono ?_
  rintro e w5 ⟨T1, N1, g1, rfl, ho1, hv⟩
  have HV5 := Lib.hid (HVD.out.trans (hv.mono HVD.out.size))
  have HT1 := Lib.hid (Rs.of_own tmc_len (by decide) ho1)
  clear ho1 hv HF1 HVD
  have hkp := HKP.out _ HV5.out
  refine hK.out _ _ (fun _ => hkp) ?_
  clear hK K hkp
  try simp only [Act.put, List.setIfInBounds_toArray, List.set_cons_zero, List.set_cons_succ]
  repeat (first
    | (refine ord_no rfl ?_; simp only [Act.put, List.setIfInBounds_toArray, List.set_cons_zero, List.set_cons_succ])
    | (refine ord_yes (v := ?_) rfl rfl ?_ ?_; rotate_left; (focus (rintro w' ⟨x0, x1, x2, x3, x4, x5, x6, x7, x8⟩; go_simp; try with_reducible rfl)); simp only [Act.put, List.setIfInBounds_toArray, List.set_cons_zero, List.set_cons_succ]))
  refine ord_hard rfl rfl (fun K hK => ?_)
  go_simp
  refine (HF2.out _ (HAL.out.trans (HV5.out.mono HAL.out.size))).mono ?_
  rintro e w6 ⟨T2, N2, g2, rfl, ho2, hv⟩
  have HV6 := Lib.hid (HV5.out.trans (hv.mono HV5.out.size))
  have HT2 := Lib.hid (Rs.of_own tmc_len (by decide) ho2)
  have HT16 := Lib.hid (HT1.out.at_size (Nat.le_refl _) hv)
  clear ho2 hv HF2 HV5 HT1
  have hkp := HKP.out _ HV6.out
  refine hK.out _ _ (fun _ => hkp) ?_
  clear hK K hkp
  try simp only [Act.put, List.setIfInBounds_toArray, List.set_cons_zero, List.set_cons_succ]
  repeat (first
    | (refine ord_no rfl ?_; simp only [Act.put, List.setIfInBounds_toArray, List.set_cons_zero, List.set_cons_succ])
    | (refine ord_yes (v := ?_) rfl rfl ?_ ?_; rotate_left; (focus (rintro w' ⟨x0, x1, x2, x3, x4, x5, x6, x7, x8⟩; go_simp; try with_reducible rfl)); simp only [Act.put, List.setIfInBounds_toArray, List.set_cons_zero, List.set_cons_succ]))
  refine ord_hard rfl rfl (fun K hK => ?_)
  go_simp
  have hs6 := HSA4.out.keep (HAL.out.trans (HV6.out.mono HAL.out.size))
  have HPT := Lib.hid (put_rs A T1 T2 n c N1 g1 N2 g2 s.b _ _ w6 hs6.b hs6.bf HT16.out HT2.out HCK.out (fxL_len _ _) (fxL_len _ _))
  clear hs6
  refine HPT.out.mono ?_
  rintro e w7 ⟨A', n', c', rfl, hns, hv⟩
  have HV7 := Lib.hid (HV6.out.trans (hv.mono HV6.out.size))
  have HNS := Lib.hid hns
  have HV6S := Lib.hid HV6.out.size
  clear hns hv HPT HV6 HT16 HT2
  have hkp := HKP.out _ HV7.out
  refine hK.out _ _ (fun _ => hkp) ?_
  clear hK K hkp
  try simp only [Act.put, List.setIfInBounds_toArray, List.set_cons_zero, List.set_cons_succ]
  repeat (first
    | (refine ord_no rfl ?_; simp only [Act.put, List.setIfInBounds_toArray, List.set_cons_zero, List.set_cons_succ])
    | (refine ord_yes (v := ?_) rfl rfl ?_ ?_; rotate_left; (focus (rintro w' ⟨x0, x1, x2, x3, x4, x5, x6, x7, x8⟩; go_simp; try with_reducible rfl)); simp only [Act.put, List.setIfInBounds_toArray, List.set_cons_zero, List.set_cons_succ]))
  refine ord_end ?_
  have hk7 := (HV7.out.block _ (lt_blk HKT.out)).trans HKT.out
  have hk8 := set_blk (i := 2) hk7 (.slice A' n' c')
  have i2 : w7.cell? ⟨wa.heap.size, 2, none⟩ = some (.slice A n c) := (cell_blk (i := 2) hk7).trans rfl
  have i3 : w7.frozen? ⟨wa.heap.size, 2, none⟩ = false := frozen_blk hk7
  have hv8 : Below wa.heap.size wa (w7.setCell ⟨wa.heap.size, 2, none⟩ (.slice A' n' c')) := (HAL.out.trans (HV7.out.mono HAL.out.size)).setCell (p := ⟨wa.heap.size, 2, none⟩) (Nat.le_refl _) _
  have HO8 := Lib.hid (ownsRow_setCell_below HNS.out (a := ⟨wa.heap.size, 2, none⟩) (Nat.lt_of_lt_of_le (lt_blk HKT.out) HV6S.out) (.slice A' n' c'))
  have HB8 := Lib.hid (HBA.out.trans (hv8.mono HBA.out.size))
  have HBO8 := Lib.hid (HBOA.out.keep hv8)
  have HP8 := Lib.hid (HP.out.keep hv8)
  have HQ8 := Lib.hid (HQ.out.keep hv8)
  have H88 := Lib.hid (H8.out.keep hv8)
  have y0 := (cell_blk (i := 0) hk8).trans rfl
  have y1 := (cell_blk (i := 1) hk8).trans rfl
  have y2 := (cell_blk (i := 2) hk8).trans rfl
  have y3 := (cell_blk (i := 3) hk8).trans rfl
  have y4 := (cell_blk (i := 4) hk8).trans rfl
  clear hk7 hk8 hv8 HKP HNS HV7 HKT HSA4
  go_wp2_with fail
  clear i2 i3
  generalize w7.setCell ⟨wa.heap.size, 2, none⟩ (.slice A' n' c') = w8 at *
  have hs8 := HSA.out w8 HB8.out
  have hs9 : SchAt w8 (fxS (laOf rows) (efOf k) s (senS (laOf rows) lo hi (rcB ql s.l) (labB s.b)) (senS (efOf k) lo' hi' (rcB qe s.e) (effB s.b))) A' n' c' A1 n1 c1 A2 n2 c2 :=
    ⟨Rs.of_own ndc_len (by decide) HO8.out, fits_putB _ _ hs8.bf, tfits_putE _ _ (tfits_putL _ _ hs8.bt (u64_fx HP.out.fp HP.out.fl HP.out.fh)) (u64_fx HQ.out.fp HQ.out.fl HQ.out.fh), hs8.l, hs8.lf, hs8.e, hs8.ef⟩
  have HOF := Lib.hid (senOf_any _ _ _ _ _ _ _ _ _ _ a b _ _ w8 hs9 HBO8.out (laOf_ok _) (efOf_ok _))
  clear hs8 hs9 HO8 y0 y1 y2 y3 y4
  unfold schV at HOF
  refine HOF.out.mono ?_
  rintro e w9 ⟨x2, p', q', rfl, hof', hv⟩
  obtain ⟨rfl, hp', hq'⟩ := keep_of HOK.out hof'
  obtain ⟨D1, l1, i1, D2, l2, i2, D3, l3, i3, D4, l4, i4⟩ := p'
  obtain ⟨E1, j1, g1', E2, j2, g2', E3, j3, g3', E4, j4, g4'⟩ := q'
  simp only [Q4.v, senV]
  replace hp' : SenAt w9 _ D1 l1 i1 D2 l2 i2 D3 l3 i3 D4 l4 i4 := hp'
  replace hq' : SenAt w9 _ E1 j1 g1' E2 j2 g2' E3 j3 g3' E4 j4 g4' := hq'
  have hal := two_below w9 (.cells #[.slice D1 l1 i1, .slice D2 l2 i2, .slice D3 l3 i3, .slice D4 l4 i4] 28) (.cells #[.slice E1 j1 g1', .slice E2 j2 g2', .slice E3 j3 g3', .slice E4 j4 g4'] 28)
  have h9 := B8.new w9 D1 l1 i1 D2 l2 i2 D3 l3 i3 D4 l4 i4 E1 j1 g1' E2 j2 g2' E3 j3 g3' E4 j4 g4'
  obtain ⟨e1, e2, e3⟩ := fx_same HOK.out.gl (labB_le s.b) (by rw [← HOK.out.lv]; exact (Sch.check_is.1 HOK.out.chk).2.2.2.1)
  obtain ⟨e4, e5, e6⟩ := fx_same HOK.out.ge (effB_le s.b) (by rw [← HOK.out.ev]; exact (Sch.check_is.1 HOK.out.chk).2.2.2.2)
  have hva := hv.trans (hal.mono hv.size)
  have hpp := HP8.out.keep hva
  have hqq := HQ8.out.keep hva
  have hp9 := hp'.keep hal
  have hq9 := hq'.keep hal
  have ff2 := hp9.rl
  rw [e1] at ff2
  have ff3 := hp9.rh
  rw [e2] at ff3
  have ff4 := hp9.rb
  rw [e3] at ff4
  have ff5 := hq9.rl
  rw [e4] at ff5
  have ff6 := hq9.rh
  rw [e5] at ff6
  have ff7 := hq9.rb
  rw [e6] at ff7
  obtain rfl : m2 = l2 := hpp.rl.len.symm.trans ff2.len
  obtain rfl : m3 = l3 := hpp.rh.len.symm.trans ff3.len
  obtain rfl : m4 = l4 := hpp.rb.len.symm.trans ff4.len
  obtain rfl : k2 = j2 := hqq.rl.len.symm.trans ff5.len
  obtain rfl : k3 = j3 := hqq.rh.len.symm.trans ff6.len
  obtain rfl : k4 = j4 := hqq.rb.len.symm.trans ff7.len
  have HZ1 := Lib.hid (sameZ_any _ _ _ B1 m1 d1 B2 m2 d2 B3 m3 d3 B4 m4 d4 D1 l1 i1 D2 i2 D3 i3 D4 i4 _ hpp.rl hpp.rh hpp.rb ff2 ff3 ff4)
  have HZ2 : Hid (∀ W, Below ((w9.alloc (.cells #[.slice D1 l1 i1, .slice D2 m2 i2, .slice D3 m3 i3, .slice D4 m4 i4] 28)).alloc (.cells #[.slice E1 j1 g1', .slice E2 k2 g2', .slice E3 k3 g3', .slice E4 k4 g4'] 28)).heap.size ((w9.alloc (.cells #[.slice D1 l1 i1, .slice D2 m2 i2, .slice D3 m3 i3, .slice D4 m4 i4] 28)).alloc (.cells #[.slice E1 j1 g1', .slice E2 k2 g2', .slice E3 k3 g3', .slice E4 k4 g4'] 28)) W → Calls Tryz.prog 16 #[senV C1 k1 f1 C2 k2 f2 C3 k3 f3 C4 k4 f4, senV E1 j1 g1' E2 k2 g2' E3 k3 g3' E4 k4 g4'] W fun e w' => e = .returned (.bool true) ∧ Below W.heap.size W w') := Lib.hid fun W hW =>
    sameZ_any _ _ _ C1 k1 f1 C2 k2 f2 C3 k3 f3 C4 k4 f4 E1 j1 g1' E2 g2' E3 g3' E4 g4' W (hqq.keep hW).rl (hqq.keep hW).rh (hqq.keep hW).rb (ff5.at_size (Nat.le_refl _) hW) (ff6.at_size (Nat.le_refl _) hW) (ff7.at_size (Nat.le_refl _) hW)
  have h8 := H88.out.keep hva
  have t0 := h8.p0
  have t1 := h8.p1
  have t2 := h8.p2
  have t3 := h8.p3
  have u0 := h9.p0
  have u1 := h9.p1
  have u2 := h9.p2
  have u3 := h9.p3
  have HBZ := Lib.hid (HB8.out.trans (hva.mono HB8.out.size))
  have H8Z := Lib.hid h8
  have H9Z := Lib.hid h9
  unfold senV at HZ1 HZ2
  clear hof' hv hp' hq' hal h9 e1 e2 e3 e4 e5 e6 hva hpp hqq hp9 hq9 ff2 ff3 ff4 ff5 ff6 ff7 h8 HOF HP8 HQ8 H88 HBO8 HB8
  go_wp2_with fail
  generalize (w9.alloc (.cells #[.slice D1 l1 i1, .slice D2 m2 i2, .slice D3 m3 i3, .slice D4 m4 i4] 28)).alloc (.cells #[.slice E1 j1 g1', .slice E2 k2 g2', .slice E3 k3 g3', .slice E4 k4 g4'] 28) = wz at *
  refine HZ1.out.mono ?_
  rintro e w10 ⟨rfl, hv⟩
  have HV10 := Lib.hid hv
  have h8 := H8Z.out.keep hv
  have h9 := H9Z.out.keep hv
  have v0 := h8.q0
  have v1 := h8.q1
  have v2 := h8.q2
  have v3 := h8.q3
  have x0 := h9.q0
  have x1 := h9.q1
  have x2 := h9.q2
  have x3 := h9.q3
  clear hv h8 h9 HZ1 t0 t1 t2 t3 u0 u1 u2 u3
  go_wp2_with fail
  refine (HZ2.out _ HV10.out).mono ?_
  rintro e w11 ⟨rfl, hv⟩
  have HB11 := Lib.hid (HBZ.out.trans ((HV10.out.trans (hv.mono HV10.out.size)).mono HBZ.out.size))
  clear hv HZ2 v0 v1 v2 v3 x0 x1 x2 x3
  go_wp2_with fail
  refine (lives_any _).mono ?_
  rintro e wz' ⟨rfl, hv⟩
  have HZ := Lib.hid (HB11.out.trans (hv.mono HB11.out.size))
  clear hv
  go_wp2_with fail
  go_ret
  exact ⟨rfl, HZ.out⟩

theorem own : ownKnob Tryz.prog.godebug = none := by kernel_rfl
theorem laidOut : laidOutB Tryz.prog = true := by kernel_rfl

set_option maxRecDepth 100000 in
theorem lifted (os : Os) (started : os.Started) (H : Type) (enc : TypeId × Value → H) :
    ReturnsInHanded {} Tryz.checked os 4 .any (Rows.rowsKeepSpec.pre6 enc Tryz.prog Tryz.f4 Rows.rowsKeepRow.domain false) (Rows.rowsKeepSpec.post enc Tryz.prog Tryz.f4 false true false false) := by
  refine returnsInHanded_of_change (C := Tryz.checked) own started (by kernel_rfl) Tryz.func4
    (ChangeSpec.witness6 (enc := enc) (C := Tryz.checked) false ⟨#[], #[.agg #[.slice none 0 0, .int .i64 0], .agg #[.int .i64 0, .int .i64 0, .slice none 0 0, .slice none 0 0, .slice none 0 0]], []⟩ 8 (by kernel_rfl) (by kernel_rfl) (by kernel_rfl) (by kernel_rfl)) ?_
  intro W base args ds gs before hval0 hW hcnd _
  have hval : ∀ (j : Nat) t v, Tryz.f4.params[j]? = some t → args[j]? = some v → Value.okWide Tryz.prog W .any base t v := hval0
  have hW' := hW
  obtain ⟨p, q, hA0, hV, rfl, hfz, hnd⟩ := hW
  have hA : DataW.TrodAll enc Tryz.prog W 0 (fun _ => true) true Tryz.f4.params.toList args.toList ds p := hA0
  rw [Tryz.params4] at hA hval
  obtain ⟨v0, vs0, d0, ds0, p0, q0, hargs, rfl, rfl, h0, r0⟩ := trodAll_cons hA
  obtain ⟨v1, vs1, d1, ds1, p1, q1, rfl, rfl, rfl, h1, r1⟩ := trodAll_cons r0
  obtain ⟨rfl, rfl, rfl⟩ := trodAll_nil r1
  obtain rfl : args = #[v0, v1] := by cases args; simp_all
  obtain ⟨rfl, rfl⟩ := trodVars_none hV
  have lt0 : ∀ x ∈ p0, x.block < W.heap.size := by obtain ⟨m, hm⟩ := h0; exact DataW.trod_lt m _ _ _ hm
  have lt1 : ∀ x ∈ p1, x.block < W.heap.size := by obtain ⟨m, hm⟩ := h1; exact DataW.trod_lt m _ _ _ hm
  obtain ⟨A3, n3, c3, k, rows, rfl, hr, hrf⟩ := opened_sorts h0
  obtain ⟨s, A, n, c, A1, n1, c1, A2, n2, c2, rfl, hS, -, -⟩ := opened_scheme h1
  clear hA0 hval0
  refine (walk s A n c A1 n1 c1 A2 n2 c2 A3 n3 c3 k rows W hS hr hrf).mono fun e W' ⟨he, bel⟩ => ?_
  subst he
  exact ⟨_, rfl, _, _, _, [], _, [], hW', trodAll_mk1 (shut_bool Tryz.underlying4 _), (trodAll_cons_mk (Below.trod laidOut (by kernel_rfl) (of_decide_eq_true (by kernel_rfl)) h0 bel lt0) (trodAll_cons_mk (Below.trod laidOut (by kernel_rfl) (of_decide_eq_true (by kernel_rfl)) h1 bel lt1) trodAll_mk0)), rfl, bel.frame _, fun h => by cases h⟩

theorem over : Rows.rowsKeepRow.holds Tryz.pinned (OpenSpec.ofChange Rows.rowsKeepSpec) :=
  OpenClaim.holds_of_wide 4 Tryz.f4 rfl rfl rfl rfl rfl rfl rfl ⟨rfl, rfl, rfl, rfl, rfl⟩ rfl rfl rfl rfl rfl (by kernel_rfl) Tryz.func4 (by kernel_rfl)
    (of_decide_eq_true (by kernel_rfl)) (by unfold Func.isWrapper; first | (rw [if_pos (by decide +kernel)]; kernel_rfl) | (rw [if_neg (by decide +kernel)]; exact ⟨rfl, rfl⟩))
    (fun os started H enc _ => lifted os started H enc)

theorem proved : Rows.RowsKeepSaid := over
#print axioms proved
end Go.Proofs.YthbonabadelfdaaGreat.rowsKeep
