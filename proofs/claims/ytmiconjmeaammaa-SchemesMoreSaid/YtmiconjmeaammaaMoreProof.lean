/- A scheme that may be may be with a variable more, of each sort, as long as there are not too many; with one fewer just if nothing asks for the last one: SchemesMore is true, whatever scheme, labels and effects are handed in. Condition: none but those of the statement. -/
import Derived.Test.YtmiconjmeaammaaEx
import Derived.Test.YtmiconjmeaammaaTell
import Derived.Test.YtmiconjmeaammaaRows
import Derived.Deep.DeepCutAuto
namespace Go.Proofs.Ytmiconjmeaammaa.schemesMore
open Go.ChangeShapes Go.WideShapes Go.ChangeAt Go.RowKit

theorem any_step {α : Type} {f : α → Bool} {m0 m : Bool} {l : List α} {i : Nat} (hi : i < l.length) (h : (m0 || (l.take i).any f) = m) : (m0 || (l.take (i + 1)).any f) = (m || f l[i]) := by
  rw [List.take_succ_eq_append_getElem hi, List.any_append, ← Bool.or_assoc, h]
  simp
/-- Does one of the first i ask for it? -/
def AsRel {α : Type} (f : α → Bool) (m0 : Bool) (l : List α) (w : World) (v10 v11 : Value) (wr : World) : Prop := ∃ (i : Nat) (m : Bool), v11 = .int .i64 (i : Int) ∧ v10 = .bool m ∧ i ≤ l.length ∧ (m0 || (l.take i).any f) = m ∧ Below w.heap.size w wr

set_option maxRecDepth 100000 in
set_option maxHeartbeats 16000000 in
theorem walk (s : Sch) (A : Option Addr) (n c : Nat) (A1 : Option Addr) (n1 c1 : Nat) (A2 : Option Addr) (n2 c2 : Nat) (A3 : Option Addr) (n3 c3 : Nat) (k : Int) (rows : List Nat) (w : World) (h : SchAt w s A n c A1 n1 c1 A2 n2 c2) (hr : Rd La.nm w w.heap.size A3 n3 c3 rows) (hrf : La.Fit rows) :
    Calls Try.prog 6 #[schV s A n c A1 n1 c1 A2 n2 c2, zV A3 n3 c3 k] w fun e w' => e = .returned (.bool true) ∧ Below w.heap.size w w' := by
  have HGC := Lib.hid fun W r hr => great_any s A n c A1 n1 c1 A2 n2 c2 A3 n3 c3 k W r hr
  obtain ⟨gr, hgr⟩ : ∃ r, grt n3 n n1 n2 = r := ⟨_, rfl⟩
  have HGR := Lib.hid hgr
  have HOF := Lib.hid fun W (h : Rd La.nm W W.heap.size A3 n3 c3 rows) => of_sorts A3 n3 c3 k rows W h hrf
  generalize laOf rows = S at HOF
  generalize efOf k = X at HOF
  obtain ⟨xc, hxc⟩ : ∃ x, s.check S X = x := ⟨_, rfl⟩
  have HCC := Lib.hid fun (W : World) v v' (h : SchAt W s A n c A1 n1 c1 A2 n2 c2) (hS : Bo.SrtIn W v S) (hX : Bo.SrtIn W v' X) => schCheck_any s A n c A1 n1 c1 A2 n2 c2 v v' S X W h hS hX xc hxc
  have HMORE := Lib.hid (fun e : xc = 0 => Sch.check_up (hxc.trans e))
  have HLIM := Lib.hid (fun e : xc = 0 => (Sch.check_is.1 (hxc.trans e)).2.1)
  have HLIM2 := Lib.hid (fun e : xc = 0 => (Sch.check_is.1 (hxc.trans e)).2.2.1)
  have HDOWN := Lib.hid (fun (e : xc = 0) (q : Nat) (hq : s.lv = (q : Int) + 1) => Sch.check_down hq (hxc.trans e))
  obtain ⟨lv, ev, bo, sl, se⟩ := s
  simp only at HMORE HLIM HLIM2 HDOWN
  have HM2 := Lib.hid fun (W : World) v v' (h : SchAt W ⟨lv, ev, bo, sl, se⟩ A n c A1 n1 c1 A2 n2 c2) (hS : Bo.SrtIn W v S) (hX : Bo.SrtIn W v' X) => schCheck_any ⟨lv + 1, ev + 1, bo, sl, se⟩ A n c A1 n1 c1 A2 n2 c2 v v' S X W ⟨h.b, h.bf, h.bt, h.l, h.lf, h.e, h.ef⟩ hS hX
  have HL2 := Lib.hid fun (W : World) v v' (h : SchAt W ⟨lv, ev, bo, sl, se⟩ A n c A1 n1 c1 A2 n2 c2) (hS : Bo.SrtIn W v S) (hX : Bo.SrtIn W v' X) => schCheck_any ⟨lv - 1, ev, bo, sl, se⟩ A n c A1 n1 c1 A2 n2 c2 v v' S X W ⟨h.b, h.bf, h.bt, h.l, h.lf, h.e, h.ef⟩ hS hX
  have HLL := Lib.hid h.l.len
  clear hgr hxc hrf
  unfold schV zV at HGC
  unfold zV at HOF
  unfold schV at HCC HM2 HL2
  unfold schV zV
  have hal : Below w.heap.size w (w.alloc (.cells #[.int .i64 lv, .int .i64 ev, .slice A n c, .slice A1 n1 c1, .slice A2 n2 c2] 25)) := (Below.refl _ _).alloc (Nat.le_refl _) _
  have hz := Box.new w lv ev A n c A1 n1 c1 A2 n2 c2
  generalize hwa : w.alloc (.cells #[.int .i64 lv, .int .i64 ev, .slice A n c, .slice A1 n1 c1, .slice A2 n2 c2] 25) = wa at hal hz
  have hb : Below w.heap.size w (wa.alloc (.cells #[.slice A3 n3 c3, .int .i64 k] 31)) := hal.alloc hal.size _
  have hv : Below wa.heap.size wa (wa.alloc (.cells #[.slice A3 n3 c3, .int .i64 k] 31)) := (Below.refl _ _).alloc (Nat.le_refl _) _
  replace hz := hz.keep hv
  have hbx := heap_alloc_new wa (.cells #[.slice A3 n3 c3, .int .i64 k] 31)
  have y0 : _ = some (Value.slice A3 n3 c3) := (cell_blk (i := 0) hbx).trans rfl
  have y1 : _ = some (Value.int .i64 k) := (cell_blk (i := 1) hbx).trans rfl
  clear hbx hv hal
  subst hwa
  simp only [World.size_alloc] at y0 y1
  replace h := h.keep hb
  replace hr := hr.at_size (Nat.le_refl _) hb
  go_enter Try.func6, Try.ntmps6
  go_wp2_with fail
  refine (HOF.out _ hr).mono ?_
  rintro e w2 ⟨a, b, rfl, hS, hv⟩
  clear HOF hr
  replace hz := hz.keep hv
  replace h := h.keep hv
  replace y0 := cell_old y0 hv
  replace y1 := cell_old y1 hv
  replace hb := hb.trans (hv.mono hb.size)
  clear hv
  have hz0 := hz.z0
  have hz1 := hz.z1
  have hz2 := hz.z2
  have hz3 := hz.z3
  have hz4 := hz.z4
  go_wp2_with fail
  refine (HGC.out _ _ HGR.out).mono ?_
  rintro e w1 ⟨rfl, hv⟩
  clear HGC y0 y1
  clear hz0 hz1 hz2 hz3 hz4
  replace hz := hz.keep hv
  replace h := h.keep hv
  replace hS := hS.keep hv
  replace hb := hb.trans (hv.mono hb.size)
  clear hv
  cases gr with
  | true =>
    go_wp2_with fail
    refine (alive_any _).mono ?_
    rintro e wz ⟨rfl, hv⟩
    replace hb := hb.trans (hv.mono hb.size)
    clear hv
    go_wp2_with fail
    go_ret
    exact ⟨rfl, hb⟩
  | false =>
  obtain ⟨g1, g2, g3, g4⟩ := grt_no HGR.out
  have HN := Lib.hid g3
  clear g1 g2 g3 g4 HGR
  have hz0 := hz.z0
  have hz1 := hz.z1
  have hz2 := hz.z2
  have hz3 := hz.z3
  have hz4 := hz.z4
  go_wp2_with fail
  refine (HCC.out _ _ _ h hS.inl hS.inr).mono ?_
  rintro e w3 ⟨rfl, hv⟩
  clear HCC
  clear hz0 hz1 hz2 hz3 hz4
  replace hz := hz.keep hv
  replace h := h.keep hv
  replace hS := hS.keep hv
  replace hb := hb.trans (hv.mono hb.size)
  clear hv
  by_cases hxc : xc = 0
  case neg =>
    have hne : (xc != 0) = true := by simpa using hxc
    clear hxc
    go_wp2_with fail
    refine (alive_any _).mono ?_
    rintro e wz ⟨rfl, hv⟩
    replace hb := hb.trans (hv.mono hb.size)
    clear hv
    go_wp2_with fail
    go_ret
    exact ⟨rfl, hb⟩
  have hup := HMORE.out hxc
  have hlim := chk_zero.1 (HLIM.out hxc)
  have hlim2 := chk_zero.1 (HLIM2.out hxc)
  have HD := Lib.hid (HDOWN.out hxc)
  obtain ⟨p1, p2, -, -⟩ := hlim
  obtain ⟨p3, p4, -, -⟩ := hlim2
  subst hxc
  clear HMORE HLIM HLIM2 HDOWN
  have hz0 := hz.z0
  have hz1 := hz.z1
  have hz2 := hz.z2
  have hz3 := hz.z3
  have hz4 := hz.z4
  obtain ⟨xm, hxm⟩ : ∃ x, Sch.check S X ⟨lv + 1, ev + 1, bo, sl, se⟩ = x := ⟨_, rfl⟩
  rw [hxm] at hup
  have HXM := Lib.hid hxm
  have HUP := Lib.hid hup
  clear hxm hup
  have hal : Below w3.heap.size w3 (w3.alloc (.cells #[.int .i64 (lv + 1), .int .i64 (ev + 1), .slice A n c, .slice A1 n1 c1, .slice A2 n2 c2] 25)) := (Below.refl _ _).alloc (Nat.le_refl _) _
  have hc := HM2.out _ _ _ (h.keep hal) (hS.keep hal).inl (hS.keep hal).inr xm HXM.out
  have HC := Lib.hid hc
  have HAL := Lib.hid hal
  clear hc hal HM2
  go_wp2_with fail
  refine HC.out.mono ?_
  rintro e w4 ⟨rfl, hv4⟩
  have hv := HAL.out.trans (hv4.mono HAL.out.size)
  clear HC HAL hv4
  clear hz0 hz1 hz2 hz3 hz4
  replace hz := hz.keep hv
  replace h := h.keep hv
  replace hS := hS.keep hv
  replace hb := hb.trans (hv.mono hb.size)
  clear hv
  have hways : ((lv < 64 ∧ ev < 64) ∧ xm = 0) ∨ ((lv < 64 ∧ ¬ ev < 64) ∧ xm = 3) ∨ (¬ lv < 64 ∧ xm = 3) := by
    have := HUP.out
    by_cases q1 : lv < 64
    · by_cases q2 : ev < 64
      · exact .inl ⟨⟨q1, q2⟩, by rw [this, if_pos ⟨q1, q2⟩]⟩
      · exact .inr (.inl ⟨⟨q1, q2⟩, by rw [this, if_neg (fun e => q2 e.2)]⟩)
    · exact .inr (.inr ⟨q1, by rw [this, if_neg (fun e => q1 e.1)]⟩)
  clear HXM HUP
  obtain ⟨wv, hwv⟩ : ∃ wv, wv = w4 := ⟨_, rfl⟩
  have hz0 := hz.z0
  have hz1 := hz.z1
  have HWAYS := Lib.hid hways
  clear hwv wv hways
  go_upto_region 8 with (fail)
  go_cut [63] (fun v63 wx => v63 = .bool false ∧ w4 = wx)
  case first =>
    rcases HWAYS.out with ⟨⟨q1, q2⟩, rfl⟩ | ⟨⟨q1, q2⟩, rfl⟩ | ⟨q1, rfl⟩
    · go_wp2_with fail
      go_meet
      exact ⟨rfl, rfl⟩
    · go_wp2_with fail
      go_meet
      exact ⟨by first | rfl | simp [q2], rfl⟩
    · go_wp2_with fail
      go_meet
      exact ⟨by first | rfl | simp [q1], rfl⟩
  case rest =>
  obtain ⟨rfl, rfl⟩ := hcut
  clear HWAYS
  by_cases q0 : lv < 1
  case pos =>
    go_wp2_with fail
    refine (alive_any _).mono ?_
    rintro e wz ⟨rfl, hv⟩
    replace hb := hb.trans (hv.mono hb.size)
    clear hv
    go_wp2_with fail
    go_ret
    exact ⟨rfl, hb⟩
  obtain ⟨kk, hkk⟩ : ∃ kk : Nat, lv = (kk : Int) + 1 := ⟨(lv - 1).toNat, by omega⟩
  have hd := HD.out kk hkk
  have hkm : lv - 1 = (kk : Int) := by omega
  rw [← hkm] at hd
  obtain ⟨xl, hxl⟩ : ∃ x, Sch.check S X ⟨lv - 1, ev, bo, sl, se⟩ = x := ⟨_, rfl⟩
  rw [hxl] at hd
  obtain ⟨m1, hm1⟩ : ∃ m, (false || sl.any (askB kk)) = m := ⟨_, rfl⟩
  obtain ⟨m2, hm2⟩ : ∃ m, (m1 || (labB bo).any (askP kk)) = m := ⟨_, rfl⟩
  have HFIN : Hid (((xl : Int) == 0) = !m2) := Lib.hid (by
    rw [← hm2, ← hm1, Bool.false_or]
    refine Bool.eq_iff_iff.2 ?_
    rw [beq_iff_eq, Bool.not_eq_true']
    exact hd)
  have HXL := Lib.hid hxl
  have HM1 := Lib.hid hm1
  have HMM := Lib.hid hm2
  have hw1 : IntKind.u64.wrap lv = lv := by rw [IntKind.wrap_u64]; omega
  have hw2 : IntKind.u64.wrap (lv - 1) = (kk : Int) := by rw [IntKind.wrap_u64]; omega
  clear HD hd hxl hm1 hm2 hkk
  have hz0 := hz.z0
  have hlx := (cell_blk (i := 0) (heap_alloc_new w4 (.cells #[.bool true, .int .u64 (kk : Int)] 52)))
  have hly := (cell_blk (i := 1) (heap_alloc_new w4 (.cells #[.bool true, .int .u64 (kk : Int)] 52)))
  have l0 : _ = some (Value.bool true) := hlx.trans rfl
  have l1 : _ = some (Value.int .u64 (kk : Int)) := hly.trans rfl
  have hv : Below w4.heap.size w4 (w4.alloc (.cells #[.bool true, .int .u64 (kk : Int)] 52)) := (Below.refl _ _).alloc (Nat.le_refl _) _
  clear hlx hly
  replace hz := hz.keep hv
  replace h := h.keep hv
  replace hS := hS.keep hv
  replace hb := hb.trans (hv.mono hb.size)
  clear hv
  go_wp2_with fail
  clear hz0 hw1 hw2
  obtain ⟨gl, hgl⟩ : ∃ gl, w4.heap.size = gl := ⟨_, rfl⟩
  rw [hgl] at l0 l1
  simp only [hgl]
  clear hgl
  generalize w4.alloc (.cells #[.bool true, .int .u64 (kk : Int)] 52) = w5 at *
  have HH := Lib.hid h
  have HSS := Lib.hid hS
  have HZZ := Lib.hid hz
  have HL0 := Lib.hid l0
  have HL1 := Lib.hid l1
  have HB0 := Lib.hid hb
  clear hz h hS l0 l1 hb
  obtain ⟨wb1, hwb⟩ : ∃ wb, wb = w5 := ⟨_, rfl⟩
  rw [← hwb] at HH HSS HZZ HL0 HL1 HB0 ⊢
  clear hwb
  go_loopw [10, 11] (fun v10 v11 wr => AsRel (askB kk) false sl wb1 v10 v11 wr) (fun _ v11 _ => n1 - (intOf v11).toNat)
  case atStart => exact ⟨0, _, rfl, rfl, Nat.zero_le _, by simp, Below.refl _ _⟩
  case round =>
    obtain ⟨i, m, rfl, rfl, hi, hall, hb3⟩ := hrel
    have hz3 := (HZZ.out.keep hb3).z3
    by_cases hlt : i < n1
    case pos =>
      have hi' : i < sl.length := by rw [HLL.out]; exact hlt
      have HSTEP := Lib.hid (any_step hi' hall)
      obtain ⟨b', o, hbo, hbb, e0, e1, e2, e3⟩ := Bo.bd_at (HH.out.keep hb3).l hi'
      subst hbo
      have l0 := cell_old HL0.out hb3
      have l1 := cell_old HL1.out hb3
      generalize sl[i] = y at *
      obtain ⟨av, an, bv, bn⟩ := y
      simp only at e0 e1 e2 e3
      have HLT := Lib.hid hlt
      have hi9 : i ≤ 1000 := by have := HN.out; omega
      have HBD := Lib.hid (hb3.trans ((Below.refl _ wr).drew.mono hb3.size))
      clear hall hi hi' hbb hb3
      have hA : (av = false ∧ isV kk av an = false) ∨ (av = true ∧ an = kk ∧ isV kk av an = true) ∨ (av = true ∧ ((an : Int) == (kk : Int)) = false ∧ isV kk av an = false) := by
        cases av with
        | false => exact .inl ⟨rfl, rfl⟩
        | true =>
          by_cases e : an = kk
          · exact .inr (.inl ⟨rfl, e, by simp [isV, e]⟩)
          · exact .inr (.inr ⟨rfl, by simp; omega, by simp [isV, e]⟩)
      have hB : (bv = false ∧ isV kk bv bn = false) ∨ (bv = true ∧ bn = kk ∧ isV kk bv bn = true) ∨ (bv = true ∧ ((bn : Int) == (kk : Int)) = false ∧ isV kk bv bn = false) := by
        cases bv with
        | false => exact .inl ⟨rfl, rfl⟩
        | true =>
          by_cases e : bn = kk
          · exact .inr (.inl ⟨rfl, e, by simp [isV, e]⟩)
          · exact .inr (.inr ⟨rfl, by simp; omega, by simp [isV, e]⟩)
      have hdef : askB kk ⟨av, an, bv, bn⟩ = (isV kk av an || isV kk bv bn) := rfl
      rw [hdef] at HSTEP
      clear hdef
      rcases hA with ⟨rfl, h1⟩ | ⟨rfl, rfl, h1⟩ | ⟨rfl, hAx, h1⟩
      all_goals (
        rw [h1] at HSTEP
        clear h1
        rcases hB with ⟨rfl, h2⟩ | ⟨rfl, rfl, h2⟩ | ⟨rfl, hBx, h2⟩
        all_goals (
          rw [h2] at HSTEP
          clear h2
          cases m
          all_goals (
            go_wp2_with fail
            refine wp_region_ord [0, 1, 2, 3, 4, 5, 6, 7, 8, 9, 10, 11, 12, 13, 14, 15, 16, 17, 18, 19, 20, 21] [] 22 (fun w' => w'.cell? ⟨w.heap.size, 3, none⟩ = some (.slice (some ⟨b', o, none⟩) n1 c1) ∧ w'.cell? ⟨gl, 0, none⟩ = some (.bool true) ∧ w'.cell? ⟨gl, 1, none⟩ = some (.int .u64 _) ∧ w'.cell? ⟨b', o + i * 4, none⟩ = _ ∧ w'.cell? ⟨b', o + i * 4 + 1, none⟩ = _ ∧ w'.cell? ⟨b', o + i * 4 + 2, none⟩ = _ ∧ w'.cell? ⟨b', o + i * 4 + 3, none⟩ = _) (by kernel_rfl) (by kernel_rfl) (by kernel_rfl) (by kernel_rfl) (fun _ _ _ _ _ h => h) ⟨hz3, l0, l1, e0, e1, e2, e3⟩ ?_
            simp only [steps, List.getElem?_cons_zero, List.getElem?_cons_succ]
            repeat (first
              | (refine ord_no rfl ?_; simp only [Act.put, List.setIfInBounds_toArray, List.set_cons_zero, List.set_cons_succ])
              | (refine ord_yes (v := ?_) rfl rfl ?_ ?_; rotate_left; (focus (rintro w' ⟨hS0, hS1, hS2, hS3, hS4, hS5, hS6⟩; go_simp; try with_reducible rfl)); simp only [Act.put, List.setIfInBounds_toArray, List.set_cons_zero, List.set_cons_succ]))
            refine ord_end ?_
            clear hz3 l0 l1 e0 e1 e2 e3
            go_wp2_with fail
            go_roundw
            case rel => exact ⟨i + 1, _, by have := HLT.out; go_num, rfl, by have := HLT.out; have := HLL.out; omega, HSTEP.out, HBD.out⟩
            case measure =>
              have := HLT.out
              simp [intOf]
              omega)))
    case neg =>
    obtain rfl : m1 = m := by rw [← HM1.out, ← hall, List.take_of_length_le (by rw [HLL.out]; omega)]
    obtain rfl : n1 = i := by have := HLL.out; omega
    have h := HH.out.keep hb3
    have hS := HSS.out.keep hb3
    have hz := HZZ.out.keep hb3
    have l0 := cell_old HL0.out hb3
    have l1 := cell_old HL1.out hb3
    have hb := HB0.out.trans (hb3.mono HB0.out.size)
    clear hb3 HH HSS HZZ HL0 HL1 HB0 hall hi hlt
    have hz2 := hz.z2
    obtain ⟨kl, hkl⟩ : ∃ k, (labB bo).length = k := ⟨_, rfl⟩
    obtain ⟨ke, hke⟩ : ∃ k, (effB bo).length = k := ⟨_, rfl⟩
    have HKL := Lib.hid (show kl ≤ 256 by rw [← hkl]; exact labB_len bo)
    have hc := of_len A n c bo _ _ kl ke wr h.b h.bf rfl rfl hkl hke
    have HLS := Lib.hid hkl
    have HU1 := Lib.hid (labB_u64 h.bt)
    simp only at HU1
    generalize labB bo = ls at *
    generalize effB bo = es at *
    clear hkl hke
    go_wp2_with fail
    clear hz3
    refine hc.mono ?_
    rintro e w6 ⟨B1, d1, B2, d2, rfl, hT⟩
    have hv := hT.bel
    have r1 := hT.r1
    clear hc hT hz2
    replace hz := hz.keep hv
    replace h := h.keep hv
    replace hS := hS.keep hv
    replace l0 := cell_old l0 hv
    replace l1 := cell_old l1 hv
    replace hb := hb.trans (hv.mono hb.size)
    clear hv
    go_wp2_with fail
    have HR1 := Lib.hid r1
    clear r1
    have HH := Lib.hid h
    have HSS := Lib.hid hS
    have HZZ := Lib.hid hz
    have HL0 := Lib.hid l0
    have HL1 := Lib.hid l1
    have HB0 := Lib.hid hb
    clear hz h hS l0 l1 hb
    obtain ⟨wb2, hwb⟩ : ∃ wb, wb = w6 := ⟨_, rfl⟩
    rw [← hwb] at HH HSS HZZ HL0 HL1 HB0 HR1 ⊢
    clear hwb
    go_loopw [10, 14] (fun v10 v14 wr => AsRel (askP kk) m1 ls wb2 v10 v14 wr) (fun _ v14 _ => kl - (intOf v14).toNat)
    case atStart => exact ⟨0, _, rfl, rfl, Nat.zero_le _, by simp, Below.refl _ _⟩
    case round =>
      obtain ⟨i, m, rfl, rfl, hi, hall, hb3⟩ := hrel
      by_cases hlt : i < kl
      case pos =>
        have hi' : i < ls.length := by rw [HLS.out]; exact hlt
        have HSTEP := Lib.hid (any_step hi' hall)
        obtain ⟨b', o, hbo, hbb, e0, e1, e2, e3, e4⟩ := spot_at (HR1.out.at_size (Nat.le_refl _) hb3) hi'
        subst hbo
        have hu := HU1.out _ (List.getElem_mem hi')
        have l0 := cell_old HL0.out hb3
        have l1 := cell_old HL1.out hb3
        generalize ls[i] = y at *
        obtain ⟨xn, xp, xs, xv, xz⟩ := y
        simp only at e3 e4 hu
        obtain ⟨z, rfl, hzz⟩ := hu.nat
        have HLT := Lib.hid hlt
        have hi9 : i ≤ 1000 := by have := HKL.out; omega
        have HBD := Lib.hid (hb3.trans ((Below.refl _ wr).drew.mono hb3.size))
        clear hall hi hi' hbb hb3 e0 e1 e2 hu hzz
        have hA : (xv = false ∧ isV kk xv z = false) ∨ (xv = true ∧ z = kk ∧ isV kk xv z = true) ∨ (xv = true ∧ ((z : Int) == (kk : Int)) = false ∧ isV kk xv z = false) := by
          cases xv with
          | false => exact .inl ⟨rfl, rfl⟩
          | true =>
            by_cases e : z = kk
            · exact .inr (.inl ⟨rfl, e, by simp [isV, e]⟩)
            · exact .inr (.inr ⟨rfl, by simp; omega, by simp [isV, e]⟩)
        have hdef : askP kk ⟨xn, xp, xs, xv, (z : Int)⟩ = isV kk xv z := rfl
        rw [hdef] at HSTEP
        clear hdef
        rcases hA with ⟨rfl, h1⟩ | ⟨rfl, rfl, h1⟩ | ⟨rfl, hAx, h1⟩
        all_goals (
          rw [h1] at HSTEP
          clear h1
          cases m
          all_goals (
            go_wp2_with fail
            refine wp_region_ord [0, 1, 2, 3, 4, 5, 6, 7, 8, 9, 10] [] 11 (fun w' => w'.cell? ⟨gl, 0, none⟩ = some (.bool true) ∧ w'.cell? ⟨gl, 1, none⟩ = some (.int .u64 _) ∧ w'.cell? ⟨b', o + i * 5 + 3, none⟩ = _ ∧ w'.cell? ⟨b', o + i * 5 + 4, none⟩ = _) (by kernel_rfl) (by kernel_rfl) (by kernel_rfl) (by kernel_rfl) (fun _ _ _ _ _ h => h) ⟨l0, l1, e3, e4⟩ ?_
            simp only [steps, List.getElem?_cons_zero, List.getElem?_cons_succ]
            repeat (first
              | (refine ord_no rfl ?_; simp only [Act.put, List.setIfInBounds_toArray, List.set_cons_zero, List.set_cons_succ])
              | (refine ord_yes (v := ?_) rfl rfl ?_ ?_; rotate_left; (focus (rintro w' ⟨hS0, hS1, hS2, hS3⟩; go_simp; try with_reducible rfl)); simp only [Act.put, List.setIfInBounds_toArray, List.set_cons_zero, List.set_cons_succ]))
            refine ord_end ?_
            clear l0 l1 e3 e4
            go_wp2_with fail
            go_roundw
            case rel => exact ⟨i + 1, _, by have := HLT.out; go_num, rfl, by have := HLT.out; have := HLS.out; omega, HSTEP.out, HBD.out⟩
            case measure =>
              have := HLT.out
              simp [intOf]
              omega))
      case neg =>
      obtain rfl : m2 = m := by rw [← HMM.out, ← hall, List.take_of_length_le (by rw [HLS.out]; omega)]
      obtain rfl : kl = i := by have := HLS.out; omega
      have h := HH.out.keep hb3
      have hS := HSS.out.keep hb3
      have hz := HZZ.out.keep hb3
      have hb := HB0.out.trans (hb3.mono HB0.out.size)
      clear hb3 HH HSS HZZ HL0 HL1 HB0 hall hi hlt HR1
      clear hkm
      have hz0 := hz.z0
      have hz1 := hz.z1
      have hz2 := hz.z2
      have hz3 := hz.z3
      have hz4 := hz.z4
      have hal : Below wr.heap.size wr (wr.alloc (.cells #[.int .i64 (lv - 1), .int .i64 ev, .slice A n c, .slice A1 n1 c1, .slice A2 n2 c2] 25)) := (Below.refl _ _).alloc (Nat.le_refl _) _
      have hzl := Box.new wr (lv - 1) ev A n c A1 n1 c1 A2 n2 c2
      replace h := h.keep hal
      replace hS := hS.keep hal
      replace hb := hb.trans (hal.mono hb.size)
      clear hal
      go_wp2_with fail
      clear hz0 hz1 hz2 hz3 hz4 hz
      refine (alive_any _).mono ?_
      rintro e w7 ⟨rfl, hv⟩
      replace hzl := hzl.keep hv
      replace h := h.keep hv
      replace hS := hS.keep hv
      replace hb := hb.trans (hv.mono hb.size)
      clear hv
      have hz0 := hzl.z0
      have hz1 := hzl.z1
      have hz2 := hzl.z2
      have hz3 := hzl.z3
      have hz4 := hzl.z4
      go_wp2_with fail
      refine (HL2.out _ _ _ h hS.inl hS.inr xl HXL.out).mono ?_
      rintro e w8 ⟨rfl, hv⟩
      replace hb := hb.trans (hv.mono hb.size)
      clear hv hz0 hz1 hz2 hz3 hz4 hzl
      have hfin := HFIN.out
      cases m2
      all_goals (
        go_wp2_with fail
        go_ret
        exact ⟨rfl, hb⟩)

theorem own : ownKnob Try.prog.godebug = none := by kernel_rfl
theorem laidOut : laidOutB Try.prog = true := by kernel_rfl

set_option maxRecDepth 100000 in
theorem lifted (os : Os) (started : os.Started) (H : Type) (enc : TypeId × Value → H) :
    ReturnsInHanded {} Try.checked os 6 .any (Rows.schemesMoreSpec.pre6 enc Try.prog Try.f6 Rows.schemesMoreRow.domain false) (Rows.schemesMoreSpec.post enc Try.prog Try.f6 false true false false) := by
  refine returnsInHanded_of_change (C := Try.checked) own started (by kernel_rfl) Try.func6
    (ChangeSpec.witness6 (enc := enc) (C := Try.checked) false ⟨#[], #[.agg #[.int .i64 0, .int .i64 0, .slice none 0 0, .slice none 0 0, .slice none 0 0], .agg #[.slice none 0 0, .int .i64 0]], []⟩ 8 (by kernel_rfl) (by kernel_rfl) (by kernel_rfl) (by kernel_rfl)) ?_
  intro W base args ds gs before hval0 hW hcnd _
  have hval : ∀ (j : Nat) t v, Try.f6.params[j]? = some t → args[j]? = some v → Value.okWide Try.prog W .any base t v := hval0
  have hW' := hW
  obtain ⟨p, q, hA0, hV, rfl, hfz, hnd⟩ := hW
  have hA : DataW.TrodAll enc Try.prog W 0 (fun _ => true) true Try.f6.params.toList args.toList ds p := hA0
  rw [Try.params6] at hA hval
  obtain ⟨v0, vs0, d0, ds0, p0, q0, hargs, rfl, rfl, h0, r0⟩ := trodAll_cons hA
  obtain ⟨v1, vs1, d1, ds1, p1, q1, rfl, rfl, rfl, h1, r1⟩ := trodAll_cons r0
  obtain ⟨rfl, rfl, rfl⟩ := trodAll_nil r1
  obtain rfl : args = #[v0, v1] := by cases args; simp_all
  obtain ⟨rfl, rfl⟩ := trodVars_none hV
  have lt0 : ∀ x ∈ p0, x.block < W.heap.size := by obtain ⟨m, hm⟩ := h0; exact DataW.trod_lt m _ _ _ hm
  have lt1 : ∀ x ∈ p1, x.block < W.heap.size := by obtain ⟨m, hm⟩ := h1; exact DataW.trod_lt m _ _ _ hm
  obtain ⟨s, A, n, c, A1, n1, c1, A2, n2, c2, rfl, hS, -, -⟩ := opened_scheme h0
  obtain ⟨A3, n3, c3, k, rows, rfl, hr, hrf⟩ := opened_sorts h1
  clear hA0 hval0
  refine (walk s A n c A1 n1 c1 A2 n2 c2 A3 n3 c3 k rows W hS hr hrf).mono fun e W' ⟨he, bel⟩ => ?_
  subst he
  exact ⟨_, rfl, _, _, _, [], _, [], hW', trodAll_mk1 (shut_bool Try.underlying4 _), (trodAll_cons_mk (Below.trod laidOut (by kernel_rfl) (of_decide_eq_true (by kernel_rfl)) h0 bel lt0) (trodAll_cons_mk (Below.trod laidOut (by kernel_rfl) (of_decide_eq_true (by kernel_rfl)) h1 bel lt1) trodAll_mk0)), rfl, bel.frame _, fun h => by cases h⟩

theorem over : Rows.schemesMoreRow.holds Try.pinned (OpenSpec.ofChange Rows.schemesMoreSpec) :=
  OpenClaim.holds_of_wide 6 Try.f6 rfl rfl rfl rfl rfl rfl rfl ⟨rfl, rfl, rfl, rfl, rfl⟩ rfl rfl rfl rfl rfl (by kernel_rfl) Try.func6 (by kernel_rfl)
    (of_decide_eq_true (by kernel_rfl)) (by unfold Func.isWrapper; first | (rw [if_pos (by decide +kernel)]; kernel_rfl) | (rw [if_neg (by decide +kernel)]; exact ⟨rfl, rfl⟩))
    (fun os started H enc _ => lifted os started H enc)

theorem proved : Rows.SchemesMoreSaid := over
#print axioms proved

end Go.Proofs.Ytmiconjmeaammaa.schemesMore
