/- A scheme may be just if its body may, its bounds of both sorts may, and each of its terms is a value of its sort, or a variable that there is: SchemesParts is true, whatever scheme, labels and effects are handed in. Condition: none but those of the statement. -/
import Derived.Test.YtmiconjmeaammaaEx
import Derived.Test.YtmiconjmeaammaaTell
import Derived.Test.YtmiconjmeaammaaRows
import Derived.Deep.DeepCutAuto
namespace Go.Proofs.Ytmiconjmeaammaa.schemesParts
open Go.ChangeShapes Go.WideShapes Go.ChangeAt Go.RowKit

/-! A method value of a sort that is something is no nil. -/
set_option maxRecDepth 100000 in
theorem nil_la_Has (a : Option Addr) : ∀ W, (nilAhead 258 73 (.pointer a) "Has").run Try.prog W = .ok (some false) W := fun W => by kernel_rfl
set_option maxRecDepth 100000 in
theorem nil_ef_Has (a : Option Addr) : ∀ W, (nilAhead 258 76 (.pointer a) "Has").run Try.prog W = .ok (some false) W := fun W => by kernel_rfl

theorem all_step {f : Sp → Bool} {m0 : Bool} {l : List Sp} {i : Nat} (hi : i < l.length) (h : (m0 && (l.take i).all f) = true) : (m0 && (l.take (i + 1)).all f) = f l[i] := by
  rw [Bool.and_eq_true] at h
  rw [List.take_succ_eq_append_getElem hi, List.all_append, h.1, h.2]
  simp
theorem all_part {f : Sp → Bool} {m0 : Bool} {l : List Sp} {i : Nat} (h : (m0 && (l.take i).all f) = false) : (m0 && l.all f) = false := by
  cases m0 with
  | false => rfl
  | true =>
    rw [Bool.true_and] at h ⊢
    refine Bool.eq_false_iff.2 fun e => ?_
    have : (l.take i).all f = true := List.all_eq_true.2 fun x hx => List.all_eq_true.1 e x (List.mem_of_mem_take hx)
    rw [h] at this
    cases this
/-- All of the first i may stand. -/
def PaRel (f : Sp → Bool) (m0 : Bool) (l : List Sp) (w : World) (v9 v10 : Value) (wr : World) : Prop := ∃ (i : Nat) (m : Bool), v10 = .int .i64 (i : Int) ∧ v9 = .bool m ∧ i ≤ l.length ∧ (m0 && (l.take i).all f) = m ∧ Below w.heap.size w wr

/-- What the law asks. -/
def partsB (S X : Bo.Sr) (s : Sch) : Bool := decide (checkB s.b = 0) && (decide (Bo.chkS S s.lv s.l = 0) && decide (Bo.chkS X s.ev s.e = 0))
theorem parts_ok {S X : Bo.Sr} {s : Sch} {xc : Int} (h : s.check S X = xc) : ((xc : Int) == 0) = (partsB S X s && (labB s.b).all (may1 S s.lv) && (effB s.b).all (may1 X s.ev)) := by
  refine Bool.eq_iff_iff.2 ?_
  rw [beq_iff_eq, ← h, Sch.check_is]
  unfold partsB
  simp only [Bool.and_eq_true, decide_eq_true_eq, List.all_eq_true, and_assoc]
theorem parts_lim {S X : Bo.Sr} {s : Sch} (h : partsB S X s = true) : (0 ≤ s.lv ∧ s.lv ≤ 64) ∧ 0 ≤ s.ev ∧ s.ev ≤ 64 := by
  unfold partsB at h
  simp only [Bool.and_eq_true, decide_eq_true_eq] at h
  have h1 := chk_zero.1 h.2.1
  have h2 := chk_zero.1 h.2.2
  exact ⟨⟨h1.1, h1.2.1⟩, h2.1, h2.2.1⟩

set_option maxRecDepth 100000 in
set_option maxHeartbeats 16000000 in
theorem walk (s : Sch) (A : Option Addr) (n c : Nat) (A1 : Option Addr) (n1 c1 : Nat) (A2 : Option Addr) (n2 c2 : Nat) (A3 : Option Addr) (n3 c3 : Nat) (k : Int) (rows : List Nat) (w : World) (h : SchAt w s A n c A1 n1 c1 A2 n2 c2) (hr : Rd La.nm w w.heap.size A3 n3 c3 rows) (hrf : La.Fit rows) :
    Calls Try.prog 5 #[schV s A n c A1 n1 c1 A2 n2 c2, zV A3 n3 c3 k] w fun e w' => e = .returned (.bool true) ∧ Below w.heap.size w w' := by
  have HGC := Lib.hid fun W r hr => great_any s A n c A1 n1 c1 A2 n2 c2 A3 n3 c3 k W r hr
  obtain ⟨gr, hgr⟩ : ∃ r, grt n3 n n1 n2 = r := ⟨_, rfl⟩
  have HGR := Lib.hid hgr
  have HOF := Lib.hid fun W (h : Rd La.nm W W.heap.size A3 n3 c3 rows) => of_sorts A3 n3 c3 k rows W h hrf
  generalize laOf rows = S at HOF
  generalize efOf k = X at HOF
  obtain ⟨xc, hxc⟩ : ∃ x, s.check S X = x := ⟨_, rfl⟩
  have HCC := Lib.hid fun (W : World) v v' (h : SchAt W s A n c A1 n1 c1 A2 n2 c2) (hS : Bo.SrtIn W v S) (hX : Bo.SrtIn W v' X) => schCheck_any s A n c A1 n1 c1 A2 n2 c2 v v' S X W h hS hX xc hxc
  obtain ⟨m0, hm0⟩ : ∃ m, partsB S X s = m := ⟨_, rfl⟩
  have hfin := parts_ok hxc
  rw [hm0] at hfin
  have hlim := fun e => parts_lim (hm0.trans e)
  obtain ⟨lv, ev, bo, sl, se⟩ := s
  simp only at hfin hlim
  have HP : Hid ((decide (checkB bo = 0) && (decide (Bo.chkS S lv sl = 0) && decide (Bo.chkS X ev se = 0))) = m0) := Lib.hid hm0
  have HLIM := Lib.hid hlim
  clear hgr hxc hm0 hlim hrf
  unfold schV zV at HGC
  unfold zV at HOF
  unfold schV at HCC
  unfold schV zV
  have hal : Below w.heap.size w (w.alloc (.cells #[.int .i64 lv, .int .i64 ev, .slice A n c, .slice A1 n1 c1, .slice A2 n2 c2] 25)) := (Below.refl _ _).alloc (Nat.le_refl _) _
  have hz := Box.new w lv ev A n c A1 n1 c1 A2 n2 c2
  generalize hwa : w.alloc (.cells #[.int .i64 lv, .int .i64 ev, .slice A n c, .slice A1 n1 c1, .slice A2 n2 c2] 25) = wa at hal hz
  have hb : Below w.heap.size w (wa.alloc (.cells #[.slice A3 n3 c3, .int .i64 k] 31)) := hal.alloc hal.size _
  have hv : Below wa.heap.size wa (wa.alloc (.cells #[.slice A3 n3 c3, .int .i64 k] 31)) := (Below.refl _ _).alloc (Nat.le_refl _) _
  replace hz := hz.keep hv
  have hbx := heap_alloc_new wa (.cells #[.slice A3 n3 c3, .int .i64 k] 31)
  have y0 : _ = some (Value.slice A3 n3 c3) := (cell_blk (i := 0) hbx).trans rfl
  have y1 : _ = some (Value.int .i64 k) := (cell_blk (i := 1) hbx).trans rfl
  clear hbx hv hal
  subst hwa
  simp only [World.size_alloc] at y0 y1
  replace h := h.keep hb
  replace hr := hr.at_size (Nat.le_refl _) hb
  have hz0 := hz.z0
  have hz1 := hz.z1
  have hz2 := hz.z2
  have hz3 := hz.z3
  have hz4 := hz.z4
  go_enter Try.func5, Try.ntmps5
  go_wp2_with fail
  refine (HGC.out _ _ HGR.out).mono ?_
  rintro e w1 ⟨rfl, hv⟩
  clear HGC
  clear hz0 hz1 hz2 hz3 hz4
  replace hz := hz.keep hv
  replace h := h.keep hv
  replace hr := hr.at_size (Nat.le_refl _) hv
  replace y0 := cell_old y0 hv
  replace y1 := cell_old y1 hv
  replace hb := hb.trans (hv.mono hb.size)
  clear hv
  cases gr with
  | true =>
    go_wp2_with fail
    refine (alive_any _).mono ?_
    rintro e wz ⟨rfl, hv⟩
    replace hb := hb.trans (hv.mono hb.size)
    clear hv
    go_wp2_with fail
    go_ret
    exact ⟨rfl, hb⟩
  | false =>
  obtain ⟨g1, g2, g3, g4⟩ := grt_no HGR.out
  have HN := Lib.hid (And.intro g2 (And.intro g3 g4))
  clear g1 g2 g3 g4 HGR
  go_wp2_with fail
  refine (HOF.out _ hr).mono ?_
  rintro e w2 ⟨a, b, rfl, hS, hv⟩
  clear HOF y0 y1 hr
  replace hz := hz.keep hv
  replace h := h.keep hv
  replace hb := hb.trans (hv.mono hb.size)
  clear hv
  obtain ⟨kl, hkl⟩ : ∃ k, (labB bo).length = k := ⟨_, rfl⟩
  obtain ⟨ke, hke⟩ : ∃ k, (effB bo).length = k := ⟨_, rfl⟩
  have HKL := Lib.hid (show kl ≤ 256 by rw [← hkl]; exact labB_len bo)
  have HKE := Lib.hid (show ke ≤ 256 by rw [← hke]; exact Nat.le_trans (effB_len bo) (by decide))
  have hc := of_len A n c bo _ _ kl ke w2 h.b h.bf rfl rfl hkl hke
  have HL1 := Lib.hid hkl
  have HL2 := Lib.hid hke
  have HU1 := Lib.hid (labB_u64 h.bt)
  have HU2 := Lib.hid (effB_u64 h.bt)
  simp only at HU1 HU2
  obtain ⟨cb, hcb⟩ : ∃ x, checkB bo = x := ⟨_, rfl⟩
  obtain ⟨x1, hx1⟩ : ∃ x, Bo.chkS S lv sl = x := ⟨_, rfl⟩
  obtain ⟨x2, hx2⟩ : ∃ x, Bo.chkS X ev se = x := ⟨_, rfl⟩
  have HK1 := Lib.hid fun (W : World) (h : SchAt W ⟨lv, ev, bo, sl, se⟩ A n c A1 n1 c1 A2 n2 c2) => check_lit A n c bo cb W h.b h.bf hcb
  have HK2 := Lib.hid fun (W : World) (hS : Both W a b S X) (h : SchAt W ⟨lv, ev, bo, sl, se⟩ A n c A1 n1 c1 A2 n2 c2) => Bo.check_any _ lv A1 n1 c1 sl S W x1 hS.inl h.l h.lf hx1
  have HK3 := Lib.hid fun (W : World) (hS : Both W a b S X) (h : SchAt W ⟨lv, ev, bo, sl, se⟩ A n c A1 n1 c1 A2 n2 c2) => Bo.check_any _ ev A2 n2 c2 se X W x2 hS.inr h.e h.ef hx2
  rw [hcb, hx1, hx2] at HP
  generalize labB bo = ls at *
  generalize effB bo = es at *
  clear hkl hke hcb hx1 hx2
  obtain ⟨m1, hm1⟩ : ∃ m, (m0 && ls.all (may1 S lv)) = m := ⟨_, rfl⟩
  obtain ⟨m2, hm2⟩ : ∃ m, (m1 && es.all (may1 X ev)) = m := ⟨_, rfl⟩
  rw [hm1, hm2] at hfin
  have HFIN := Lib.hid hfin
  have HM1 := Lib.hid hm1
  have HM2 := Lib.hid hm2
  clear hm1 hm2 hfin
  have hz2 := hz.z2
  go_wp2_with fail
  refine hc.mono ?_
  rintro e w3 ⟨B1, d1, B2, d2, rfl, hT⟩
  have hv := hT.bel
  have r1 := hT.r1
  have r2 := hT.r2
  clear hc hT hz2
  replace hz := hz.keep hv
  replace h := h.keep hv
  replace hS := hS.keep hv
  replace hb := hb.trans (hv.mono hb.size)
  clear hv
  obtain ⟨wv, hwv⟩ : ∃ wv, wv = w3 := ⟨_, rfl⟩
  have hvv : Below w3.heap.size w3 w3 := Below.refl _ _
  have HH := Lib.hid h
  have HSS := Lib.hid hS
  have HZZ := Lib.hid hz
  have hthree : (cb = 0 ∧ x1 = 0 ∧ m0 = decide (x2 = 0)) ∨ (cb = 0 ∧ x1 ≠ 0 ∧ m0 = false) ∨ (cb ≠ 0 ∧ m0 = false) := by
    have := HP.out
    by_cases e1 : cb = 0
    · by_cases e2 : x1 = 0
      · exact .inl ⟨e1, e2, by rw [← this]; simp [e1, e2]⟩
      · exact .inr (.inl ⟨e1, e2, by rw [← this]; simp [e2]⟩)
    · exact .inr (.inr ⟨e1, by rw [← this]; simp [e1]⟩)
  have HTH := Lib.hid hthree
  clear HP hthree hwv wv hvv
  go_upto_region 5 with (fail)
  go_cut [9] (fun v9 wx => v9 = .bool m0 ∧ Below w3.heap.size w3 wx)
  case first =>
    have hz2 := hz.z2
    have hthree := HTH.out
    clear HTH r1 r2 HFIN HM1 HM2 HLIM HU1 HU2 HL1 HL2 HCC
    go_wp2_with fail
    refine (HK1.out _ h).mono ?_
    rintro e w4 ⟨rfl, hv⟩
    clear hz2 HK1 hz h hS
    have hb3 : Below w3.heap.size w3 w4 := hv
    clear hv
    rcases hthree with ⟨rfl, rfl, hm⟩ | ⟨rfl, hne, hm⟩ | ⟨hne, hm⟩
    · have hz0 := (HZZ.out.keep hb3).z0
      have hz3 := (HZZ.out.keep hb3).z3
      go_wp2_with fail
      refine (HK2.out _ (HSS.out.keep hb3) (HH.out.keep hb3)).mono ?_
      rintro e w5 ⟨rfl, hv⟩
      clear hz0 hz3 HK2
      replace hb3 := hb3.trans (hv.mono hb3.size)
      clear hv
      have hz1 := (HZZ.out.keep hb3).z1
      have hz4 := (HZZ.out.keep hb3).z4
      go_wp2_with fail
      refine (HK3.out _ (HSS.out.keep hb3) (HH.out.keep hb3)).mono ?_
      rintro e w6 ⟨rfl, hv⟩
      clear hz1 hz4 HK3
      replace hb3 := hb3.trans (hv.mono hb3.size)
      clear hv
      have hq : ((x2 : Int) == 0) = m0 := by rw [hm]; by_cases e : x2 = 0 <;> simp [e]
      clear hm
      go_wp2_with fail
      go_meet
      exact ⟨by first | rfl | rw [hq], hb3⟩
    · subst hm
      have hq : ((x1 : Int) == 0) = false := by simpa using hne
      have hz0 := (HZZ.out.keep hb3).z0
      have hz3 := (HZZ.out.keep hb3).z3
      go_wp2_with fail
      refine (HK2.out _ (HSS.out.keep hb3) (HH.out.keep hb3)).mono ?_
      rintro e w5 ⟨rfl, hv⟩
      clear hz0 hz3 HK2 HK3
      replace hb3 := hb3.trans (hv.mono hb3.size)
      clear hv
      go_wp2_with fail
      go_meet
      exact ⟨rfl, hb3⟩
    · subst hm
      have hq : ((cb : Int) == 0) = false := by simp; omega
      clear HK2 HK3
      go_wp2_with fail
      go_meet
      exact ⟨rfl, hb3⟩
  case rest =>
  obtain ⟨rfl, hv⟩ := hcut
  clear HH HSS HZZ HTH HK1 HK2 HK3
  replace hz := hz.keep hv
  replace h := h.keep hv
  replace hS := hS.keep hv
  replace r1 := r1.at_size (Nat.le_refl _) hv
  replace r2 := r2.at_size (Nat.le_refl _) hv
  replace hb := hb.trans (hv.mono hb.size)
  clear hv
  go_wp2_with fail
  have HH := Lib.hid h
  have HSS := Lib.hid hS
  have HZZ := Lib.hid hz
  have HR1 := Lib.hid r1
  have HR2 := Lib.hid r2
  have HB0 := Lib.hid hb
  obtain ⟨wb1, hwb⟩ : ∃ wb, wb = wc := ⟨_, rfl⟩
  rw [← hwb] at HH HSS HZZ HR1 HR2 HB0 ⊢
  clear hz h hS r1 r2 hb
  clear hwb
  go_loopw [9, 10] (fun v9 v10 wr => PaRel (may1 S lv) m0 ls wb1 v9 v10 wr) (fun _ v10 _ => kl - (intOf v10).toNat)
  case atStart => exact ⟨0, _, rfl, rfl, Nat.zero_le _, by simp, Below.refl _ _⟩
  case round =>
    obtain ⟨i, m, rfl, rfl, hi, hall, hb3⟩ := hrel
    have hil : i ≤ kl := by rw [← HL1.out]; exact hi
    by_cases hgo : i < kl ∧ m = true
    case neg =>
      have hE : m1 = m := by
        by_cases e : i < kl
        · have e2 : m = false := by cases m with
            | false => rfl
            | true => exact absurd ⟨e, rfl⟩ hgo
          subst e2
          rw [← HM1.out]
          exact all_part hall
        · rw [← HM1.out, ← hall, List.take_of_length_le (by rw [HL1.out]; omega)]
      have HE1 := Lib.hid hE
      clear hall hi
      have h := HH.out.keep hb3
      have hS := HSS.out.keep hb3
      have hz := HZZ.out.keep hb3
      have r1 := HR1.out.at_size (Nat.le_refl _) hb3
      have r2 := HR2.out.at_size (Nat.le_refl _) hb3
      have hb := HB0.out.trans (hb3.mono HB0.out.size)
      clear hb3 HH HSS HZZ HR1 HR2 HB0
      obtain ⟨mx1, hmx⟩ : ∃ mx, m = mx := ⟨_, rfl⟩
      by_cases hlt : i < kl
      (focus (
        obtain rfl : m = false := by cases m with
          | false => rfl
          | true => exact absurd ⟨hlt, rfl⟩ hgo
        clear hgo hil hE hmx
        go_wp2_with fail
        clear hlt))
      rotate_left
      (focus (
        clear hgo hil hE hmx
        go_wp2_with fail
        clear hlt))
      rotate_left
      all_goals (
        have HH := Lib.hid h
        have HSS := Lib.hid hS
        have HZZ := Lib.hid hz
        have HR1 := Lib.hid r1
        have HR2 := Lib.hid r2
        have HB0 := Lib.hid hb
        obtain ⟨wb2, hwb⟩ : ∃ wb, wb = wr := ⟨_, rfl⟩
        rw [← hwb] at HH HSS HZZ HR1 HR2 HB0 ⊢
        clear hz h hS r1 r2 hb
        clear hwb
        go_loopw [9, 11] (fun v9 v10 wr => PaRel (may1 X ev) m1 es wb2 v9 v10 wr) (fun _ v10 _ => ke - (intOf v10).toNat)
        case atStart => exact ⟨0, _, rfl, rfl, Nat.zero_le _, by simpa using HE1.out, Below.refl _ _⟩
        case round =>
          obtain ⟨i, m, rfl, rfl, hi, hall, hb3⟩ := hrel
          have hil : i ≤ ke := by rw [← HL2.out]; exact hi
          by_cases hgo : i < ke ∧ m = true
          case neg =>
            have hE : m2 = m := by
              by_cases e : i < ke
              · have e2 : m = false := by cases m with
                  | false => rfl
                  | true => exact absurd ⟨e, rfl⟩ hgo
                subst e2
                rw [← HM2.out]
                exact all_part hall
              · rw [← HM2.out, ← hall, List.take_of_length_le (by rw [HL2.out]; omega)]
            have HE2 := Lib.hid hE
            clear hall hi
            have h := HH.out.keep hb3
            have hS := HSS.out.keep hb3
            have hz := HZZ.out.keep hb3
            have r1 := HR1.out.at_size (Nat.le_refl _) hb3
            have r2 := HR2.out.at_size (Nat.le_refl _) hb3
            have hb := HB0.out.trans (hb3.mono HB0.out.size)
            clear hb3 HH HSS HZZ HR1 HR2 HB0
            obtain ⟨mx2, hmx⟩ : ∃ mx, m = mx := ⟨_, rfl⟩
            by_cases hlt : i < ke
            (focus (
              obtain rfl : m = false := by cases m with
                | false => rfl
                | true => exact absurd ⟨hlt, rfl⟩ hgo
              clear hgo hil hE hmx
              go_wp2_with fail
              clear hlt))
            rotate_left
            (focus (
              clear hgo hil hE hmx
              go_wp2_with fail
              clear hlt))
            rotate_left
            all_goals (
              go_wp2_with fail
              refine (alive_any _).mono ?_
              rintro e w8 ⟨rfl, hv⟩
              replace hz := hz.keep hv
              replace h := h.keep hv
              replace hS := hS.keep hv
              replace hb := hb.trans (hv.mono hb.size)
              clear hv
              have hz0 := hz.z0
              have hz1 := hz.z1
              have hz2 := hz.z2
              have hz3 := hz.z3
              have hz4 := hz.z4
              go_wp2_with fail
              refine (HCC.out _ _ _ h hS.inl hS.inr).mono ?_
              rintro e w9 ⟨rfl, hv⟩
              replace hb := hb.trans (hv.mono hb.size)
              clear hv
              have hfin := HFIN.out
              rw [HE2.out] at hfin
              go_wp2_with fail
              go_ret
              exact ⟨rfl, hb⟩
            )
          case pos =>
          obtain ⟨hlt, rfl⟩ := hgo
          have hi' : i < es.length := by rw [HL2.out]; exact hlt
          have hm0 : m1 = true := by
            rw [Bool.and_eq_true] at hall
            exact hall.1
          have hlm := (HLIM.out (by rw [← HM1.out, Bool.and_eq_true] at hm0; exact hm0.1)).2
          have HSTEP := Lib.hid (all_step hi' hall)
          obtain ⟨b', o, hbo, hbb, e0, e1, e2, e3, e4⟩ := spot_at (HR2.out.at_size (Nat.le_refl _) hb3) hi'
          subst hbo
          have hu := HU2.out _ (List.getElem_mem hi')
          have hz1 := (HZZ.out.keep hb3).z1
          have HA := Lib.hid (HSS.out.keep hb3).x
          generalize es[i] = x at *
          obtain ⟨xn, xp, xs, xv, xz⟩ := x
          simp only at e0 e1 e2 e3 e4 hu
          obtain ⟨z, rfl, hzz⟩ := hu.nat
          have hdef : may1 X ev ⟨xn, xp, xs, xv, (z : Int)⟩ = cond xv (decide (z < (ev).toNat)) (X.has z) := rfl
          rw [hdef] at HSTEP
          have HLT := Lib.hid hlt
          have hdr : Below wr.heap.size wr wr.drew := (Below.refl _ _).drew
          have hw64 : IntKind.u64.wrap ev = ev := by rw [IntKind.wrap_u64]; omega
          have hbd := hb3.trans (hdr.mono hb3.size)
          have HBD := Lib.hid hbd
          have HDR := Lib.hid hdr
          clear e0 e1 e2 hall hi hil hu hbb hi' hm0 hdef hbd hdr hb3
          cases xv with
          | true =>
            have hd : decide (z < (ev).toNat) = decide ((z : Int) < ev) := by by_cases e : (z : Int) < ev <;> simp [e] <;> omega
            rw [hd] at HSTEP
            clear hd HA hzz
            generalize hq : decide ((z : Int) < ev) = q at *
            clear hlm
            cases q
            all_goals (
              go_wp2_with fail
              refine wp_region_ord [0, 1, 2, 3, 4, 5, 6, 7, 8, 9, 10, 11, 12, 13, 14, 15, 16, 17, 18, 19, 20, 21, 22, 23, 24, 25, 26, 27, 28, 29, 30, 31, 32, 33, 34, 35, 36, 37, 38, 39, 40] [37] 41 (fun w' => w'.cell? ⟨b', o + i * 5 + 3, none⟩ = some (.bool true) ∧ w'.cell? ⟨b', o + i * 5 + 4, none⟩ = some (.int .u64 (z : Int)) ∧ w'.cell? ⟨w.heap.size, 1, none⟩ = some (.int .i64 ev)) (by kernel_rfl) (by kernel_rfl) (by kernel_rfl) (by kernel_rfl) (fun _ _ _ _ _ h => h) ⟨e3, e4, hz1⟩ ?_
              simp only [steps, List.getElem?_cons_zero, List.getElem?_cons_succ]
              repeat (first
                | (refine ord_no rfl ?_; simp only [Act.put, List.setIfInBounds_toArray, List.set_cons_zero, List.set_cons_succ])
                | (refine ord_yes (v := ?_) rfl rfl ?_ ?_; rotate_left; (focus (rintro w' ⟨hS0, hS1, hS2⟩; go_simp; try with_reducible rfl)); simp only [Act.put, List.setIfInBounds_toArray, List.set_cons_zero, List.set_cons_succ]))
              refine ord_end ?_
              clear e3 e4 hz1 hq hw64
              have hi9 : i ≤ 1000 := by have := HLT.out; have := HKE.out; omega
              go_wp2_with fail
              go_roundw
              case rel => exact ⟨i + 1, _, by have := HLT.out; have := HL2.out; have := HKE.out; go_num, rfl, by have := HLT.out; have := HL2.out; have := HKE.out; omega, HSTEP.out, HBD.out⟩
              case measure =>
                have := HLT.out
                have := HKE.out
                simp [intOf]
                omega)
          | false =>
            have hnm := nil_ef_Has b
            have hcall := HA.out.has wr.drew HDR.out z hzz
            simp only [cond_false] at HSTEP
            generalize X.has z = q at *
            have HC := Lib.hid hcall
            clear hcall HA hlm hzz
            have g3 : wr.drew.cell? ⟨b', o + i * 5 + 3, none⟩ = some (.bool false) := e3
            have g4 : wr.drew.cell? ⟨b', o + i * 5 + 4, none⟩ = some (.int .u64 (z : Int)) := e4
            go_wp2_with fail
            refine wp_region_ord [0, 1, 2, 3, 4, 5, 6, 7, 8, 9, 10, 11, 12, 13, 14, 15, 16, 17, 18, 19, 20, 21, 22, 23, 24, 25, 26, 27, 28, 29, 30, 31, 32, 33, 34, 35, 36, 37, 38, 39, 40] [37] 41 (fun w' => w'.cell? ⟨b', o + i * 5 + 3, none⟩ = some (.bool false) ∧ w'.cell? ⟨b', o + i * 5 + 4, none⟩ = some (.int .u64 (z : Int)) ∧ w'.cell? ⟨w.heap.size, 1, none⟩ = some (.int .i64 ev)) (by kernel_rfl) (by kernel_rfl) (by kernel_rfl) (by kernel_rfl) (fun _ _ _ _ _ h => h) ⟨e3, e4, hz1⟩ ?_
            simp only [steps, List.getElem?_cons_zero, List.getElem?_cons_succ]
            repeat (first
              | (refine ord_no rfl ?_; simp only [Act.put, List.setIfInBounds_toArray, List.set_cons_zero, List.set_cons_succ])
              | (refine ord_yes (v := ?_) rfl rfl ?_ ?_; rotate_left; (focus (rintro w' ⟨hS0, hS1, hS2⟩; go_simp; try with_reducible rfl)); simp only [Act.put, List.setIfInBounds_toArray, List.set_cons_zero, List.set_cons_succ]))
            refine ord_hard rfl rfl (fun K hK => ?_)
            go_simp
            go_invoke
            go_simp
            refine HC.out.mono ?_
            rintro e w7 ⟨rfl, hv⟩
            have HBE := Lib.hid (HBD.out.trans (hv.mono HBD.out.size))
            refine hK.out _ _ (fun _ => ⟨cell_old g3 hv, cell_old g4 hv, cell_old (show wr.drew.cell? ⟨w.heap.size, 1, none⟩ = some (.int .i64 ev) from hz1) hv⟩) ?_
            clear hK K hv
            try simp only [Act.put, List.setIfInBounds_toArray, List.set_cons_zero, List.set_cons_succ]
            repeat (first
              | (refine ord_no rfl ?_; simp only [Act.put, List.setIfInBounds_toArray, List.set_cons_zero, List.set_cons_succ])
              | (refine ord_yes (v := ?_) rfl rfl ?_ ?_; rotate_left; (focus (rintro w' ⟨hS0, hS1, hS2⟩; go_simp; try with_reducible rfl)); simp only [Act.put, List.setIfInBounds_toArray, List.set_cons_zero, List.set_cons_succ]))
            refine ord_end ?_
            clear e3 e4 hz1 hw64 g3 g4 HC
            have hi9 : i ≤ 1000 := by have := HLT.out; have := HKE.out; omega
            go_wp2_with fail
            go_roundw
            case rel => exact ⟨i + 1, _, by have := HLT.out; have := HL2.out; have := HKE.out; go_num, rfl, by have := HLT.out; have := HL2.out; have := HKE.out; omega, HSTEP.out, HBE.out⟩
            case measure =>
              have := HLT.out
              have := HKE.out
              simp [intOf]
              omega
      )
    case pos =>
    obtain ⟨hlt, rfl⟩ := hgo
    have hi' : i < ls.length := by rw [HL1.out]; exact hlt
    have hm0 : m0 = true := by
      rw [Bool.and_eq_true] at hall
      exact hall.1
    have hlm := (HLIM.out hm0).1
    have HSTEP := Lib.hid (all_step hi' hall)
    obtain ⟨b', o, hbo, hbb, e0, e1, e2, e3, e4⟩ := spot_at (HR1.out.at_size (Nat.le_refl _) hb3) hi'
    subst hbo
    have hu := HU1.out _ (List.getElem_mem hi')
    have hz0 := (HZZ.out.keep hb3).z0
    have HA := Lib.hid (HSS.out.keep hb3).l
    generalize ls[i] = x at *
    obtain ⟨xn, xp, xs, xv, xz⟩ := x
    simp only at e0 e1 e2 e3 e4 hu
    obtain ⟨z, rfl, hzz⟩ := hu.nat
    have hdef : may1 S lv ⟨xn, xp, xs, xv, (z : Int)⟩ = cond xv (decide (z < (lv).toNat)) (S.has z) := rfl
    rw [hdef] at HSTEP
    have HLT := Lib.hid hlt
    have hdr : Below wr.heap.size wr wr.drew := (Below.refl _ _).drew
    have hw64 : IntKind.u64.wrap lv = lv := by rw [IntKind.wrap_u64]; omega
    have hbd := hb3.trans (hdr.mono hb3.size)
    have HBD := Lib.hid hbd
    have HDR := Lib.hid hdr
    clear e0 e1 e2 hall hi hil hu hbb hi' hm0 hdef hbd hdr hb3
    cases xv with
    | true =>
      have hd : decide (z < (lv).toNat) = decide ((z : Int) < lv) := by by_cases e : (z : Int) < lv <;> simp [e] <;> omega
      rw [hd] at HSTEP
      clear hd HA hzz
      generalize hq : decide ((z : Int) < lv) = q at *
      clear hlm
      cases q
      all_goals (
        go_wp2_with fail
        refine wp_region_ord [0, 1, 2, 3, 4, 5, 6, 7, 8, 9, 10, 11, 12, 13, 14, 15, 16, 17, 18, 19, 20, 21, 22, 23, 24, 25, 26, 27, 28, 29, 30, 31, 32, 33, 34, 35, 36, 37, 38, 39, 40] [37] 41 (fun w' => w'.cell? ⟨b', o + i * 5 + 3, none⟩ = some (.bool true) ∧ w'.cell? ⟨b', o + i * 5 + 4, none⟩ = some (.int .u64 (z : Int)) ∧ w'.cell? ⟨w.heap.size, 0, none⟩ = some (.int .i64 lv)) (by kernel_rfl) (by kernel_rfl) (by kernel_rfl) (by kernel_rfl) (fun _ _ _ _ _ h => h) ⟨e3, e4, hz0⟩ ?_
        simp only [steps, List.getElem?_cons_zero, List.getElem?_cons_succ]
        repeat (first
          | (refine ord_no rfl ?_; simp only [Act.put, List.setIfInBounds_toArray, List.set_cons_zero, List.set_cons_succ])
          | (refine ord_yes (v := ?_) rfl rfl ?_ ?_; rotate_left; (focus (rintro w' ⟨hS0, hS1, hS2⟩; go_simp; try with_reducible rfl)); simp only [Act.put, List.setIfInBounds_toArray, List.set_cons_zero, List.set_cons_succ]))
        refine ord_end ?_
        clear e3 e4 hz0 hq hw64
        have hi9 : i ≤ 1000 := by have := HLT.out; have := HKL.out; omega
        go_wp2_with fail
        go_roundw
        case rel => exact ⟨i + 1, _, by have := HLT.out; have := HL1.out; have := HKL.out; go_num, rfl, by have := HLT.out; have := HL1.out; have := HKL.out; omega, HSTEP.out, HBD.out⟩
        case measure =>
          have := HLT.out
          have := HKL.out
          simp [intOf]
          omega)
    | false =>
      have hnm := nil_la_Has a
      have hcall := HA.out.has wr.drew HDR.out z hzz
      simp only [cond_false] at HSTEP
      generalize S.has z = q at *
      have HC := Lib.hid hcall
      clear hcall HA hlm hzz
      have g3 : wr.drew.cell? ⟨b', o + i * 5 + 3, none⟩ = some (.bool false) := e3
      have g4 : wr.drew.cell? ⟨b', o + i * 5 + 4, none⟩ = some (.int .u64 (z : Int)) := e4
      go_wp2_with fail
      refine wp_region_ord [0, 1, 2, 3, 4, 5, 6, 7, 8, 9, 10, 11, 12, 13, 14, 15, 16, 17, 18, 19, 20, 21, 22, 23, 24, 25, 26, 27, 28, 29, 30, 31, 32, 33, 34, 35, 36, 37, 38, 39, 40] [37] 41 (fun w' => w'.cell? ⟨b', o + i * 5 + 3, none⟩ = some (.bool false) ∧ w'.cell? ⟨b', o + i * 5 + 4, none⟩ = some (.int .u64 (z : Int)) ∧ w'.cell? ⟨w.heap.size, 0, none⟩ = some (.int .i64 lv)) (by kernel_rfl) (by kernel_rfl) (by kernel_rfl) (by kernel_rfl) (fun _ _ _ _ _ h => h) ⟨e3, e4, hz0⟩ ?_
      simp only [steps, List.getElem?_cons_zero, List.getElem?_cons_succ]
      repeat (first
        | (refine ord_no rfl ?_; simp only [Act.put, List.setIfInBounds_toArray, List.set_cons_zero, List.set_cons_succ])
        | (refine ord_yes (v := ?_) rfl rfl ?_ ?_; rotate_left; (focus (rintro w' ⟨hS0, hS1, hS2⟩; go_simp; try with_reducible rfl)); simp only [Act.put, List.setIfInBounds_toArray, List.set_cons_zero, List.set_cons_succ]))
      refine ord_hard rfl rfl (fun K hK => ?_)
      go_simp
      go_invoke
      go_simp
      refine HC.out.mono ?_
      rintro e w7 ⟨rfl, hv⟩
      have HBE := Lib.hid (HBD.out.trans (hv.mono HBD.out.size))
      refine hK.out _ _ (fun _ => ⟨cell_old g3 hv, cell_old g4 hv, cell_old (show wr.drew.cell? ⟨w.heap.size, 0, none⟩ = some (.int .i64 lv) from hz0) hv⟩) ?_
      clear hK K hv
      try simp only [Act.put, List.setIfInBounds_toArray, List.set_cons_zero, List.set_cons_succ]
      repeat (first
        | (refine ord_no rfl ?_; simp only [Act.put, List.setIfInBounds_toArray, List.set_cons_zero, List.set_cons_succ])
        | (refine ord_yes (v := ?_) rfl rfl ?_ ?_; rotate_left; (focus (rintro w' ⟨hS0, hS1, hS2⟩; go_simp; try with_reducible rfl)); simp only [Act.put, List.setIfInBounds_toArray, List.set_cons_zero, List.set_cons_succ]))
      refine ord_end ?_
      clear e3 e4 hz0 hw64 g3 g4 HC
      have hi9 : i ≤ 1000 := by have := HLT.out; have := HKL.out; omega
      go_wp2_with fail
      go_roundw
      case rel => exact ⟨i + 1, _, by have := HLT.out; have := HL1.out; have := HKL.out; go_num, rfl, by have := HLT.out; have := HL1.out; have := HKL.out; omega, HSTEP.out, HBE.out⟩
      case measure =>
        have := HLT.out
        have := HKL.out
        simp [intOf]
        omega

theorem own : ownKnob Try.prog.godebug = none := by kernel_rfl
theorem laidOut : laidOutB Try.prog = true := by kernel_rfl

set_option maxRecDepth 100000 in
theorem lifted (os : Os) (started : os.Started) (H : Type) (enc : TypeId × Value → H) :
    ReturnsInHanded {} Try.checked os 5 .any (Rows.schemesPartsSpec.pre6 enc Try.prog Try.f5 Rows.schemesPartsRow.domain false) (Rows.schemesPartsSpec.post enc Try.prog Try.f5 false true false false) := by
  refine returnsInHanded_of_change (C := Try.checked) own started (by kernel_rfl) Try.func5
    (ChangeSpec.witness6 (enc := enc) (C := Try.checked) false ⟨#[], #[.agg #[.int .i64 0, .int .i64 0, .slice none 0 0, .slice none 0 0, .slice none 0 0], .agg #[.slice none 0 0, .int .i64 0]], []⟩ 8 (by kernel_rfl) (by kernel_rfl) (by kernel_rfl) (by kernel_rfl)) ?_
  intro W base args ds gs before hval0 hW hcnd _
  have hval : ∀ (j : Nat) t v, Try.f5.params[j]? = some t → args[j]? = some v → Value.okWide Try.prog W .any base t v := hval0
  have hW' := hW
  obtain ⟨p, q, hA0, hV, rfl, hfz, hnd⟩ := hW
  have hA : DataW.TrodAll enc Try.prog W 0 (fun _ => true) true Try.f5.params.toList args.toList ds p := hA0
  rw [Try.params5] at hA hval
  obtain ⟨v0, vs0, d0, ds0, p0, q0, hargs, rfl, rfl, h0, r0⟩ := trodAll_cons hA
  obtain ⟨v1, vs1, d1, ds1, p1, q1, rfl, rfl, rfl, h1, r1⟩ := trodAll_cons r0
  obtain ⟨rfl, rfl, rfl⟩ := trodAll_nil r1
  obtain rfl : args = #[v0, v1] := by cases args; simp_all
  obtain ⟨rfl, rfl⟩ := trodVars_none hV
  have lt0 : ∀ x ∈ p0, x.block < W.heap.size := by obtain ⟨m, hm⟩ := h0; exact DataW.trod_lt m _ _ _ hm
  have lt1 : ∀ x ∈ p1, x.block < W.heap.size := by obtain ⟨m, hm⟩ := h1; exact DataW.trod_lt m _ _ _ hm
  obtain ⟨s, A, n, c, A1, n1, c1, A2, n2, c2, rfl, hS, -, -⟩ := opened_scheme h0
  obtain ⟨A3, n3, c3, k, rows, rfl, hr, hrf⟩ := opened_sorts h1
  clear hA0 hval0
  refine (walk s A n c A1 n1 c1 A2 n2 c2 A3 n3 c3 k rows W hS hr hrf).mono fun e W' ⟨he, bel⟩ => ?_
  subst he
  exact ⟨_, rfl, _, _, _, [], _, [], hW', trodAll_mk1 (shut_bool Try.underlying4 _), (trodAll_cons_mk (Below.trod laidOut (by kernel_rfl) (of_decide_eq_true (by kernel_rfl)) h0 bel lt0) (trodAll_cons_mk (Below.trod laidOut (by kernel_rfl) (of_decide_eq_true (by kernel_rfl)) h1 bel lt1) trodAll_mk0)), rfl, bel.frame _, fun h => by cases h⟩

theorem over : Rows.schemesPartsRow.holds Try.pinned (OpenSpec.ofChange Rows.schemesPartsSpec) :=
  OpenClaim.holds_of_wide 5 Try.f5 rfl rfl rfl rfl rfl rfl rfl ⟨rfl, rfl, rfl, rfl, rfl⟩ rfl rfl rfl rfl rfl (by kernel_rfl) Try.func5 (by kernel_rfl)
    (of_decide_eq_true (by kernel_rfl)) (by unfold Func.isWrapper; first | (rw [if_pos (by decide +kernel)]; kernel_rfl) | (rw [if_neg (by decide +kernel)]; exact ⟨rfl, rfl⟩))
    (fun os started H enc _ => lifted os started H enc)

theorem proved : Rows.SchemesPartsSaid := over
#print axioms proved

end Go.Proofs.Ytmiconjmeaammaa.schemesParts
