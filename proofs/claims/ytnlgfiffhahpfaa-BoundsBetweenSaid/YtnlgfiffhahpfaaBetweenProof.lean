/- Proved: whatever the rows or effects, the number of variables, the bounds and the values, BoundsBetween answers true: where Solve tells no error the least values hold, and the greatest ones, whatever values hold lie between them, and where it tells that there are none no values hold. No condition. -/
import Derived.Test.YtnlgfiffhahpfaaAlv
import Derived.Test.YtnlgfiffhahpfaaLws
import Derived.Test.YtnlgfiffhahpfaaRows
namespace Go.Proofs.Ytnlgfiffhahpfaa.boundsBetween
open Go.ChangeShapes Go.WideShapes Go.ChangeAt Go.RowKit

theorem own : ownKnob Try.prog.godebug = none := by kernel_rfl
theorem laidOut : laidOutB Try.prog = true := by kernel_rfl


theorem great_no {n n1 n2 : Nat} (h : false = (decide (64 < n) || (decide (300 < n1) || decide (200 < n2)))) : n ≤ 64 ∧ n1 ≤ 300 ∧ n2 ≤ 200 := by
  have h := h.symm
  rw [Bool.or_eq_false_iff, Bool.or_eq_false_iff, decide_eq_false_iff_not, decide_eq_false_iff_not, decide_eq_false_iff_not] at h
  omega


/-- The first i values are asked. -/
def BwRel (S : Sr) (vs : List Nat) (w : World) (v8 v9 : Value) (wr : World) : Prop := ∃ i : Nat, v9 = .int .i64 (i : Int) ∧ i ≤ vs.length ∧ v8 = .bool ((vs.take i).all S.has) ∧ Below w.heap.size w wr
def BxRel (q : Nat) (w : World) (v11 : Value) (wr : World) : Prop := ∃ i : Nat, v11 = .int .i64 (i : Int) ∧ i ≤ q ∧ Below w.heap.size w wr

set_option maxRecDepth 100000 in
set_option maxHeartbeats 8000000 in
theorem walk (A : Option Addr) (n c : Nat) (s : Bool) (k z : Int) (A1 : Option Addr) (n1 c1 : Nat) (A2 : Option Addr) (n2 c2 : Nat) (rows : List Nat) (l : List Bd) (u : List Nat) (w : World) (hC : Came w A n c rows A1 n1 c1 l A2 n2 c2 u) (hzw : (Lit.int .i64 z).wf = true) :
    Calls Try.prog 4 #[gV A n c s k z A1 n1 c1 A2 n2 c2] w fun e w' => e = .returned (.bool true) ∧ Below w.heap.size w w' := by
  have hb : Below w.heap.size w (w.alloc (.cells #[.slice A n c, .bool s, .int .i64 k, .int .i64 z, .slice A1 n1 c1, .slice A2 n2 c2] 25)) := (Below.refl _ _).alloc (Nat.le_refl _) _
  have hbx := heap_alloc_new w (.cells #[.slice A n c, .bool s, .int .i64 k, .int .i64 z, .slice A1 n1 c1, .slice A2 n2 c2] 25)
  have hz0 := (cell_blk (i := 0) hbx).trans rfl
  have hz1 := (cell_blk (i := 1) hbx).trans rfl
  have hz2 := (cell_blk (i := 2) hbx).trans rfl
  have hz3 := (cell_blk (i := 3) hbx).trans rfl
  have hz4 := (cell_blk (i := 4) hbx).trans rfl
  have hz5 := (cell_blk (i := 5) hbx).trans rfl
  replace hC := hC.keep hb
  clear hbx
  obtain ⟨gr, hgr⟩ : ∃ r, r = (decide (64 < n) || (decide (300 < n1) || decide (200 < n2))) := ⟨_, rfl⟩
  have HGR := Lib.hid hgr
  have HGC := Lib.hid fun W => great_any A n c s k z A1 n1 c1 A2 n2 c2 W gr HGR.out
  have HSC := Lib.hid fun W (h : Came W A n c rows A1 n1 c1 l A2 n2 c2 u) => sort_any A n c s k z A1 n1 c1 A2 n2 c2 rows W h.hr h.hrf
  have HSO := Lib.hid (srOf_ok rows s k)
  generalize srOf rows s k = S at HSC HSO
  have HLN := Lib.hid (And.intro hC.hl.len hC.hu.len)
  have HZW := Lib.hid hzw
  unfold gV at HGC HSC ⊢
  clear hgr hzw
  go_enter Try.func4, Try.ntmps4
  go_wp2_with fail
  refine (HGC.out _).mono ?_
  rintro e w1 ⟨rfl, hv⟩
  clear HGC
  replace hC := hC.keep hv
  replace hz0 := cell_old hz0 hv
  replace hz1 := cell_old hz1 hv
  replace hz2 := cell_old hz2 hv
  replace hz3 := cell_old hz3 hv
  replace hz4 := cell_old hz4 hv
  replace hz5 := cell_old hz5 hv
  replace hb := hb.trans (hv.mono hb.size)
  clear hv
  cases gr with
  | true =>
    clear HSC
    go_wp2_with fail
    refine (alive_any _).mono ?_
    rintro e wz ⟨rfl, hv⟩
    replace hb := hb.trans (hv.mono hb.size)
    clear hv
    go_wp2_with fail
    go_ret
    exact ⟨rfl, hb⟩
  | false =>
    obtain ⟨-, hn1, hn2⟩ := great_no HGR.out
    clear HGR
    by_cases hk0 : z < 0
    · clear HSC hn1 hn2
      go_wp2_with fail
      refine (alive_any _).mono ?_
      rintro e wz ⟨rfl, hv⟩
      replace hb := hb.trans (hv.mono hb.size)
      clear hv
      go_wp2_with fail
      go_ret
      exact ⟨rfl, hb⟩
    by_cases hk1 : (n2 : Int) < z
    · clear HSC hn1 hn2
      go_wp2_with fail
      refine (alive_any _).mono ?_
      rintro e wz ⟨rfl, hv⟩
      replace hb := hb.trans (hv.mono hb.size)
      clear hv
      go_wp2_with fail
      go_ret
      exact ⟨rfl, hb⟩
    obtain ⟨q, rfl⟩ : ∃ q : Nat, z = (q : Int) := ⟨z.toNat, by omega⟩
    have hq2 : q ≤ n2 := by omega
    have HQ2 := Lib.hid hq2
    have HQ200 : Hid (q ≤ 200) := Lib.hid (Nat.le_trans hq2 hn2)
    clear hk0 hn1 hn2 hq2
    go_wp2_with fail
    refine (HSC.out _ hC).mono ?_
    rintro e w2 ⟨v, rfl, hS, hv⟩
    clear HSC hz2 hk1
    replace hC := hC.keep hv
    replace hz0 := cell_old hz0 hv
    replace hz1 := cell_old hz1 hv
    replace hz3 := cell_old hz3 hv
    replace hz4 := cell_old hz4 hv
    replace hz5 := cell_old hz5 hv
    replace hb := hb.trans (hv.mono hb.size)
    clear hv
    have hSk := hS
    obtain ⟨T, pt, rfl⟩ : ∃ T p, v = .iface T p := by
      rcases hS with ⟨a, e, -⟩ | ⟨a, e, -⟩
      · exact ⟨_, _, e⟩
      · exact ⟨_, _, e⟩
    clear hS
    go_wp2_with fail
    refine (solve_any _ (q : Int) A1 n1 c1 l S _ HSO.out hSk.into hC.hl hC.hlf).mono ?_
    rintro e w3 ⟨B1, m1, d1, B2, m2, d2, x, lo, hi, rfl, hlo, hhi, hans, hv⟩
    have HANS := Lib.hid hans
    clear hans
    replace hC := hC.keep hv
    replace hz0 := cell_old hz0 hv
    replace hz1 := cell_old hz1 hv
    replace hz3 := cell_old hz3 hv
    replace hz4 := cell_old hz4 hv
    replace hz5 := cell_old hz5 hv
    replace hb := hb.trans (hv.mono hb.size)
    replace hSk := hSk.keep hv
    clear hv
    obtain ⟨A3, n3, c3, hsl, hvs⟩ := rd_slice_h (P := Try.prog) 22 28 Try.underlying22 La.nm_size hC.hu (q : Int) (by omega) (by have := HQ2.out; omega)
    rw [Int.toNat_natCast] at hvs
    have hvl : (u.take q).length = q := by have := HQ2.out; have := HLN.out; rw [List.length_take]; omega
    have hvf : La.Fit (u.take q) := fun y hy => hC.huf y (List.mem_of_mem_take hy)
    have HVF := Lib.hid hvf
    obtain rfl : q = n3 := hvl.symm.trans hvs.len
    have HVL := Lib.hid hvl
    generalize u.take q = vs at hvs HVL HVF
    clear hvl hvf
    go_wp2_with fail
    clear hsl hz5
    go_loopw [8, 9] (fun v8 v9 wr => BwRel S vs w3 v8 v9 wr) (fun _ v9 _ => q - (intOf v9).toNat)
    case atStart => exact ⟨0, rfl, Nat.zero_le _, rfl, Below.refl _ _⟩
    case round =>
      obtain ⟨i, rfl, hi1, rfl, hb1⟩ := hrel
      by_cases hlt : i < q
      · have hi' : i < vs.length := by rw [HVL.out]; exact hlt
        have HST := Lib.hid (all_more (S := S) hi')
        clear hC hz0 hz1 hz3 hz4 hb hlo hhi
        have hvr := hvs.at_size (Nat.le_refl _) hb1
        obtain ⟨b, o, rfl, hbb, hcv⟩ := hvr.spot (by omega)
        have hc := hcv i hi'
        have hxf := HVF.out.get i hi'
        rw [getD_at hi'] at HST
        generalize vs[i] = x1 at hc HST hxf
        replace hc : _ = some (Value.int .u64 (x1 : Int)) := hc
        rcases hSk with ⟨a, eT, hA⟩ | ⟨a, eT, hA⟩
        have hnm := nil_la_Has a
        rotate_left
        have hnm := nil_ef_Has a
        rotate_left
        all_goals (
          injection eT with eT1 eT2
          subst eT1
          subst eT2
          have HHAS := Lib.hid fun W (h : Below w3.heap.size w3 W) => hA.has W h x1 hxf
          generalize hr : S.has x1 = r at HST HHAS
          generalize (vs.take i).all S.has = y at HST ⊢
          have HLT := Lib.hid hlt
          clear hr hvr hcv hvs hbb hxf hi' hA
          cases y with
          | false =>
            go_wp2
            refine wp_region_ord [0, 1, 2, 3, 4, 5, 6, 7, 8, 9, 10, 11, 12] [10] 13 (fun w' => True) (by kernel_rfl) (by kernel_rfl) (by kernel_rfl) (by kernel_rfl) (fun _ _ _ _ _ h => h) trivial ?_
            simp only [steps, List.getElem?_cons_zero, List.getElem?_cons_succ]
            repeat (first
              | (refine ord_no rfl ?_; simp only [Act.put, List.setIfInBounds_toArray, List.set_cons_zero, List.set_cons_succ])
              | (refine ord_yes (v := ?_) rfl rfl ?_ ?_; rotate_left; (focus (rintro w' -; go_simp; try with_reducible rfl)); simp only [Act.put, List.setIfInBounds_toArray, List.set_cons_zero, List.set_cons_succ]))
            refine ord_end ?_
            have hb2 := hb1.trans ((Below.refl _ wr).drew.mono hb1.size)
            clear hc hb1
            generalize wr.drew = w5 at *
            have hq200 := HQ200.out
            go_wp2_with fail
            go_roundw
            case rel => exact ⟨i + 1, by have := HLT.out; have := HQ200.out; go_num, by have := HLT.out; have := HVL.out; omega, by rw [HST.out]; rfl, hb2⟩
            case measure =>
              have := HLT.out
              simp [intOf]
              omega
          | true =>
            go_wp2
            refine wp_region_ord [0, 1, 2, 3, 4, 5, 6, 7, 8, 9, 10, 11, 12] [10] 13 (fun w' => w'.cell? ⟨b, o + i, none⟩ = some (.int .u64 (x1 : Int))) (by kernel_rfl) (by kernel_rfl) (by kernel_rfl) (by kernel_rfl) (fun _ _ _ _ _ h => h) hc ?_
            simp only [steps, List.getElem?_cons_zero, List.getElem?_cons_succ]
            repeat (first
              | (refine ord_no rfl ?_; simp only [Act.put, List.setIfInBounds_toArray, List.set_cons_zero, List.set_cons_succ])
              | (refine ord_yes (v := ?_) rfl rfl ?_ ?_; rotate_left; (focus (rintro w' hS0; go_simp; try with_reducible rfl)); simp only [Act.put, List.setIfInBounds_toArray, List.set_cons_zero, List.set_cons_succ]))
            have hb2 := hb1.trans ((Below.refl _ wr).drew.mono hb1.size)
            have hd : wr.drew.cell? ⟨b, o + i, none⟩ = some (.int .u64 (x1 : Int)) := hc
            clear hc hb1
            generalize wr.drew = w5 at *
            refine ord_hard rfl rfl (fun K hK => ?_)
            go_simp
            go_invoke
            go_simp
            refine (HHAS.out _ hb2).mono ?_
            rintro e w6 ⟨rfl, hv⟩
            replace hd := cell_old hd hv
            replace hb2 := hb2.trans (hv.mono hb2.size)
            clear hv
            refine hK.out _ _ (fun _ => hd) ?_
            clear hK K
            try simp only [Act.put, List.setIfInBounds_toArray, List.set_cons_zero, List.set_cons_succ]
            repeat (first
              | (refine ord_no rfl ?_; simp only [Act.put, List.setIfInBounds_toArray, List.set_cons_zero, List.set_cons_succ])
              | (refine ord_yes (v := ?_) rfl rfl ?_ ?_; rotate_left; (focus (rintro w' hS0; go_simp; try with_reducible rfl)); simp only [Act.put, List.setIfInBounds_toArray, List.set_cons_zero, List.set_cons_succ]))
            refine ord_end ?_
            clear hd
            have hq200 := HQ200.out
            go_wp2_with fail
            go_roundw
            case rel => exact ⟨i + 1, by have := HLT.out; have := HQ200.out; go_num, by have := HLT.out; have := HVL.out; omega, by rw [HST.out]; rfl, hb2⟩
            case measure =>
              have := HLT.out
              simp [intOf]
              omega)
      · have hv := hb1
        replace hC := hC.keep hv
        replace hz0 := cell_old hz0 hv
        replace hz1 := cell_old hz1 hv
        replace hz3 := cell_old hz3 hv
        replace hz4 := cell_old hz4 hv
        replace hb := hb.trans (hv.mono hb.size)
        replace hSk := hSk.keep hv
        replace hlo := hlo.at_size (Nat.le_refl _) hv
        replace hhi := hhi.at_size (Nat.le_refl _) hv
        replace hvs := hvs.at_size (Nat.le_refl _) hv
        clear hv
        clear hb1
        obtain rfl : q = i := by have := HVL.out; omega
        have hty : vs.take q = vs := List.take_of_length_le (by rw [HVL.out]; exact Nat.le_refl _)
        rw [hty]
        clear hty hlt hi1
        generalize hy : vs.all S.has = y
        have HY := Lib.hid hy
        clear hy
        cases y with
        | false =>
          by_cases hx0 : x = 0
          case neg =>
            have hne : ((x : Int) != 0) = true := by simpa using hx0
            by_cases hx1 : x = 10
            case pos =>
              have hne2 : ((10 : Int) != 10) = false := rfl
              subst hx1
              clear HANS hx0
              go_wp2_with fail
              refine (alive_any _).mono ?_
              rintro e wz ⟨rfl, hv⟩
              replace hb := hb.trans (hv.mono hb.size)
              clear hv
              go_wp2_with fail
              go_ret
              exact ⟨rfl, hb⟩
            case neg =>
              have hne2 : ((x : Int) != 10) = true := by simpa using hx1
              clear HANS hx0 hx1
              go_wp2_with fail
              refine (alive_any _).mono ?_
              rintro e wz ⟨rfl, hv⟩
              replace hb := hb.trans (hv.mono hb.size)
              clear hv
              go_wp2_with fail
              go_ret
              exact ⟨rfl, hb⟩
          subst hx0
          obtain ⟨e1, e2, k1, k2, hbel, hbet⟩ := ok_facts HSO.out HANS.out
          obtain ⟨fl, fh⟩ := solve_fit HSO.out HANS.out
          obtain rfl : q = m1 := e1.symm.trans hlo.len
          obtain rfl : q = m2 := e2.symm.trans hhi.len
          have hqq : ((q : Int) != (q : Int)) = false := by simp
          have HFL := Lib.hid fl
          have HFH := Lib.hid fh
          have HE1 := Lib.hid e1
          have HE2 := Lib.hid e2
          have HK1 := Lib.hid k1
          have HK2 := Lib.hid k2
          have HBEL := Lib.hid hbel
          clear e1 e2 k1 k2 hbel hbet fl fh HANS
          go_wp2_with fail
          refine (hold_any _ B1 q d1 lo A1 n1 c1 l S _ true hSk.into hlo HFL.out hC.hl hC.hlf HK1.out).mono ?_
          rintro e w7 ⟨rfl, hv⟩
          replace hC := hC.keep hv
          replace hz0 := cell_old hz0 hv
          replace hz1 := cell_old hz1 hv
          replace hz3 := cell_old hz3 hv
          replace hz4 := cell_old hz4 hv
          replace hb := hb.trans (hv.mono hb.size)
          replace hSk := hSk.keep hv
          replace hlo := hlo.at_size (Nat.le_refl _) hv
          replace hhi := hhi.at_size (Nat.le_refl _) hv
          replace hvs := hvs.at_size (Nat.le_refl _) hv
          clear hv
          go_wp2_with fail
          refine (hold_any _ B2 q d2 hi A1 n1 c1 l S _ true hSk.into hhi HFH.out hC.hl hC.hlf HK2.out).mono ?_
          rintro e w8 ⟨rfl, hv⟩
          replace hC := hC.keep hv
          replace hz0 := cell_old hz0 hv
          replace hz1 := cell_old hz1 hv
          replace hz3 := cell_old hz3 hv
          replace hz4 := cell_old hz4 hv
          replace hb := hb.trans (hv.mono hb.size)
          replace hSk := hSk.keep hv
          replace hlo := hlo.at_size (Nat.le_refl _) hv
          replace hhi := hhi.at_size (Nat.le_refl _) hv
          replace hvs := hvs.at_size (Nat.le_refl _) hv
          clear hv
          clear hqq hC hz0 hz1 hz4
          go_wp2_with fail
          go_loopw [11] (fun v11 wr => BxRel q w8 v11 wr) (fun v11 _ => q - (intOf v11).toNat)
          case atStart => exact ⟨0, rfl, Nat.zero_le _, Below.refl _ _⟩
          case round =>
            obtain ⟨i, rfl, hi1, hb1⟩ := hrel
            have hz3' := cell_old hz3 hb1
            by_cases hlt : i < q
            · have i1 : i < lo.length := by rw [HE1.out]; exact hlt
              have i2 : i < hi.length := by rw [HE2.out]; exact hlt
              obtain ⟨b1, o1, rfl, hbb1, hcv1⟩ := (hlo.at_size (Nat.le_refl _) hb1).spot (by omega)
              obtain ⟨b2, o2, rfl, hbb2, hcv2⟩ := (hhi.at_size (Nat.le_refl _) hb1).spot (by omega)
              have hc1 := hcv1 i i1
              have hc2 := hcv2 i i2
              have x1f := HFL.out.get i i1
              have x2f := HFH.out.get i i2
              have g1 := HBEL.out i hlt
              rw [getD_at i1, getD_at i2] at g1
              generalize lo[i] = x1 at *
              generalize hi[i] = x2 at *
              replace hc1 : _ = some (Value.int .u64 (x1 : Int)) := hc1
              replace hc2 : _ = some (Value.int .u64 (x2 : Int)) := hc2
              rcases hSk with ⟨a, eT, hA⟩ | ⟨a, eT, hA⟩
              have hnm := nil_la_Below a
              rotate_left
              have hnm := nil_ef_Below a
              rotate_left
              all_goals (
                injection eT with eT1 eT2
                subst eT1
                subst eT2
                have HB12 := Lib.hid fun W (h : Below w8.heap.size w8 W) => g1 ▸ hA.below W h x1 x2 x1f x2f
                have HLT := Lib.hid hlt
                clear hcv1 hcv2 hbb1 hbb2 g1 i1 i2 x1f x2f hA hlo hhi hz3 hvs HBEL HFL HFH
                go_wp2
                refine wp_region_ord [0, 1, 2, 3, 4, 5, 6, 7, 8, 9, 10, 11, 12, 13, 14, 15, 16, 17, 18, 19, 20, 21, 22, 23, 24, 25, 26, 27, 28, 29, 30, 31, 32, 33, 34, 35, 36, 37, 38, 39, 40, 41, 42, 43, 44, 45, 46, 47, 48] [12, 29, 44] 49 (fun w' => w'.cell? ⟨b1, o1 + i, none⟩ = some (.int .u64 (x1 : Int)) ∧ w'.cell? ⟨b2, o2 + i, none⟩ = some (.int .u64 (x2 : Int))) (by kernel_rfl) (by kernel_rfl) (by kernel_rfl) (by kernel_rfl) (fun _ _ _ _ _ h => h) ⟨hc1, hc2⟩ ?_
                simp only [steps, List.getElem?_cons_zero, List.getElem?_cons_succ]
                repeat (first
                  | (refine ord_no rfl ?_; simp only [Act.put, List.setIfInBounds_toArray, List.set_cons_zero, List.set_cons_succ])
                  | (refine ord_yes (v := ?_) rfl rfl ?_ ?_; rotate_left; (focus (rintro w' ⟨hS0, hS1⟩; go_simp; try with_reducible rfl)); simp only [Act.put, List.setIfInBounds_toArray, List.set_cons_zero, List.set_cons_succ]))
                have hv : Below wr.heap.size wr wr.drew := (Below.refl _ _).drew
                have hb2 := hb1
                replace hc1 := cell_old hc1 hv
                replace hc2 := cell_old hc2 hv
                replace hb2 := hb2.trans (hv.mono hb2.size)
                clear hv
                clear hb1 hz3'
                generalize wr.drew = w9 at *
                refine ord_hard rfl rfl (fun K hK => ?_)
                go_simp
                go_invoke
                go_simp
                refine (HB12.out _ hb2).mono ?_
                rintro e w10 ⟨rfl, hv⟩
                replace hc1 := cell_old hc1 hv
                replace hc2 := cell_old hc2 hv
                replace hb2 := hb2.trans (hv.mono hb2.size)
                clear hv
                refine hK.out _ _ (fun _ => ⟨hc1, hc2⟩) ?_
                clear hK K
                try simp only [Act.put, List.setIfInBounds_toArray, List.set_cons_zero, List.set_cons_succ]
                repeat (first
                  | (refine ord_no rfl ?_; simp only [Act.put, List.setIfInBounds_toArray, List.set_cons_zero, List.set_cons_succ])
                  | (refine ord_yes (v := ?_) rfl rfl ?_ ?_; rotate_left; (focus (rintro w' ⟨hS0, hS1⟩; go_simp; try with_reducible rfl)); simp only [Act.put, List.setIfInBounds_toArray, List.set_cons_zero, List.set_cons_succ]))
                refine ord_end ?_
                clear hc1 hc2
                have hq200 := HQ200.out
                go_wp2_with fail
                go_roundw
                case rel => exact ⟨i + 1, by have := HLT.out; have := HQ200.out; go_num, by have := HLT.out; omega, hb2⟩
                case measure =>
                  have := HLT.out
                  simp [intOf]
                  omega)
            · have hb2 := hb.trans (hb1.mono hb.size)
              obtain rfl : q = i := by omega
              clear hlt hb hb1 hSk hlo hhi hz3 hvs
              go_wp2_with fail
              refine (alive_any _).mono ?_
              rintro e wz ⟨rfl, hv⟩
              replace hb2 := hb2.trans (hv.mono hb2.size)
              clear hv
              go_wp2_with fail
              go_ret
              exact ⟨rfl, hb2⟩
        | true =>
          generalize hhh : holdS S vs l = hh
          have HHH := Lib.hid hhh
          clear hhh
          go_wp2_with fail
          refine (hold_any _ A3 q c3 vs A1 n1 c1 l S _ hh hSk.into hvs HVF.out hC.hl hC.hlf HHH.out).mono ?_
          rintro e w7 ⟨rfl, hv⟩
          replace hC := hC.keep hv
          replace hz0 := cell_old hz0 hv
          replace hz1 := cell_old hz1 hv
          replace hz3 := cell_old hz3 hv
          replace hz4 := cell_old hz4 hv
          replace hb := hb.trans (hv.mono hb.size)
          replace hSk := hSk.keep hv
          replace hlo := hlo.at_size (Nat.le_refl _) hv
          replace hhi := hhi.at_size (Nat.le_refl _) hv
          replace hvs := hvs.at_size (Nat.le_refl _) hv
          clear hv
          cases hh with
          | false =>
            by_cases hx0 : x = 0
            case neg =>
              have hne : ((x : Int) != 0) = true := by simpa using hx0
              by_cases hx1 : x = 10
              case pos =>
                have hne2 : ((10 : Int) != 10) = false := rfl
                subst hx1
                clear HANS hx0
                go_wp2_with fail
                refine (alive_any _).mono ?_
                rintro e wz ⟨rfl, hv⟩
                replace hb := hb.trans (hv.mono hb.size)
                clear hv
                go_wp2_with fail
                go_ret
                exact ⟨rfl, hb⟩
              case neg =>
                have hne2 : ((x : Int) != 10) = true := by simpa using hx1
                clear HANS hx0 hx1
                go_wp2_with fail
                refine (alive_any _).mono ?_
                rintro e wz ⟨rfl, hv⟩
                replace hb := hb.trans (hv.mono hb.size)
                clear hv
                go_wp2_with fail
                go_ret
                exact ⟨rfl, hb⟩
            subst hx0
            obtain ⟨e1, e2, k1, k2, hbel, hbet⟩ := ok_facts HSO.out HANS.out
            obtain ⟨fl, fh⟩ := solve_fit HSO.out HANS.out
            obtain rfl : q = m1 := e1.symm.trans hlo.len
            obtain rfl : q = m2 := e2.symm.trans hhi.len
            have hqq : ((q : Int) != (q : Int)) = false := by simp
            have HFL := Lib.hid fl
            have HFH := Lib.hid fh
            have HE1 := Lib.hid e1
            have HE2 := Lib.hid e2
            have HK1 := Lib.hid k1
            have HK2 := Lib.hid k2
            have HBEL := Lib.hid hbel
            clear e1 e2 k1 k2 hbel hbet fl fh HANS
            go_wp2_with fail
            refine (hold_any _ B1 q d1 lo A1 n1 c1 l S _ true hSk.into hlo HFL.out hC.hl hC.hlf HK1.out).mono ?_
            rintro e w7 ⟨rfl, hv⟩
            replace hC := hC.keep hv
            replace hz0 := cell_old hz0 hv
            replace hz1 := cell_old hz1 hv
            replace hz3 := cell_old hz3 hv
            replace hz4 := cell_old hz4 hv
            replace hb := hb.trans (hv.mono hb.size)
            replace hSk := hSk.keep hv
            replace hlo := hlo.at_size (Nat.le_refl _) hv
            replace hhi := hhi.at_size (Nat.le_refl _) hv
            replace hvs := hvs.at_size (Nat.le_refl _) hv
            clear hv
            go_wp2_with fail
            refine (hold_any _ B2 q d2 hi A1 n1 c1 l S _ true hSk.into hhi HFH.out hC.hl hC.hlf HK2.out).mono ?_
            rintro e w8 ⟨rfl, hv⟩
            replace hC := hC.keep hv
            replace hz0 := cell_old hz0 hv
            replace hz1 := cell_old hz1 hv
            replace hz3 := cell_old hz3 hv
            replace hz4 := cell_old hz4 hv
            replace hb := hb.trans (hv.mono hb.size)
            replace hSk := hSk.keep hv
            replace hlo := hlo.at_size (Nat.le_refl _) hv
            replace hhi := hhi.at_size (Nat.le_refl _) hv
            replace hvs := hvs.at_size (Nat.le_refl _) hv
            clear hv
            clear hqq hC hz0 hz1 hz4
            go_wp2_with fail
            go_loopw [11] (fun v11 wr => BxRel q w8 v11 wr) (fun v11 _ => q - (intOf v11).toNat)
            case atStart => exact ⟨0, rfl, Nat.zero_le _, Below.refl _ _⟩
            case round =>
              obtain ⟨i, rfl, hi1, hb1⟩ := hrel
              have hz3' := cell_old hz3 hb1
              by_cases hlt : i < q
              · have i1 : i < lo.length := by rw [HE1.out]; exact hlt
                have i2 : i < hi.length := by rw [HE2.out]; exact hlt
                obtain ⟨b1, o1, rfl, hbb1, hcv1⟩ := (hlo.at_size (Nat.le_refl _) hb1).spot (by omega)
                obtain ⟨b2, o2, rfl, hbb2, hcv2⟩ := (hhi.at_size (Nat.le_refl _) hb1).spot (by omega)
                have hc1 := hcv1 i i1
                have hc2 := hcv2 i i2
                have x1f := HFL.out.get i i1
                have x2f := HFH.out.get i i2
                have g1 := HBEL.out i hlt
                rw [getD_at i1, getD_at i2] at g1
                generalize lo[i] = x1 at *
                generalize hi[i] = x2 at *
                replace hc1 : _ = some (Value.int .u64 (x1 : Int)) := hc1
                replace hc2 : _ = some (Value.int .u64 (x2 : Int)) := hc2
                rcases hSk with ⟨a, eT, hA⟩ | ⟨a, eT, hA⟩
                have hnm := nil_la_Below a
                rotate_left
                have hnm := nil_ef_Below a
                rotate_left
                all_goals (
                  injection eT with eT1 eT2
                  subst eT1
                  subst eT2
                  have HB12 := Lib.hid fun W (h : Below w8.heap.size w8 W) => g1 ▸ hA.below W h x1 x2 x1f x2f
                  have HLT := Lib.hid hlt
                  clear hcv1 hcv2 hbb1 hbb2 g1 i1 i2 x1f x2f hA hlo hhi hz3 hvs HBEL HFL HFH
                  go_wp2
                  refine wp_region_ord [0, 1, 2, 3, 4, 5, 6, 7, 8, 9, 10, 11, 12, 13, 14, 15, 16, 17, 18, 19, 20, 21, 22, 23, 24, 25, 26, 27, 28, 29, 30, 31, 32, 33, 34, 35, 36, 37, 38, 39, 40, 41, 42, 43, 44, 45, 46, 47, 48] [12, 29, 44] 49 (fun w' => w'.cell? ⟨b1, o1 + i, none⟩ = some (.int .u64 (x1 : Int)) ∧ w'.cell? ⟨b2, o2 + i, none⟩ = some (.int .u64 (x2 : Int))) (by kernel_rfl) (by kernel_rfl) (by kernel_rfl) (by kernel_rfl) (fun _ _ _ _ _ h => h) ⟨hc1, hc2⟩ ?_
                  simp only [steps, List.getElem?_cons_zero, List.getElem?_cons_succ]
                  repeat (first
                    | (refine ord_no rfl ?_; simp only [Act.put, List.setIfInBounds_toArray, List.set_cons_zero, List.set_cons_succ])
                    | (refine ord_yes (v := ?_) rfl rfl ?_ ?_; rotate_left; (focus (rintro w' ⟨hS0, hS1⟩; go_simp; try with_reducible rfl)); simp only [Act.put, List.setIfInBounds_toArray, List.set_cons_zero, List.set_cons_succ]))
                  have hv : Below wr.heap.size wr wr.drew := (Below.refl _ _).drew
                  have hb2 := hb1
                  replace hc1 := cell_old hc1 hv
                  replace hc2 := cell_old hc2 hv
                  replace hb2 := hb2.trans (hv.mono hb2.size)
                  clear hv
                  clear hb1 hz3'
                  generalize wr.drew = w9 at *
                  refine ord_hard rfl rfl (fun K hK => ?_)
                  go_simp
                  go_invoke
                  go_simp
                  refine (HB12.out _ hb2).mono ?_
                  rintro e w10 ⟨rfl, hv⟩
                  replace hc1 := cell_old hc1 hv
                  replace hc2 := cell_old hc2 hv
                  replace hb2 := hb2.trans (hv.mono hb2.size)
                  clear hv
                  refine hK.out _ _ (fun _ => ⟨hc1, hc2⟩) ?_
                  clear hK K
                  try simp only [Act.put, List.setIfInBounds_toArray, List.set_cons_zero, List.set_cons_succ]
                  repeat (first
                    | (refine ord_no rfl ?_; simp only [Act.put, List.setIfInBounds_toArray, List.set_cons_zero, List.set_cons_succ])
                    | (refine ord_yes (v := ?_) rfl rfl ?_ ?_; rotate_left; (focus (rintro w' ⟨hS0, hS1⟩; go_simp; try with_reducible rfl)); simp only [Act.put, List.setIfInBounds_toArray, List.set_cons_zero, List.set_cons_succ]))
                  refine ord_end ?_
                  clear hc1 hc2
                  have hq200 := HQ200.out
                  go_wp2_with fail
                  go_roundw
                  case rel => exact ⟨i + 1, by have := HLT.out; have := HQ200.out; go_num, by have := HLT.out; omega, hb2⟩
                  case measure =>
                    have := HLT.out
                    simp [intOf]
                    omega)
              · have hb2 := hb.trans (hb1.mono hb.size)
                obtain rfl : q = i := by omega
                clear hlt hb hb1 hSk hlo hhi hz3 hvs
                go_wp2_with fail
                refine (alive_any _).mono ?_
                rintro e wz ⟨rfl, hv⟩
                replace hb2 := hb2.trans (hv.mono hb2.size)
                clear hv
                go_wp2_with fail
                go_ret
                exact ⟨rfl, hb2⟩
          | true =>
            by_cases hx0 : x = 0
            case neg =>
              have hne : ((x : Int) != 0) = true := by simpa using hx0
              by_cases hx1 : x = 10
              case pos =>
                have := err_facts HANS.out hx1 HVL.out HY.out
                rw [HHH.out] at this
                cases this
              case neg =>
                have hne2 : ((x : Int) != 10) = true := by simpa using hx1
                clear HANS hx0 hx1
                go_wp2_with fail
                refine (alive_any _).mono ?_
                rintro e wz ⟨rfl, hv⟩
                replace hb := hb.trans (hv.mono hb.size)
                clear hv
                go_wp2_with fail
                go_ret
                exact ⟨rfl, hb⟩
            subst hx0
            obtain ⟨e1, e2, k1, k2, hbel, hbet⟩ := ok_facts HSO.out HANS.out
            obtain ⟨fl, fh⟩ := solve_fit HSO.out HANS.out
            obtain rfl : q = m1 := e1.symm.trans hlo.len
            obtain rfl : q = m2 := e2.symm.trans hhi.len
            have hqq : ((q : Int) != (q : Int)) = false := by simp
            have HFL := Lib.hid fl
            have HFH := Lib.hid fh
            have HE1 := Lib.hid e1
            have HE2 := Lib.hid e2
            have HK1 := Lib.hid k1
            have HK2 := Lib.hid k2
            have HBEL := Lib.hid hbel
            have HBET := Lib.hid (hbet vs HVL.out HY.out HHH.out)
            clear e1 e2 k1 k2 hbel hbet fl fh HANS
            go_wp2_with fail
            refine (hold_any _ B1 q d1 lo A1 n1 c1 l S _ true hSk.into hlo HFL.out hC.hl hC.hlf HK1.out).mono ?_
            rintro e w7 ⟨rfl, hv⟩
            replace hC := hC.keep hv
            replace hz0 := cell_old hz0 hv
            replace hz1 := cell_old hz1 hv
            replace hz3 := cell_old hz3 hv
            replace hz4 := cell_old hz4 hv
            replace hb := hb.trans (hv.mono hb.size)
            replace hSk := hSk.keep hv
            replace hlo := hlo.at_size (Nat.le_refl _) hv
            replace hhi := hhi.at_size (Nat.le_refl _) hv
            replace hvs := hvs.at_size (Nat.le_refl _) hv
            clear hv
            go_wp2_with fail
            refine (hold_any _ B2 q d2 hi A1 n1 c1 l S _ true hSk.into hhi HFH.out hC.hl hC.hlf HK2.out).mono ?_
            rintro e w8 ⟨rfl, hv⟩
            replace hC := hC.keep hv
            replace hz0 := cell_old hz0 hv
            replace hz1 := cell_old hz1 hv
            replace hz3 := cell_old hz3 hv
            replace hz4 := cell_old hz4 hv
            replace hb := hb.trans (hv.mono hb.size)
            replace hSk := hSk.keep hv
            replace hlo := hlo.at_size (Nat.le_refl _) hv
            replace hhi := hhi.at_size (Nat.le_refl _) hv
            replace hvs := hvs.at_size (Nat.le_refl _) hv
            clear hv
            clear hqq hC hz0 hz1 hz4
            go_wp2_with fail
            go_loopw [11] (fun v11 wr => BxRel q w8 v11 wr) (fun v11 _ => q - (intOf v11).toNat)
            case atStart => exact ⟨0, rfl, Nat.zero_le _, Below.refl _ _⟩
            case round =>
              obtain ⟨i, rfl, hi1, hb1⟩ := hrel
              have hz3' := cell_old hz3 hb1
              by_cases hlt : i < q
              · have i1 : i < lo.length := by rw [HE1.out]; exact hlt
                have i2 : i < hi.length := by rw [HE2.out]; exact hlt
                obtain ⟨b1, o1, rfl, hbb1, hcv1⟩ := (hlo.at_size (Nat.le_refl _) hb1).spot (by omega)
                obtain ⟨b2, o2, rfl, hbb2, hcv2⟩ := (hhi.at_size (Nat.le_refl _) hb1).spot (by omega)
                have hc1 := hcv1 i i1
                have hc2 := hcv2 i i2
                have x1f := HFL.out.get i i1
                have x2f := HFH.out.get i i2
                have g1 := HBEL.out i hlt
                rw [getD_at i1, getD_at i2] at g1
                have i3 : i < vs.length := by rw [HVL.out]; exact hlt
                obtain ⟨b3, o3, rfl, hbb3, hcv3⟩ := (hvs.at_size (Nat.le_refl _) hb1).spot (by omega)
                have hc3 := hcv3 i i3
                have x3f := HVF.out.get i i3
                have g2 := HBET.out i hlt
                rw [getD_at i1, getD_at i2, getD_at i3] at g2
                clear hbb3 hcv3
                generalize vs[i] = x3 at hc3 x3f g2
                replace hc3 : _ = some (Value.int .u64 (x3 : Int)) := hc3
                generalize lo[i] = x1 at *
                generalize hi[i] = x2 at *
                replace hc1 : _ = some (Value.int .u64 (x1 : Int)) := hc1
                replace hc2 : _ = some (Value.int .u64 (x2 : Int)) := hc2
                rcases hSk with ⟨a, eT, hA⟩ | ⟨a, eT, hA⟩
                have hnm := nil_la_Below a
                rotate_left
                have hnm := nil_ef_Below a
                rotate_left
                all_goals (
                  injection eT with eT1 eT2
                  subst eT1
                  subst eT2
                  have HB12 := Lib.hid fun W (h : Below w8.heap.size w8 W) => g1 ▸ hA.below W h x1 x2 x1f x2f
                  have HB13 := Lib.hid fun W (h : Below w8.heap.size w8 W) => g2.1 ▸ hA.below W h x1 x3 x1f x3f
                  have HB32 := Lib.hid fun W (h : Below w8.heap.size w8 W) => g2.2 ▸ hA.below W h x3 x2 x3f x2f
                  clear g2 i3 x3f HBET
                  have HLT := Lib.hid hlt
                  clear hcv1 hcv2 hbb1 hbb2 g1 i1 i2 x1f x2f hA hlo hhi hz3 hvs HBEL HFL HFH
                  go_wp2
                  refine wp_region_ord [0, 1, 2, 3, 4, 5, 6, 7, 8, 9, 10, 11, 12, 13, 14, 15, 16, 17, 18, 19, 20, 21, 22, 23, 24, 25, 26, 27, 28, 29, 30, 31, 32, 33, 34, 35, 36, 37, 38, 39, 40, 41, 42, 43, 44, 45, 46, 47, 48] [12, 29, 44] 49 (fun w' => w'.cell? ⟨b1, o1 + i, none⟩ = some (.int .u64 (x1 : Int)) ∧ w'.cell? ⟨b2, o2 + i, none⟩ = some (.int .u64 (x2 : Int)) ∧ w'.cell? ⟨b3, o3 + i, none⟩ = some (.int .u64 (x3 : Int))) (by kernel_rfl) (by kernel_rfl) (by kernel_rfl) (by kernel_rfl) (fun _ _ _ _ _ h => h) ⟨hc1, hc2, hc3⟩ ?_
                  simp only [steps, List.getElem?_cons_zero, List.getElem?_cons_succ]
                  repeat (first
                    | (refine ord_no rfl ?_; simp only [Act.put, List.setIfInBounds_toArray, List.set_cons_zero, List.set_cons_succ])
                    | (refine ord_yes (v := ?_) rfl rfl ?_ ?_; rotate_left; (focus (rintro w' ⟨hS0, hS1, hS2⟩; go_simp; try with_reducible rfl)); simp only [Act.put, List.setIfInBounds_toArray, List.set_cons_zero, List.set_cons_succ]))
                  have hv : Below wr.heap.size wr wr.drew := (Below.refl _ _).drew
                  have hb2 := hb1
                  replace hc1 := cell_old hc1 hv
                  replace hc2 := cell_old hc2 hv
                  replace hc3 := cell_old hc3 hv
                  replace hb2 := hb2.trans (hv.mono hb2.size)
                  clear hv
                  clear hb1 hz3'
                  generalize wr.drew = w9 at *
                  refine ord_hard rfl rfl (fun K hK => ?_)
                  go_simp
                  go_invoke
                  go_simp
                  refine (HB12.out _ hb2).mono ?_
                  rintro e w10 ⟨rfl, hv⟩
                  replace hc1 := cell_old hc1 hv
                  replace hc2 := cell_old hc2 hv
                  replace hc3 := cell_old hc3 hv
                  replace hb2 := hb2.trans (hv.mono hb2.size)
                  clear hv
                  refine hK.out _ _ (fun _ => ⟨hc1, hc2, hc3⟩) ?_
                  clear hK K
                  try simp only [Act.put, List.setIfInBounds_toArray, List.set_cons_zero, List.set_cons_succ]
                  repeat (first
                    | (refine ord_no rfl ?_; simp only [Act.put, List.setIfInBounds_toArray, List.set_cons_zero, List.set_cons_succ])
                    | (refine ord_yes (v := ?_) rfl rfl ?_ ?_; rotate_left; (focus (rintro w' ⟨hS0, hS1, hS2⟩; go_simp; try with_reducible rfl)); simp only [Act.put, List.setIfInBounds_toArray, List.set_cons_zero, List.set_cons_succ]))
                  refine ord_hard rfl rfl (fun K hK => ?_)
                  go_simp
                  go_invoke
                  go_simp
                  refine (HB13.out _ hb2).mono ?_
                  rintro e w11 ⟨rfl, hv⟩
                  replace hc1 := cell_old hc1 hv
                  replace hc2 := cell_old hc2 hv
                  replace hc3 := cell_old hc3 hv
                  replace hb2 := hb2.trans (hv.mono hb2.size)
                  clear hv
                  refine hK.out _ _ (fun _ => ⟨hc1, hc2, hc3⟩) ?_
                  clear hK K
                  try simp only [Act.put, List.setIfInBounds_toArray, List.set_cons_zero, List.set_cons_succ]
                  repeat (first
                    | (refine ord_no rfl ?_; simp only [Act.put, List.setIfInBounds_toArray, List.set_cons_zero, List.set_cons_succ])
                    | (refine ord_yes (v := ?_) rfl rfl ?_ ?_; rotate_left; (focus (rintro w' ⟨hS0, hS1, hS2⟩; go_simp; try with_reducible rfl)); simp only [Act.put, List.setIfInBounds_toArray, List.set_cons_zero, List.set_cons_succ]))
                  refine ord_hard rfl rfl (fun K hK => ?_)
                  go_simp
                  go_invoke
                  go_simp
                  refine (HB32.out _ hb2).mono ?_
                  rintro e w12 ⟨rfl, hv⟩
                  replace hc1 := cell_old hc1 hv
                  replace hc2 := cell_old hc2 hv
                  replace hc3 := cell_old hc3 hv
                  replace hb2 := hb2.trans (hv.mono hb2.size)
                  clear hv
                  refine hK.out _ _ (fun _ => ⟨hc1, hc2, hc3⟩) ?_
                  clear hK K
                  try simp only [Act.put, List.setIfInBounds_toArray, List.set_cons_zero, List.set_cons_succ]
                  repeat (first
                    | (refine ord_no rfl ?_; simp only [Act.put, List.setIfInBounds_toArray, List.set_cons_zero, List.set_cons_succ])
                    | (refine ord_yes (v := ?_) rfl rfl ?_ ?_; rotate_left; (focus (rintro w' ⟨hS0, hS1, hS2⟩; go_simp; try with_reducible rfl)); simp only [Act.put, List.setIfInBounds_toArray, List.set_cons_zero, List.set_cons_succ]))
                  refine ord_end ?_
                  clear hc1 hc2 hc3
                  have hq200 := HQ200.out
                  go_wp2_with fail
                  go_roundw
                  case rel => exact ⟨i + 1, by have := HLT.out; have := HQ200.out; go_num, by have := HLT.out; omega, hb2⟩
                  case measure =>
                    have := HLT.out
                    simp [intOf]
                    omega)
              · have hb2 := hb.trans (hb1.mono hb.size)
                obtain rfl : q = i := by omega
                clear hlt hb hb1 hSk hlo hhi hz3 hvs
                go_wp2_with fail
                refine (alive_any _).mono ?_
                rintro e wz ⟨rfl, hv⟩
                replace hb2 := hb2.trans (hv.mono hb2.size)
                clear hv
                go_wp2_with fail
                go_ret
                exact ⟨rfl, hb2⟩


set_option maxRecDepth 100000 in
theorem lifted (os : Os) (started : os.Started) (H : Type) (enc : TypeId × Value → H) :
    ReturnsInHanded {} Try.checked os 4 .any (Rows.boundsBetweenSpec.pre6 enc Try.prog Try.f4 Rows.boundsBetweenRow.domain false) (Rows.boundsBetweenSpec.post enc Try.prog Try.f4 false true false false) := by
  refine returnsInHanded_of_change (C := Try.checked) own started (by kernel_rfl) Try.func4
    (ChangeSpec.witness6 (enc := enc) (C := Try.checked) false ⟨#[], #[.agg #[.slice none 0 0, .bool false, .int .i64 0, .int .i64 0, .slice none 0 0, .slice none 0 0]], []⟩ 8 (by kernel_rfl) (by kernel_rfl) (by kernel_rfl) (by kernel_rfl)) ?_
  intro W base args ds gs before hval0 hW hcnd _
  have hval : ∀ (j : Nat) t v, Try.f4.params[j]? = some t → args[j]? = some v → Value.okWide Try.prog W .any base t v := hval0
  have hW' := hW
  obtain ⟨p, q, hA0, hV, rfl, hfz, hnd⟩ := hW
  have hA : DataW.TrodAll enc Try.prog W 0 (fun _ => true) true Try.f4.params.toList args.toList ds p := hA0
  rw [Try.params4] at hA hval
  obtain ⟨v0, vs0, d0, ds0, p0, q0, hargs, rfl, rfl, h0, r0⟩ := trodAll_cons hA
  obtain ⟨rfl, rfl, rfl⟩ := trodAll_nil r0
  obtain rfl : args = #[v0] := by cases args; simp_all
  obtain ⟨rfl, rfl⟩ := trodVars_none hV
  have lt0 : ∀ x ∈ p0, x.block < W.heap.size := by obtain ⟨m, hm⟩ := h0; exact DataW.trod_lt m _ _ _ hm
  obtain ⟨A, n, c, s, k, z, A1, n1, c1, A2, n2, c2, rows, l, u, rfl, hC, hzw⟩ := opened_given h0
  clear hA0 hval0
  refine (walk A n c s k z A1 n1 c1 A2 n2 c2 rows l u W hC hzw).mono fun e W' ⟨he, bel⟩ => ?_
  subst he
  exact ⟨_, rfl, _, _, _, [], _, [], hW', trodAll_mk1 (shut_bool Try.underlying4 _), (trodAll_cons_mk (Below.trod laidOut (by kernel_rfl) (of_decide_eq_true (by kernel_rfl)) h0 bel lt0) trodAll_mk0), rfl, bel.frame _, fun h => by cases h⟩

theorem over : Rows.boundsBetweenRow.holds Try.pinned (OpenSpec.ofChange Rows.boundsBetweenSpec) :=
  OpenClaim.holds_of_wide 4 Try.f4 rfl rfl rfl rfl rfl rfl rfl ⟨rfl, rfl, rfl, rfl, rfl⟩ rfl rfl rfl rfl rfl (by kernel_rfl) Try.func4 (by kernel_rfl)
    (of_decide_eq_true (by kernel_rfl)) (by unfold Func.isWrapper; first | (rw [if_pos (by decide +kernel)]; kernel_rfl) | (rw [if_neg (by decide +kernel)]; exact ⟨rfl, rfl⟩))
    (fun os started H enc _ => lifted os started H enc)

theorem proved : Rows.BoundsBetweenSaid := over
#print axioms proved

end Go.Proofs.Ytnlgfiffhahpfaa.boundsBetween
