/- Proved: whatever the number of variables, the bounds and the values, BoundsNone answers true: a sort that is nothing, or that no call made, has no values: Check and Solve tell so as the document does, and values hold just of no bounds. No condition. -/
import Derived.Test.YtnlgfiffhahpfaaRefT
import Derived.Test.YtnlgfiffhahpfaaLws
import Derived.Test.YtnlgfiffhahpfaaRows
namespace Go.Proofs.Ytnlgfiffhahpfaa.boundsNone
open Go.ChangeShapes Go.WideShapes Go.ChangeAt Go.RowKit

theorem own : ownKnob Try.prog.godebug = none := by kernel_rfl
theorem laidOut : laidOutB Try.prog = true := by kernel_rfl


theorem great_no {n n1 n2 : Nat} (h : false = (decide (64 < n) || (decide (300 < n1) || decide (200 < n2)))) : n ≤ 64 ∧ n1 ≤ 300 ∧ n2 ≤ 200 := by
  have h := h.symm
  rw [Bool.or_eq_false_iff, Bool.or_eq_false_iff, decide_eq_false_iff_not, decide_eq_false_iff_not, decide_eq_false_iff_not] at h
  omega


theorem sr_la : srOf [] false 0 = dead := by
  unfold srOf
  rw [if_neg (by decide), if_neg (by decide)]
theorem sr_ef : srOf [] true (-1) = dead := by
  unfold srOf
  rw [if_pos rfl, if_neg (by decide)]
theorem srt2_form {w : World} {v : Value} {S : Sr} (h : Srt2 w v S) : ∃ T p, v = .iface T p := by
  rcases h with ⟨a, e, -⟩ | ⟨a, e, -⟩
  · exact ⟨_, _, e⟩
  · exact ⟨_, _, e⟩

set_option maxRecDepth 100000 in
theorem dead_has (w : World) : RHas w (rsV 0 none 0 0 0) dead := by
  intro W _ x _
  unfold rsV
  go_enter Try.func30, Try.ntmps30
  go_wp2
  go_ret
  exact ⟨rfl, (Below.refl _ W).alloc (Nat.le_refl _) _⟩

/-- The five sorts. -/
def five (v0 v1 v2 v3 v4 : Value) (i : Nat) : Value := [v0, v1, v2, v3, v4].getD i .nilIface

def NoRel (w : World) (v4 : Value) (wr : World) : Prop := ∃ i : Nat, v4 = .int .i64 (i : Int) ∧ i ≤ 5 ∧ Below w.heap.size w wr

/-- What one round asks: the i-th sort stands there, and has no values. -/
def Sorts (w : World) (g : Nat) : Prop := ∀ i, i < 5 → ∃ v, w.cell? ⟨g, i, none⟩ = some v ∧ SrtIn w v dead ∧ (v = .nilIface ∨ ∃ T p, v = .iface T p)
theorem Sorts.keep {w W : World} {g : Nat} (h : Sorts w g) (hb : Below w.heap.size w W) : Sorts W g := fun i hi => by
  obtain ⟨v, h1, h2, h3⟩ := h i hi
  exact ⟨v, cell_old h1 hb, h2.keep hb, h3⟩

set_option maxRecDepth 100000 in
set_option maxHeartbeats 8000000 in
theorem walk (A : Option Addr) (n c : Nat) (s : Bool) (k z : Int) (A1 : Option Addr) (n1 c1 : Nat) (A2 : Option Addr) (n2 c2 : Nat) (rows : List Nat) (l : List Bd) (u : List Nat) (w : World) (hC : Came w A n c rows A1 n1 c1 l A2 n2 c2 u) (hzw : (Lit.int .i64 z).wf = true) :
    Calls Try.prog 3 #[gV A n c s k z A1 n1 c1 A2 n2 c2] w fun e w' => e = .returned (.bool true) ∧ Below w.heap.size w w' := by
  have hb : Below w.heap.size w (w.alloc (.cells #[.slice A n c, .bool s, .int .i64 k, .int .i64 z, .slice A1 n1 c1, .slice A2 n2 c2] 25)) := (Below.refl _ _).alloc (Nat.le_refl _) _
  have hbx := heap_alloc_new w (.cells #[.slice A n c, .bool s, .int .i64 k, .int .i64 z, .slice A1 n1 c1, .slice A2 n2 c2] 25)
  have hz0 := (cell_blk (i := 0) hbx).trans rfl
  have hz1 := (cell_blk (i := 1) hbx).trans rfl
  have hz2 := (cell_blk (i := 2) hbx).trans rfl
  have hz3 := (cell_blk (i := 3) hbx).trans rfl
  have hz4 := (cell_blk (i := 4) hbx).trans rfl
  have hz5 := (cell_blk (i := 5) hbx).trans rfl
  replace hC := hC.keep hb
  clear hbx
  obtain ⟨gr, hgr⟩ : ∃ r, r = (decide (64 < n) || (decide (300 < n1) || decide (200 < n2))) := ⟨_, rfl⟩
  have HGR := Lib.hid hgr
  have HGC := Lib.hid fun W => great_any A n c s k z A1 n1 c1 A2 n2 c2 W gr HGR.out
  have HSC := Lib.hid fun W (h : Came W A n c rows A1 n1 c1 l A2 n2 c2 u) => sort_any A n c s k z A1 n1 c1 A2 n2 c2 rows W h.hr h.hrf
  have HSO := Lib.hid (srOf_ok rows s k)
  generalize srOf rows s k = S at HSC HSO
  have HLN := Lib.hid (And.intro hC.hl.len hC.hu.len)
  have HZW := Lib.hid hzw
  unfold gV at HGC HSC ⊢
  clear hgr hzw
  go_enter Try.func3, Try.ntmps3
  go_wp2_with fail
  refine (HGC.out _).mono ?_
  rintro e w1 ⟨rfl, hv⟩
  clear HGC HSC HSO
  replace hC := hC.keep hv
  replace hz0 := cell_old hz0 hv
  replace hz1 := cell_old hz1 hv
  replace hz2 := cell_old hz2 hv
  replace hz3 := cell_old hz3 hv
  replace hz4 := cell_old hz4 hv
  replace hz5 := cell_old hz5 hv
  replace hb := hb.trans (hv.mono hb.size)
  clear hv
  cases gr with
  | true =>
    go_wp2_with fail
    go_ret
    exact ⟨rfl, hb⟩
  | false =>
    clear HGR
    have hz := La.zero41
    have hsm := La.lc_some 0 La.z64 La.z64
    have hlat := La.LatAt.mk (w := w1.alloc (.cells (La.lc 0 La.z64 La.z64) 31)) (g := w1.heap.size) (n := 0) (us := La.z64) (ds := La.z64) (heap_alloc_new w1 _) rfl rfl (by decide) (by unfold La.Fit La.z64; decide) (by unfold La.Fit La.z64; decide)
    have hv : Below w1.heap.size w1 (w1.alloc (.cells (La.lc 0 La.z64 La.z64) 31)) := (Below.refl _ _).alloc (Nat.le_refl _) _
    replace hC := hC.keep hv
    replace hz0 := cell_old hz0 hv
    replace hz1 := cell_old hz1 hv
    replace hz2 := cell_old hz2 hv
    replace hz3 := cell_old hz3 hv
    replace hz4 := cell_old hz4 hv
    replace hz5 := cell_old hz5 hv
    replace hb := hb.trans (hv.mono hb.size)
    clear hv
    obtain ⟨wa, hwa⟩ : ∃ wa, wa = w1.alloc (.cells (La.lc 0 La.z64 La.z64) 31) := ⟨_, rfl⟩
    obtain ⟨g1, hg1⟩ : ∃ g1, g1 = w1.heap.size := ⟨_, rfl⟩
    have hsz : wa.heap.size = w1.heap.size + 1 := by rw [hwa]; simp
    rw [← hwa] at hC hz0 hz1 hz2 hz3 hz4 hz5 hb hlat
    rw [← hg1] at hlat
    have hv : Below wa.heap.size wa (wa.alloc (.cells #[.bool false, .int .u64 0] 34)) := (Below.refl _ _).alloc (Nat.le_refl _) _
    have hef := Ef.EffAt.mk (w := wa.alloc (.cells #[.bool false, .int .u64 0] 34)) (g := wa.heap.size) (m := false) (t := 0) (heap_alloc_new wa _) (by decide)
    replace hC := hC.keep hv
    replace hz0 := cell_old hz0 hv
    replace hz1 := cell_old hz1 hv
    replace hz2 := cell_old hz2 hv
    replace hz3 := cell_old hz3 hv
    replace hz4 := cell_old hz4 hv
    replace hz5 := cell_old hz5 hv
    replace hb := hb.trans (hv.mono hb.size)
    replace hlat := hlat.keep hv
    clear hv
    obtain ⟨wb, hwb⟩ : ∃ wb, wb = wa.alloc (.cells #[.bool false, .int .u64 0] 34) := ⟨_, rfl⟩
    rw [← hwb] at hC hz0 hz1 hz2 hz3 hz4 hz5 hb hlat hef
    have hs1 := sort_any none 0 0 false 0 0 none 0 0 none 0 0 [] wb (Rd.nil _ _) (fun x hx => by cases hx)
    rw [sr_la] at hs1
    have HS2 := Lib.hid fun W => sort_any none 0 0 true (-1) 0 none 0 0 none 0 0 [] W (Rd.nil _ _) (fun x hx => by cases hx)
    rw [sr_ef] at HS2
    have HS1 := Lib.hid hs1
    unfold gV at HS1 HS2
    rw [hwb, hwa] at HS1
    have HWB : Hid (wb = (w1.alloc (.cells (La.lc 0 La.z64 La.z64) 31)).alloc (.cells #[.bool false, .int .u64 0] 34)) := Lib.hid (by rw [hwb, hwa])
    have HSZ := Lib.hid hsz
    have HG1 := Lib.hid hg1
    clear hs1 hwb hwa hsz hg1
    go_wp2_with fail
    refine HS1.out.mono ?_
    rintro e w2 ⟨v3, rfl, hS3, hv⟩
    clear hz hsm HS1
    rw [← HWB.out] at hv
    replace hC := hC.keep hv
    replace hz0 := cell_old hz0 hv
    replace hz1 := cell_old hz1 hv
    replace hz2 := cell_old hz2 hv
    replace hz3 := cell_old hz3 hv
    replace hz4 := cell_old hz4 hv
    replace hz5 := cell_old hz5 hv
    replace hb := hb.trans (hv.mono hb.size)
    replace hlat := hlat.keep hv
    replace hef := hef.keep hv
    clear hv
    obtain ⟨T3, p3, rfl⟩ := srt2_form hS3
    go_wp2_with fail
    refine (HS2.out _).mono ?_
    rintro e w3 ⟨v4, rfl, hS4, hv⟩
    clear HS2
    replace hC := hC.keep hv
    replace hz0 := cell_old hz0 hv
    replace hz1 := cell_old hz1 hv
    replace hz2 := cell_old hz2 hv
    replace hz3 := cell_old hz3 hv
    replace hz4 := cell_old hz4 hv
    replace hz5 := cell_old hz5 hv
    replace hb := hb.trans (hv.mono hb.size)
    replace hlat := hlat.keep hv
    replace hef := hef.keep hv
    replace hS3 := hS3.keep hv
    clear hv
    obtain ⟨T4, p4, rfl⟩ := srt2_form hS4
    rw [HG1.out] at hlat
    rw [HSZ.out] at hef
    clear HG1 HSZ HWB
    have hv : Below w3.heap.size w3 (w3.alloc (.cells #[.nilIface, .iface 27 (.pointer (some ⟨w1.heap.size, 0, none⟩)), .iface 32 (.pointer (some ⟨w1.heap.size + 1, 0, none⟩)), .iface T3 p3, .iface T4 p4] 36)) := (Below.refl _ _).alloc (Nat.le_refl _) _
    have hbk := heap_alloc_new w3 (.cells #[.nilIface, .iface 27 (.pointer (some ⟨w1.heap.size, 0, none⟩)), .iface 32 (.pointer (some ⟨w1.heap.size + 1, 0, none⟩)), .iface T3 p3, .iface T4 p4] 36)
    replace hC := hC.keep hv
    replace hz0 := cell_old hz0 hv
    replace hz1 := cell_old hz1 hv
    replace hz2 := cell_old hz2 hv
    replace hz3 := cell_old hz3 hv
    replace hz4 := cell_old hz4 hv
    replace hz5 := cell_old hz5 hv
    replace hb := hb.trans (hv.mono hb.size)
    replace hlat := hlat.keep hv
    replace hef := hef.keep hv
    replace hS3 := hS3.keep hv
    replace hS4 := hS4.keep hv
    clear hv
    obtain ⟨wc, hwc⟩ : ∃ wc, wc = w3.alloc (.cells #[.nilIface, .iface 27 (.pointer (some ⟨w1.heap.size, 0, none⟩)), .iface 32 (.pointer (some ⟨w1.heap.size + 1, 0, none⟩)), .iface T3 p3, .iface T4 p4] 36) := ⟨_, rfl⟩
    rw [← hwc] at hC hz0 hz1 hz2 hz3 hz4 hz5 hb hlat hef hS3 hS4 hbk
    have hso : Sorts wc w3.heap.size := by
      intro i hi
      rcases i with _ | _ | _ | _ | _ | i
      · exact ⟨.nilIface, cell_blk (i := 0) hbk, .inl ⟨rfl, rfl⟩, .inl rfl⟩
      · exact ⟨.iface 27 (.pointer (some ⟨w1.heap.size, 0, none⟩)), cell_blk (i := 1) hbk, .inr (.inl ⟨_, rfl, ans_la_zero hlat⟩), .inr ⟨_, _, rfl⟩⟩
      · exact ⟨.iface 32 (.pointer (some ⟨w1.heap.size + 1, 0, none⟩)), cell_blk (i := 2) hbk, .inr (.inr (.inl ⟨_, rfl, by rw [← ef_dead]; exact ans_ef (.inr ⟨_, rfl, hef⟩)⟩)), .inr ⟨_, _, rfl⟩⟩
      · exact ⟨_, cell_blk (i := 3) hbk, hS3.into, .inr ⟨_, _, rfl⟩⟩
      · exact ⟨_, cell_blk (i := 4) hbk, hS4.into, .inr ⟨_, _, rfl⟩⟩
      · omega
    have HSOR := Lib.hid hso
    have HWC := Lib.hid hwc
    clear hS3 hS4 hlat hef hbk hwc hso
    go_wp2_with fail
    rw [← HWC.out]
    clear HWC
    generalize w3.heap.size = g at *
    obtain ⟨xc, hxc⟩ : ∃ x, chkS dead z l = x := ⟨_, rfl⟩
    have HXC := Lib.hid hxc
    clear hxc
    go_loopw [4] (fun v4 wr => NoRel wc v4 wr) (fun v4 _ => 5 - (intOf v4).toNat)
    case atStart => exact ⟨0, rfl, by omega, Below.refl _ _⟩
    case round =>
      obtain ⟨i, rfl, hi, hb1⟩ := hrel
      by_cases hlt : i < 5
      · obtain ⟨v, hc, hs, hvf⟩ := HSOR.out i hlt
        have hv := hb1
        replace hC := hC.keep hv
        replace hz0 := cell_old hz0 hv
        replace hz1 := cell_old hz1 hv
        replace hz2 := cell_old hz2 hv
        replace hz3 := cell_old hz3 hv
        replace hz4 := cell_old hz4 hv
        replace hz5 := cell_old hz5 hv
        replace hb := hb.trans (hv.mono hb.size)
        replace hc := cell_old hc hv
        replace hs := hs.keep hv
        clear hv hz0 hz1 hz2
        replace hz3 : _ = some (Value.int .i64 z) := hz3
        replace hz4 : _ = some (Value.slice A1 n1 c1) := hz4
        replace hz5 : _ = some (Value.slice A2 n2 c2) := hz5
        rcases hvf with rfl | ⟨T, pt, rfl⟩
        · go_wp2_with fail
          refine wp_region_ord [0, 1, 2, 3, 4, 5, 6, 7, 8, 9] [8] 10 (fun w' => w'.cell? ⟨w.heap.size, 3, none⟩ = some (.int .i64 z) ∧ w'.cell? ⟨w.heap.size, 4, none⟩ = some (.slice A1 n1 c1) ∧ w'.cell? ⟨w.heap.size, 5, none⟩ = some (.slice A2 n2 c2) ∧ w'.cell? ⟨g, i, none⟩ = some (.nilIface)) (by kernel_rfl) (by kernel_rfl) (by kernel_rfl) (by kernel_rfl) (fun _ _ _ _ _ h => h) ⟨hz3, hz4, hz5, hc⟩ ?_
          simp only [steps, List.getElem?_cons_zero, List.getElem?_cons_succ]
          repeat (first
            | (refine ord_no rfl ?_; simp only [Act.put, List.setIfInBounds_toArray, List.set_cons_zero, List.set_cons_succ])
            | (refine ord_yes (v := ?_) rfl rfl ?_ ?_; rotate_left; (focus (rintro w' ⟨hS0, hS1, hS2, hS3⟩; go_simp; try with_reducible rfl)); simp only [Act.put, List.setIfInBounds_toArray, List.set_cons_zero, List.set_cons_succ]))
          have hv : Below wr.heap.size wr wr.drew := (Below.refl _ _).drew
          replace hC := hC.keep hv
          replace hz3 := cell_old hz3 hv
          replace hz4 := cell_old hz4 hv
          replace hz5 := cell_old hz5 hv
          replace hc := cell_old hc hv
          replace hs := hs.keep hv
          replace hb := hb.trans (hv.mono hb.size)
          replace hb1 := hb1.trans (hv.mono hb1.size)
          clear hv
          generalize wr.drew = w5 at *
          refine ord_hard rfl rfl (fun K hK => ?_)
          go_simp
          refine (check_any _ z A1 n1 c1 l dead _ xc hs hC.hl hC.hlf HXC.out).mono ?_
          rintro e w6 ⟨rfl, hv⟩
          replace hC := hC.keep hv
          replace hz3 := cell_old hz3 hv
          replace hz4 := cell_old hz4 hv
          replace hz5 := cell_old hz5 hv
          replace hc := cell_old hc hv
          replace hs := hs.keep hv
          replace hb := hb.trans (hv.mono hb.size)
          replace hb1 := hb1.trans (hv.mono hb1.size)
          clear hv
          refine hK.out _ _ (fun _ => ⟨hz3, hz4, hz5, hc⟩) ?_
          clear hK K
          try simp only [Act.put, List.setIfInBounds_toArray, List.set_cons_zero, List.set_cons_succ]
          repeat (first
            | (refine ord_no rfl ?_; simp only [Act.put, List.setIfInBounds_toArray, List.set_cons_zero, List.set_cons_succ])
            | (refine ord_yes (v := ?_) rfl rfl ?_ ?_; rotate_left; (focus (rintro w' ⟨hS0, hS1, hS2, hS3⟩; go_simp; try with_reducible rfl)); simp only [Act.put, List.setIfInBounds_toArray, List.set_cons_zero, List.set_cons_succ]))
          refine ord_end ?_
          go_wp2_with fail
          refine wp_region_ord [0, 1, 2, 3, 4, 5, 6, 7, 8, 9, 10, 11, 12, 13, 14, 15] [8] 16 (fun w' => w'.cell? ⟨w.heap.size, 3, none⟩ = some (.int .i64 z) ∧ w'.cell? ⟨w.heap.size, 4, none⟩ = some (.slice A1 n1 c1) ∧ w'.cell? ⟨w.heap.size, 5, none⟩ = some (.slice A2 n2 c2) ∧ w'.cell? ⟨g, i, none⟩ = some (.nilIface)) (by kernel_rfl) (by kernel_rfl) (by kernel_rfl) (by kernel_rfl) (fun _ _ _ _ _ h => h) ⟨hz3, hz4, hz5, hc⟩ ?_
          simp only [steps, List.getElem?_cons_zero, List.getElem?_cons_succ]
          repeat (first
            | (refine ord_no rfl ?_; simp only [Act.put, List.setIfInBounds_toArray, List.set_cons_zero, List.set_cons_succ])
            | (refine ord_yes (v := ?_) rfl rfl ?_ ?_; rotate_left; (focus (rintro w' ⟨hS0, hS1, hS2, hS3⟩; go_simp; try with_reducible rfl)); simp only [Act.put, List.setIfInBounds_toArray, List.set_cons_zero, List.set_cons_succ]))
          have hv : Below w6.heap.size w6 w6.drew := (Below.refl _ _).drew
          replace hC := hC.keep hv
          replace hz3 := cell_old hz3 hv
          replace hz4 := cell_old hz4 hv
          replace hz5 := cell_old hz5 hv
          replace hc := cell_old hc hv
          replace hs := hs.keep hv
          replace hb := hb.trans (hv.mono hb.size)
          replace hb1 := hb1.trans (hv.mono hb1.size)
          clear hv
          generalize w6.drew = w7 at *
          refine ord_hard rfl rfl (fun K hK => ?_)
          go_simp
          refine (solve_any _ z A1 n1 c1 l dead _ dead_ok hs hC.hl hC.hlf).mono ?_
          rintro e w8 ⟨B1, m1, d1, B2, m2, d2, y, lo, hi2, rfl, -, -, hans, hv⟩
          replace hC := hC.keep hv
          replace hz3 := cell_old hz3 hv
          replace hz4 := cell_old hz4 hv
          replace hz5 := cell_old hz5 hv
          replace hc := cell_old hc hv
          replace hs := hs.keep hv
          replace hb := hb.trans (hv.mono hb.size)
          replace hb1 := hb1.trans (hv.mono hb1.size)
          clear hv
          have HY := Lib.hid (solve_dead hans)
          clear hans
          refine hK.out _ _ (fun _ => ⟨hz3, hz4, hz5, hc⟩) ?_
          clear hK K
          try simp only [Act.put, List.setIfInBounds_toArray, List.set_cons_zero, List.set_cons_succ]
          repeat (first
            | (refine ord_no rfl ?_; simp only [Act.put, List.setIfInBounds_toArray, List.set_cons_zero, List.set_cons_succ])
            | (refine ord_yes (v := ?_) rfl rfl ?_ ?_; rotate_left; (focus (rintro w' ⟨hS0, hS1, hS2, hS3⟩; go_simp; try with_reducible rfl)); simp only [Act.put, List.setIfInBounds_toArray, List.set_cons_zero, List.set_cons_succ]))
          refine ord_end ?_
          obtain ⟨dc, hdc⟩ : ∃ x, decide (l.length = 0) = x := ⟨_, rfl⟩
          have HDC : Hid (holdS dead u l = dc) := Lib.hid (by rw [hold_dead]; exact hdc)
          have hne : (!dc == ((n1 : Int) == 0)) = false := by
            rw [← hdc, HLN.out.1]
            by_cases h : n1 = 0
            · subst h
              rfl
            · have e : ((n1 : Int) == 0) = false := by simpa using h
              rw [e, decide_eq_false h]
              rfl
          clear hdc
          by_cases hx0 : xc = 0
          case neg =>
            obtain rfl : y = xc := by have := HY.out.1; rw [HXC.out] at this; exact this hx0
            have hxx : (y != y) = false := by simp
            have hx1 : (y == 0) = false := by simpa using hx0
            have hx2 : (y != 0) = true := by simpa using hx0
            clear HY hx0
            go_wp2_with fail
            refine wp_region_ord [0, 1, 2, 3, 4, 5, 6, 7, 8, 9, 10, 11, 12, 13, 14, 15, 16, 17, 18, 19, 20, 21, 22, 23, 24, 25, 26, 27, 28, 29, 30, 31, 32, 33, 34, 35, 36, 37, 39, 40, 41, 42, 38, 43, 44] [6, 38] 45 (fun w' => w'.cell? ⟨w.heap.size, 3, none⟩ = some (.int .i64 z) ∧ w'.cell? ⟨w.heap.size, 4, none⟩ = some (.slice A1 n1 c1) ∧ w'.cell? ⟨w.heap.size, 5, none⟩ = some (.slice A2 n2 c2) ∧ w'.cell? ⟨g, i, none⟩ = some (.nilIface)) (by kernel_rfl) (by kernel_rfl) (by kernel_rfl) (by kernel_rfl) (fun _ _ _ _ _ h => h) ⟨hz3, hz4, hz5, hc⟩ ?_
            simp only [steps, List.getElem?_cons_zero, List.getElem?_cons_succ]
            repeat (first
              | (refine ord_no rfl ?_; simp only [Act.put, List.setIfInBounds_toArray, List.set_cons_zero, List.set_cons_succ])
              | (refine ord_yes (v := ?_) rfl rfl ?_ ?_; rotate_left; (focus (rintro w' ⟨hS0, hS1, hS2, hS3⟩; go_simp; try with_reducible rfl)); simp only [Act.put, List.setIfInBounds_toArray, List.set_cons_zero, List.set_cons_succ]))
            have hv : Below w8.heap.size w8 w8.drew := (Below.refl _ _).drew
            replace hC := hC.keep hv
            replace hz3 := cell_old hz3 hv
            replace hz4 := cell_old hz4 hv
            replace hz5 := cell_old hz5 hv
            replace hc := cell_old hc hv
            replace hs := hs.keep hv
            replace hb := hb.trans (hv.mono hb.size)
            replace hb1 := hb1.trans (hv.mono hb1.size)
            clear hv
            generalize w8.drew = w9 at *
            refine ord_hard rfl rfl (fun K hK => ?_)
            go_simp
            refine (check_ref 0 none 0 0 0 z A1 n1 c1 l dead _ y (dead_has _) hC.hl hC.hlf HXC.out).mono ?_
            rintro e w10 ⟨rfl, hv⟩
            replace hC := hC.keep hv
            replace hz3 := cell_old hz3 hv
            replace hz4 := cell_old hz4 hv
            replace hz5 := cell_old hz5 hv
            replace hc := cell_old hc hv
            replace hs := hs.keep hv
            replace hb := hb.trans (hv.mono hb.size)
            replace hb1 := hb1.trans (hv.mono hb1.size)
            clear hv
            refine hK.out _ _ (fun _ => ⟨hz3, hz4, hz5, hc⟩) ?_
            clear hK K
            try simp only [Act.put, List.setIfInBounds_toArray, List.set_cons_zero, List.set_cons_succ]
            repeat (first
              | (refine ord_no rfl ?_; simp only [Act.put, List.setIfInBounds_toArray, List.set_cons_zero, List.set_cons_succ])
              | (refine ord_yes (v := ?_) rfl rfl ?_ ?_; rotate_left; (focus (rintro w' ⟨hS0, hS1, hS2, hS3⟩; go_simp; try with_reducible rfl)); simp only [Act.put, List.setIfInBounds_toArray, List.set_cons_zero, List.set_cons_succ]))
            refine ord_hard rfl rfl (fun K hK => ?_)
            go_simp
            refine (hold_any _ A2 n2 c2 u A1 n1 c1 l dead _ dc hs hC.hu hC.huf hC.hl hC.hlf HDC.out).mono ?_
            rintro e w11 ⟨rfl, hv⟩
            replace hC := hC.keep hv
            replace hz3 := cell_old hz3 hv
            replace hz4 := cell_old hz4 hv
            replace hz5 := cell_old hz5 hv
            replace hc := cell_old hc hv
            replace hs := hs.keep hv
            replace hb := hb.trans (hv.mono hb.size)
            replace hb1 := hb1.trans (hv.mono hb1.size)
            clear hv
            refine hK.out _ _ (fun _ => ⟨hz3, hz4, hz5, hc⟩) ?_
            clear hK K
            try simp only [Act.put, List.setIfInBounds_toArray, List.set_cons_zero, List.set_cons_succ]
            repeat (first
              | (refine ord_no rfl ?_; simp only [Act.put, List.setIfInBounds_toArray, List.set_cons_zero, List.set_cons_succ])
              | (refine ord_yes (v := ?_) rfl rfl ?_ ?_; rotate_left; (focus (rintro w' ⟨hS0, hS1, hS2, hS3⟩; go_simp; try with_reducible rfl)); simp only [Act.put, List.setIfInBounds_toArray, List.set_cons_zero, List.set_cons_succ]))
            refine ord_end ?_
            clear hC hz3 hz4 hz5 hc hs hb
            go_wp2_with fail
            go_roundw
            case rel => exact ⟨i + 1, by go_num, by omega, hb1⟩
            case measure => simp [intOf]; omega
          subst hx0
          by_cases hz : z = 0
          case pos =>
            obtain rfl : y = 0 := by have := HY.out.2 HXC.out; rw [if_pos hz] at this; exact this
            have hzz : (z == 0) = true := by simpa using hz
            clear HY hz
            go_wp2_with fail
            refine wp_region_ord [0, 1, 2, 3, 4, 5, 6, 7, 8, 9, 10, 11, 12, 13, 14, 15, 16, 17, 18, 19, 20, 21, 22, 23, 24, 25, 26, 27, 28, 29, 30, 31, 32, 33, 34, 35, 36, 37, 39, 40, 41, 42, 38, 43, 44] [6, 38] 45 (fun w' => w'.cell? ⟨w.heap.size, 3, none⟩ = some (.int .i64 z) ∧ w'.cell? ⟨w.heap.size, 4, none⟩ = some (.slice A1 n1 c1) ∧ w'.cell? ⟨w.heap.size, 5, none⟩ = some (.slice A2 n2 c2) ∧ w'.cell? ⟨g, i, none⟩ = some (.nilIface)) (by kernel_rfl) (by kernel_rfl) (by kernel_rfl) (by kernel_rfl) (fun _ _ _ _ _ h => h) ⟨hz3, hz4, hz5, hc⟩ ?_
            simp only [steps, List.getElem?_cons_zero, List.getElem?_cons_succ]
            repeat (first
              | (refine ord_no rfl ?_; simp only [Act.put, List.setIfInBounds_toArray, List.set_cons_zero, List.set_cons_succ])
              | (refine ord_yes (v := ?_) rfl rfl ?_ ?_; rotate_left; (focus (rintro w' ⟨hS0, hS1, hS2, hS3⟩; go_simp; try with_reducible rfl)); simp only [Act.put, List.setIfInBounds_toArray, List.set_cons_zero, List.set_cons_succ]))
            have hv : Below w8.heap.size w8 w8.drew := (Below.refl _ _).drew
            replace hC := hC.keep hv
            replace hz3 := cell_old hz3 hv
            replace hz4 := cell_old hz4 hv
            replace hz5 := cell_old hz5 hv
            replace hc := cell_old hc hv
            replace hs := hs.keep hv
            replace hb := hb.trans (hv.mono hb.size)
            replace hb1 := hb1.trans (hv.mono hb1.size)
            clear hv
            generalize w8.drew = w9 at *
            refine ord_hard rfl rfl (fun K hK => ?_)
            go_simp
            refine (check_ref 0 none 0 0 0 z A1 n1 c1 l dead _ 0 (dead_has _) hC.hl hC.hlf HXC.out).mono ?_
            rintro e w10 ⟨rfl, hv⟩
            replace hC := hC.keep hv
            replace hz3 := cell_old hz3 hv
            replace hz4 := cell_old hz4 hv
            replace hz5 := cell_old hz5 hv
            replace hc := cell_old hc hv
            replace hs := hs.keep hv
            replace hb := hb.trans (hv.mono hb.size)
            replace hb1 := hb1.trans (hv.mono hb1.size)
            clear hv
            refine hK.out _ _ (fun _ => ⟨hz3, hz4, hz5, hc⟩) ?_
            clear hK K
            try simp only [Act.put, List.setIfInBounds_toArray, List.set_cons_zero, List.set_cons_succ]
            repeat (first
              | (refine ord_no rfl ?_; simp only [Act.put, List.setIfInBounds_toArray, List.set_cons_zero, List.set_cons_succ])
              | (refine ord_yes (v := ?_) rfl rfl ?_ ?_; rotate_left; (focus (rintro w' ⟨hS0, hS1, hS2, hS3⟩; go_simp; try with_reducible rfl)); simp only [Act.put, List.setIfInBounds_toArray, List.set_cons_zero, List.set_cons_succ]))
            refine ord_hard rfl rfl (fun K hK => ?_)
            go_simp
            refine (hold_any _ A2 n2 c2 u A1 n1 c1 l dead _ dc hs hC.hu hC.huf hC.hl hC.hlf HDC.out).mono ?_
            rintro e w11 ⟨rfl, hv⟩
            replace hC := hC.keep hv
            replace hz3 := cell_old hz3 hv
            replace hz4 := cell_old hz4 hv
            replace hz5 := cell_old hz5 hv
            replace hc := cell_old hc hv
            replace hs := hs.keep hv
            replace hb := hb.trans (hv.mono hb.size)
            replace hb1 := hb1.trans (hv.mono hb1.size)
            clear hv
            refine hK.out _ _ (fun _ => ⟨hz3, hz4, hz5, hc⟩) ?_
            clear hK K
            try simp only [Act.put, List.setIfInBounds_toArray, List.set_cons_zero, List.set_cons_succ]
            repeat (first
              | (refine ord_no rfl ?_; simp only [Act.put, List.setIfInBounds_toArray, List.set_cons_zero, List.set_cons_succ])
              | (refine ord_yes (v := ?_) rfl rfl ?_ ?_; rotate_left; (focus (rintro w' ⟨hS0, hS1, hS2, hS3⟩; go_simp; try with_reducible rfl)); simp only [Act.put, List.setIfInBounds_toArray, List.set_cons_zero, List.set_cons_succ]))
            refine ord_end ?_
            clear hC hz3 hz4 hz5 hc hs hb
            go_wp2_with fail
            go_roundw
            case rel => exact ⟨i + 1, by go_num, by omega, hb1⟩
            case measure => simp [intOf]; omega
          obtain rfl : y = 10 := by have := HY.out.2 HXC.out; rw [if_neg hz] at this; exact this
          have hzz : (z == 0) = false := by simpa using hz
          clear HY hz
          go_wp2_with fail
          refine wp_region_ord [0, 1, 2, 3, 4, 5, 6, 7, 8, 9, 10, 11, 12, 13, 14, 15, 16, 17, 18, 19, 20, 21, 22, 23, 24, 25, 26, 27, 28, 29, 30, 31, 32, 33, 34, 35, 36, 37, 39, 40, 41, 42, 38, 43, 44] [6, 38] 45 (fun w' => w'.cell? ⟨w.heap.size, 3, none⟩ = some (.int .i64 z) ∧ w'.cell? ⟨w.heap.size, 4, none⟩ = some (.slice A1 n1 c1) ∧ w'.cell? ⟨w.heap.size, 5, none⟩ = some (.slice A2 n2 c2) ∧ w'.cell? ⟨g, i, none⟩ = some (.nilIface)) (by kernel_rfl) (by kernel_rfl) (by kernel_rfl) (by kernel_rfl) (fun _ _ _ _ _ h => h) ⟨hz3, hz4, hz5, hc⟩ ?_
          simp only [steps, List.getElem?_cons_zero, List.getElem?_cons_succ]
          repeat (first
            | (refine ord_no rfl ?_; simp only [Act.put, List.setIfInBounds_toArray, List.set_cons_zero, List.set_cons_succ])
            | (refine ord_yes (v := ?_) rfl rfl ?_ ?_; rotate_left; (focus (rintro w' ⟨hS0, hS1, hS2, hS3⟩; go_simp; try with_reducible rfl)); simp only [Act.put, List.setIfInBounds_toArray, List.set_cons_zero, List.set_cons_succ]))
          have hv : Below w8.heap.size w8 w8.drew := (Below.refl _ _).drew
          replace hC := hC.keep hv
          replace hz3 := cell_old hz3 hv
          replace hz4 := cell_old hz4 hv
          replace hz5 := cell_old hz5 hv
          replace hc := cell_old hc hv
          replace hs := hs.keep hv
          replace hb := hb.trans (hv.mono hb.size)
          replace hb1 := hb1.trans (hv.mono hb1.size)
          clear hv
          generalize w8.drew = w9 at *
          refine ord_hard rfl rfl (fun K hK => ?_)
          go_simp
          refine (check_ref 0 none 0 0 0 z A1 n1 c1 l dead _ 0 (dead_has _) hC.hl hC.hlf HXC.out).mono ?_
          rintro e w10 ⟨rfl, hv⟩
          replace hC := hC.keep hv
          replace hz3 := cell_old hz3 hv
          replace hz4 := cell_old hz4 hv
          replace hz5 := cell_old hz5 hv
          replace hc := cell_old hc hv
          replace hs := hs.keep hv
          replace hb := hb.trans (hv.mono hb.size)
          replace hb1 := hb1.trans (hv.mono hb1.size)
          clear hv
          refine hK.out _ _ (fun _ => ⟨hz3, hz4, hz5, hc⟩) ?_
          clear hK K
          try simp only [Act.put, List.setIfInBounds_toArray, List.set_cons_zero, List.set_cons_succ]
          repeat (first
            | (refine ord_no rfl ?_; simp only [Act.put, List.setIfInBounds_toArray, List.set_cons_zero, List.set_cons_succ])
            | (refine ord_yes (v := ?_) rfl rfl ?_ ?_; rotate_left; (focus (rintro w' ⟨hS0, hS1, hS2, hS3⟩; go_simp; try with_reducible rfl)); simp only [Act.put, List.setIfInBounds_toArray, List.set_cons_zero, List.set_cons_succ]))
          refine ord_hard rfl rfl (fun K hK => ?_)
          go_simp
          refine (hold_any _ A2 n2 c2 u A1 n1 c1 l dead _ dc hs hC.hu hC.huf hC.hl hC.hlf HDC.out).mono ?_
          rintro e w11 ⟨rfl, hv⟩
          replace hC := hC.keep hv
          replace hz3 := cell_old hz3 hv
          replace hz4 := cell_old hz4 hv
          replace hz5 := cell_old hz5 hv
          replace hc := cell_old hc hv
          replace hs := hs.keep hv
          replace hb := hb.trans (hv.mono hb.size)
          replace hb1 := hb1.trans (hv.mono hb1.size)
          clear hv
          refine hK.out _ _ (fun _ => ⟨hz3, hz4, hz5, hc⟩) ?_
          clear hK K
          try simp only [Act.put, List.setIfInBounds_toArray, List.set_cons_zero, List.set_cons_succ]
          repeat (first
            | (refine ord_no rfl ?_; simp only [Act.put, List.setIfInBounds_toArray, List.set_cons_zero, List.set_cons_succ])
            | (refine ord_yes (v := ?_) rfl rfl ?_ ?_; rotate_left; (focus (rintro w' ⟨hS0, hS1, hS2, hS3⟩; go_simp; try with_reducible rfl)); simp only [Act.put, List.setIfInBounds_toArray, List.set_cons_zero, List.set_cons_succ]))
          refine ord_end ?_
          clear hC hz3 hz4 hz5 hc hs hb
          go_wp2_with fail
          go_roundw
          case rel => exact ⟨i + 1, by go_num, by omega, hb1⟩
          case measure => simp [intOf]; omega
        · go_wp2_with fail
          refine wp_region_ord [0, 1, 2, 3, 4, 5, 6, 7, 8, 9] [8] 10 (fun w' => w'.cell? ⟨w.heap.size, 3, none⟩ = some (.int .i64 z) ∧ w'.cell? ⟨w.heap.size, 4, none⟩ = some (.slice A1 n1 c1) ∧ w'.cell? ⟨w.heap.size, 5, none⟩ = some (.slice A2 n2 c2) ∧ w'.cell? ⟨g, i, none⟩ = some (.iface T pt)) (by kernel_rfl) (by kernel_rfl) (by kernel_rfl) (by kernel_rfl) (fun _ _ _ _ _ h => h) ⟨hz3, hz4, hz5, hc⟩ ?_
          simp only [steps, List.getElem?_cons_zero, List.getElem?_cons_succ]
          repeat (first
            | (refine ord_no rfl ?_; simp only [Act.put, List.setIfInBounds_toArray, List.set_cons_zero, List.set_cons_succ])
            | (refine ord_yes (v := ?_) rfl rfl ?_ ?_; rotate_left; (focus (rintro w' ⟨hS0, hS1, hS2, hS3⟩; go_simp; try with_reducible rfl)); simp only [Act.put, List.setIfInBounds_toArray, List.set_cons_zero, List.set_cons_succ]))
          have hv : Below wr.heap.size wr wr.drew := (Below.refl _ _).drew
          replace hC := hC.keep hv
          replace hz3 := cell_old hz3 hv
          replace hz4 := cell_old hz4 hv
          replace hz5 := cell_old hz5 hv
          replace hc := cell_old hc hv
          replace hs := hs.keep hv
          replace hb := hb.trans (hv.mono hb.size)
          replace hb1 := hb1.trans (hv.mono hb1.size)
          clear hv
          generalize wr.drew = w5 at *
          refine ord_hard rfl rfl (fun K hK => ?_)
          go_simp
          refine (check_any _ z A1 n1 c1 l dead _ xc hs hC.hl hC.hlf HXC.out).mono ?_
          rintro e w6 ⟨rfl, hv⟩
          replace hC := hC.keep hv
          replace hz3 := cell_old hz3 hv
          replace hz4 := cell_old hz4 hv
          replace hz5 := cell_old hz5 hv
          replace hc := cell_old hc hv
          replace hs := hs.keep hv
          replace hb := hb.trans (hv.mono hb.size)
          replace hb1 := hb1.trans (hv.mono hb1.size)
          clear hv
          refine hK.out _ _ (fun _ => ⟨hz3, hz4, hz5, hc⟩) ?_
          clear hK K
          try simp only [Act.put, List.setIfInBounds_toArray, List.set_cons_zero, List.set_cons_succ]
          repeat (first
            | (refine ord_no rfl ?_; simp only [Act.put, List.setIfInBounds_toArray, List.set_cons_zero, List.set_cons_succ])
            | (refine ord_yes (v := ?_) rfl rfl ?_ ?_; rotate_left; (focus (rintro w' ⟨hS0, hS1, hS2, hS3⟩; go_simp; try with_reducible rfl)); simp only [Act.put, List.setIfInBounds_toArray, List.set_cons_zero, List.set_cons_succ]))
          refine ord_end ?_
          go_wp2_with fail
          refine wp_region_ord [0, 1, 2, 3, 4, 5, 6, 7, 8, 9, 10, 11, 12, 13, 14, 15] [8] 16 (fun w' => w'.cell? ⟨w.heap.size, 3, none⟩ = some (.int .i64 z) ∧ w'.cell? ⟨w.heap.size, 4, none⟩ = some (.slice A1 n1 c1) ∧ w'.cell? ⟨w.heap.size, 5, none⟩ = some (.slice A2 n2 c2) ∧ w'.cell? ⟨g, i, none⟩ = some (.iface T pt)) (by kernel_rfl) (by kernel_rfl) (by kernel_rfl) (by kernel_rfl) (fun _ _ _ _ _ h => h) ⟨hz3, hz4, hz5, hc⟩ ?_
          simp only [steps, List.getElem?_cons_zero, List.getElem?_cons_succ]
          repeat (first
            | (refine ord_no rfl ?_; simp only [Act.put, List.setIfInBounds_toArray, List.set_cons_zero, List.set_cons_succ])
            | (refine ord_yes (v := ?_) rfl rfl ?_ ?_; rotate_left; (focus (rintro w' ⟨hS0, hS1, hS2, hS3⟩; go_simp; try with_reducible rfl)); simp only [Act.put, List.setIfInBounds_toArray, List.set_cons_zero, List.set_cons_succ]))
          have hv : Below w6.heap.size w6 w6.drew := (Below.refl _ _).drew
          replace hC := hC.keep hv
          replace hz3 := cell_old hz3 hv
          replace hz4 := cell_old hz4 hv
          replace hz5 := cell_old hz5 hv
          replace hc := cell_old hc hv
          replace hs := hs.keep hv
          replace hb := hb.trans (hv.mono hb.size)
          replace hb1 := hb1.trans (hv.mono hb1.size)
          clear hv
          generalize w6.drew = w7 at *
          refine ord_hard rfl rfl (fun K hK => ?_)
          go_simp
          refine (solve_any _ z A1 n1 c1 l dead _ dead_ok hs hC.hl hC.hlf).mono ?_
          rintro e w8 ⟨B1, m1, d1, B2, m2, d2, y, lo, hi2, rfl, -, -, hans, hv⟩
          replace hC := hC.keep hv
          replace hz3 := cell_old hz3 hv
          replace hz4 := cell_old hz4 hv
          replace hz5 := cell_old hz5 hv
          replace hc := cell_old hc hv
          replace hs := hs.keep hv
          replace hb := hb.trans (hv.mono hb.size)
          replace hb1 := hb1.trans (hv.mono hb1.size)
          clear hv
          have HY := Lib.hid (solve_dead hans)
          clear hans
          refine hK.out _ _ (fun _ => ⟨hz3, hz4, hz5, hc⟩) ?_
          clear hK K
          try simp only [Act.put, List.setIfInBounds_toArray, List.set_cons_zero, List.set_cons_succ]
          repeat (first
            | (refine ord_no rfl ?_; simp only [Act.put, List.setIfInBounds_toArray, List.set_cons_zero, List.set_cons_succ])
            | (refine ord_yes (v := ?_) rfl rfl ?_ ?_; rotate_left; (focus (rintro w' ⟨hS0, hS1, hS2, hS3⟩; go_simp; try with_reducible rfl)); simp only [Act.put, List.setIfInBounds_toArray, List.set_cons_zero, List.set_cons_succ]))
          refine ord_end ?_
          obtain ⟨dc, hdc⟩ : ∃ x, decide (l.length = 0) = x := ⟨_, rfl⟩
          have HDC : Hid (holdS dead u l = dc) := Lib.hid (by rw [hold_dead]; exact hdc)
          have hne : (!dc == ((n1 : Int) == 0)) = false := by
            rw [← hdc, HLN.out.1]
            by_cases h : n1 = 0
            · subst h
              rfl
            · have e : ((n1 : Int) == 0) = false := by simpa using h
              rw [e, decide_eq_false h]
              rfl
          clear hdc
          by_cases hx0 : xc = 0
          case neg =>
            obtain rfl : y = xc := by have := HY.out.1; rw [HXC.out] at this; exact this hx0
            have hxx : (y != y) = false := by simp
            have hx1 : (y == 0) = false := by simpa using hx0
            have hx2 : (y != 0) = true := by simpa using hx0
            clear HY hx0
            go_wp2_with fail
            refine wp_region_ord [0, 1, 2, 3, 4, 5, 6, 7, 8, 9, 10, 11, 12, 13, 14, 15, 16, 17, 18, 19, 20, 21, 22, 23, 24, 25, 26, 27, 28, 29, 30, 31, 32, 33, 34, 35, 36, 37, 39, 40, 41, 42, 38, 43, 44] [6, 38] 45 (fun w' => w'.cell? ⟨w.heap.size, 3, none⟩ = some (.int .i64 z) ∧ w'.cell? ⟨w.heap.size, 4, none⟩ = some (.slice A1 n1 c1) ∧ w'.cell? ⟨w.heap.size, 5, none⟩ = some (.slice A2 n2 c2) ∧ w'.cell? ⟨g, i, none⟩ = some (.iface T pt)) (by kernel_rfl) (by kernel_rfl) (by kernel_rfl) (by kernel_rfl) (fun _ _ _ _ _ h => h) ⟨hz3, hz4, hz5, hc⟩ ?_
            simp only [steps, List.getElem?_cons_zero, List.getElem?_cons_succ]
            repeat (first
              | (refine ord_no rfl ?_; simp only [Act.put, List.setIfInBounds_toArray, List.set_cons_zero, List.set_cons_succ])
              | (refine ord_yes (v := ?_) rfl rfl ?_ ?_; rotate_left; (focus (rintro w' ⟨hS0, hS1, hS2, hS3⟩; go_simp; try with_reducible rfl)); simp only [Act.put, List.setIfInBounds_toArray, List.set_cons_zero, List.set_cons_succ]))
            have hv : Below w8.heap.size w8 w8.drew := (Below.refl _ _).drew
            replace hC := hC.keep hv
            replace hz3 := cell_old hz3 hv
            replace hz4 := cell_old hz4 hv
            replace hz5 := cell_old hz5 hv
            replace hc := cell_old hc hv
            replace hs := hs.keep hv
            replace hb := hb.trans (hv.mono hb.size)
            replace hb1 := hb1.trans (hv.mono hb1.size)
            clear hv
            generalize w8.drew = w9 at *
            refine ord_hard rfl rfl (fun K hK => ?_)
            go_simp
            refine (check_ref 0 none 0 0 0 z A1 n1 c1 l dead _ y (dead_has _) hC.hl hC.hlf HXC.out).mono ?_
            rintro e w10 ⟨rfl, hv⟩
            replace hC := hC.keep hv
            replace hz3 := cell_old hz3 hv
            replace hz4 := cell_old hz4 hv
            replace hz5 := cell_old hz5 hv
            replace hc := cell_old hc hv
            replace hs := hs.keep hv
            replace hb := hb.trans (hv.mono hb.size)
            replace hb1 := hb1.trans (hv.mono hb1.size)
            clear hv
            refine hK.out _ _ (fun _ => ⟨hz3, hz4, hz5, hc⟩) ?_
            clear hK K
            try simp only [Act.put, List.setIfInBounds_toArray, List.set_cons_zero, List.set_cons_succ]
            repeat (first
              | (refine ord_no rfl ?_; simp only [Act.put, List.setIfInBounds_toArray, List.set_cons_zero, List.set_cons_succ])
              | (refine ord_yes (v := ?_) rfl rfl ?_ ?_; rotate_left; (focus (rintro w' ⟨hS0, hS1, hS2, hS3⟩; go_simp; try with_reducible rfl)); simp only [Act.put, List.setIfInBounds_toArray, List.set_cons_zero, List.set_cons_succ]))
            refine ord_hard rfl rfl (fun K hK => ?_)
            go_simp
            refine (hold_any _ A2 n2 c2 u A1 n1 c1 l dead _ dc hs hC.hu hC.huf hC.hl hC.hlf HDC.out).mono ?_
            rintro e w11 ⟨rfl, hv⟩
            replace hC := hC.keep hv
            replace hz3 := cell_old hz3 hv
            replace hz4 := cell_old hz4 hv
            replace hz5 := cell_old hz5 hv
            replace hc := cell_old hc hv
            replace hs := hs.keep hv
            replace hb := hb.trans (hv.mono hb.size)
            replace hb1 := hb1.trans (hv.mono hb1.size)
            clear hv
            refine hK.out _ _ (fun _ => ⟨hz3, hz4, hz5, hc⟩) ?_
            clear hK K
            try simp only [Act.put, List.setIfInBounds_toArray, List.set_cons_zero, List.set_cons_succ]
            repeat (first
              | (refine ord_no rfl ?_; simp only [Act.put, List.setIfInBounds_toArray, List.set_cons_zero, List.set_cons_succ])
              | (refine ord_yes (v := ?_) rfl rfl ?_ ?_; rotate_left; (focus (rintro w' ⟨hS0, hS1, hS2, hS3⟩; go_simp; try with_reducible rfl)); simp only [Act.put, List.setIfInBounds_toArray, List.set_cons_zero, List.set_cons_succ]))
            refine ord_end ?_
            clear hC hz3 hz4 hz5 hc hs hb
            go_wp2_with fail
            go_roundw
            case rel => exact ⟨i + 1, by go_num, by omega, hb1⟩
            case measure => simp [intOf]; omega
          subst hx0
          by_cases hz : z = 0
          case pos =>
            obtain rfl : y = 0 := by have := HY.out.2 HXC.out; rw [if_pos hz] at this; exact this
            have hzz : (z == 0) = true := by simpa using hz
            clear HY hz
            go_wp2_with fail
            refine wp_region_ord [0, 1, 2, 3, 4, 5, 6, 7, 8, 9, 10, 11, 12, 13, 14, 15, 16, 17, 18, 19, 20, 21, 22, 23, 24, 25, 26, 27, 28, 29, 30, 31, 32, 33, 34, 35, 36, 37, 39, 40, 41, 42, 38, 43, 44] [6, 38] 45 (fun w' => w'.cell? ⟨w.heap.size, 3, none⟩ = some (.int .i64 z) ∧ w'.cell? ⟨w.heap.size, 4, none⟩ = some (.slice A1 n1 c1) ∧ w'.cell? ⟨w.heap.size, 5, none⟩ = some (.slice A2 n2 c2) ∧ w'.cell? ⟨g, i, none⟩ = some (.iface T pt)) (by kernel_rfl) (by kernel_rfl) (by kernel_rfl) (by kernel_rfl) (fun _ _ _ _ _ h => h) ⟨hz3, hz4, hz5, hc⟩ ?_
            simp only [steps, List.getElem?_cons_zero, List.getElem?_cons_succ]
            repeat (first
              | (refine ord_no rfl ?_; simp only [Act.put, List.setIfInBounds_toArray, List.set_cons_zero, List.set_cons_succ])
              | (refine ord_yes (v := ?_) rfl rfl ?_ ?_; rotate_left; (focus (rintro w' ⟨hS0, hS1, hS2, hS3⟩; go_simp; try with_reducible rfl)); simp only [Act.put, List.setIfInBounds_toArray, List.set_cons_zero, List.set_cons_succ]))
            have hv : Below w8.heap.size w8 w8.drew := (Below.refl _ _).drew
            replace hC := hC.keep hv
            replace hz3 := cell_old hz3 hv
            replace hz4 := cell_old hz4 hv
            replace hz5 := cell_old hz5 hv
            replace hc := cell_old hc hv
            replace hs := hs.keep hv
            replace hb := hb.trans (hv.mono hb.size)
            replace hb1 := hb1.trans (hv.mono hb1.size)
            clear hv
            generalize w8.drew = w9 at *
            refine ord_hard rfl rfl (fun K hK => ?_)
            go_simp
            refine (check_ref 0 none 0 0 0 z A1 n1 c1 l dead _ 0 (dead_has _) hC.hl hC.hlf HXC.out).mono ?_
            rintro e w10 ⟨rfl, hv⟩
            replace hC := hC.keep hv
            replace hz3 := cell_old hz3 hv
            replace hz4 := cell_old hz4 hv
            replace hz5 := cell_old hz5 hv
            replace hc := cell_old hc hv
            replace hs := hs.keep hv
            replace hb := hb.trans (hv.mono hb.size)
            replace hb1 := hb1.trans (hv.mono hb1.size)
            clear hv
            refine hK.out _ _ (fun _ => ⟨hz3, hz4, hz5, hc⟩) ?_
            clear hK K
            try simp only [Act.put, List.setIfInBounds_toArray, List.set_cons_zero, List.set_cons_succ]
            repeat (first
              | (refine ord_no rfl ?_; simp only [Act.put, List.setIfInBounds_toArray, List.set_cons_zero, List.set_cons_succ])
              | (refine ord_yes (v := ?_) rfl rfl ?_ ?_; rotate_left; (focus (rintro w' ⟨hS0, hS1, hS2, hS3⟩; go_simp; try with_reducible rfl)); simp only [Act.put, List.setIfInBounds_toArray, List.set_cons_zero, List.set_cons_succ]))
            refine ord_hard rfl rfl (fun K hK => ?_)
            go_simp
            refine (hold_any _ A2 n2 c2 u A1 n1 c1 l dead _ dc hs hC.hu hC.huf hC.hl hC.hlf HDC.out).mono ?_
            rintro e w11 ⟨rfl, hv⟩
            replace hC := hC.keep hv
            replace hz3 := cell_old hz3 hv
            replace hz4 := cell_old hz4 hv
            replace hz5 := cell_old hz5 hv
            replace hc := cell_old hc hv
            replace hs := hs.keep hv
            replace hb := hb.trans (hv.mono hb.size)
            replace hb1 := hb1.trans (hv.mono hb1.size)
            clear hv
            refine hK.out _ _ (fun _ => ⟨hz3, hz4, hz5, hc⟩) ?_
            clear hK K
            try simp only [Act.put, List.setIfInBounds_toArray, List.set_cons_zero, List.set_cons_succ]
            repeat (first
              | (refine ord_no rfl ?_; simp only [Act.put, List.setIfInBounds_toArray, List.set_cons_zero, List.set_cons_succ])
              | (refine ord_yes (v := ?_) rfl rfl ?_ ?_; rotate_left; (focus (rintro w' ⟨hS0, hS1, hS2, hS3⟩; go_simp; try with_reducible rfl)); simp only [Act.put, List.setIfInBounds_toArray, List.set_cons_zero, List.set_cons_succ]))
            refine ord_end ?_
            clear hC hz3 hz4 hz5 hc hs hb
            go_wp2_with fail
            go_roundw
            case rel => exact ⟨i + 1, by go_num, by omega, hb1⟩
            case measure => simp [intOf]; omega
          obtain rfl : y = 10 := by have := HY.out.2 HXC.out; rw [if_neg hz] at this; exact this
          have hzz : (z == 0) = false := by simpa using hz
          clear HY hz
          go_wp2_with fail
          refine wp_region_ord [0, 1, 2, 3, 4, 5, 6, 7, 8, 9, 10, 11, 12, 13, 14, 15, 16, 17, 18, 19, 20, 21, 22, 23, 24, 25, 26, 27, 28, 29, 30, 31, 32, 33, 34, 35, 36, 37, 39, 40, 41, 42, 38, 43, 44] [6, 38] 45 (fun w' => w'.cell? ⟨w.heap.size, 3, none⟩ = some (.int .i64 z) ∧ w'.cell? ⟨w.heap.size, 4, none⟩ = some (.slice A1 n1 c1) ∧ w'.cell? ⟨w.heap.size, 5, none⟩ = some (.slice A2 n2 c2) ∧ w'.cell? ⟨g, i, none⟩ = some (.iface T pt)) (by kernel_rfl) (by kernel_rfl) (by kernel_rfl) (by kernel_rfl) (fun _ _ _ _ _ h => h) ⟨hz3, hz4, hz5, hc⟩ ?_
          simp only [steps, List.getElem?_cons_zero, List.getElem?_cons_succ]
          repeat (first
            | (refine ord_no rfl ?_; simp only [Act.put, List.setIfInBounds_toArray, List.set_cons_zero, List.set_cons_succ])
            | (refine ord_yes (v := ?_) rfl rfl ?_ ?_; rotate_left; (focus (rintro w' ⟨hS0, hS1, hS2, hS3⟩; go_simp; try with_reducible rfl)); simp only [Act.put, List.setIfInBounds_toArray, List.set_cons_zero, List.set_cons_succ]))
          have hv : Below w8.heap.size w8 w8.drew := (Below.refl _ _).drew
          replace hC := hC.keep hv
          replace hz3 := cell_old hz3 hv
          replace hz4 := cell_old hz4 hv
          replace hz5 := cell_old hz5 hv
          replace hc := cell_old hc hv
          replace hs := hs.keep hv
          replace hb := hb.trans (hv.mono hb.size)
          replace hb1 := hb1.trans (hv.mono hb1.size)
          clear hv
          generalize w8.drew = w9 at *
          refine ord_hard rfl rfl (fun K hK => ?_)
          go_simp
          refine (check_ref 0 none 0 0 0 z A1 n1 c1 l dead _ 0 (dead_has _) hC.hl hC.hlf HXC.out).mono ?_
          rintro e w10 ⟨rfl, hv⟩
          replace hC := hC.keep hv
          replace hz3 := cell_old hz3 hv
          replace hz4 := cell_old hz4 hv
          replace hz5 := cell_old hz5 hv
          replace hc := cell_old hc hv
          replace hs := hs.keep hv
          replace hb := hb.trans (hv.mono hb.size)
          replace hb1 := hb1.trans (hv.mono hb1.size)
          clear hv
          refine hK.out _ _ (fun _ => ⟨hz3, hz4, hz5, hc⟩) ?_
          clear hK K
          try simp only [Act.put, List.setIfInBounds_toArray, List.set_cons_zero, List.set_cons_succ]
          repeat (first
            | (refine ord_no rfl ?_; simp only [Act.put, List.setIfInBounds_toArray, List.set_cons_zero, List.set_cons_succ])
            | (refine ord_yes (v := ?_) rfl rfl ?_ ?_; rotate_left; (focus (rintro w' ⟨hS0, hS1, hS2, hS3⟩; go_simp; try with_reducible rfl)); simp only [Act.put, List.setIfInBounds_toArray, List.set_cons_zero, List.set_cons_succ]))
          refine ord_hard rfl rfl (fun K hK => ?_)
          go_simp
          refine (hold_any _ A2 n2 c2 u A1 n1 c1 l dead _ dc hs hC.hu hC.huf hC.hl hC.hlf HDC.out).mono ?_
          rintro e w11 ⟨rfl, hv⟩
          replace hC := hC.keep hv
          replace hz3 := cell_old hz3 hv
          replace hz4 := cell_old hz4 hv
          replace hz5 := cell_old hz5 hv
          replace hc := cell_old hc hv
          replace hs := hs.keep hv
          replace hb := hb.trans (hv.mono hb.size)
          replace hb1 := hb1.trans (hv.mono hb1.size)
          clear hv
          refine hK.out _ _ (fun _ => ⟨hz3, hz4, hz5, hc⟩) ?_
          clear hK K
          try simp only [Act.put, List.setIfInBounds_toArray, List.set_cons_zero, List.set_cons_succ]
          repeat (first
            | (refine ord_no rfl ?_; simp only [Act.put, List.setIfInBounds_toArray, List.set_cons_zero, List.set_cons_succ])
            | (refine ord_yes (v := ?_) rfl rfl ?_ ?_; rotate_left; (focus (rintro w' ⟨hS0, hS1, hS2, hS3⟩; go_simp; try with_reducible rfl)); simp only [Act.put, List.setIfInBounds_toArray, List.set_cons_zero, List.set_cons_succ]))
          refine ord_end ?_
          clear hC hz3 hz4 hz5 hc hs hb
          go_wp2_with fail
          go_roundw
          case rel => exact ⟨i + 1, by go_num, by omega, hb1⟩
          case measure => simp [intOf]; omega
      · have hbe := hb.trans (hb1.mono hb.size)
        obtain rfl : 5 = i := by omega
        clear hlt hi hb hb1
        go_wp2_with fail
        go_ret
        exact ⟨rfl, hbe⟩


set_option maxRecDepth 100000 in
theorem lifted (os : Os) (started : os.Started) (H : Type) (enc : TypeId × Value → H) :
    ReturnsInHanded {} Try.checked os 3 .any (Rows.boundsNoneSpec.pre6 enc Try.prog Try.f3 Rows.boundsNoneRow.domain false) (Rows.boundsNoneSpec.post enc Try.prog Try.f3 false true false false) := by
  refine returnsInHanded_of_change (C := Try.checked) own started (by kernel_rfl) Try.func3
    (ChangeSpec.witness6 (enc := enc) (C := Try.checked) false ⟨#[], #[.agg #[.slice none 0 0, .bool false, .int .i64 0, .int .i64 0, .slice none 0 0, .slice none 0 0]], []⟩ 8 (by kernel_rfl) (by kernel_rfl) (by kernel_rfl) (by kernel_rfl)) ?_
  intro W base args ds gs before hval0 hW hcnd _
  have hval : ∀ (j : Nat) t v, Try.f3.params[j]? = some t → args[j]? = some v → Value.okWide Try.prog W .any base t v := hval0
  have hW' := hW
  obtain ⟨p, q, hA0, hV, rfl, hfz, hnd⟩ := hW
  have hA : DataW.TrodAll enc Try.prog W 0 (fun _ => true) true Try.f3.params.toList args.toList ds p := hA0
  rw [Try.params3] at hA hval
  obtain ⟨v0, vs0, d0, ds0, p0, q0, hargs, rfl, rfl, h0, r0⟩ := trodAll_cons hA
  obtain ⟨rfl, rfl, rfl⟩ := trodAll_nil r0
  obtain rfl : args = #[v0] := by cases args; simp_all
  obtain ⟨rfl, rfl⟩ := trodVars_none hV
  have lt0 : ∀ x ∈ p0, x.block < W.heap.size := by obtain ⟨m, hm⟩ := h0; exact DataW.trod_lt m _ _ _ hm
  obtain ⟨A, n, c, s, k, z, A1, n1, c1, A2, n2, c2, rows, l, u, rfl, hC, hzw⟩ := opened_given h0
  clear hA0 hval0
  refine (walk A n c s k z A1 n1 c1 A2 n2 c2 rows l u W hC hzw).mono fun e W' ⟨he, bel⟩ => ?_
  subst he
  exact ⟨_, rfl, _, _, _, [], _, [], hW', trodAll_mk1 (shut_bool Try.underlying4 _), (trodAll_cons_mk (Below.trod laidOut (by kernel_rfl) (of_decide_eq_true (by kernel_rfl)) h0 bel lt0) trodAll_mk0), rfl, bel.frame _, fun h => by cases h⟩

theorem over : Rows.boundsNoneRow.holds Try.pinned (OpenSpec.ofChange Rows.boundsNoneSpec) :=
  OpenClaim.holds_of_wide 3 Try.f3 rfl rfl rfl rfl rfl rfl rfl ⟨rfl, rfl, rfl, rfl, rfl⟩ rfl rfl rfl rfl rfl (by kernel_rfl) Try.func3 (by kernel_rfl)
    (of_decide_eq_true (by kernel_rfl)) (by unfold Func.isWrapper; first | (rw [if_pos (by decide +kernel)]; kernel_rfl) | (rw [if_neg (by decide +kernel)]; exact ⟨rfl, rfl⟩))
    (fun os started H enc _ => lifted os started H enc)

theorem proved : Rows.BoundsNoneSaid := over
#print axioms proved

end Go.Proofs.Ytnlgfiffhahpfaa.boundsNone
