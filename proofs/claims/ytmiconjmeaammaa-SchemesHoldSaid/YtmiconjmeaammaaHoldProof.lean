/- Where values of all variables are such, the ground has values of its sorts alone, and may be a scheme of its own: SchemesHold is true, whatever scheme, labels, effects and values are handed in. Condition: none but those of the statement. -/
import Derived.Test.YtmiconjmeaammaaEx
import Derived.Test.YtmiconjmeaammaaTell
import Derived.Test.YtmiconjmeaammaaRows
namespace Go.Proofs.Ytmiconjmeaammaa.schemesHold
open Go.ChangeShapes Go.WideShapes Go.ChangeAt Go.RowKit

/-! A method value of a sort that is something is no nil. -/
set_option maxRecDepth 100000 in
theorem nil_la_Has (a : Option Addr) : ∀ W, (nilAhead 258 73 (.pointer a) "Has").run Try.prog W = .ok (some false) W := fun W => by kernel_rfl
set_option maxRecDepth 100000 in
theorem nil_ef_Has (a : Option Addr) : ∀ W, (nilAhead 258 76 (.pointer a) "Has").run Try.prog W = .ok (some false) W := fun W => by kernel_rfl

/-- All of the first i are values, if all ahead were. -/
def HoRel (f : Nat → Bool) (m0 : Bool) (l : List Nat) (w : World) (v9 v10 : Value) (wr : World) : Prop := ∃ (i : Nat) (m : Bool), v10 = .int .i64 (i : Int) ∧ v9 = .bool m ∧ i ≤ l.length ∧ (m0 && (l.take i).all f) = m ∧ Below w.heap.size w wr
theorem ho_step {f : Nat → Bool} {m0 m : Bool} {l : List Nat} {i : Nat} (hi : i < l.length) (h : (m0 && (l.take i).all f) = m) : (m0 && (l.take (i + 1)).all f) = (m && f l[i]) := by
  rw [List.take_succ_eq_append_getElem hi, List.all_append, ← Bool.and_assoc, h]
  simp

set_option maxRecDepth 100000 in
set_option maxHeartbeats 16000000 in
theorem walk (s : Sch) (A : Option Addr) (n c : Nat) (A1 : Option Addr) (n1 c1 : Nat) (A2 : Option Addr) (n2 c2 : Nat) (A3 : Option Addr) (n3 c3 : Nat) (k : Int) (rows : List Nat) (A4 : Option Addr) (n4 c4 : Nat) (A5 : Option Addr) (n5 c5 : Nat) (u x : List Nat) (w : World) (h : SchAt w s A n c A1 n1 c1 A2 n2 c2) (hr : Rd La.nm w w.heap.size A3 n3 c3 rows) (hrf : La.Fit rows) (hu : Rd La.nm w w.heap.size A4 n4 c4 u) (huf : La.Fit u) (hx : Rd La.nm w w.heap.size A5 n5 c5 x) (hxf : La.Fit x) :
    Calls Try.prog 7 #[schV s A n c A1 n1 c1 A2 n2 c2, zV A3 n3 c3 k, vV A4 n4 c4 A5 n5 c5] w fun e w' => e = .returned (.bool true) ∧ Below w.heap.size w w' := by
  have HGC := Lib.hid fun W r hr => great_any s A n c A1 n1 c1 A2 n2 c2 A3 n3 c3 k W r hr
  obtain ⟨gr, hgr⟩ : ∃ r, grt n3 n n1 n2 = r := ⟨_, rfl⟩
  have HGR := Lib.hid hgr
  have HOF := Lib.hid fun W (h : Rd La.nm W W.heap.size A3 n3 c3 rows) => of_sorts A3 n3 c3 k rows W h hrf
  generalize laOf rows = S at HOF
  generalize efOf k = X at HOF
  obtain ⟨xc, hxc⟩ : ∃ x, s.check S X = x := ⟨_, rfl⟩
  have HCC := Lib.hid fun (W : World) v v' (h : SchAt W s A n c A1 n1 c1 A2 n2 c2) (hS : Bo.SrtIn W v S) (hX : Bo.SrtIn W v' X) => schCheck_any s A n c A1 n1 c1 A2 n2 c2 v v' S X W h hS hX xc hxc
  obtain ⟨er, her⟩ : ∃ r, s.grE u x = r := ⟨_, rfl⟩
  have HG := Lib.hid fun (W : World) (h : SchAt W s A n c A1 n1 c1 A2 n2 c2) (hu : Rd La.nm W W.heap.size A4 n4 c4 u) (hx : Rd La.nm W W.heap.size A5 n5 c5 x) => schGround_any s A n c A1 n1 c1 A2 n2 c2 A4 n4 c4 u A5 n5 c5 x W h hu hx er her
  have HYES := Lib.hid (fun (e : xc = 0) (e1 : (n4 : Int) = s.lv) (e2 : (n5 : Int) = s.ev) => her.symm.trans (Sch.gr_all (hxc.trans e) (u := u) (x := x) (by rw [hu.len]; exact e1) (by rw [hx.len]; exact e2)))
  have HNO := Lib.hid (fun (e : xc = 0) (e1 : (n4 : Int) ≠ s.lv ∨ (n5 : Int) ≠ s.ev) => her.symm.trans (Sch.gr_no (hxc.trans e) (u := u) (x := x) (by rw [hu.len, hx.len]; exact e1)))
  have HHO := Lib.hid (fun (e : xc = 0) (e1 : er = 0) (e2 : ∀ a ∈ u, S.has a = true) (e3 : ∀ a ∈ x, X.has a = true) => Sch.gr_hold (hxc.trans e) (her.trans e1) e2 e3)
  have HBF := Lib.hid (gr_fits (u := u) (x := x) h.bf)
  have HBT := Lib.hid (gr_tfits (u := u) (x := x) h.bt huf hxf)
  generalize s.grN u x = G at *
  obtain ⟨lv, ev, bo, sl, se⟩ := s
  simp only at HYES HNO
  have HUF := Lib.hid huf
  have HXF := Lib.hid hxf
  have HUL := Lib.hid hu.len
  have HXL := Lib.hid hx.len
  clear hgr hxc her hrf huf hxf
  unfold schV zV at HGC
  unfold zV at HOF
  unfold schV at HCC HG
  unfold schV zV vV
  have hal : Below w.heap.size w (w.alloc (.cells #[.int .i64 lv, .int .i64 ev, .slice A n c, .slice A1 n1 c1, .slice A2 n2 c2] 25)) := (Below.refl _ _).alloc (Nat.le_refl _) _
  have hz := Box.new w lv ev A n c A1 n1 c1 A2 n2 c2
  generalize hwa : w.alloc (.cells #[.int .i64 lv, .int .i64 ev, .slice A n c, .slice A1 n1 c1, .slice A2 n2 c2] 25) = wa at hal hz
  have hv : Below wa.heap.size wa (wa.alloc (.cells #[.slice A3 n3 c3, .int .i64 k] 31)) := (Below.refl _ _).alloc (Nat.le_refl _) _
  replace hz := hz.keep hv
  have hbx := heap_alloc_new wa (.cells #[.slice A3 n3 c3, .int .i64 k] 31)
  have y0 : _ = some (Value.slice A3 n3 c3) := (cell_blk (i := 0) hbx).trans rfl
  have y1 : _ = some (Value.int .i64 k) := (cell_blk (i := 1) hbx).trans rfl
  have hb : Below w.heap.size w (wa.alloc (.cells #[.slice A3 n3 c3, .int .i64 k] 31)) := hal.trans (hv.mono hal.size)
  clear hbx hv hal
  subst hwa
  generalize hwa : (w.alloc (.cells #[.int .i64 lv, .int .i64 ev, .slice A n c, .slice A1 n1 c1, .slice A2 n2 c2] 25)).alloc (.cells #[.slice A3 n3 c3, .int .i64 k] 31) = wa at *
  have hsz : wa.heap.size = w.heap.size + 1 + 1 := by rw [← hwa, World.size_alloc, World.size_alloc]
  have hv : Below wa.heap.size wa (wa.alloc (.cells #[.slice A4 n4 c4, .slice A5 n5 c5] 28)) := (Below.refl _ _).alloc (Nat.le_refl _) _
  replace hz := hz.keep hv
  replace y0 := cell_old y0 hv
  replace y1 := cell_old y1 hv
  have hbx := heap_alloc_new wa (.cells #[.slice A4 n4 c4, .slice A5 n5 c5] 28)
  have v0 : _ = some (Value.slice A4 n4 c4) := (cell_blk (i := 0) hbx).trans rfl
  have v1 : _ = some (Value.slice A5 n5 c5) := (cell_blk (i := 1) hbx).trans rfl
  replace hb := hb.trans (hv.mono hb.size)
  clear hbx hv
  rw [hsz] at v0 v1
  clear hsz
  subst hwa
  simp only [World.size_alloc] at y0 y1
  replace h := h.keep hb
  replace hr := hr.at_size (Nat.le_refl _) hb
  replace hu := hu.at_size (Nat.le_refl _) hb
  replace hx := hx.at_size (Nat.le_refl _) hb
  go_enter Try.func7, Try.ntmps7
  go_wp2_with fail
  refine (HOF.out _ hr).mono ?_
  rintro e w1 ⟨a, b, rfl, hS, hv⟩
  clear HOF hr
  replace hz := hz.keep hv
  replace h := h.keep hv
  replace hu := hu.at_size (Nat.le_refl _) hv
  replace hx := hx.at_size (Nat.le_refl _) hv
  replace y0 := cell_old y0 hv
  replace y1 := cell_old y1 hv
  replace v0 := cell_old v0 hv
  replace v1 := cell_old v1 hv
  replace hb := hb.trans (hv.mono hb.size)
  clear hv
  have hz0 := hz.z0
  have hz1 := hz.z1
  have hz2 := hz.z2
  have hz3 := hz.z3
  have hz4 := hz.z4
  go_wp2_with fail
  refine (HGC.out _ _ HGR.out).mono ?_
  rintro e w2 ⟨rfl, hv⟩
  clear HGC HGR y0 y1
  clear hz0 hz1 hz2 hz3 hz4
  replace hz := hz.keep hv
  replace h := h.keep hv
  replace hS := hS.keep hv
  replace hu := hu.at_size (Nat.le_refl _) hv
  replace hx := hx.at_size (Nat.le_refl _) hv
  replace v0 := cell_old v0 hv
  replace v1 := cell_old v1 hv
  replace hb := hb.trans (hv.mono hb.size)
  clear hv
  cases gr with
  | true =>
    go_wp2_with fail
    refine (alive_any _).mono ?_
    rintro e wz ⟨rfl, hv⟩
    replace hb := hb.trans (hv.mono hb.size)
    clear hv
    go_wp2_with fail
    go_ret
    exact ⟨rfl, hb⟩
  | false =>
  by_cases g1 : (100 : Int) < (n4 : Int)
  · clear HUL HXL
    go_wp2_with fail
    refine (alive_any _).mono ?_
    rintro e wz ⟨rfl, hv⟩
    replace hb := hb.trans (hv.mono hb.size)
    clear hv
    go_wp2_with fail
    go_ret
    exact ⟨rfl, hb⟩
  by_cases g2 : (100 : Int) < (n5 : Int)
  · clear HUL HXL
    go_wp2_with fail
    refine (alive_any _).mono ?_
    rintro e wz ⟨rfl, hv⟩
    replace hb := hb.trans (hv.mono hb.size)
    clear hv
    go_wp2_with fail
    go_ret
    exact ⟨rfl, hb⟩
  have hz0 := hz.z0
  have hz1 := hz.z1
  have hz2 := hz.z2
  have hz3 := hz.z3
  have hz4 := hz.z4
  go_wp2_with fail
  refine (HCC.out _ _ _ h hS.inl hS.inr).mono ?_
  rintro e w3 ⟨rfl, hv⟩
  clear HCC
  clear hz0 hz1 hz2 hz3 hz4
  replace hz := hz.keep hv
  replace h := h.keep hv
  replace hS := hS.keep hv
  replace hu := hu.at_size (Nat.le_refl _) hv
  replace hx := hx.at_size (Nat.le_refl _) hv
  replace v0 := cell_old v0 hv
  replace v1 := cell_old v1 hv
  replace hb := hb.trans (hv.mono hb.size)
  clear hv
  by_cases hxc : xc = 0
  case neg =>
    have hne : (xc != 0) = true := by simpa using hxc
    clear hxc
    go_wp2_with fail
    refine (alive_any _).mono ?_
    rintro e wz ⟨rfl, hv⟩
    replace hb := hb.trans (hv.mono hb.size)
    clear hv
    go_wp2_with fail
    go_ret
    exact ⟨rfl, hb⟩
  subst hxc
  have HN4 := Lib.hid (show n4 ≤ 100 by omega)
  have HN5 := Lib.hid (show n5 ≤ 100 by omega)
  obtain ⟨m1, hm1⟩ : ∃ m, (true && u.all S.has) = m := ⟨_, rfl⟩
  obtain ⟨m2, hm2⟩ : ∃ m, (m1 && x.all X.has) = m := ⟨_, rfl⟩
  have HM1 := Lib.hid hm1
  have HM2 := Lib.hid hm2
  have HHO2 : Hid (er = 0 → m2 = true → Sch.check S X ⟨0, 0, G, [], []⟩ = 0) := Lib.hid fun e e2 => by
    rw [e2, Bool.and_eq_true] at hm2
    rw [hm2.1, Bool.true_and] at hm1
    exact HHO.out rfl e (List.all_eq_true.1 hm1) (List.all_eq_true.1 hm2.2)
  clear hm1 hm2 HHO
  go_wp2_with fail
  clear g1 g2
  have HH := Lib.hid h
  have HSS := Lib.hid hS
  have HZZ := Lib.hid hz
  have HUU := Lib.hid hu
  have HXX := Lib.hid hx
  have HV0 := Lib.hid v0
  have HV1 := Lib.hid v1
  have HB0 := Lib.hid hb
  clear hz h hS hu hx v0 v1 hb
  obtain ⟨wb1, hwb⟩ : ∃ wb, wb = w3 := ⟨_, rfl⟩
  rw [← hwb] at HH HSS HZZ HUU HXX HV0 HV1 HB0 ⊢
  clear hwb
  go_loopw [9, 10] (fun v9 v10 wr => HoRel S.has true u wb1 v9 v10 wr) (fun _ v10 _ => n4 - (intOf v10).toNat)
  case atStart => exact ⟨0, _, rfl, rfl, Nat.zero_le _, by simp, Below.refl _ _⟩
  case round =>
    obtain ⟨i, m, rfl, rfl, hi, hall, hb3⟩ := hrel
    by_cases hlt : i < n4
    case pos =>
      have hi' : i < u.length := by rw [HUL.out]; exact hlt
      have HSTEP := Lib.hid (ho_step hi' hall)
      obtain ⟨b', o, hbo, hbb, hcv⟩ := (HUU.out.at_size (Nat.le_refl _) hb3).spot (by omega)
      have hc := hcv i hi'
      have hxz := HUF.out.get i hi'
      have hvc := cell_old HV0.out hb3
      have HA := Lib.hid (HSS.out.keep hb3).l
      generalize u[i] = z at *
      replace hc : _ = some (Value.int .u64 (z : Int)) := hc
      subst hbo
      have HLT := Lib.hid hlt
      have hi9 : i ≤ 1000 := by have := HN4.out; omega
      have hdr : Below wr.heap.size wr wr.drew := (Below.refl _ _).drew
      have HBD := Lib.hid (hb3.trans (hdr.mono hb3.size))
      have HDR := Lib.hid hdr
      clear hall hi hbb hi' hdr hb3 hcv
      have hnm := nil_la_Has a
      cases m with
      | false =>
        clear HA hxz
        go_wp2_with fail
        refine wp_region_ord [0, 1, 2, 3, 4, 5, 6, 7, 8, 9, 10, 11, 12, 13] [11] 14 (fun w' => True) (by kernel_rfl) (by kernel_rfl) (by kernel_rfl) (by kernel_rfl) (fun _ _ _ _ _ h => h) trivial ?_
        simp only [steps, List.getElem?_cons_zero, List.getElem?_cons_succ]
        repeat (first
          | (refine ord_no rfl ?_; simp only [Act.put, List.setIfInBounds_toArray, List.set_cons_zero, List.set_cons_succ])
          | (refine ord_yes (v := ?_) rfl rfl ?_ ?_; rotate_left; (focus (rintro w' -; go_simp; try with_reducible rfl)); simp only [Act.put, List.setIfInBounds_toArray, List.set_cons_zero, List.set_cons_succ]))
        refine ord_end ?_
        clear hc hvc
        go_wp2_with fail
        go_roundw
        case rel => exact ⟨i + 1, _, by have := HLT.out; go_num, rfl, by have := HLT.out; have := HUL.out; omega, by rw [HSTEP.out]; rfl, HBD.out⟩
        case measure =>
          have := HLT.out
          simp [intOf]
          omega
      | true =>
        have hcall := HA.out.has wr.drew HDR.out z hxz
        generalize S.has z = q at *
        have HC := Lib.hid hcall
        clear hcall HA hxz
        have g3 : wr.drew.cell? ⟨b', o + i, none⟩ = some (.int .u64 (z : Int)) := hc
        have g4 : wr.drew.cell? ⟨w.heap.size + 1 + 1, 0, none⟩ = _ := hvc
        go_wp2_with fail
        refine wp_region_ord [0, 1, 2, 3, 4, 5, 6, 7, 8, 9, 10, 11, 12, 13] [11] 14 (fun w' => w'.cell? ⟨b', o + i, none⟩ = some (.int .u64 (z : Int)) ∧ w'.cell? ⟨w.heap.size + 1 + 1, 0, none⟩ = some (.slice (some ⟨b', o, none⟩) n4 c4)) (by kernel_rfl) (by kernel_rfl) (by kernel_rfl) (by kernel_rfl) (fun _ _ _ _ _ h => h) ⟨hc, hvc⟩ ?_
        simp only [steps, List.getElem?_cons_zero, List.getElem?_cons_succ]
        repeat (first
          | (refine ord_no rfl ?_; simp only [Act.put, List.setIfInBounds_toArray, List.set_cons_zero, List.set_cons_succ])
          | (refine ord_yes (v := ?_) rfl rfl ?_ ?_; rotate_left; (focus (rintro w' ⟨hS0, hS1⟩; go_simp; try with_reducible rfl)); simp only [Act.put, List.setIfInBounds_toArray, List.set_cons_zero, List.set_cons_succ]))
        refine ord_hard rfl rfl (fun K hK => ?_)
        go_simp
        go_invoke
        go_simp
        refine HC.out.mono ?_
        rintro e w7 ⟨rfl, hv⟩
        have HBE := Lib.hid (HBD.out.trans (hv.mono HBD.out.size))
        refine hK.out _ _ (fun _ => ⟨cell_old g3 hv, cell_old g4 hv⟩) ?_
        clear hK K hv
        try simp only [Act.put, List.setIfInBounds_toArray, List.set_cons_zero, List.set_cons_succ]
        repeat (first
          | (refine ord_no rfl ?_; simp only [Act.put, List.setIfInBounds_toArray, List.set_cons_zero, List.set_cons_succ])
          | (refine ord_yes (v := ?_) rfl rfl ?_ ?_; rotate_left; (focus (rintro w' ⟨hS0, hS1⟩; go_simp; try with_reducible rfl)); simp only [Act.put, List.setIfInBounds_toArray, List.set_cons_zero, List.set_cons_succ]))
        refine ord_end ?_
        clear hc hvc g3 g4 HC
        go_wp2_with fail
        go_roundw
        case rel => exact ⟨i + 1, _, by have := HLT.out; go_num, rfl, by have := HLT.out; have := HUL.out; omega, by rw [HSTEP.out]; rfl, HBE.out⟩
        case measure =>
          have := HLT.out
          simp [intOf]
          omega
    case neg =>
    obtain rfl : m1 = m := by rw [← HM1.out, ← hall, List.take_of_length_le (by rw [HUL.out]; omega)]
    obtain rfl : n4 = i := by have := HUL.out; omega
    have h := HH.out.keep hb3
    have hS := HSS.out.keep hb3
    have hz := HZZ.out.keep hb3
    have hu := HUU.out.at_size (Nat.le_refl _) hb3
    have hx := HXX.out.at_size (Nat.le_refl _) hb3
    have v0 := cell_old HV0.out hb3
    have v1 := cell_old HV1.out hb3
    have hb := HB0.out.trans (hb3.mono HB0.out.size)
    clear hb3 HH HSS HZZ HUU HXX HV0 HV1 HB0 hall hi hlt
    go_wp2_with fail
    have HH := Lib.hid h
    have HSS := Lib.hid hS
    have HZZ := Lib.hid hz
    have HUU := Lib.hid hu
    have HXX := Lib.hid hx
    have HV0 := Lib.hid v0
    have HV1 := Lib.hid v1
    have HB0 := Lib.hid hb
    clear hz h hS hu hx v0 v1 hb
    obtain ⟨wb2, hwb⟩ : ∃ wb, wb = wr := ⟨_, rfl⟩
    rw [← hwb] at HH HSS HZZ HUU HXX HV0 HV1 HB0 ⊢
    clear hwb
    go_loopw [9, 11] (fun v9 v10 wr => HoRel X.has m1 x wb2 v9 v10 wr) (fun _ v10 _ => n5 - (intOf v10).toNat)
    case atStart => exact ⟨0, _, rfl, rfl, Nat.zero_le _, by simp, Below.refl _ _⟩
    case round =>
      obtain ⟨i, m, rfl, rfl, hi, hall, hb3⟩ := hrel
      by_cases hlt : i < n5
      case pos =>
        have hi' : i < x.length := by rw [HXL.out]; exact hlt
        have HSTEP := Lib.hid (ho_step hi' hall)
        obtain ⟨b', o, hbo, hbb, hcv⟩ := (HXX.out.at_size (Nat.le_refl _) hb3).spot (by omega)
        have hc := hcv i hi'
        have hxz := HXF.out.get i hi'
        have hvc := cell_old HV1.out hb3
        have HA := Lib.hid (HSS.out.keep hb3).x
        generalize x[i] = z at *
        replace hc : _ = some (Value.int .u64 (z : Int)) := hc
        subst hbo
        have HLT := Lib.hid hlt
        have hi9 : i ≤ 1000 := by have := HN5.out; omega
        have hdr : Below wr.heap.size wr wr.drew := (Below.refl _ _).drew
        have HBD := Lib.hid (hb3.trans (hdr.mono hb3.size))
        have HDR := Lib.hid hdr
        clear hall hi hbb hi' hdr hb3 hcv
        have hnm := nil_ef_Has b
        cases m with
        | false =>
          clear HA hxz
          go_wp2_with fail
          refine wp_region_ord [0, 1, 2, 3, 4, 5, 6, 7, 8, 9, 10, 11, 12, 13] [11] 14 (fun w' => True) (by kernel_rfl) (by kernel_rfl) (by kernel_rfl) (by kernel_rfl) (fun _ _ _ _ _ h => h) trivial ?_
          simp only [steps, List.getElem?_cons_zero, List.getElem?_cons_succ]
          repeat (first
            | (refine ord_no rfl ?_; simp only [Act.put, List.setIfInBounds_toArray, List.set_cons_zero, List.set_cons_succ])
            | (refine ord_yes (v := ?_) rfl rfl ?_ ?_; rotate_left; (focus (rintro w' -; go_simp; try with_reducible rfl)); simp only [Act.put, List.setIfInBounds_toArray, List.set_cons_zero, List.set_cons_succ]))
          refine ord_end ?_
          clear hc hvc
          go_wp2_with fail
          go_roundw
          case rel => exact ⟨i + 1, _, by have := HLT.out; go_num, rfl, by have := HLT.out; have := HXL.out; omega, by rw [HSTEP.out]; rfl, HBD.out⟩
          case measure =>
            have := HLT.out
            simp [intOf]
            omega
        | true =>
          have hcall := HA.out.has wr.drew HDR.out z hxz
          generalize X.has z = q at *
          have HC := Lib.hid hcall
          clear hcall HA hxz
          have g3 : wr.drew.cell? ⟨b', o + i, none⟩ = some (.int .u64 (z : Int)) := hc
          have g4 : wr.drew.cell? ⟨w.heap.size + 1 + 1, 1, none⟩ = _ := hvc
          go_wp2_with fail
          refine wp_region_ord [0, 1, 2, 3, 4, 5, 6, 7, 8, 9, 10, 11, 12, 13] [11] 14 (fun w' => w'.cell? ⟨b', o + i, none⟩ = some (.int .u64 (z : Int)) ∧ w'.cell? ⟨w.heap.size + 1 + 1, 1, none⟩ = some (.slice (some ⟨b', o, none⟩) n5 c5)) (by kernel_rfl) (by kernel_rfl) (by kernel_rfl) (by kernel_rfl) (fun _ _ _ _ _ h => h) ⟨hc, hvc⟩ ?_
          simp only [steps, List.getElem?_cons_zero, List.getElem?_cons_succ]
          repeat (first
            | (refine ord_no rfl ?_; simp only [Act.put, List.setIfInBounds_toArray, List.set_cons_zero, List.set_cons_succ])
            | (refine ord_yes (v := ?_) rfl rfl ?_ ?_; rotate_left; (focus (rintro w' ⟨hS0, hS1⟩; go_simp; try with_reducible rfl)); simp only [Act.put, List.setIfInBounds_toArray, List.set_cons_zero, List.set_cons_succ]))
          refine ord_hard rfl rfl (fun K hK => ?_)
          go_simp
          go_invoke
          go_simp
          refine HC.out.mono ?_
          rintro e w7 ⟨rfl, hv⟩
          have HBE := Lib.hid (HBD.out.trans (hv.mono HBD.out.size))
          refine hK.out _ _ (fun _ => ⟨cell_old g3 hv, cell_old g4 hv⟩) ?_
          clear hK K hv
          try simp only [Act.put, List.setIfInBounds_toArray, List.set_cons_zero, List.set_cons_succ]
          repeat (first
            | (refine ord_no rfl ?_; simp only [Act.put, List.setIfInBounds_toArray, List.set_cons_zero, List.set_cons_succ])
            | (refine ord_yes (v := ?_) rfl rfl ?_ ?_; rotate_left; (focus (rintro w' ⟨hS0, hS1⟩; go_simp; try with_reducible rfl)); simp only [Act.put, List.setIfInBounds_toArray, List.set_cons_zero, List.set_cons_succ]))
          refine ord_end ?_
          clear hc hvc g3 g4 HC
          go_wp2_with fail
          go_roundw
          case rel => exact ⟨i + 1, _, by have := HLT.out; go_num, rfl, by have := HLT.out; have := HXL.out; omega, by rw [HSTEP.out]; rfl, HBE.out⟩
          case measure =>
            have := HLT.out
            simp [intOf]
            omega
      case neg =>
      obtain rfl : m2 = m := by rw [← HM2.out, ← hall, List.take_of_length_le (by rw [HXL.out]; omega)]
      obtain rfl : n5 = i := by have := HXL.out; omega
      have h := HH.out.keep hb3
      have hS := HSS.out.keep hb3
      have hz := HZZ.out.keep hb3
      have hu := HUU.out.at_size (Nat.le_refl _) hb3
      have hx := HXX.out.at_size (Nat.le_refl _) hb3
      have v0 := cell_old HV0.out hb3
      have v1 := cell_old HV1.out hb3
      have hb := HB0.out.trans (hb3.mono HB0.out.size)
      clear hb3 HH HSS HZZ HUU HXX HV0 HV1 HB0 hall hi hlt
      have hz0 := hz.z0
      have hz1 := hz.z1
      have hz2 := hz.z2
      have hz3 := hz.z3
      have hz4 := hz.z4
      go_wp2_with fail
      refine (HG.out _ h hu hx).mono ?_
      rintro e w6 ⟨Ga, kg, cg, rfl, hown, hv⟩
      have hr1 : Ns w6 w6.heap.size Ga kg cg G := Rs.of_own ndc_len (by decide) hown
      clear HG hown hu hx
      clear hz0 hz1 hz2 hz3 hz4
      replace hz := hz.keep hv
      replace h := h.keep hv
      replace hS := hS.keep hv
      replace v0 := cell_old v0 hv
      replace v1 := cell_old v1 hv
      replace hb := hb.trans (hv.mono hb.size)
      clear hv
      have hz0 := hz.z0
      have hz1 := hz.z1
      have hways : (((n4 : Int) == lv) = true ∧ ((n5 : Int) == ev) = true ∧ er = 0) ∨ (((n4 : Int) == lv) = true ∧ ((n5 : Int) == ev) = false ∧ er = 1) ∨ (((n4 : Int) == lv) = false ∧ er = 1) := by
        by_cases e1 : (n4 : Int) = lv
        · by_cases e2 : (n5 : Int) = ev
          · exact .inl ⟨by simpa using e1, by simpa using e2, HYES.out (by trivial) e1 e2⟩
          · exact .inr (.inl ⟨by simpa using e1, by simpa using e2, HNO.out (by trivial) (.inr e2)⟩)
        · exact .inr (.inr ⟨by simpa using e1, HNO.out (by trivial) (.inl e1)⟩)
      clear HYES HNO
      rcases hways with ⟨e1, e2, rfl⟩ | ⟨e1, e2, rfl⟩ | ⟨e1, rfl⟩
      · cases m2 with
        | true =>
          have hck := HHO2.out rfl rfl
          clear e1 e2
          go_wp2_with fail
          refine (alive_any _).mono ?_
          rintro e w7 ⟨rfl, hv⟩
          clear hz0 hz1
          replace hS := hS.keep hv
          replace hr1 := hr1.at_size (Nat.le_refl _) hv
          replace hb := hb.trans (hv.mono hb.size)
          clear hv
          have hsc : SchAt w7 ⟨0, 0, G, [], []⟩ Ga kg cg none 0 0 none 0 0 := ⟨hr1, HBF.out, HBT.out, Rs.nil _ _, (fun _ h => by cases h), Rs.nil _ _, (fun _ h => by cases h)⟩
          have hcall := schCheck_any ⟨0, 0, G, [], []⟩ Ga kg cg none 0 0 none 0 0 _ _ S X w7 hsc hS.inl hS.inr 0 hck
          unfold schV at hcall
          have HC := Lib.hid hcall
          clear hcall hsc hr1 hck
          go_wp2_with fail
          refine HC.out.mono ?_
          rintro e w8 ⟨rfl, hv⟩
          replace hb := hb.trans (hv.mono hb.size)
          clear hv
          go_wp2_with fail
          go_ret
          exact ⟨rfl, hb⟩
        | false =>
          clear hr1
          go_wp2_with fail
          refine (alive_any _).mono ?_
          rintro e w7 ⟨rfl, hv⟩
          clear hz0 hz1
          replace hz := hz.keep hv
          replace v0 := cell_old v0 hv
          replace v1 := cell_old v1 hv
          replace hb := hb.trans (hv.mono hb.size)
          clear hv
          have hz0 := hz.z0
          have hz1 := hz.z1
          go_wp2_with fail
          go_ret
          exact ⟨rfl, hb⟩
      · clear hr1
        go_wp2_with fail
        refine (alive_any _).mono ?_
        rintro e w7 ⟨rfl, hv⟩
        clear hz0 hz1
        replace hz := hz.keep hv
        replace v0 := cell_old v0 hv
        replace v1 := cell_old v1 hv
        replace hb := hb.trans (hv.mono hb.size)
        clear hv
        have hz0 := hz.z0
        have hz1 := hz.z1
        go_wp2_with fail
        go_ret
        exact ⟨rfl, hb⟩
      · clear hr1
        go_wp2_with fail
        refine (alive_any _).mono ?_
        rintro e w7 ⟨rfl, hv⟩
        clear hz0 hz1
        replace hz := hz.keep hv
        replace v0 := cell_old v0 hv
        replace v1 := cell_old v1 hv
        replace hb := hb.trans (hv.mono hb.size)
        clear hv
        have hz0 := hz.z0
        have hz1 := hz.z1
        go_wp2_with fail
        go_ret
        exact ⟨rfl, hb⟩

theorem own : ownKnob Try.prog.godebug = none := by kernel_rfl
theorem laidOut : laidOutB Try.prog = true := by kernel_rfl

set_option maxRecDepth 100000 in
theorem lifted (os : Os) (started : os.Started) (H : Type) (enc : TypeId × Value → H) :
    ReturnsInHanded {} Try.checked os 7 .any (Rows.schemesHoldSpec.pre6 enc Try.prog Try.f7 Rows.schemesHoldRow.domain false) (Rows.schemesHoldSpec.post enc Try.prog Try.f7 false true false false) := by
  refine returnsInHanded_of_change (C := Try.checked) own started (by kernel_rfl) Try.func7
    (ChangeSpec.witness6 (enc := enc) (C := Try.checked) false ⟨#[], #[.agg #[.int .i64 0, .int .i64 0, .slice none 0 0, .slice none 0 0, .slice none 0 0], .agg #[.slice none 0 0, .int .i64 0], .agg #[.slice none 0 0, .slice none 0 0]], []⟩ 8 (by kernel_rfl) (by kernel_rfl) (by kernel_rfl) (by kernel_rfl)) ?_
  intro W base args ds gs before hval0 hW hcnd _
  have hval : ∀ (j : Nat) t v, Try.f7.params[j]? = some t → args[j]? = some v → Value.okWide Try.prog W .any base t v := hval0
  have hW' := hW
  obtain ⟨p, q, hA0, hV, rfl, hfz, hnd⟩ := hW
  have hA : DataW.TrodAll enc Try.prog W 0 (fun _ => true) true Try.f7.params.toList args.toList ds p := hA0
  rw [Try.params7] at hA hval
  obtain ⟨v0, vs0, d0, ds0, p0, q0, hargs, rfl, rfl, h0, r0⟩ := trodAll_cons hA
  obtain ⟨v1, vs1, d1, ds1, p1, q1, rfl, rfl, rfl, h1, r1⟩ := trodAll_cons r0
  obtain ⟨v2, vs2, d2, ds2, p2, q2, rfl, rfl, rfl, h2, r2⟩ := trodAll_cons r1
  obtain ⟨rfl, rfl, rfl⟩ := trodAll_nil r2
  obtain rfl : args = #[v0, v1, v2] := by cases args; simp_all
  obtain ⟨rfl, rfl⟩ := trodVars_none hV
  have lt0 : ∀ x ∈ p0, x.block < W.heap.size := by obtain ⟨m, hm⟩ := h0; exact DataW.trod_lt m _ _ _ hm
  have lt1 : ∀ x ∈ p1, x.block < W.heap.size := by obtain ⟨m, hm⟩ := h1; exact DataW.trod_lt m _ _ _ hm
  have lt2 : ∀ x ∈ p2, x.block < W.heap.size := by obtain ⟨m, hm⟩ := h2; exact DataW.trod_lt m _ _ _ hm
  obtain ⟨s, A, n, c, A1, n1, c1, A2, n2, c2, rfl, hS, -, -⟩ := opened_scheme h0
  obtain ⟨A3, n3, c3, k, rows, rfl, hr, hrf⟩ := opened_sorts h1
  obtain ⟨A4, n4, c4, A5, n5, c5, u, x, rfl, hu, huf, hx, hxf⟩ := opened_values h2
  clear hA0 hval0
  refine (walk s A n c A1 n1 c1 A2 n2 c2 A3 n3 c3 k rows A4 n4 c4 A5 n5 c5 u x W hS hr hrf hu huf hx hxf).mono fun e W' ⟨he, bel⟩ => ?_
  subst he
  exact ⟨_, rfl, _, _, _, [], _, [], hW', trodAll_mk1 (shut_bool Try.underlying4 _), (trodAll_cons_mk (Below.trod laidOut (by kernel_rfl) (of_decide_eq_true (by kernel_rfl)) h0 bel lt0) (trodAll_cons_mk (Below.trod laidOut (by kernel_rfl) (of_decide_eq_true (by kernel_rfl)) h1 bel lt1) (trodAll_cons_mk (Below.trod laidOut (by kernel_rfl) (of_decide_eq_true (by kernel_rfl)) h2 bel lt2) trodAll_mk0))), rfl, bel.frame _, fun h => by cases h⟩

theorem over : Rows.schemesHoldRow.holds Try.pinned (OpenSpec.ofChange Rows.schemesHoldSpec) :=
  OpenClaim.holds_of_wide 7 Try.f7 rfl rfl rfl rfl rfl rfl rfl ⟨rfl, rfl, rfl, rfl, rfl⟩ rfl rfl rfl rfl rfl (by kernel_rfl) Try.func7 (by kernel_rfl)
    (of_decide_eq_true (by kernel_rfl)) (by unfold Func.isWrapper; first | (rw [if_pos (by decide +kernel)]; kernel_rfl) | (rw [if_neg (by decide +kernel)]; exact ⟨rfl, rfl⟩))
    (fun os started H enc _ => lifted os started H enc)

theorem proved : Rows.SchemesHoldSaid := over
#print axioms proved

end Go.Proofs.Ytmiconjmeaammaa.schemesHold
