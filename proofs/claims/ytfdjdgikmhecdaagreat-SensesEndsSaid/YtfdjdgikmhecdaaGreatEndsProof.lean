/- SensesEnds is true: the ends of a sense are those of the least and greatest values. Condition: none but those of the statement. -/
import Derived.Test.YtfdjdgikmhecdaaGreatEndA
import Derived.Test.YtfdjdgikmhecdaaGreatRows
namespace Go.Proofs.YtfdjdgikmhecdaaGreat.sensesEnds
open Go.ChangeShapes Go.WideShapes Go.ChangeAt Go.RowKit

theorem solved_got {S : Bo.Sr} {q : Nat} {l : List Bo.Bd} {lo hi : List Nat} {k x : Int} {lo2 hi2 : List Nat} (h : Got S q l lo hi) (hk : k = (q : Int)) (hc : Bo.chkS S k l = 0) (hs : Bo.SolveIs S k l x lo2 hi2) : x = 0 ∧ lo = lo2 ∧ hi = hi2 := by
  rcases hs with ⟨e, hne, -, -⟩ | ⟨q', e, -, -, -, -, hn⟩ | ⟨q', e, -, hx, h1, h2, -⟩
  · exact absurd (e.symm.trans hc) hne
  · obtain rfl : q' = q := by omega
    have := hn lo h.low.has
    rw [h.hold] at this
    cases this
  · obtain rfl : q' = q := by omega
    exact ⟨hx, Bo.low_uniq h.ok h.low h1, Bo.low_uniq h.ok.turn h.high h2⟩
theorem fit_all {S : Bo.Sr} (hS : S.Ok) {q : Nat} {u : List Nat} (h : Bo.AllHas S q u) : La.Fit u := fun x hx => by
  obtain ⟨i, hi, rfl⟩ := List.mem_iff_getElem.1 hx
  have := h.2 i (by rw [← h.1]; exact hi)
  rw [List.getD_eq_getElem?_getD, List.getElem?_eq_getElem hi] at this
  exact hS.fit _ this
theorem has_turn {S : Bo.Sr} {q : Nat} {u : List Nat} (h : Bo.AllHas S.turn q u) : Bo.AllHas S q u := h

set_option maxRecDepth 100000 in
set_option maxHeartbeats 8000000 in
theorem walk (s : Sch) (A : Option Addr) (n c : Nat) (A1 : Option Addr) (n1 c1 : Nat) (A2 : Option Addr) (n2 c2 : Nat) (A3 : Option Addr) (n3 c3 : Nat) (k : Int) (rows : List Nat) (w : World) (h : SchAt w s A n c A1 n1 c1 A2 n2 c2) (hr : Rd La.nm w w.heap.size A3 n3 c3 rows) (hrf : La.Fit rows) :
    Calls Tryz.prog 5 #[zV A3 n3 c3 k, schV s A n c A1 n1 c1 A2 n2 c2] w fun e w' => e = .returned (.bool true) ∧ Below w.heap.size w w' := by
  have HSA : Hid (∀ W, Below w.heap.size w W → SchAt W s A n c A1 n1 c1 A2 n2 c2) := Lib.hid fun W hW => h.keep hW
  have HR : Hid (∀ W, Below w.heap.size w W → Rd La.nm W W.heap.size A3 n3 c3 rows) := Lib.hid fun W hW => hr.at_size (Nat.le_refl _) hW
  have HRF := Lib.hid hrf
  have hlen1 := h.l.len
  have HGC : Hid (∀ W : World, Calls Tryz.prog 28 #[schV s A n c A1 n1 c1 A2 n2 c2] W fun e w' => TellsB e (fun r => r = false → n ≤ 60 ∧ (n1 + n2 ≤ 9223372036854775807 → n1 + n2 ≤ 80)) ∧ Below W.heap.size W w') := Lib.hid fun W => great_any s A n c A1 n1 c1 A2 n2 c2 W (by have := h.l.cap; have := h.l.top; unfold maxLen at this; omega) (by have := h.e.cap; have := h.e.top; unfold maxLen at this; omega)
  have HPC : Hid (∀ W, Below w.heap.size w W → Calls Tryz.prog 12 #[zV A3 n3 c3 k] W fun e w' => ∃ a b, e = .returned (.tuple #[.iface 52 (.pointer a), .iface 55 (.pointer b)]) ∧ Both w' a b (laOf rows) (efOf k) ∧ Below W.heap.size W w') := Lib.hid fun W hW => of_sorts A3 n3 c3 k rows W (HR.out W hW) hrf
  have HOC : Hid (∀ (a b : Option Addr) (W : World), Below w.heap.size w W → Both W a b (laOf rows) (efOf k) → Calls Tryz.prog 24 #[schV s A n c A1 n1 c1 A2 n2 c2, .iface 52 (.pointer a), .iface 55 (.pointer b)] W fun e w' => ∃ x p q, e = .returned (.tuple #[Q4.v p, Q4.v q, .int .i64 x]) ∧ OfIs (laOf rows) (efOf k) s w' x p q ∧ Below W.heap.size W w') := Lib.hid fun a b W hW hbo => senOf_any s A n c A1 n1 c1 A2 n2 c2 a b _ _ W (HSA.out W hW) hbo (laOf_ok _) (efOf_ok _)
  clear hlen1
  obtain ⟨x, hx⟩ : ∃ x, w.alloc (.cells #[.slice A3 n3 c3, .int .i64 k] 24) = x := ⟨_, rfl⟩
  obtain ⟨y, hy⟩ : ∃ y, x.alloc (.cells #[.int .i64 s.lv, .int .i64 s.ev, .slice A n c, .slice A1 n1 c1, .slice A2 n2 c2] 47) = y := ⟨_, rfl⟩
  have b0 : Below w.heap.size w x := hx ▸ (Below.refl _ _).alloc (Nat.le_refl _) _
  have sx : x.heap.size = w.heap.size + 1 := by rw [← hx, World.size_alloc]
  have b1 : Below x.heap.size x y := hy ▸ (Below.refl _ _).alloc (Nat.le_refl _) _
  have k0 : y.heap[w.heap.size]? = some (.cells #[.slice A3 n3 c3, .int .i64 k] 24 (0, 0)) := (b1.block _ (by rw [sx]; omega)).trans (hx ▸ heap_alloc_new w _)
  have hbx : Box y (w.heap.size + 1) s.lv s.ev A n c A1 n1 c1 A2 n2 c2 := by rw [← sx, ← hy]; exact Box.new x s.lv s.ev A n c A1 n1 c1 A2 n2 c2
  have hb : Below w.heap.size w y := b0.trans (b1.mono b0.size)
  have s0 := (cell_blk (i := 0) k0).trans rfl
  have s1 := (cell_blk (i := 1) k0).trans rfl
  have HB := Lib.hid hb
  have HBX := Lib.hid hbx
  have HS0 := Lib.hid s0
  have HS1 := Lib.hid s1
  have z0 := hbx.z0
  have z1 := hbx.z1
  have z2 := hbx.z2
  have z3 := hbx.z3
  have z4 := hbx.z4
  clear b0 b1 sx k0 hb hbx h hr hrf s1
  subst hx
  unfold schV at HGC HOC ⊢
  unfold zV at HPC ⊢
  go_enter Tryz.func5, Tryz.ntmps5
  go_wp2_with fail
  clear hy
  refine (HGC.out _).mono ?_
  rintro e w1 ⟨⟨gr, rfl, hgr⟩, hv⟩
  have HGR := Lib.hid hgr
  have HV1 := Lib.hid hv
  replace s0 := cell_old s0 hv
  clear hv hgr z0 z1 z2 z3 z4 HGC
  cases gr with
  | true =>
    have HBZ := Lib.hid (HB.out.trans (HV1.out.mono HB.out.size))
    go_wp2_with fail
    refine (lives_any _).mono ?_
    rintro e wz ⟨rfl, hv⟩
    have HZ := Lib.hid (HBZ.out.trans (hv.mono HBZ.out.size))
    clear hv
    go_wp2_with fail
    go_ret
    exact ⟨rfl, HZ.out⟩
  | false =>
  by_cases hbig : 100 < n3
  · have hbig' : (100 : Int) < (n3 : Int) := by omega
    have HBZ := Lib.hid (HB.out.trans (HV1.out.mono HB.out.size))
    clear hbig
    go_wp2_with fail
    refine (lives_any _).mono ?_
    rintro e wz ⟨rfl, hv⟩
    have HZ := Lib.hid (HBZ.out.trans (hv.mono HBZ.out.size))
    clear hv
    go_wp2_with fail
    go_ret
    exact ⟨rfl, HZ.out⟩
  have hbig' : ¬ (100 : Int) < (n3 : Int) := by omega
  have s1 := cell_old HS1.out HV1.out
  have hcp := HPC.out w1 (HB.out.trans (HV1.out.mono HB.out.size))
  have HCP := Lib.hid hcp
  clear hcp hbig HPC
  go_wp2_with fail
  refine HCP.out.mono ?_
  rintro e w2 ⟨a, b, rfl, hbo, hv⟩
  have HV2 := Lib.hid (HV1.out.trans (hv.mono HV1.out.size))
  have HBO2 := Lib.hid hbo
  have hbx := HBX.out.keep HV2.out
  have z0 := hbx.z0
  have z1 := hbx.z1
  have z2 := hbx.z2
  have z3 := hbx.z3
  have z4 := hbx.z4
  have hco := HOC.out a b w2 (HB.out.trans (HV2.out.mono HB.out.size)) hbo
  have HCO := Lib.hid hco
  clear hv hbo hbx hco hbig' s0 s1 HCP HOC HV1
  go_wp2_with fail
  refine HCO.out.mono ?_
  rintro e w3 ⟨er, p, q, rfl, hof, hv⟩
  have HV3 := Lib.hid (HV2.out.trans (hv.mono HV2.out.size))
  have HBO3 := Lib.hid (HBO2.out.keep hv)
  clear hv z0 z1 z2 z3 z4 HCO HBO2 HV2
  obtain ⟨B1, m1, d1, B2, m2, d2, B3, m3, d3, B4, m4, d4⟩ := p
  obtain ⟨C1, k1, f1, C2, k2, f2, C3, k3, f3, C4, k4, f4⟩ := q
  simp only [Q4.v, senV]
  have h8 := B8.new w3 B1 m1 d1 B2 m2 d2 B3 m3 d3 B4 m4 d4 C1 k1 f1 C2 k2 f2 C3 k3 f3 C4 k4 f4
  have hal := two_below w3 (.cells #[.slice B1 m1 d1, .slice B2 m2 d2, .slice B3 m3 d3, .slice B4 m4 d4] 28) (.cells #[.slice C1 k1 f1, .slice C2 k2 f2, .slice C3 k3 f3, .slice C4 k4 f4] 28)
  obtain ⟨wa, hwa⟩ : ∃ wa, (w3.alloc (.cells #[.slice B1 m1 d1, .slice B2 m2 d2, .slice B3 m3 d3, .slice B4 m4 d4] 28)).alloc (.cells #[.slice C1 k1 f1, .slice C2 k2 f2, .slice C3 k3 f3, .slice C4 k4 f4] 28) = wa := ⟨_, rfl⟩
  rw [hwa] at h8 hal
  have HVA := Lib.hid (HV3.out.trans (hal.mono HV3.out.size))
  have HBA := Lib.hid (HB.out.trans (HVA.out.mono HB.out.size))
  have HBOA := Lib.hid (HBO3.out.keep hal)
  have H8 := Lib.hid h8
  rcases hof with ⟨hne0, e1, e2, -⟩ | ⟨rfl, ql, qe, lo, hi, lo', hi', hok, hp, hq⟩
  · have hne : (er != 0) = true := by simpa using hne0
    simp only [Q4.nil, Q4.mk.injEq] at e1 e2
    have hm0 : ((m1 : Int) == 0) = true := by rw [e1.2.1]; rfl
    have hk0 : ((k1 : Int) == 0) = true := by rw [e2.2.1]; rfl
    clear e1 e2
    have p0 := h8.p0
    have q0 := h8.q0
    clear hne0 h8 hal
    go_wp2_with fail
    clear hwa p0 q0 hm0 hk0
    refine (lives_any _).mono ?_
    rintro e wz ⟨rfl, hv⟩
    have HZ := Lib.hid (HBA.out.trans (hv.mono HBA.out.size))
    clear hv
    go_wp2_with fail
    go_ret
    exact ⟨rfl, HZ.out⟩
  have HOK := Lib.hid hok
  replace hp : SenAt w3 (senS (laOf rows) lo hi (rcB ql s.l) (labB s.b)) B1 m1 d1 B2 m2 d2 B3 m3 d3 B4 m4 d4 := hp
  replace hq : SenAt w3 (senS (efOf k) lo' hi' (rcB qe s.e) (effB s.b)) C1 k1 f1 C2 k2 f2 C3 k3 f3 C4 k4 f4 := hq
  have HP := Lib.hid (hp.keep hal)
  have HQ := Lib.hid (hq.keep hal)
  have HFL := Lib.hid (fit_all hok.gl.ok hok.gl.low.has)
  have HFH := Lib.hid (fit_all hok.gl.ok (has_turn hok.gl.high.has))
  have HFL' := Lib.hid (fit_all hok.ge.ok hok.ge.low.has)
  have HFH' := Lib.hid (fit_all hok.ge.ok (has_turn hok.ge.high.has))
  have HCK := Lib.hid (Sch.check_is.1 hok.chk)
  have HG1 := Lib.hid (Sch.gr_all hok.chk (u := lo) (x := lo') (by rw [hok.gl.low.has.1, hok.lv]) (by rw [hok.ge.low.has.1, hok.ev]))
  have HG2 := Lib.hid (Sch.gr_all hok.chk (u := hi) (x := hi') (by rw [hok.gl.high.has.1, hok.lv]) (by rw [hok.ge.high.has.1, hok.ev]))
  obtain ⟨kl, hkl⟩ : ∃ k, (labB s.b).length = k := ⟨_, rfl⟩
  obtain ⟨ke, hke⟩ : ∃ k, (effB s.b).length = k := ⟨_, rfl⟩
  have HKL := Lib.hid hkl
  have HKE := Lib.hid hke
  have HL5 := Lib.hid (show kl ≤ 100000 by rw [← hkl]; exact Nat.le_trans (labB_len s.b) (by decide))
  have HE5 := Lib.hid (show ke ≤ 100000 by rw [← hke]; exact Nat.le_trans (effB_len s.b) (by decide))
  have HY_0 := Lib.hid (Below.refl wa.heap.size wa)
  clear hp hq h8 hal hok hkl hke
  have hbx := HBX.out.keep (HVA.out.trans (HY_0.out.mono HVA.out.size))
  have z0 := hbx.z0
  have z3 := hbx.z3
  clear hbx
  have hcall := Bo.solve_any (.iface 52 (.pointer a)) s.lv A1 n1 c1 s.l _ wa (laOf_ok rows) (HBOA.out.keep HY_0.out).sl.into (HSA.out _ (HBA.out.trans (HY_0.out.mono HBA.out.size))).l (HSA.out _ (HBA.out.trans (HY_0.out.mono HBA.out.size))).lf
  have HCALL := Lib.hid hcall
  clear hcall
  go_wp2_with fail
  clear hwa
  refine HCALL.out.mono ?_
  rintro e v1 ⟨Ga1, ga1, gca1, Ga2, ga2, gca2, xa, lo2, hi2, hsv⟩
  obtain ⟨rfl, r1, r2, han, hv⟩ := hsv
  obtain ⟨rfl, rfl, rfl⟩ := solved_got HOK.out.gl HOK.out.lv HCK.out.2.1 han
  have HRa1 := Lib.hid r1
  have HRa2 := Lib.hid r2
  clear r1 r2 han HCALL z0 z3
  have HY_1 := Lib.hid (HY_0.out.trans (hv.mono HY_0.out.size))
  have HU_1 := Lib.hid (Below.refl v1.heap.size v1)
  clear hv HY_0
  have hbx := HBX.out.keep (HVA.out.trans (HY_1.out.mono HVA.out.size))
  have z1 := hbx.z1
  have z4 := hbx.z4
  clear hbx
  have hcall := Bo.solve_any (.iface 55 (.pointer b)) s.ev A2 n2 c2 s.e _ v1 (efOf_ok k) (HBOA.out.keep HY_1.out).sx.into (HSA.out _ (HBA.out.trans (HY_1.out.mono HBA.out.size))).e (HSA.out _ (HBA.out.trans (HY_1.out.mono HBA.out.size))).ef
  have HCALL := Lib.hid hcall
  clear hcall
  go_wp2_with fail
  refine HCALL.out.mono ?_
  rintro e v2 ⟨Gb1, gb1, gcb1, Gb2, gb2, gcb2, xb, lo2, hi2, hsv⟩
  obtain ⟨rfl, r1, r2, han, hv⟩ := hsv
  obtain ⟨rfl, rfl, rfl⟩ := solved_got HOK.out.ge HOK.out.ev HCK.out.2.2.1 han
  have HRb1 := Lib.hid r1
  have HRb2 := Lib.hid r2
  clear r1 r2 han HCALL z1 z4
  have HY_2 := Lib.hid (HY_1.out.trans (hv.mono HY_1.out.size))
  have HU_2 := Lib.hid (HU_1.out.trans (hv.mono HU_1.out.size))
  have HX_2 := Lib.hid (Below.refl v2.heap.size v2)
  clear hv HY_1 HU_1
  have hbx := HBX.out.keep (HVA.out.trans (HY_2.out.mono HVA.out.size))
  have z3 := hbx.z3
  clear hbx
  have hcall := Bo.hold_any (.iface 52 (.pointer a)) Ga1 ga1 gca1 lo A1 n1 c1 s.l _ v2 true (HBOA.out.keep HY_2.out).sl.into (HRa1.out.at_size (Nat.le_refl _) HU_2.out) HFL.out (HSA.out _ (HBA.out.trans (HY_2.out.mono HBA.out.size))).l (HSA.out _ (HBA.out.trans (HY_2.out.mono HBA.out.size))).lf HOK.out.gl.hold
  have HCALL := Lib.hid hcall
  clear hcall
  go_wp2_with fail
  refine HCALL.out.mono ?_
  rintro e v3 ⟨rfl, hv⟩
  clear HCALL z3
  have HY_3 := Lib.hid (HY_2.out.trans (hv.mono HY_2.out.size))
  have HU_3 := Lib.hid (HU_2.out.trans (hv.mono HU_2.out.size))
  have HX_3 := Lib.hid (HX_2.out.trans (hv.mono HX_2.out.size))
  clear hv HY_2 HU_2 HX_2
  have hbx := HBX.out.keep (HVA.out.trans (HY_3.out.mono HVA.out.size))
  have z3 := hbx.z3
  clear hbx
  have hcall := Bo.hold_any (.iface 52 (.pointer a)) Ga2 ga2 gca2 hi A1 n1 c1 s.l _ v3 true (HBOA.out.keep HY_3.out).sl.into (HRa2.out.at_size (Nat.le_refl _) HU_3.out) HFH.out (HSA.out _ (HBA.out.trans (HY_3.out.mono HBA.out.size))).l (HSA.out _ (HBA.out.trans (HY_3.out.mono HBA.out.size))).lf HOK.out.gl.holdH
  have HCALL := Lib.hid hcall
  clear hcall
  go_wp2_with fail
  refine HCALL.out.mono ?_
  rintro e v4 ⟨rfl, hv⟩
  clear HCALL z3
  have HY_4 := Lib.hid (HY_3.out.trans (hv.mono HY_3.out.size))
  have HU_4 := Lib.hid (HU_3.out.trans (hv.mono HU_3.out.size))
  have HX_4 := Lib.hid (HX_3.out.trans (hv.mono HX_3.out.size))
  clear hv HY_3 HU_3 HX_3
  have hbx := HBX.out.keep (HVA.out.trans (HY_4.out.mono HVA.out.size))
  have z4 := hbx.z4
  clear hbx
  have hcall := Bo.hold_any (.iface 55 (.pointer b)) Gb1 gb1 gcb1 lo' A2 n2 c2 s.e _ v4 true (HBOA.out.keep HY_4.out).sx.into (HRb1.out.at_size (Nat.le_refl _) HX_4.out) HFL'.out (HSA.out _ (HBA.out.trans (HY_4.out.mono HBA.out.size))).e (HSA.out _ (HBA.out.trans (HY_4.out.mono HBA.out.size))).ef HOK.out.ge.hold
  have HCALL := Lib.hid hcall
  clear hcall
  go_wp2_with fail
  refine HCALL.out.mono ?_
  rintro e v5 ⟨rfl, hv⟩
  clear HCALL z4
  have HY_5 := Lib.hid (HY_4.out.trans (hv.mono HY_4.out.size))
  have HU_5 := Lib.hid (HU_4.out.trans (hv.mono HU_4.out.size))
  have HX_5 := Lib.hid (HX_4.out.trans (hv.mono HX_4.out.size))
  clear hv HY_4 HU_4 HX_4
  have hbx := HBX.out.keep (HVA.out.trans (HY_5.out.mono HVA.out.size))
  have z4 := hbx.z4
  clear hbx
  have hcall := Bo.hold_any (.iface 55 (.pointer b)) Gb2 gb2 gcb2 hi' A2 n2 c2 s.e _ v5 true (HBOA.out.keep HY_5.out).sx.into (HRb2.out.at_size (Nat.le_refl _) HX_5.out) HFH'.out (HSA.out _ (HBA.out.trans (HY_5.out.mono HBA.out.size))).e (HSA.out _ (HBA.out.trans (HY_5.out.mono HBA.out.size))).ef HOK.out.ge.holdH
  have HCALL := Lib.hid hcall
  clear hcall
  go_wp2_with fail
  refine HCALL.out.mono ?_
  rintro e v6 ⟨rfl, hv⟩
  clear HCALL z4
  have HY_6 := Lib.hid (HY_5.out.trans (hv.mono HY_5.out.size))
  have HU_6 := Lib.hid (HU_5.out.trans (hv.mono HU_5.out.size))
  have HX_6 := Lib.hid (HX_5.out.trans (hv.mono HX_5.out.size))
  clear hv HY_5 HU_5 HX_5
  have hbx := HBX.out.keep (HVA.out.trans (HY_6.out.mono HVA.out.size))
  have z0 := hbx.z0
  have z1 := hbx.z1
  have z2 := hbx.z2
  have z3 := hbx.z3
  have z4 := hbx.z4
  clear hbx
  have hcall := schGround_any s A n c A1 n1 c1 A2 n2 c2 Ga1 ga1 gca1 lo Gb1 gb1 gcb1 lo' v6 (HSA.out _ (HBA.out.trans (HY_6.out.mono HBA.out.size))) (HRa1.out.at_size (Nat.le_refl _) HU_6.out) (HRb1.out.at_size (Nat.le_refl _) HX_6.out) 0 HG1.out
  unfold schV at hcall
  have HCALL := Lib.hid hcall
  clear hcall
  go_wp2_with fail
  refine HCALL.out.mono ?_
  rintro e v7 ⟨K1, kk1, kc1, rfl, hown, hv⟩
  have HN1 := Lib.hid (Rs.of_own ndc_len (by decide) hown)
  clear HCALL hown z0 z1 z2 z3 z4
  have HY_7 := Lib.hid (HY_6.out.trans (hv.mono HY_6.out.size))
  have HU_7 := Lib.hid (HU_6.out.trans (hv.mono HU_6.out.size))
  have HX_7 := Lib.hid (HX_6.out.trans (hv.mono HX_6.out.size))
  have HM_7 := Lib.hid (Below.refl v7.heap.size v7)
  clear hv HY_6 HU_6 HX_6
  have hbx := HBX.out.keep (HVA.out.trans (HY_7.out.mono HVA.out.size))
  have z0 := hbx.z0
  have z1 := hbx.z1
  have z2 := hbx.z2
  have z3 := hbx.z3
  have z4 := hbx.z4
  clear hbx
  have hcall := schGround_any s A n c A1 n1 c1 A2 n2 c2 Ga2 ga2 gca2 hi Gb2 gb2 gcb2 hi' v7 (HSA.out _ (HBA.out.trans (HY_7.out.mono HBA.out.size))) (HRa2.out.at_size (Nat.le_refl _) HU_7.out) (HRb2.out.at_size (Nat.le_refl _) HX_7.out) 0 HG2.out
  unfold schV at hcall
  have HCALL := Lib.hid hcall
  clear hcall
  go_wp2_with fail
  refine HCALL.out.mono ?_
  rintro e v8 ⟨K2, kk2, kc2, rfl, hown, hv⟩
  have HN2 := Lib.hid (Rs.of_own ndc_len (by decide) hown)
  clear HCALL hown z0 z1 z2 z3 z4
  have HY_8 := Lib.hid (HY_7.out.trans (hv.mono HY_7.out.size))
  have HU_8 := Lib.hid (HU_7.out.trans (hv.mono HU_7.out.size))
  have HX_8 := Lib.hid (HX_7.out.trans (hv.mono HX_7.out.size))
  have HM_8 := Lib.hid (HM_7.out.trans (hv.mono HM_7.out.size))
  have HN_8 := Lib.hid (Below.refl v8.heap.size v8)
  clear hv HY_7 HU_7 HX_7 HM_7
  have hcall := of_len K1 kk1 kc1 (s.grN lo lo') _ _ kl ke v8 (HN1.out.at_size (Nat.le_refl _) HM_8.out) (gr_fits (HSA.out _ (HBA.out.trans (HY_8.out.mono HBA.out.size))).bf) (Sch.gr_is HG1.out).lab (Sch.gr_is HG1.out).eff (by rw [List.length_map]; exact HKL.out) (by rw [List.length_map]; exact HKE.out)
  have HCALL := Lib.hid hcall
  clear hcall
  go_wp2_with fail
  refine HCALL.out.mono ?_
  rintro e v9 ⟨P1, pc1, Q1, qc1, rfl, hT⟩
  have hv := hT.bel
  have HS1 := Lib.hid hT
  clear HCALL hT
  have HY_9 := Lib.hid (HY_8.out.trans (hv.mono HY_8.out.size))
  have HU_9 := Lib.hid (HU_8.out.trans (hv.mono HU_8.out.size))
  have HX_9 := Lib.hid (HX_8.out.trans (hv.mono HX_8.out.size))
  have HM_9 := Lib.hid (HM_8.out.trans (hv.mono HM_8.out.size))
  have HN_9 := Lib.hid (HN_8.out.trans (hv.mono HN_8.out.size))
  have HS_9 := Lib.hid (Below.refl v9.heap.size v9)
  clear hv HY_8 HU_8 HX_8 HM_8 HN_8
  have hcall := of_len K2 kk2 kc2 (s.grN hi hi') _ _ kl ke v9 (HN2.out.at_size (Nat.le_refl _) HN_9.out) (gr_fits (HSA.out _ (HBA.out.trans (HY_9.out.mono HBA.out.size))).bf) (Sch.gr_is HG2.out).lab (Sch.gr_is HG2.out).eff (by rw [List.length_map]; exact HKL.out) (by rw [List.length_map]; exact HKE.out)
  have HCALL := Lib.hid hcall
  clear hcall
  go_wp2_with fail
  refine HCALL.out.mono ?_
  rintro e v10 ⟨P2, pc2, Q2, qc2, rfl, hT⟩
  have hv := hT.bel
  have HS2 := Lib.hid hT
  clear HCALL hT
  have HY_10 := Lib.hid (HY_9.out.trans (hv.mono HY_9.out.size))
  have HU_10 := Lib.hid (HU_9.out.trans (hv.mono HU_9.out.size))
  have HX_10 := Lib.hid (HX_9.out.trans (hv.mono HX_9.out.size))
  have HM_10 := Lib.hid (HM_9.out.trans (hv.mono HM_9.out.size))
  have HN_10 := Lib.hid (HN_9.out.trans (hv.mono HN_9.out.size))
  have HS_10 := Lib.hid (HS_9.out.trans (hv.mono HS_9.out.size))
  have HT_10 := Lib.hid (Below.refl v10.heap.size v10)
  clear hv HY_9 HU_9 HX_9 HM_9 HN_9 HS_9
  have h8 := H8.out.keep HY_10.out
  have y0 := h8.p0
  have y1 := h8.p1
  have y2 := h8.p2
  have y3 := h8.p3
  have hcall := ends_any B1 m1 d1 B2 m2 d2 B3 m3 d3 B4 m4 d4 _ P1 kl pc1 _ P2 kl pc2 _ v10 (HP.out.keep HY_10.out) (HS1.out.r1.at_size (Nat.le_refl _) HS_10.out) (HS2.out.r1.at_size (Nat.le_refl _) HT_10.out) (ends_of (labB_u64 (HSA.out _ (HBA.out.trans (HY_10.out.mono HBA.out.size))).bt)) HL5.out
  unfold senV at hcall
  have HCALL := Lib.hid hcall
  clear hcall h8
  go_wp2_with fail
  refine HCALL.out.mono ?_
  rintro e v11 ⟨rfl, hv⟩
  clear HCALL y0 y1 y2 y3
  have HY_11 := Lib.hid (HY_10.out.trans (hv.mono HY_10.out.size))
  have HU_11 := Lib.hid (HU_10.out.trans (hv.mono HU_10.out.size))
  have HX_11 := Lib.hid (HX_10.out.trans (hv.mono HX_10.out.size))
  have HM_11 := Lib.hid (HM_10.out.trans (hv.mono HM_10.out.size))
  have HN_11 := Lib.hid (HN_10.out.trans (hv.mono HN_10.out.size))
  have HS_11 := Lib.hid (HS_10.out.trans (hv.mono HS_10.out.size))
  have HT_11 := Lib.hid (HT_10.out.trans (hv.mono HT_10.out.size))
  clear hv HY_10 HU_10 HX_10 HM_10 HN_10 HS_10 HT_10
  have h8 := H8.out.keep HY_11.out
  have y0 := h8.q0
  have y1 := h8.q1
  have y2 := h8.q2
  have y3 := h8.q3
  have hcall := ends_any C1 k1 f1 C2 k2 f2 C3 k3 f3 C4 k4 f4 _ Q1 ke qc1 _ Q2 ke qc2 _ v11 (HQ.out.keep HY_11.out) (HS1.out.r2.at_size (Nat.le_refl _) HS_11.out) (HS2.out.r2.at_size (Nat.le_refl _) HT_11.out) (ends_of (effB_u64 (HSA.out _ (HBA.out.trans (HY_11.out.mono HBA.out.size))).bt)) HE5.out
  unfold senV at hcall
  have HCALL := Lib.hid hcall
  clear hcall h8
  go_wp2_with fail
  refine HCALL.out.mono ?_
  rintro e v12 ⟨rfl, hv⟩
  clear HCALL y0 y1 y2 y3
  have HY_12 := Lib.hid (HY_11.out.trans (hv.mono HY_11.out.size))
  have HU_12 := Lib.hid (HU_11.out.trans (hv.mono HU_11.out.size))
  have HX_12 := Lib.hid (HX_11.out.trans (hv.mono HX_11.out.size))
  have HM_12 := Lib.hid (HM_11.out.trans (hv.mono HM_11.out.size))
  have HN_12 := Lib.hid (HN_11.out.trans (hv.mono HN_11.out.size))
  have HS_12 := Lib.hid (HS_11.out.trans (hv.mono HS_11.out.size))
  have HT_12 := Lib.hid (HT_11.out.trans (hv.mono HT_11.out.size))
  clear hv HY_11 HU_11 HX_11 HM_11 HN_11 HS_11 HT_11
  have HBZ := Lib.hid (HBA.out.trans (HY_12.out.mono HBA.out.size))
  go_wp2_with fail
  refine (lives_any _).mono ?_
  rintro e wz ⟨rfl, hv⟩
  have HZ := Lib.hid (HBZ.out.trans (hv.mono HBZ.out.size))
  clear hv
  go_wp2_with fail
  go_ret
  exact ⟨rfl, HZ.out⟩

theorem own : ownKnob Tryz.prog.godebug = none := by kernel_rfl
theorem laidOut : laidOutB Tryz.prog = true := by kernel_rfl

set_option maxRecDepth 100000 in
theorem lifted (os : Os) (started : os.Started) (H : Type) (enc : TypeId × Value → H) :
    ReturnsInHanded {} Tryz.checked os 5 .any (Rows.sensesEndsSpec.pre6 enc Tryz.prog Tryz.f5 Rows.sensesEndsRow.domain false) (Rows.sensesEndsSpec.post enc Tryz.prog Tryz.f5 false true false false) := by
  refine returnsInHanded_of_change (C := Tryz.checked) own started (by kernel_rfl) Tryz.func5
    (ChangeSpec.witness6 (enc := enc) (C := Tryz.checked) false ⟨#[], #[.agg #[.slice none 0 0, .int .i64 0], .agg #[.int .i64 0, .int .i64 0, .slice none 0 0, .slice none 0 0, .slice none 0 0]], []⟩ 8 (by kernel_rfl) (by kernel_rfl) (by kernel_rfl) (by kernel_rfl)) ?_
  intro W base args ds gs before hval0 hW hcnd _
  have hval : ∀ (j : Nat) t v, Tryz.f5.params[j]? = some t → args[j]? = some v → Value.okWide Tryz.prog W .any base t v := hval0
  have hW' := hW
  obtain ⟨p, q, hA0, hV, rfl, hfz, hnd⟩ := hW
  have hA : DataW.TrodAll enc Tryz.prog W 0 (fun _ => true) true Tryz.f5.params.toList args.toList ds p := hA0
  rw [Tryz.params5] at hA hval
  obtain ⟨v0, vs0, d0, ds0, p0, q0, hargs, rfl, rfl, h0, r0⟩ := trodAll_cons hA
  obtain ⟨v1, vs1, d1, ds1, p1, q1, rfl, rfl, rfl, h1, r1⟩ := trodAll_cons r0
  obtain ⟨rfl, rfl, rfl⟩ := trodAll_nil r1
  obtain rfl : args = #[v0, v1] := by cases args; simp_all
  obtain ⟨rfl, rfl⟩ := trodVars_none hV
  have lt0 : ∀ x ∈ p0, x.block < W.heap.size := by obtain ⟨m, hm⟩ := h0; exact DataW.trod_lt m _ _ _ hm
  have lt1 : ∀ x ∈ p1, x.block < W.heap.size := by obtain ⟨m, hm⟩ := h1; exact DataW.trod_lt m _ _ _ hm
  obtain ⟨A3, n3, c3, k, rows, rfl, hr, hrf⟩ := opened_sorts h0
  obtain ⟨s, A, n, c, A1, n1, c1, A2, n2, c2, rfl, hS, -, -⟩ := opened_scheme h1
  clear hA0 hval0
  refine (walk s A n c A1 n1 c1 A2 n2 c2 A3 n3 c3 k rows W hS hr hrf).mono fun e W' ⟨he, bel⟩ => ?_
  subst he
  exact ⟨_, rfl, _, _, _, [], _, [], hW', trodAll_mk1 (shut_bool Tryz.underlying4 _), (trodAll_cons_mk (Below.trod laidOut (by kernel_rfl) (of_decide_eq_true (by kernel_rfl)) h0 bel lt0) (trodAll_cons_mk (Below.trod laidOut (by kernel_rfl) (of_decide_eq_true (by kernel_rfl)) h1 bel lt1) trodAll_mk0)), rfl, bel.frame _, fun h => by cases h⟩

theorem over : Rows.sensesEndsRow.holds Tryz.pinned (OpenSpec.ofChange Rows.sensesEndsSpec) :=
  OpenClaim.holds_of_wide 5 Tryz.f5 rfl rfl rfl rfl rfl rfl rfl ⟨rfl, rfl, rfl, rfl, rfl⟩ rfl rfl rfl rfl rfl (by kernel_rfl) Tryz.func5 (by kernel_rfl)
    (of_decide_eq_true (by kernel_rfl)) (by unfold Func.isWrapper; first | (rw [if_pos (by decide +kernel)]; kernel_rfl) | (rw [if_neg (by decide +kernel)]; exact ⟨rfl, rfl⟩))
    (fun os started H enc _ => lifted os started H enc)

theorem proved : Rows.SensesEndsSaid := over
#print axioms proved
end Go.Proofs.YtfdjdgikmhecdaaGreat.sensesEnds
