/- SensesLessOrder is true: who says no more than another one. Condition: none but those of the statement. -/
import Derived.Test.YtfdjdgikmhecdaaGreatLiv
import Derived.Test.YtfdjdgikmhecdaaGreatFct
import Derived.Test.YtfdjdgikmhecdaaGreatRows
namespace Go.Proofs.YtfdjdgikmhecdaaGreat.sensesLessOrder
open Go.ChangeShapes Go.WideShapes Go.ChangeAt Go.RowKit

theorem blk_on {x y z : World} {cs : Array Value} {t : TypeId} (h : x.alloc (.cells cs t) = y) (hb : Below y.heap.size y z) : z.heap[x.heap.size]? = some (.cells cs t (0, 0)) := by
  subst h
  exact (hb.block _ (by simp [World.size_alloc])).trans (heap_alloc_new x _)
theorem below_on {x y : World} {o : Obj} (h : x.alloc o = y) : Below x.heap.size x y := h ▸ (Below.refl _ _).alloc (Nat.le_refl _) _
theorem box_on {x y z : World} {lv ev : Int} {A : Option Addr} {n c : Nat} {A1 : Option Addr} {n1 c1 : Nat} {A2 : Option Addr} {n2 c2 : Nat} (h : x.alloc (.cells #[.int .i64 lv, .int .i64 ev, .slice A n c, .slice A1 n1 c1, .slice A2 n2 c2] 47) = y) (hb : Below y.heap.size y z) : Box z x.heap.size lv ev A n c A1 n1 c1 A2 n2 c2 := by
  subst h
  exact (Box.new x lv ev A n c A1 n1 c1 A2 n2 c2).keep hb
/-- Two senses' blocks. -/
abbrev B8q (w : World) (g : Nat) (p q : Q4) : Prop := B8 w g p.A1 p.n1 p.c1 p.A2 p.n2 p.c2 p.A3 p.n3 p.c3 p.A4 p.n4 p.c4 q.A1 q.n1 q.c1 q.A2 q.n2 q.c2 q.A3 q.n3 q.c3 q.A4 q.n4 q.c4

/-- What is told of two senses: a bool, and it is what lessS tells. -/
theorem of_check {S X : Bo.Sr} {s : Sch} {ql qe : Nat} {lo hi lo' hi' : List Nat} (h : OfOk S X s ql qe lo hi lo' hi') : (∀ p ∈ labB s.b, p.s ≤ 2) ∧ (∀ p ∈ effB s.b, p.s ≤ 2) ∧ (∀ p ∈ labB s.b, may1 S ql p = true) ∧ ∀ p ∈ effB s.b, may1 X qe p = true := by
  have hc := (Sch.check_is.1 h.chk)
  rw [h.lv, h.ev] at hc
  exact ⟨labB_le s.b, effB_le s.b, hc.2.2.2.1, hc.2.2.2.2⟩

set_option maxRecDepth 100000 in
set_option maxHeartbeats 16000000 in
theorem walk (A0 : Option Addr) (n0 c0 : Nat) (k : Int) (rows : List Nat) (s1 : Sch) (A1 : Option Addr) (n1 c1 : Nat) (L1 : Option Addr) (nl1 cl1 : Nat) (E1 : Option Addr) (ne1 ce1 : Nat) (s2 : Sch) (A2 : Option Addr) (n2 c2 : Nat) (L2 : Option Addr) (nl2 cl2 : Nat) (E2 : Option Addr) (ne2 ce2 : Nat) (s3 : Sch) (A3 : Option Addr) (n3 c3 : Nat) (L3 : Option Addr) (nl3 cl3 : Nat) (E3 : Option Addr) (ne3 ce3 : Nat) (w : World) (hr : Rd La.nm w w.heap.size A0 n0 c0 rows) (hrf : La.Fit rows) (h1 : SchAt w s1 A1 n1 c1 L1 nl1 cl1 E1 ne1 ce1) (h2 : SchAt w s2 A2 n2 c2 L2 nl2 cl2 E2 ne2 ce2) (h3 : SchAt w s3 A3 n3 c3 L3 nl3 cl3 E3 ne3 ce3) :
    Calls Tryz.prog 6 #[.agg #[.slice A0 n0 c0, .int .i64 k, .int .i64 s1.lv, .int .i64 s1.ev, .slice A1 n1 c1, .slice L1 nl1 cl1, .slice E1 ne1 ce1, .int .i64 s2.lv, .int .i64 s2.ev, .slice A2 n2 c2, .slice L2 nl2 cl2, .slice E2 ne2 ce2, .int .i64 s3.lv, .int .i64 s3.ev, .slice A3 n3 c3, .slice L3 nl3 cl3, .slice E3 ne3 ce3]] w fun e w' => e = .returned (.bool true) ∧ Below w.heap.size w w' := by
  have HSA1 : Hid (∀ W, Below w.heap.size w W → SchAt W s1 A1 n1 c1 L1 nl1 cl1 E1 ne1 ce1) := Lib.hid fun W hW => h1.keep hW
  have HG1 : Hid (∀ W : World, Calls Tryz.prog 28 #[schV s1 A1 n1 c1 L1 nl1 cl1 E1 ne1 ce1] W fun e w' => TellsB e (fun _ => True) ∧ Below W.heap.size W w') := Lib.hid fun W => (great_any s1 A1 n1 c1 L1 nl1 cl1 E1 ne1 ce1 W (by have := h1.l.cap; have := h1.l.top; unfold maxLen at this; omega) (by have := h1.e.cap; have := h1.e.top; unfold maxLen at this; omega)).mono fun e w' ⟨⟨r, e1, _⟩, e2⟩ => ⟨⟨r, e1, trivial⟩, e2⟩
  have HO1 : Hid (∀ (a b : Option Addr) (W : World), Below w.heap.size w W → Both W a b (laOf rows) (efOf k) → Calls Tryz.prog 24 #[schV s1 A1 n1 c1 L1 nl1 cl1 E1 ne1 ce1, .iface 52 (.pointer a), .iface 55 (.pointer b)] W fun e w' => ∃ x p q, e = .returned (.tuple #[Q4.v p, Q4.v q, .int .i64 x]) ∧ OfIs (laOf rows) (efOf k) s1 w' x p q ∧ Below W.heap.size W w') := Lib.hid fun a b W hW hbo => senOf_any s1 A1 n1 c1 L1 nl1 cl1 E1 ne1 ce1 a b _ _ W (HSA1.out W hW) hbo (laOf_ok _) (efOf_ok _)
  have HSA2 : Hid (∀ W, Below w.heap.size w W → SchAt W s2 A2 n2 c2 L2 nl2 cl2 E2 ne2 ce2) := Lib.hid fun W hW => h2.keep hW
  have HG2 : Hid (∀ W : World, Calls Tryz.prog 28 #[schV s2 A2 n2 c2 L2 nl2 cl2 E2 ne2 ce2] W fun e w' => TellsB e (fun _ => True) ∧ Below W.heap.size W w') := Lib.hid fun W => (great_any s2 A2 n2 c2 L2 nl2 cl2 E2 ne2 ce2 W (by have := h2.l.cap; have := h2.l.top; unfold maxLen at this; omega) (by have := h2.e.cap; have := h2.e.top; unfold maxLen at this; omega)).mono fun e w' ⟨⟨r, e1, _⟩, e2⟩ => ⟨⟨r, e1, trivial⟩, e2⟩
  have HO2 : Hid (∀ (a b : Option Addr) (W : World), Below w.heap.size w W → Both W a b (laOf rows) (efOf k) → Calls Tryz.prog 24 #[schV s2 A2 n2 c2 L2 nl2 cl2 E2 ne2 ce2, .iface 52 (.pointer a), .iface 55 (.pointer b)] W fun e w' => ∃ x p q, e = .returned (.tuple #[Q4.v p, Q4.v q, .int .i64 x]) ∧ OfIs (laOf rows) (efOf k) s2 w' x p q ∧ Below W.heap.size W w') := Lib.hid fun a b W hW hbo => senOf_any s2 A2 n2 c2 L2 nl2 cl2 E2 ne2 ce2 a b _ _ W (HSA2.out W hW) hbo (laOf_ok _) (efOf_ok _)
  have HSA3 : Hid (∀ W, Below w.heap.size w W → SchAt W s3 A3 n3 c3 L3 nl3 cl3 E3 ne3 ce3) := Lib.hid fun W hW => h3.keep hW
  have HG3 : Hid (∀ W : World, Calls Tryz.prog 28 #[schV s3 A3 n3 c3 L3 nl3 cl3 E3 ne3 ce3] W fun e w' => TellsB e (fun _ => True) ∧ Below W.heap.size W w') := Lib.hid fun W => (great_any s3 A3 n3 c3 L3 nl3 cl3 E3 ne3 ce3 W (by have := h3.l.cap; have := h3.l.top; unfold maxLen at this; omega) (by have := h3.e.cap; have := h3.e.top; unfold maxLen at this; omega)).mono fun e w' ⟨⟨r, e1, _⟩, e2⟩ => ⟨⟨r, e1, trivial⟩, e2⟩
  have HO3 : Hid (∀ (a b : Option Addr) (W : World), Below w.heap.size w W → Both W a b (laOf rows) (efOf k) → Calls Tryz.prog 24 #[schV s3 A3 n3 c3 L3 nl3 cl3 E3 ne3 ce3, .iface 52 (.pointer a), .iface 55 (.pointer b)] W fun e w' => ∃ x p q, e = .returned (.tuple #[Q4.v p, Q4.v q, .int .i64 x]) ∧ OfIs (laOf rows) (efOf k) s3 w' x p q ∧ Below W.heap.size W w') := Lib.hid fun a b W hW hbo => senOf_any s3 A3 n3 c3 L3 nl3 cl3 E3 ne3 ce3 a b _ _ W (HSA3.out W hW) hbo (laOf_ok _) (efOf_ok _)
  have HR : Hid (∀ W, Below w.heap.size w W → Rd La.nm W W.heap.size A0 n0 c0 rows) := Lib.hid fun W hW => hr.at_size (Nat.le_refl _) hW
  have HRF := Lib.hid hrf
  have HPC : Hid (∀ W, Below w.heap.size w W → Calls Tryz.prog 12 #[zV A0 n0 c0 k] W fun e w' => ∃ a b, e = .returned (.tuple #[.iface 52 (.pointer a), .iface 55 (.pointer b)]) ∧ Both w' a b (laOf rows) (efOf k) ∧ Below W.heap.size W w') := Lib.hid fun W hW => of_sorts A0 n0 c0 k rows W (HR.out W hW) hrf
  obtain ⟨x1, hx1⟩ : ∃ x, w.alloc (.cells #[.slice A0 n0 c0, .int .i64 k, .int .i64 s1.lv, .int .i64 s1.ev, .slice A1 n1 c1, .slice L1 nl1 cl1, .slice E1 ne1 ce1, .int .i64 s2.lv, .int .i64 s2.ev, .slice A2 n2 c2, .slice L2 nl2 cl2, .slice E2 ne2 ce2, .int .i64 s3.lv, .int .i64 s3.ev, .slice A3 n3 c3, .slice L3 nl3 cl3, .slice E3 ne3 ce3] 74) = x := ⟨_, rfl⟩
  obtain ⟨x2, hx2⟩ : ∃ x, x1.alloc (.cells #[.slice A0 n0 c0, .int .i64 k] 24) = x := ⟨_, rfl⟩
  obtain ⟨x3, hx3⟩ : ∃ x, x2.alloc (.cells #[.int .i64 s1.lv, .int .i64 s1.ev, .slice A1 n1 c1, .slice L1 nl1 cl1, .slice E1 ne1 ce1] 47) = x := ⟨_, rfl⟩
  obtain ⟨x4, hx4⟩ : ∃ x, x3.alloc (.cells #[.int .i64 s2.lv, .int .i64 s2.ev, .slice A2 n2 c2, .slice L2 nl2 cl2, .slice E2 ne2 ce2] 47) = x := ⟨_, rfl⟩
  obtain ⟨x5, hx5⟩ : ∃ x, x4.alloc (.cells #[.int .i64 s3.lv, .int .i64 s3.ev, .slice A3 n3 c3, .slice L3 nl3 cl3, .slice E3 ne3 ce3] 47) = x := ⟨_, rfl⟩
  have b1 := below_on hx1
  have b2 := below_on hx2
  have b3 := below_on hx3
  have b4 := below_on hx4
  have b5 := below_on hx5
  have c45 := b5
  have c35 := b4.trans (b5.mono b4.size)
  have c25 := b3.trans (c35.mono b3.size)
  have c15 := b2.trans (c25.mono b2.size)
  have hb := b1.trans (c15.mono b1.size)
  have k0 := blk_on hx1 (Below.refl _ _)
  have k1 := blk_on hx1 b2
  have k2 := blk_on hx1 (b2.trans (b3.mono b2.size))
  have k3 := blk_on hx1 (b2.trans ((b3.trans (b4.mono b3.size)).mono b2.size))
  have k4 := blk_on hx2 c25
  have s0 := (cell_blk (i := 0) k4).trans rfl
  have s1 := (cell_blk (i := 1) k4).trans rfl
  have HS0 := Lib.hid s0
  have HS1 := Lib.hid s1
  have HX1 := Lib.hid (box_on hx3 c35)
  have HX2 := Lib.hid (box_on hx4 c45)
  have HX3 := Lib.hid (box_on hx5 (Below.refl _ _))
  have HB := Lib.hid hb
  have d0 := (cell_blk (i := 0) k0).trans rfl
  have d1 := (cell_blk (i := 1) k0).trans rfl
  have d2 := (cell_blk (i := 2) k1).trans rfl
  have d3 := (cell_blk (i := 3) k1).trans rfl
  have d4 := (cell_blk (i := 4) k1).trans rfl
  have d5 := (cell_blk (i := 5) k1).trans rfl
  have d6 := (cell_blk (i := 6) k1).trans rfl
  have d7 := (cell_blk (i := 7) k2).trans rfl
  have d8 := (cell_blk (i := 8) k2).trans rfl
  have d9 := (cell_blk (i := 9) k2).trans rfl
  have d10 := (cell_blk (i := 10) k2).trans rfl
  have d11 := (cell_blk (i := 11) k2).trans rfl
  have d12 := (cell_blk (i := 12) k3).trans rfl
  have d13 := (cell_blk (i := 13) k3).trans rfl
  have d14 := (cell_blk (i := 14) k3).trans rfl
  have d15 := (cell_blk (i := 15) k3).trans rfl
  have d16 := (cell_blk (i := 16) k3).trans rfl
  have z0 := HX1.out.z0
  have z1 := HX1.out.z1
  have z2 := HX1.out.z2
  have z3 := HX1.out.z3
  have z4 := HX1.out.z4
  clear b1 b2 b3 b4 b5 c45 c35 c25 c15 hb k0 k1 k2 k3 k4 h1 h2 h3 hr hrf s1 s0
  unfold schV at HG1 HG2 HG3 HO1 HO2 HO3
  unfold zV at HPC
  go_enter Tryz.func6, Tryz.ntmps6
  go_wp2_with fail
  clear d0 d1 d2 d3 d4 d5 d6 d7 d8 d9 d10 d11 d12 d13 d14 d15 d16 z0 z1 z2 z3 z4 hx1 hx2 hx3 hx4 hx5
  refine (HG1.out _).mono ?_
  rintro e v1 ⟨⟨gr, rfl, -⟩, hv⟩
  have HV1 := Lib.hid hv
  clear hv HG1
  cases gr with
  | true =>
    have HBZ := Lib.hid (HB.out.trans (HV1.out.mono HB.out.size))
    go_wp2_with fail
    refine (lives_any _).mono ?_
    rintro e wz ⟨rfl, hv⟩
    have HZ := Lib.hid (HBZ.out.trans (hv.mono HBZ.out.size))
    clear hv
    go_wp2_with fail
    go_ret
    exact ⟨rfl, HZ.out⟩
  | false =>
  have hbx := HX2.out.keep HV1.out
  have z0 := hbx.z0
  have z1 := hbx.z1
  have z2 := hbx.z2
  have z3 := hbx.z3
  have z4 := hbx.z4
  clear hbx
  go_wp2_with fail
  refine (HG2.out _).mono ?_
  rintro e v2 ⟨⟨gr, rfl, -⟩, hv⟩
  have HV2 := Lib.hid (HV1.out.trans (hv.mono HV1.out.size))
  clear hv HG2 z0 z1 z2 z3 z4
  cases gr with
  | true =>
    have HBZ := Lib.hid (HB.out.trans (HV2.out.mono HB.out.size))
    go_wp2_with fail
    refine (lives_any _).mono ?_
    rintro e wz ⟨rfl, hv⟩
    have HZ := Lib.hid (HBZ.out.trans (hv.mono HBZ.out.size))
    clear hv
    go_wp2_with fail
    go_ret
    exact ⟨rfl, HZ.out⟩
  | false =>
  have hbx := HX3.out.keep HV2.out
  have z0 := hbx.z0
  have z1 := hbx.z1
  have z2 := hbx.z2
  have z3 := hbx.z3
  have z4 := hbx.z4
  clear hbx
  go_wp2_with fail
  refine (HG3.out _).mono ?_
  rintro e v3 ⟨⟨gr, rfl, -⟩, hv⟩
  have HV3 := Lib.hid (HV2.out.trans (hv.mono HV2.out.size))
  clear hv HG3 z0 z1 z2 z3 z4
  cases gr with
  | true =>
    have HBZ := Lib.hid (HB.out.trans (HV3.out.mono HB.out.size))
    go_wp2_with fail
    refine (lives_any _).mono ?_
    rintro e wz ⟨rfl, hv⟩
    have HZ := Lib.hid (HBZ.out.trans (hv.mono HBZ.out.size))
    clear hv
    go_wp2_with fail
    go_ret
    exact ⟨rfl, HZ.out⟩
  | false =>
  have s0 := cell_old HS0.out HV3.out
  by_cases hbig : 100 < n0
  · have hbig' : (100 : Int) < (n0 : Int) := by omega
    have HBZ := Lib.hid (HB.out.trans (HV3.out.mono HB.out.size))
    clear hbig
    go_wp2_with fail
    refine (lives_any _).mono ?_
    rintro e wz ⟨rfl, hv⟩
    have HZ := Lib.hid (HBZ.out.trans (hv.mono HBZ.out.size))
    clear hv
    go_wp2_with fail
    go_ret
    exact ⟨rfl, HZ.out⟩
  have hbig' : ¬ (100 : Int) < (n0 : Int) := by omega
  have s1 := cell_old HS1.out HV3.out
  have hcp := HPC.out v3 (HB.out.trans (HV3.out.mono HB.out.size))
  have HCP := Lib.hid hcp
  clear hcp hbig HPC
  go_wp2_with fail
  refine HCP.out.mono ?_
  rintro e u0 ⟨a, b, rfl, hbo, hv⟩
  have HU0 := Lib.hid (HV3.out.trans (hv.mono HV3.out.size))
  have HBO0 := Lib.hid hbo
  clear hbo hv hbig' s0 s1 HCP HV3
  have hbx := HX1.out.keep HU0.out
  have z0 := hbx.z0
  have z1 := hbx.z1
  have z2 := hbx.z2
  have z3 := hbx.z3
  have z4 := hbx.z4
  have hco := HO1.out a b u0 (HB.out.trans (HU0.out.mono HB.out.size)) HBO0.out
  have HCO := Lib.hid hco
  clear hbx hco HO1
  go_wp2_with fail
  refine HCO.out.mono ?_
  rintro e t1 ⟨er1, p1, q1, rfl, hof, hv⟩
  have HT := Lib.hid (HU0.out.trans (hv.mono HU0.out.size))
  have HBT := Lib.hid (HBO0.out.keep hv)
  clear hv z0 z1 z2 z3 z4 HCO HU0 HBO0
  simp only [Q4.v, senV]
  have h8 : B8q _ _ p1 q1 := B8.new t1 p1.A1 p1.n1 p1.c1 p1.A2 p1.n2 p1.c2 p1.A3 p1.n3 p1.c3 p1.A4 p1.n4 p1.c4 q1.A1 q1.n1 q1.c1 q1.A2 q1.n2 q1.c2 q1.A3 q1.n3 q1.c3 q1.A4 q1.n4 q1.c4
  have hal := two_below t1 (.cells #[.slice p1.A1 p1.n1 p1.c1, .slice p1.A2 p1.n2 p1.c2, .slice p1.A3 p1.n3 p1.c3, .slice p1.A4 p1.n4 p1.c4] 28) (.cells #[.slice q1.A1 q1.n1 q1.c1, .slice q1.A2 q1.n2 q1.c2, .slice q1.A3 q1.n3 q1.c3, .slice q1.A4 q1.n4 q1.c4] 28)
  obtain ⟨u1, hu1⟩ : ∃ u, (t1.alloc (.cells #[.slice p1.A1 p1.n1 p1.c1, .slice p1.A2 p1.n2 p1.c2, .slice p1.A3 p1.n3 p1.c3, .slice p1.A4 p1.n4 p1.c4] 28)).alloc (.cells #[.slice q1.A1 q1.n1 q1.c1, .slice q1.A2 q1.n2 q1.c2, .slice q1.A3 q1.n3 q1.c3, .slice q1.A4 q1.n4 q1.c4] 28) = u := ⟨_, rfl⟩
  rw [hu1] at h8 hal
  have HU1 := Lib.hid (HT.out.trans (hal.mono HT.out.size))
  have HBO1 := Lib.hid (HBT.out.keep hal)
  have H8_1 := Lib.hid h8
  have HOF1 := Lib.hid hof
  have HAL1 := Lib.hid hal
  have HK1_1 := Lib.hid (Below.refl u1.heap.size u1)
  clear h8 hal hof HT HBT
  have hbx := HX2.out.keep HU1.out
  have z0 := hbx.z0
  have z1 := hbx.z1
  have z2 := hbx.z2
  have z3 := hbx.z3
  have z4 := hbx.z4
  have hco := HO2.out a b u1 (HB.out.trans (HU1.out.mono HB.out.size)) HBO1.out
  have HCO := Lib.hid hco
  clear hbx hco HO2
  go_wp2_with fail
  refine HCO.out.mono ?_
  rintro e t2 ⟨er2, p2, q2, rfl, hof, hv⟩
  have HT := Lib.hid (HU1.out.trans (hv.mono HU1.out.size))
  have HBT := Lib.hid (HBO1.out.keep hv)
  have HKK1 := Lib.hid (HK1_1.out.trans (hv.mono HK1_1.out.size))
  clear hv z0 z1 z2 z3 z4 HCO HU1 HBO1 HK1_1
  simp only [Q4.v, senV]
  have h8 : B8q _ _ p2 q2 := B8.new t2 p2.A1 p2.n1 p2.c1 p2.A2 p2.n2 p2.c2 p2.A3 p2.n3 p2.c3 p2.A4 p2.n4 p2.c4 q2.A1 q2.n1 q2.c1 q2.A2 q2.n2 q2.c2 q2.A3 q2.n3 q2.c3 q2.A4 q2.n4 q2.c4
  have hal := two_below t2 (.cells #[.slice p2.A1 p2.n1 p2.c1, .slice p2.A2 p2.n2 p2.c2, .slice p2.A3 p2.n3 p2.c3, .slice p2.A4 p2.n4 p2.c4] 28) (.cells #[.slice q2.A1 q2.n1 q2.c1, .slice q2.A2 q2.n2 q2.c2, .slice q2.A3 q2.n3 q2.c3, .slice q2.A4 q2.n4 q2.c4] 28)
  obtain ⟨u2, hu2⟩ : ∃ u, (t2.alloc (.cells #[.slice p2.A1 p2.n1 p2.c1, .slice p2.A2 p2.n2 p2.c2, .slice p2.A3 p2.n3 p2.c3, .slice p2.A4 p2.n4 p2.c4] 28)).alloc (.cells #[.slice q2.A1 q2.n1 q2.c1, .slice q2.A2 q2.n2 q2.c2, .slice q2.A3 q2.n3 q2.c3, .slice q2.A4 q2.n4 q2.c4] 28) = u := ⟨_, rfl⟩
  rw [hu2] at h8 hal
  have HU2 := Lib.hid (HT.out.trans (hal.mono HT.out.size))
  have HBO2 := Lib.hid (HBT.out.keep hal)
  have H8_2 := Lib.hid h8
  have HOF2 := Lib.hid hof
  have HAL2 := Lib.hid hal
  have HK2_2 := Lib.hid (Below.refl u2.heap.size u2)
  have HK1_2 := Lib.hid (HKK1.out.trans (hal.mono HKK1.out.size))
  clear h8 hal hof HT HBT HKK1
  have hbx := HX3.out.keep HU2.out
  have z0 := hbx.z0
  have z1 := hbx.z1
  have z2 := hbx.z2
  have z3 := hbx.z3
  have z4 := hbx.z4
  have hco := HO3.out a b u2 (HB.out.trans (HU2.out.mono HB.out.size)) HBO2.out
  have HCO := Lib.hid hco
  clear hbx hco HO3
  go_wp2_with fail
  refine HCO.out.mono ?_
  rintro e t3 ⟨er3, p3, q3, rfl, hof, hv⟩
  have HT := Lib.hid (HU2.out.trans (hv.mono HU2.out.size))
  have HBT := Lib.hid (HBO2.out.keep hv)
  have HKK1 := Lib.hid (HK1_2.out.trans (hv.mono HK1_2.out.size))
  have HKK2 := Lib.hid (HK2_2.out.trans (hv.mono HK2_2.out.size))
  clear hv z0 z1 z2 z3 z4 HCO HU2 HBO2 HK1_2 HK2_2
  simp only [Q4.v, senV]
  have h8 : B8q _ _ p3 q3 := B8.new t3 p3.A1 p3.n1 p3.c1 p3.A2 p3.n2 p3.c2 p3.A3 p3.n3 p3.c3 p3.A4 p3.n4 p3.c4 q3.A1 q3.n1 q3.c1 q3.A2 q3.n2 q3.c2 q3.A3 q3.n3 q3.c3 q3.A4 q3.n4 q3.c4
  have hal := two_below t3 (.cells #[.slice p3.A1 p3.n1 p3.c1, .slice p3.A2 p3.n2 p3.c2, .slice p3.A3 p3.n3 p3.c3, .slice p3.A4 p3.n4 p3.c4] 28) (.cells #[.slice q3.A1 q3.n1 q3.c1, .slice q3.A2 q3.n2 q3.c2, .slice q3.A3 q3.n3 q3.c3, .slice q3.A4 q3.n4 q3.c4] 28)
  obtain ⟨u3, hu3⟩ : ∃ u, (t3.alloc (.cells #[.slice p3.A1 p3.n1 p3.c1, .slice p3.A2 p3.n2 p3.c2, .slice p3.A3 p3.n3 p3.c3, .slice p3.A4 p3.n4 p3.c4] 28)).alloc (.cells #[.slice q3.A1 q3.n1 q3.c1, .slice q3.A2 q3.n2 q3.c2, .slice q3.A3 q3.n3 q3.c3, .slice q3.A4 q3.n4 q3.c4] 28) = u := ⟨_, rfl⟩
  rw [hu3] at h8 hal
  have HU3 := Lib.hid (HT.out.trans (hal.mono HT.out.size))
  have HBO3 := Lib.hid (HBT.out.keep hal)
  have H8_3 := Lib.hid h8
  have HOF3 := Lib.hid hof
  have HAL3 := Lib.hid hal
  have HK3_3 := Lib.hid (Below.refl u3.heap.size u3)
  have HK1_3 := Lib.hid (HKK1.out.trans (hal.mono HKK1.out.size))
  have HK2_3 := Lib.hid (HKK2.out.trans (hal.mono HKK2.out.size))
  clear h8 hal hof HT HBT HKK1 HKK2
  have HB3 := Lib.hid (HB.out.trans (HU3.out.mono HB.out.size))
  rcases HOF1.out with ⟨hne0, -, -, -⟩ | ⟨h0, ql1, qe1, lo1, hi1, lo'1, hi'1, hok1, hp1, hq1⟩
  · have hne : (er1 != 0) = true := by simpa using hne0
    clear hne0
    go_wp2_with fail
    clear hu1 hu2 hu3
    refine (lives_any _).mono ?_
    rintro e wz ⟨rfl, hv⟩
    have HZ := Lib.hid (HB3.out.trans (hv.mono HB3.out.size))
    clear hv
    go_wp2_with fail
    go_ret
    exact ⟨rfl, HZ.out⟩
  subst h0
  have HOK1 := Lib.hid hok1
  have HP1 := Lib.hid (hp1.keep (HAL1.out.trans (HK1_3.out.mono HAL1.out.size)))
  have HQ1 := Lib.hid (hq1.keep (HAL1.out.trans (HK1_3.out.mono HAL1.out.size)))
  have H8C1 := Lib.hid (H8_1.out.keep HK1_3.out)
  clear hok1 hp1 hq1
  rcases HOF2.out with ⟨hne0, -, -, -⟩ | ⟨h0, ql2, qe2, lo2, hi2, lo'2, hi'2, hok2, hp2, hq2⟩
  · have hne : (er2 != 0) = true := by simpa using hne0
    clear hne0
    go_wp2_with fail
    clear hu1 hu2 hu3
    refine (lives_any _).mono ?_
    rintro e wz ⟨rfl, hv⟩
    have HZ := Lib.hid (HB3.out.trans (hv.mono HB3.out.size))
    clear hv
    go_wp2_with fail
    go_ret
    exact ⟨rfl, HZ.out⟩
  subst h0
  have HOK2 := Lib.hid hok2
  have HP2 := Lib.hid (hp2.keep (HAL2.out.trans (HK2_3.out.mono HAL2.out.size)))
  have HQ2 := Lib.hid (hq2.keep (HAL2.out.trans (HK2_3.out.mono HAL2.out.size)))
  have H8C2 := Lib.hid (H8_2.out.keep HK2_3.out)
  clear hok2 hp2 hq2
  rcases HOF3.out with ⟨hne0, -, -, -⟩ | ⟨h0, ql3, qe3, lo3, hi3, lo'3, hi'3, hok3, hp3, hq3⟩
  · have hne : (er3 != 0) = true := by simpa using hne0
    clear hne0
    go_wp2_with fail
    clear hu1 hu2 hu3
    refine (lives_any _).mono ?_
    rintro e wz ⟨rfl, hv⟩
    have HZ := Lib.hid (HB3.out.trans (hv.mono HB3.out.size))
    clear hv
    go_wp2_with fail
    go_ret
    exact ⟨rfl, HZ.out⟩
  subst h0
  have HOK3 := Lib.hid hok3
  have HP3 := Lib.hid (hp3.keep (HAL3.out.trans (HK3_3.out.mono HAL3.out.size)))
  have HQ3 := Lib.hid (hq3.keep (HAL3.out.trans (HK3_3.out.mono HAL3.out.size)))
  have H8C3 := Lib.hid (H8_3.out.keep HK3_3.out)
  clear hok3 hp3 hq3
  clear HOF1 HOF2 HOF3 HAL1 HAL2 HAL3 HK1_3 HK2_3 HK3_3 H8_1 H8_2 H8_3 HU3
  have HM1 := Lib.hid (show p1.n1 ≤ 100000 by rw [← HP1.out.rp.len]; exact Nat.le_trans (labB_len s1.b) (by decide))
  have HN1 := Lib.hid (show q1.n1 ≤ 100000 by rw [← HQ1.out.rp.len]; exact Nat.le_trans (effB_len s1.b) (by decide))
  obtain ⟨za1, hza1⟩ : ∃ z, senS (laOf rows) lo1 hi1 (rcB ql1 s1.l) (labB s1.b) = z := ⟨_, rfl⟩
  obtain ⟨ze1, hze1⟩ : ∃ z, senS (efOf k) lo'1 hi'1 (rcB qe1 s1.e) (effB s1.b) = z := ⟨_, rfl⟩
  rw [hza1] at HP1
  rw [hze1] at HQ1
  have HM2 := Lib.hid (show p2.n1 ≤ 100000 by rw [← HP2.out.rp.len]; exact Nat.le_trans (labB_len s2.b) (by decide))
  have HN2 := Lib.hid (show q2.n1 ≤ 100000 by rw [← HQ2.out.rp.len]; exact Nat.le_trans (effB_len s2.b) (by decide))
  obtain ⟨za2, hza2⟩ : ∃ z, senS (laOf rows) lo2 hi2 (rcB ql2 s2.l) (labB s2.b) = z := ⟨_, rfl⟩
  obtain ⟨ze2, hze2⟩ : ∃ z, senS (efOf k) lo'2 hi'2 (rcB qe2 s2.e) (effB s2.b) = z := ⟨_, rfl⟩
  rw [hza2] at HP2
  rw [hze2] at HQ2
  have HM3 := Lib.hid (show p3.n1 ≤ 100000 by rw [← HP3.out.rp.len]; exact Nat.le_trans (labB_len s3.b) (by decide))
  have HN3 := Lib.hid (show q3.n1 ≤ 100000 by rw [← HQ3.out.rp.len]; exact Nat.le_trans (effB_len s3.b) (by decide))
  obtain ⟨za3, hza3⟩ : ∃ z, senS (laOf rows) lo3 hi3 (rcB ql3 s3.l) (labB s3.b) = z := ⟨_, rfl⟩
  obtain ⟨ze3, hze3⟩ : ∃ z, senS (efOf k) lo'3 hi'3 (rcB qe3 s3.e) (effB s3.b) = z := ⟨_, rfl⟩
  rw [hza3] at HP3
  rw [hze3] at HQ3
  have HRA : Hid (lessS (laOf rows) za1 za1 = true) := Lib.hid (hza1 ▸ HOK1.out.gl.refl (of_check HOK1.out).1 (of_check HOK1.out).2.2.1)
  have HRE : Hid (lessS (efOf k) ze1 ze1 = true) := Lib.hid (hze1 ▸ HOK1.out.ge.refl (of_check HOK1.out).2.1 (of_check HOK1.out).2.2.2)
  clear hza1 hza2 hza3 hze1 hze2 hze3 HOK1 HOK2 HOK3
  have HLP : Hid (∀ W, Below u3.heap.size u3 W → ∀ (p q : Q4) (z y : Sen) (r : Bool), SenIn u3 z p → SenIn u3 y q → p.n1 ≤ 100000 → lessS (laOf rows) z y = r → Calls Tryz.prog 15 #[.iface 52 (.pointer a), p.v, q.v] W fun e w' => e = .returned (.bool r) ∧ Below W.heap.size W w') := Lib.hid fun W hW p q z y r h1 h2 h3 h4 => less_any _ _ p q z y W (HBO3.out.keep hW).sl.into (h1.keep hW) (h2.keep hW) h3 r h4
  have HLQ : Hid (∀ W, Below u3.heap.size u3 W → ∀ (p q : Q4) (z y : Sen) (r : Bool), SenIn u3 z p → SenIn u3 y q → p.n1 ≤ 100000 → lessS (efOf k) z y = r → Calls Tryz.prog 15 #[.iface 55 (.pointer b), p.v, q.v] W fun e w' => e = .returned (.bool r) ∧ Below W.heap.size W w') := Lib.hid fun W hW p q z y r h1 h2 h3 h4 => less_any _ _ p q z y W (HBO3.out.keep hW).sx.into (h1.keep hW) (h2.keep hW) h3 r h4
  unfold Q4.v senV at HLP HLQ
  clear HBO3
  have HF0 := Lib.hid (Below.refl u3.heap.size u3)
  have h8y := H8C1.out.keep HF0.out
  have y0 := h8y.p0
  have y1 := h8y.p1
  have y2 := h8y.p2
  have y3 := h8y.p3
  clear h8y
  go_wp2_with fail
  clear hu1 hu2 hu3
  refine (HLP.out _ HF0.out _ _ _ _ _ HP1.out HP1.out HM1.out HRA.out).mono ?_
  rintro e f1 ⟨rfl, hv⟩
  have HF1 := Lib.hid (HF0.out.trans (hv.mono HF0.out.size))
  clear hv y0 y1 y2 y3
  have h8y := H8C1.out.keep HF1.out
  have y0 := h8y.q0
  have y1 := h8y.q1
  have y2 := h8y.q2
  have y3 := h8y.q3
  clear h8y
  go_wp2_with fail
  refine (HLQ.out _ HF1.out _ _ _ _ _ HQ1.out HQ1.out HN1.out HRE.out).mono ?_
  rintro e f2 ⟨rfl, hv⟩
  have HF2 := Lib.hid (HF1.out.trans (hv.mono HF1.out.size))
  clear hv y0 y1 y2 y3
  obtain ⟨ra, hra⟩ : ∃ r, lessS (laOf rows) za1 za2 = r := ⟨_, rfl⟩
  have HR1a := Lib.hid hra
  clear hra
  have h8y := H8C1.out.keep HF2.out
  have y0 := h8y.p0
  have y1 := h8y.p1
  have y2 := h8y.p2
  have y3 := h8y.p3
  clear h8y
  have h8x := H8C2.out.keep HF2.out
  have x0 := h8x.p0
  have x1 := h8x.p1
  have x2 := h8x.p2
  have x3 := h8x.p3
  clear h8x
  go_wp2_with fail
  refine (HLP.out _ HF2.out _ _ _ _ _ HP1.out HP2.out HM1.out HR1a.out).mono ?_
  rintro e f3 ⟨rfl, hv⟩
  have HF3 := Lib.hid (HF2.out.trans (hv.mono HF2.out.size))
  clear hv y0 y1 y2 y3 x0 x1 x2 x3
  cases ra with
  | false =>
    obtain ⟨re, hre⟩ : ∃ r, lessS (efOf k) ze1 ze2 = r := ⟨_, rfl⟩
    have HR1e := Lib.hid hre
    clear hre
    have h8y := H8C1.out.keep HF3.out
    have y0 := h8y.q0
    have y1 := h8y.q1
    have y2 := h8y.q2
    have y3 := h8y.q3
    clear h8y
    have h8x := H8C2.out.keep HF3.out
    have x0 := h8x.q0
    have x1 := h8x.q1
    have x2 := h8x.q2
    have x3 := h8x.q3
    clear h8x
    go_wp2_with fail
    refine (HLQ.out _ HF3.out _ _ _ _ _ HQ1.out HQ2.out HN1.out HR1e.out).mono ?_
    rintro e f4 ⟨rfl, hv⟩
    have HF4 := Lib.hid (HF3.out.trans (hv.mono HF3.out.size))
    clear hv y0 y1 y2 y3 x0 x1 x2 x3
    cases re with
    | false =>
      go_wp2_with fail
      have HBZ := Lib.hid (HB3.out.trans (HF4.out.mono HB3.out.size))
      refine (lives_any _).mono ?_
      rintro e wz ⟨rfl, hv⟩
      have HZ := Lib.hid (HBZ.out.trans (hv.mono HBZ.out.size))
      clear hv
      go_wp2_with fail
      go_ret
      exact ⟨rfl, HZ.out⟩
    | true =>
      obtain ⟨se, hse⟩ : ∃ r, lessS (efOf k) ze2 ze3 = r := ⟨_, rfl⟩
      have HR2e := Lib.hid hse
      clear hse
      have h8y := H8C2.out.keep HF4.out
      have y0 := h8y.q0
      have y1 := h8y.q1
      have y2 := h8y.q2
      have y3 := h8y.q3
      clear h8y
      have h8x := H8C3.out.keep HF4.out
      have x0 := h8x.q0
      have x1 := h8x.q1
      have x2 := h8x.q2
      have x3 := h8x.q3
      clear h8x
      go_wp2_with fail
      refine (HLQ.out _ HF4.out _ _ _ _ _ HQ2.out HQ3.out HN2.out HR2e.out).mono ?_
      rintro e f5 ⟨rfl, hv⟩
      have HF5 := Lib.hid (HF4.out.trans (hv.mono HF4.out.size))
      clear hv y0 y1 y2 y3 x0 x1 x2 x3
      cases se with
      | false =>
        go_wp2_with fail
        have HBZ := Lib.hid (HB3.out.trans (HF5.out.mono HB3.out.size))
        refine (lives_any _).mono ?_
        rintro e wz ⟨rfl, hv⟩
        have HZ := Lib.hid (HBZ.out.trans (hv.mono HBZ.out.size))
        clear hv
        go_wp2_with fail
        go_ret
        exact ⟨rfl, HZ.out⟩
      | true =>
        have h8y := H8C1.out.keep HF5.out
        have y0 := h8y.q0
        have y1 := h8y.q1
        have y2 := h8y.q2
        have y3 := h8y.q3
        clear h8y
        have h8x := H8C3.out.keep HF5.out
        have x0 := h8x.q0
        have x1 := h8x.q1
        have x2 := h8x.q2
        have x3 := h8x.q3
        clear h8x
        go_wp2_with fail
        refine (HLQ.out _ HF5.out _ _ _ _ _ HQ1.out HQ3.out HN1.out (less_trans (efOf_ok k) HR1e.out HR2e.out)).mono ?_
        rintro e f6 ⟨rfl, hv⟩
        have HF6 := Lib.hid (HF5.out.trans (hv.mono HF5.out.size))
        clear hv y0 y1 y2 y3 x0 x1 x2 x3
        go_wp2_with fail
        have HBZ := Lib.hid (HB3.out.trans (HF6.out.mono HB3.out.size))
        refine (lives_any _).mono ?_
        rintro e wz ⟨rfl, hv⟩
        have HZ := Lib.hid (HBZ.out.trans (hv.mono HBZ.out.size))
        clear hv
        go_wp2_with fail
        go_ret
        exact ⟨rfl, HZ.out⟩
  | true =>
    obtain ⟨sa, hsa⟩ : ∃ r, lessS (laOf rows) za2 za3 = r := ⟨_, rfl⟩
    have HR2a := Lib.hid hsa
    clear hsa
    have h8y := H8C2.out.keep HF3.out
    have y0 := h8y.p0
    have y1 := h8y.p1
    have y2 := h8y.p2
    have y3 := h8y.p3
    clear h8y
    have h8x := H8C3.out.keep HF3.out
    have x0 := h8x.p0
    have x1 := h8x.p1
    have x2 := h8x.p2
    have x3 := h8x.p3
    clear h8x
    go_wp2_with fail
    refine (HLP.out _ HF3.out _ _ _ _ _ HP2.out HP3.out HM2.out HR2a.out).mono ?_
    rintro e f7 ⟨rfl, hv⟩
    have HF7 := Lib.hid (HF3.out.trans (hv.mono HF3.out.size))
    clear hv y0 y1 y2 y3 x0 x1 x2 x3
    cases sa with
    | false =>
      obtain ⟨re, hre⟩ : ∃ r, lessS (efOf k) ze1 ze2 = r := ⟨_, rfl⟩
      have HR1e := Lib.hid hre
      clear hre
      have h8y := H8C1.out.keep HF7.out
      have y0 := h8y.q0
      have y1 := h8y.q1
      have y2 := h8y.q2
      have y3 := h8y.q3
      clear h8y
      have h8x := H8C2.out.keep HF7.out
      have x0 := h8x.q0
      have x1 := h8x.q1
      have x2 := h8x.q2
      have x3 := h8x.q3
      clear h8x
      go_wp2_with fail
      refine (HLQ.out _ HF7.out _ _ _ _ _ HQ1.out HQ2.out HN1.out HR1e.out).mono ?_
      rintro e f8 ⟨rfl, hv⟩
      have HF8 := Lib.hid (HF7.out.trans (hv.mono HF7.out.size))
      clear hv y0 y1 y2 y3 x0 x1 x2 x3
      cases re with
      | false =>
        go_wp2_with fail
        have HBZ := Lib.hid (HB3.out.trans (HF8.out.mono HB3.out.size))
        refine (lives_any _).mono ?_
        rintro e wz ⟨rfl, hv⟩
        have HZ := Lib.hid (HBZ.out.trans (hv.mono HBZ.out.size))
        clear hv
        go_wp2_with fail
        go_ret
        exact ⟨rfl, HZ.out⟩
      | true =>
        obtain ⟨se, hse⟩ : ∃ r, lessS (efOf k) ze2 ze3 = r := ⟨_, rfl⟩
        have HR2e := Lib.hid hse
        clear hse
        have h8y := H8C2.out.keep HF8.out
        have y0 := h8y.q0
        have y1 := h8y.q1
        have y2 := h8y.q2
        have y3 := h8y.q3
        clear h8y
        have h8x := H8C3.out.keep HF8.out
        have x0 := h8x.q0
        have x1 := h8x.q1
        have x2 := h8x.q2
        have x3 := h8x.q3
        clear h8x
        go_wp2_with fail
        refine (HLQ.out _ HF8.out _ _ _ _ _ HQ2.out HQ3.out HN2.out HR2e.out).mono ?_
        rintro e f9 ⟨rfl, hv⟩
        have HF9 := Lib.hid (HF8.out.trans (hv.mono HF8.out.size))
        clear hv y0 y1 y2 y3 x0 x1 x2 x3
        cases se with
        | false =>
          go_wp2_with fail
          have HBZ := Lib.hid (HB3.out.trans (HF9.out.mono HB3.out.size))
          refine (lives_any _).mono ?_
          rintro e wz ⟨rfl, hv⟩
          have HZ := Lib.hid (HBZ.out.trans (hv.mono HBZ.out.size))
          clear hv
          go_wp2_with fail
          go_ret
          exact ⟨rfl, HZ.out⟩
        | true =>
          have h8y := H8C1.out.keep HF9.out
          have y0 := h8y.q0
          have y1 := h8y.q1
          have y2 := h8y.q2
          have y3 := h8y.q3
          clear h8y
          have h8x := H8C3.out.keep HF9.out
          have x0 := h8x.q0
          have x1 := h8x.q1
          have x2 := h8x.q2
          have x3 := h8x.q3
          clear h8x
          go_wp2_with fail
          refine (HLQ.out _ HF9.out _ _ _ _ _ HQ1.out HQ3.out HN1.out (less_trans (efOf_ok k) HR1e.out HR2e.out)).mono ?_
          rintro e f10 ⟨rfl, hv⟩
          have HF10 := Lib.hid (HF9.out.trans (hv.mono HF9.out.size))
          clear hv y0 y1 y2 y3 x0 x1 x2 x3
          go_wp2_with fail
          have HBZ := Lib.hid (HB3.out.trans (HF10.out.mono HB3.out.size))
          refine (lives_any _).mono ?_
          rintro e wz ⟨rfl, hv⟩
          have HZ := Lib.hid (HBZ.out.trans (hv.mono HBZ.out.size))
          clear hv
          go_wp2_with fail
          go_ret
          exact ⟨rfl, HZ.out⟩
    | true =>
      have h8y := H8C1.out.keep HF7.out
      have y0 := h8y.p0
      have y1 := h8y.p1
      have y2 := h8y.p2
      have y3 := h8y.p3
      clear h8y
      have h8x := H8C3.out.keep HF7.out
      have x0 := h8x.p0
      have x1 := h8x.p1
      have x2 := h8x.p2
      have x3 := h8x.p3
      clear h8x
      go_wp2_with fail
      refine (HLP.out _ HF7.out _ _ _ _ _ HP1.out HP3.out HM1.out (less_trans (laOf_ok rows) HR1a.out HR2a.out)).mono ?_
      rintro e f11 ⟨rfl, hv⟩
      have HF11 := Lib.hid (HF7.out.trans (hv.mono HF7.out.size))
      clear hv y0 y1 y2 y3 x0 x1 x2 x3
      obtain ⟨re, hre⟩ : ∃ r, lessS (efOf k) ze1 ze2 = r := ⟨_, rfl⟩
      have HR1e := Lib.hid hre
      clear hre
      have h8y := H8C1.out.keep HF11.out
      have y0 := h8y.q0
      have y1 := h8y.q1
      have y2 := h8y.q2
      have y3 := h8y.q3
      clear h8y
      have h8x := H8C2.out.keep HF11.out
      have x0 := h8x.q0
      have x1 := h8x.q1
      have x2 := h8x.q2
      have x3 := h8x.q3
      clear h8x
      go_wp2_with fail
      refine (HLQ.out _ HF11.out _ _ _ _ _ HQ1.out HQ2.out HN1.out HR1e.out).mono ?_
      rintro e f12 ⟨rfl, hv⟩
      have HF12 := Lib.hid (HF11.out.trans (hv.mono HF11.out.size))
      clear hv y0 y1 y2 y3 x0 x1 x2 x3
      cases re with
      | false =>
        go_wp2_with fail
        have HBZ := Lib.hid (HB3.out.trans (HF12.out.mono HB3.out.size))
        refine (lives_any _).mono ?_
        rintro e wz ⟨rfl, hv⟩
        have HZ := Lib.hid (HBZ.out.trans (hv.mono HBZ.out.size))
        clear hv
        go_wp2_with fail
        go_ret
        exact ⟨rfl, HZ.out⟩
      | true =>
        obtain ⟨se, hse⟩ : ∃ r, lessS (efOf k) ze2 ze3 = r := ⟨_, rfl⟩
        have HR2e := Lib.hid hse
        clear hse
        have h8y := H8C2.out.keep HF12.out
        have y0 := h8y.q0
        have y1 := h8y.q1
        have y2 := h8y.q2
        have y3 := h8y.q3
        clear h8y
        have h8x := H8C3.out.keep HF12.out
        have x0 := h8x.q0
        have x1 := h8x.q1
        have x2 := h8x.q2
        have x3 := h8x.q3
        clear h8x
        go_wp2_with fail
        refine (HLQ.out _ HF12.out _ _ _ _ _ HQ2.out HQ3.out HN2.out HR2e.out).mono ?_
        rintro e f13 ⟨rfl, hv⟩
        have HF13 := Lib.hid (HF12.out.trans (hv.mono HF12.out.size))
        clear hv y0 y1 y2 y3 x0 x1 x2 x3
        cases se with
        | false =>
          go_wp2_with fail
          have HBZ := Lib.hid (HB3.out.trans (HF13.out.mono HB3.out.size))
          refine (lives_any _).mono ?_
          rintro e wz ⟨rfl, hv⟩
          have HZ := Lib.hid (HBZ.out.trans (hv.mono HBZ.out.size))
          clear hv
          go_wp2_with fail
          go_ret
          exact ⟨rfl, HZ.out⟩
        | true =>
          have h8y := H8C1.out.keep HF13.out
          have y0 := h8y.q0
          have y1 := h8y.q1
          have y2 := h8y.q2
          have y3 := h8y.q3
          clear h8y
          have h8x := H8C3.out.keep HF13.out
          have x0 := h8x.q0
          have x1 := h8x.q1
          have x2 := h8x.q2
          have x3 := h8x.q3
          clear h8x
          go_wp2_with fail
          refine (HLQ.out _ HF13.out _ _ _ _ _ HQ1.out HQ3.out HN1.out (less_trans (efOf_ok k) HR1e.out HR2e.out)).mono ?_
          rintro e f14 ⟨rfl, hv⟩
          have HF14 := Lib.hid (HF13.out.trans (hv.mono HF13.out.size))
          clear hv y0 y1 y2 y3 x0 x1 x2 x3
          go_wp2_with fail
          have HBZ := Lib.hid (HB3.out.trans (HF14.out.mono HB3.out.size))
          refine (lives_any _).mono ?_
          rintro e wz ⟨rfl, hv⟩
          have HZ := Lib.hid (HBZ.out.trans (hv.mono HBZ.out.size))
          clear hv
          go_wp2_with fail
          go_ret
          exact ⟨rfl, HZ.out⟩

section
variable {Hx : Type} {enc : TypeId × Value → Hx} {W : World}
theorem open_sch {m : Nat} {cs : List Value} {y : DataW Hx × List MemPlace} (h : DataW.trod enc Tryz.prog W 0 (fun _ => true) true m 47 cs = some y) :
    ∃ (s : Sch) (A : Option Addr) (n c : Nat) (A1 : Option Addr) (n1 c1 : Nat) (A2 : Option Addr) (n2 c2 : Nat), cs = [.int .i64 s.lv, .int .i64 s.ev, .slice A n c, .slice A1 n1 c1, .slice A2 n2 c2] ∧ SchAt W s A n c A1 n1 c1 A2 n2 c2 := by
  obtain ⟨s, A, n, c, A1, n1, c1, A2, n2, c2, e, hS, -, -⟩ := opened_scheme (v := .agg cs.toArray) (d := y.1) (p := y.2) ⟨m, by simpa [Value.cells] using h⟩
  unfold schV at e
  injection e with e
  have e2 := congrArg Array.toList e
  exact ⟨s, A, n, c, A1, n1, c1, A2, n2, c2, by simpa using e2, hS⟩
theorem open_sor {m : Nat} {cs : List Value} {y : DataW Hx × List MemPlace} (h : DataW.trod enc Tryz.prog W 0 (fun _ => true) true m 24 cs = some y) :
    ∃ (a0 : Option Addr) (len0 cap0 : Nat) (k : Int) (l : List Nat), cs = [.slice a0 len0 cap0, .int .i64 k] ∧ Rd La.nm W W.heap.size a0 len0 cap0 l ∧ La.Fit l := by
  obtain ⟨a0, n, c, k, l, e, hr, hf⟩ := opened_sorts (v := .agg cs.toArray) (d := y.1) (p := y.2) ⟨m, by simpa [Value.cells] using h⟩
  unfold zV at e
  injection e with e
  have e2 := congrArg Array.toList e
  exact ⟨a0, n, c, k, l, by simpa using e2, hr, hf⟩
theorem c74 : Tryz.prog.cellsOf 74 = 17 := by kernel_rfl
theorem seventeen {α : Type} {l : List α} (h : l.length = 17) : l = l.take 2 ++ ((l.drop 2).take 5 ++ ((l.drop 7).take 5 ++ (l.drop 12).take 5)) := by
  have e1 : l = l.take 2 ++ l.drop 2 := (List.take_append_drop 2 l).symm
  have e2 : l.drop 2 = (l.drop 2).take 5 ++ (l.drop 7) := by
    have := (List.take_append_drop 5 (l.drop 2)).symm
    rwa [List.drop_drop] at this
  have e3 : l.drop 7 = (l.drop 7).take 5 ++ (l.drop 12) := by
    have := (List.take_append_drop 5 (l.drop 7)).symm
    rwa [List.drop_drop] at this
  have e4 : (l.drop 12).take 5 = l.drop 12 := List.take_of_length_le (by simp; omega)
  rw [e4, ← e3, ← e2, ← e1]
theorem opened_three {v : Value} {d : DataW Hx} {p : List MemPlace} (h : DataW.Trod enc Tryz.prog W 0 (fun _ => true) true 74 v d p) :
    ∃ (A0 : Option Addr) (n0 c0 : Nat) (k : Int) (rows : List Nat) (s1 : Sch) (A1 : Option Addr) (n1 c1 : Nat) (L1 : Option Addr) (nl1 cl1 : Nat) (E1 : Option Addr) (ne1 ce1 : Nat) (s2 : Sch) (A2 : Option Addr) (n2 c2 : Nat) (L2 : Option Addr) (nl2 cl2 : Nat) (E2 : Option Addr) (ne2 ce2 : Nat) (s3 : Sch) (A3 : Option Addr) (n3 c3 : Nat) (L3 : Option Addr) (nl3 cl3 : Nat) (E3 : Option Addr) (ne3 ce3 : Nat), v = .agg #[.slice A0 n0 c0, .int .i64 k, .int .i64 s1.lv, .int .i64 s1.ev, .slice A1 n1 c1, .slice L1 nl1 cl1, .slice E1 ne1 ce1, .int .i64 s2.lv, .int .i64 s2.ev, .slice A2 n2 c2, .slice L2 nl2 cl2, .slice E2 ne2 ce2, .int .i64 s3.lv, .int .i64 s3.ev, .slice A3 n3 c3, .slice L3 nl3 cl3, .slice E3 ne3 ce3] ∧ Rd La.nm W W.heap.size A0 n0 c0 rows ∧ La.Fit rows ∧ SchAt W s1 A1 n1 c1 L1 nl1 cl1 E1 ne1 ce1 ∧ SchAt W s2 A2 n2 c2 L2 nl2 cl2 E2 ne2 ce2 ∧ SchAt W s3 A3 n3 c3 L3 nl3 cl3 E3 ne3 ce3 := by
  obtain ⟨fuel, h⟩ := h
  obtain ⟨xs, m, _, _, hl, hlen, hf⟩ := DataW.trod_struct Tryz.underlying74 h
  rw [c74] at hl
  match xs, hlen with
  | [y0, y1, y2, y3], _ =>
    have h0 : DataW.trod enc Tryz.prog W 0 (fun _ => true) true m 24 (List.take (Tryz.prog.cellsOf 24) (List.drop 0 v.cells.toList)) = some y0 := hf 0 _ rfl
    have h1 : DataW.trod enc Tryz.prog W 0 (fun _ => true) true m 47 (List.take (Tryz.prog.cellsOf 47) (List.drop 2 v.cells.toList)) = some y1 := hf 1 _ rfl
    have h2 : DataW.trod enc Tryz.prog W 0 (fun _ => true) true m 47 (List.take (Tryz.prog.cellsOf 47) (List.drop 7 v.cells.toList)) = some y2 := hf 2 _ rfl
    have h3 : DataW.trod enc Tryz.prog W 0 (fun _ => true) true m 47 (List.take (Tryz.prog.cellsOf 47) (List.drop 12 v.cells.toList)) = some y3 := hf 3 _ rfl
    rw [c31s] at h0
    rw [c25] at h1 h2 h3
    obtain ⟨A0, n0, c0, k, rows, e0, hr, hrf⟩ := open_sor h0
    obtain ⟨s1, A1, n1, c1, L1, nl1, cl1, E1, ne1, ce1, e1, hS1⟩ := open_sch h1
    obtain ⟨s2, A2, n2, c2, L2, nl2, cl2, E2, ne2, ce2, e2, hS2⟩ := open_sch h2
    obtain ⟨s3, A3, n3, c3, L3, nl3, cl3, E3, ne3, ce3, e3, hS3⟩ := open_sch h3
    have e := seventeen hl
    rw [List.drop_zero] at e0
    rw [e0, e1, e2, e3] at e
    exact ⟨A0, n0, c0, k, rows, s1, A1, n1, c1, L1, nl1, cl1, E1, ne1, ce1, s2, A2, n2, c2, L2, nl2, cl2, E2, ne2, ce2, s3, A3, n3, c3, L3, nl3, cl3, E3, ne3, ce3, Bo.agg_of e, hr, hrf, hS1, hS2, hS3⟩
end

theorem own : ownKnob Tryz.prog.godebug = none := by kernel_rfl
theorem laidOut : laidOutB Tryz.prog = true := by kernel_rfl

set_option maxRecDepth 100000 in
theorem lifted (os : Os) (started : os.Started) (H : Type) (enc : TypeId × Value → H) :
    ReturnsInHanded {} Tryz.checked os 6 .any (Rows.sensesLessOrderSpec.pre6 enc Tryz.prog Tryz.f6 Rows.sensesLessOrderRow.domain false) (Rows.sensesLessOrderSpec.post enc Tryz.prog Tryz.f6 false true false false) := by
  refine returnsInHanded_of_change (C := Tryz.checked) own started (by kernel_rfl) Tryz.func6
    (ChangeSpec.witness6 (enc := enc) (C := Tryz.checked) false ⟨#[], #[.agg #[.slice none 0 0, .int .i64 0, .int .i64 0, .int .i64 0, .slice none 0 0, .slice none 0 0, .slice none 0 0, .int .i64 0, .int .i64 0, .slice none 0 0, .slice none 0 0, .slice none 0 0, .int .i64 0, .int .i64 0, .slice none 0 0, .slice none 0 0, .slice none 0 0]], []⟩ 8 (by kernel_rfl) (by kernel_rfl) (by kernel_rfl) (by kernel_rfl)) ?_
  intro W base args ds gs before hval0 hW hcnd _
  have hval : ∀ (j : Nat) t v, Tryz.f6.params[j]? = some t → args[j]? = some v → Value.okWide Tryz.prog W .any base t v := hval0
  have hW' := hW
  obtain ⟨p, q, hA0, hV, rfl, hfz, hnd⟩ := hW
  have hA : DataW.TrodAll enc Tryz.prog W 0 (fun _ => true) true Tryz.f6.params.toList args.toList ds p := hA0
  rw [Tryz.params6] at hA hval
  obtain ⟨v0, vs0, d0, ds0, p0, q0, hargs, rfl, rfl, h0, r0⟩ := trodAll_cons hA
  obtain ⟨rfl, rfl, rfl⟩ := trodAll_nil r0
  obtain rfl : args = #[v0] := by cases args; simp_all
  obtain ⟨rfl, rfl⟩ := trodVars_none hV
  have lt0 : ∀ x ∈ p0, x.block < W.heap.size := by obtain ⟨m, hm⟩ := h0; exact DataW.trod_lt m _ _ _ hm
  obtain ⟨A0, n0, c0, k, rows, s1, A1, n1, c1, L1, nl1, cl1, E1, ne1, ce1, s2, A2, n2, c2, L2, nl2, cl2, E2, ne2, ce2, s3, A3, n3, c3, L3, nl3, cl3, E3, ne3, ce3, rfl, hr, hrf, hS1, hS2, hS3⟩ := opened_three h0
  clear hA0 hval0
  refine (walk A0 n0 c0 k rows s1 A1 n1 c1 L1 nl1 cl1 E1 ne1 ce1 s2 A2 n2 c2 L2 nl2 cl2 E2 ne2 ce2 s3 A3 n3 c3 L3 nl3 cl3 E3 ne3 ce3 W hr hrf hS1 hS2 hS3).mono fun e W' ⟨he, bel⟩ => ?_
  subst he
  exact ⟨_, rfl, _, _, _, [], _, [], hW', trodAll_mk1 (shut_bool Tryz.underlying4 _), (trodAll_cons_mk (Below.trod laidOut (by kernel_rfl) (of_decide_eq_true (by kernel_rfl)) h0 bel lt0) trodAll_mk0), rfl, bel.frame _, fun h => by cases h⟩

theorem over : Rows.sensesLessOrderRow.holds Tryz.pinned (OpenSpec.ofChange Rows.sensesLessOrderSpec) :=
  OpenClaim.holds_of_wide 6 Tryz.f6 rfl rfl rfl rfl rfl rfl rfl ⟨rfl, rfl, rfl, rfl, rfl⟩ rfl rfl rfl rfl rfl (by kernel_rfl) Tryz.func6 (by kernel_rfl)
    (of_decide_eq_true (by kernel_rfl)) (by unfold Func.isWrapper; first | (rw [if_pos (by decide +kernel)]; kernel_rfl) | (rw [if_neg (by decide +kernel)]; exact ⟨rfl, rfl⟩))
    (fun os started H enc _ => lifted os started H enc)

theorem proved : Rows.SensesLessOrderSaid := over
#print axioms proved
end Go.Proofs.YtfdjdgikmhecdaaGreat.sensesLessOrder
