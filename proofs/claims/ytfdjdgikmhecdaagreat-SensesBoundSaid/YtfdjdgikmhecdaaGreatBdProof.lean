/- SensesBound is true: with one bound more no less is said. Condition: none but those of the statement. -/
import Derived.Test.YtfdjdgikmhecdaaGreatLiv
import Derived.Test.YtfdjdgikmhecdaaGreatFct
import Derived.Test.YtfdjdgikmhecdaaGreatRows
import Derived.SizedLaws
namespace Go.Proofs.YtfdjdgikmhecdaaGreat.sensesBound
open Go.ChangeShapes Go.WideShapes Go.ChangeAt Go.RowKit

theorem blk_on {x y z : World} {cs : Array Value} {t : TypeId} (h : x.alloc (.cells cs t) = y) (hb : Below y.heap.size y z) : z.heap[x.heap.size]? = some (.cells cs t (0, 0)) := by
  subst h
  exact (hb.block _ (by simp [World.size_alloc])).trans (heap_alloc_new x _)
theorem below_on {x y : World} {o : Obj} (h : x.alloc o = y) : Below x.heap.size x y := h ▸ (Below.refl _ _).alloc (Nat.le_refl _) _
theorem box_on {x y z : World} {lv ev : Int} {A : Option Addr} {n c : Nat} {A1 : Option Addr} {n1 c1 : Nat} {A2 : Option Addr} {n2 c2 : Nat} (h : x.alloc (.cells #[.int .i64 lv, .int .i64 ev, .slice A n c, .slice A1 n1 c1, .slice A2 n2 c2] 47) = y) (hb : Below y.heap.size y z) : Box z x.heap.size lv ev A n c A1 n1 c1 A2 n2 c2 := by
  subst h
  exact (Box.new x lv ev A n c A1 n1 c1 A2 n2 c2).keep hb
/-- Two senses' blocks. -/
abbrev B8q (w : World) (g : Nat) (p q : Q4) : Prop := B8 w g p.A1 p.n1 p.c1 p.A2 p.n2 p.c2 p.A3 p.n3 p.c3 p.A4 p.n4 p.c4 q.A1 q.n1 q.c1 q.A2 q.n2 q.c2 q.A3 q.n3 q.c3 q.A4 q.n4 q.c4


theorem of_check {S X : Bo.Sr} {s : Sch} {ql qe : Nat} {lo hi lo' hi' : List Nat} (h : OfOk S X s ql qe lo hi lo' hi') : (∀ p ∈ labB s.b, p.s ≤ 2) ∧ (∀ p ∈ effB s.b, p.s ≤ 2) ∧ (∀ p ∈ labB s.b, may1 S ql p = true) ∧ ∀ p ∈ effB s.b, may1 X qe p = true := by
  have hc := (Sch.check_is.1 h.chk)
  rw [h.lv, h.ev] at hc
  exact ⟨labB_le s.b, effB_le s.b, hc.2.2.2.1, hc.2.2.2.2⟩
theorem chk_sub {S : Bo.Sr} {k : Int} {l l' : List Bo.Bd} (hl : ∀ x ∈ l, x ∈ l') (hn : l.length ≤ l'.length) (h : Bo.chkS S k l' = 0) : Bo.chkS S k l = 0 := by
  obtain ⟨h1, h2, h3, h4⟩ := chk_zero.1 h
  exact chk_zero.2 ⟨h1, h2, by omega, fun b hb => h4 b (hl b hb)⟩
/-- With fewer bounds there is an answer, where there is one with more. -/
theorem of_back {S X : Bo.Sr} {b : List Nd} {lv ev : Int} {l l' m m' : List Bo.Bd} (hl : ∀ x ∈ l, x ∈ l') (hn : l.length ≤ l'.length) (hm : ∀ x ∈ m, x ∈ m') (hk : m.length ≤ m'.length) {ql qe : Nat} {lo hi lo' hi' : List Nat} (h : OfOk S X ⟨lv, ev, b, l', m'⟩ ql qe lo hi lo' hi') {w : World} {x : Int} {p q : Q4} (hof : OfIs S X ⟨lv, ev, b, l, m⟩ w x p q) : x = 0 := by
  have hc := Sch.check_is.1 h.chk
  have hc0 : Sch.check S X ⟨lv, ev, b, l, m⟩ = 0 := Sch.check_is.2 ⟨hc.1, chk_sub hl hn hc.2.1, chk_sub hm hk hc.2.2.1, hc.2.2.2.1, hc.2.2.2.2⟩
  rcases hof with ⟨hne, -, -, e | ⟨-, -, e | e⟩⟩ | ⟨e, -⟩
  · exact absurd (e.symm.trans hc0) hne
  · exfalso
    obtain ⟨q, e1, e2⟩ := e
    have e3 : lv = (ql : Int) := h.lv
    obtain rfl : q = ql := by have e1' : lv = (q : Int) := e1; omega
    have := e2 lo h.gl.low.has
    rw [Bo.hold_mem (l := l') hl h.gl.hold] at this
    cases this
  · exfalso
    obtain ⟨q, e1, e2⟩ := e
    have e3 : ev = (qe : Int) := h.ev
    obtain rfl : q = qe := by have e1' : ev = (q : Int) := e1; omega
    have := e2 lo' h.ge.low.has
    rw [Bo.hold_mem (l := m') hm h.ge.hold] at this
    cases this
  · exact e
theorem hard_end {P : Program} {o : Oper} {a : Act} {w : World} {Q : Exit → Act → World → Prop} {R : Act → World → Prop} (h : ∀ K : Act → World → Prop, Shut (∀ a' w', R a' w' → K a' w') → Oper.wp P o a w K Q) : Oper.wp P o a w R Q := h _ fun _ _ h => h
theorem own_off {w w' : World} {base sz n : Nat} {E : TypeId} {v : Value} {xs : List Value} (h : w.ownsRow base E sz v n xs) (hk : ∀ k, base ≤ k → w'.heap[k]? = w.heap[k]?) : w'.ownsRow base E sz v n xs := ⟨h.1, by
  rcases h.2 with h | ⟨g, cap, cur, e, hb, hg, r⟩
  · exact .inl h
  · exact .inr ⟨g, cap, cur, e, hb, (hk _ hb).trans hg, r⟩⟩
theorem more_fit {l : List Bo.Bd} {x : Bo.Bd} (hf : ∀ b ∈ l, b.Fit) (hx : x.Fit) : ∀ b ∈ [] ++ l ++ [x], b.Fit := fun b hb => by
  simp only [List.nil_append, List.mem_append, List.mem_cons, List.not_mem_nil, or_false] at hb
  rcases hb with hb | rfl
  · exact hf b hb
  · exact hx
theorem more_mem {l : List Bo.Bd} {x : Bo.Bd} : ∀ b ∈ l, b ∈ [] ++ l ++ [x] := fun b hb => by simp [hb]
theorem more_len {l : List Bo.Bd} {x : Bo.Bd} : l.length ≤ ([] ++ l ++ [x]).length := by simp

set_option maxRecDepth 100000 in
set_option maxHeartbeats 32000000 in
theorem walk (A0 : Option Addr) (n0 c0 : Nat) (k : Int) (rows : List Nat) (s : Sch) (A : Option Addr) (n c : Nat) (A1 : Option Addr) (n1 c1 : Nat) (A2 : Option Addr) (n2 c2 : Nat) (bd : Bo.Bd) (of : Bool) (w : World) (hr : Rd La.nm w w.heap.size A0 n0 c0 rows) (hrf : La.Fit rows) (h : SchAt w s A n c A1 n1 c1 A2 n2 c2) (hbf : bd.Fit) (hsum : n1 + n2 ≤ 9223372036854775807) :
    Calls Tryz.prog 7 #[.agg #[.slice A0 n0 c0, .int .i64 k, .int .i64 s.lv, .int .i64 s.ev, .slice A n c, .slice A1 n1 c1, .slice A2 n2 c2, .bool bd.av, .int .u64 (bd.an : Int), .bool bd.bv, .int .u64 (bd.bn : Int), .bool of]] w fun e w' => e = .returned (.bool true) ∧ Below w.heap.size w w' := by
  have HSA : Hid (∀ W, Below w.heap.size w W → SchAt W s A n c A1 n1 c1 A2 n2 c2) := Lib.hid fun W hW => h.keep hW
  have HBF := Lib.hid hbf
  have HG : Hid (∀ W : World, Calls Tryz.prog 28 #[schV s A n c A1 n1 c1 A2 n2 c2] W fun e w' => TellsB e (fun r => r = false → n1 + n2 ≤ 80) ∧ Below W.heap.size W w') := Lib.hid fun W => (great_any s A n c A1 n1 c1 A2 n2 c2 W (by have := h.l.cap; have := h.l.top; unfold maxLen at this; omega) (by have := h.e.cap; have := h.e.top; unfold maxLen at this; omega)).mono fun e w' ⟨⟨r, e1, e3⟩, e2⟩ => ⟨⟨r, e1, fun hr => (e3 hr).2 hsum⟩, e2⟩
  have HO1 : Hid (∀ (a b : Option Addr) (W : World), Below w.heap.size w W → Both W a b (laOf rows) (efOf k) → Calls Tryz.prog 24 #[schV s A n c A1 n1 c1 A2 n2 c2, .iface 52 (.pointer a), .iface 55 (.pointer b)] W fun e w' => ∃ x p q, e = .returned (.tuple #[Q4.v p, Q4.v q, .int .i64 x]) ∧ OfIs (laOf rows) (efOf k) s w' x p q ∧ Below W.heap.size W w') := Lib.hid fun a b W hW hbo => senOf_any s A n c A1 n1 c1 A2 n2 c2 a b _ _ W (HSA.out W hW) hbo (laOf_ok _) (efOf_ok _)
  have HR : Hid (∀ W, Below w.heap.size w W → Rd La.nm W W.heap.size A0 n0 c0 rows) := Lib.hid fun W hW => hr.at_size (Nat.le_refl _) hW
  have HRF := Lib.hid hrf
  have HPC : Hid (∀ W, Below w.heap.size w W → Calls Tryz.prog 12 #[zV A0 n0 c0 k] W fun e w' => ∃ a b, e = .returned (.tuple #[.iface 52 (.pointer a), .iface 55 (.pointer b)]) ∧ Both w' a b (laOf rows) (efOf k) ∧ Below W.heap.size W w') := Lib.hid fun W hW => of_sorts A0 n0 c0 k rows W (HR.out W hW) hrf
  obtain ⟨x1, hx1⟩ : ∃ x, w.alloc (.cells #[.slice A0 n0 c0, .int .i64 k, .int .i64 s.lv, .int .i64 s.ev, .slice A n c, .slice A1 n1 c1, .slice A2 n2 c2, .bool bd.av, .int .u64 (bd.an : Int), .bool bd.bv, .int .u64 (bd.bn : Int), .bool of] 82) = x := ⟨_, rfl⟩
  obtain ⟨x2, hx2⟩ : ∃ x, x1.alloc (.cells #[.slice A0 n0 c0, .int .i64 k] 24) = x := ⟨_, rfl⟩
  obtain ⟨x3, hx3⟩ : ∃ x, x2.alloc (.cells #[.int .i64 s.lv, .int .i64 s.ev, .slice A n c, .slice A1 n1 c1, .slice A2 n2 c2] 47) = x := ⟨_, rfl⟩
  obtain ⟨x4, hx4⟩ : ∃ x, x3.alloc (.cells #[.bool bd.av, .int .u64 (bd.an : Int), .bool bd.bv, .int .u64 (bd.bn : Int)] 80) = x := ⟨_, rfl⟩
  have b1 := below_on hx1
  have b2 := below_on hx2
  have b3 := below_on hx3
  have b4 := below_on hx4
  have c34 := b4
  have c24 := b3.trans (b4.mono b3.size)
  have c14 := b2.trans (c24.mono b2.size)
  have hb := b1.trans (c14.mono b1.size)
  have k0 := blk_on hx1 (Below.refl _ _)
  have k1 := blk_on hx1 b2
  have k2 := blk_on hx1 (b2.trans (b3.mono b2.size))
  have k3 := blk_on hx1 c14
  have k4 := blk_on hx2 c24
  have k5 := blk_on hx4 (Below.refl _ _)
  have s0 := (cell_blk (i := 0) k4).trans rfl
  have s1 := (cell_blk (i := 1) k4).trans rfl
  have HS0 := Lib.hid s0
  have HS1 := Lib.hid s1
  have HX := Lib.hid (box_on hx3 c34)
  have y0 := (cell_blk (i := 0) k5).trans rfl
  have y1 := (cell_blk (i := 1) k5).trans rfl
  have y2 := (cell_blk (i := 2) k5).trans rfl
  have y3 := (cell_blk (i := 3) k5).trans rfl
  have HY := Lib.hid (And.intro y0 (And.intro y1 (And.intro y2 y3)))
  have HB := Lib.hid hb
  have d0 := (cell_blk (i := 0) k0).trans rfl
  have d1 := (cell_blk (i := 1) k0).trans rfl
  have d2 := (cell_blk (i := 2) k1).trans rfl
  have d3 := (cell_blk (i := 3) k1).trans rfl
  have d4 := (cell_blk (i := 4) k1).trans rfl
  have d5 := (cell_blk (i := 5) k1).trans rfl
  have d6 := (cell_blk (i := 6) k1).trans rfl
  have d7 := (cell_blk (i := 7) k2).trans rfl
  have d8 := (cell_blk (i := 8) k2).trans rfl
  have d9 := (cell_blk (i := 9) k2).trans rfl
  have d10 := (cell_blk (i := 10) k2).trans rfl
  have d11 := (cell_blk (i := 11) k3).trans rfl
  have z0 := HX.out.z0
  have z1 := HX.out.z1
  have z2 := HX.out.z2
  have z3 := HX.out.z3
  have z4 := HX.out.z4
  clear b1 b2 b3 b4 c34 c24 c14 hb k0 k1 k2 k3 k4 k5 h hr hrf hbf hsum s1 s0 y0 y1 y2 y3
  unfold schV at HG HO1
  unfold zV at HPC
  go_enter Tryz.func7, Tryz.ntmps7
  go_wp2_with fail
  clear d0 d1 d2 d3 d4 d5 d6 d7 d8 d9 d10 d11 z0 z1 z2 z3 z4 hx1 hx2 hx3 hx4
  refine (HG.out _).mono ?_
  rintro e v3 ⟨⟨gr, rfl, hgr⟩, hv⟩
  have HGR := Lib.hid hgr
  have HV3 := Lib.hid hv
  clear hv HG hgr
  cases gr with
  | true =>
    have HBZ := Lib.hid (HB.out.trans (HV3.out.mono HB.out.size))
    go_wp2_with fail
    refine (lives_any _).mono ?_
    rintro e wz ⟨rfl, hv⟩
    have HZ := Lib.hid (HBZ.out.trans (hv.mono HBZ.out.size))
    clear hv
    go_wp2_with fail
    go_ret
    exact ⟨rfl, HZ.out⟩
  | false =>
  have HSUM := Lib.hid (HGR.out rfl)
  clear HGR
  have s0 := cell_old HS0.out HV3.out
  by_cases hbig : 100 < n0
  · have hbig' : (100 : Int) < (n0 : Int) := by omega
    have HBZ := Lib.hid (HB.out.trans (HV3.out.mono HB.out.size))
    clear hbig
    go_wp2_with fail
    refine (lives_any _).mono ?_
    rintro e wz ⟨rfl, hv⟩
    have HZ := Lib.hid (HBZ.out.trans (hv.mono HBZ.out.size))
    clear hv
    go_wp2_with fail
    go_ret
    exact ⟨rfl, HZ.out⟩
  have hbig' : ¬ (100 : Int) < (n0 : Int) := by omega
  have s1 := cell_old HS1.out HV3.out
  have hcp := HPC.out v3 (HB.out.trans (HV3.out.mono HB.out.size))
  have HCP := Lib.hid hcp
  clear hcp hbig HPC
  go_wp2_with fail
  refine HCP.out.mono ?_
  rintro e u0 ⟨a, b, rfl, hbo, hv⟩
  have HU0 := Lib.hid (HV3.out.trans (hv.mono HV3.out.size))
  have HBO0 := Lib.hid hbo
  clear hbo hv hbig' s0 s1 HCP HV3
  have hbx := HX.out.keep HU0.out
  have z0 := hbx.z0
  have z1 := hbx.z1
  have z2 := hbx.z2
  have z3 := hbx.z3
  have z4 := hbx.z4
  have hco := HO1.out a b u0 (HB.out.trans (HU0.out.mono HB.out.size)) HBO0.out
  have HCO := Lib.hid hco
  clear hbx hco HO1
  go_wp2_with fail
  refine HCO.out.mono ?_
  rintro e t1 ⟨er1, p1, q1, rfl, hof, hv⟩
  have HT := Lib.hid (HU0.out.trans (hv.mono HU0.out.size))
  have HBT := Lib.hid (HBO0.out.keep hv)
  clear hv z0 z1 z2 z3 z4 HCO HU0 HBO0
  simp only [Q4.v, senV]
  have h8 : B8q _ _ p1 q1 := B8.new t1 p1.A1 p1.n1 p1.c1 p1.A2 p1.n2 p1.c2 p1.A3 p1.n3 p1.c3 p1.A4 p1.n4 p1.c4 q1.A1 q1.n1 q1.c1 q1.A2 q1.n2 q1.c2 q1.A3 q1.n3 q1.c3 q1.A4 q1.n4 q1.c4
  have hal := two_below t1 (.cells #[.slice p1.A1 p1.n1 p1.c1, .slice p1.A2 p1.n2 p1.c2, .slice p1.A3 p1.n3 p1.c3, .slice p1.A4 p1.n4 p1.c4] 28) (.cells #[.slice q1.A1 q1.n1 q1.c1, .slice q1.A2 q1.n2 q1.c2, .slice q1.A3 q1.n3 q1.c3, .slice q1.A4 q1.n4 q1.c4] 28)
  obtain ⟨u1, hu1⟩ : ∃ u, (t1.alloc (.cells #[.slice p1.A1 p1.n1 p1.c1, .slice p1.A2 p1.n2 p1.c2, .slice p1.A3 p1.n3 p1.c3, .slice p1.A4 p1.n4 p1.c4] 28)).alloc (.cells #[.slice q1.A1 q1.n1 q1.c1, .slice q1.A2 q1.n2 q1.c2, .slice q1.A3 q1.n3 q1.c3, .slice q1.A4 q1.n4 q1.c4] 28) = u := ⟨_, rfl⟩
  rw [hu1] at h8 hal
  have HU1 := Lib.hid (HT.out.trans (hal.mono HT.out.size))
  have HBO1 := Lib.hid (HBT.out.keep hal)
  have H8_1 := Lib.hid h8
  have HOF1 := Lib.hid hof
  have HAL1 := Lib.hid hal
  clear h8 hal hof HT HBT
  obtain ⟨y, hy⟩ : ∃ y, u1.alloc (.cells #[.int .i64 s.lv, .int .i64 s.ev, .slice A n c, .slice A1 n1 c1, .slice A2 n2 c2] 47) = y := ⟨_, rfl⟩
  have by1 := below_on hy
  have kg := blk_on hy (Below.refl _ _)
  have hyU := HU1.out.trans (by1.mono HU1.out.size)
  have HYU := Lib.hid hyU
  have HKG := Lib.hid kg
  have HUY := Lib.hid by1
  have HSY := Lib.hid (show u1.heap.size < y.heap.size by rw [← hy, World.size_alloc]; omega)
  have hbx := HX.out.keep HU1.out
  have z0 := hbx.z0
  have z1 := hbx.z1
  have z2 := hbx.z2
  have z3 := hbx.z3
  have z4 := hbx.z4
  have HZ3 := Lib.hid z3
  have HZ4 := Lib.hid z4
  have HYY := Lib.hid (And.intro (cell_old HY.out.1 HU1.out) (And.intro (cell_old HY.out.2.1 HU1.out) (And.intro (cell_old HY.out.2.2.1 HU1.out) (cell_old HY.out.2.2.2 HU1.out))))
  have w3 := cell_old z3 by1
  have w4 := cell_old z4 by1
  have v0 := cell_old HY.out.1 hyU
  have v1 := cell_old HY.out.2.1 hyU
  have v2 := cell_old HY.out.2.2.1 hyU
  have v3' := cell_old HY.out.2.2.2 hyU
  clear by1 kg hyU hbx
  generalize x2.heap.size = gs at *
  generalize x3.heap.size = gb at *
  cases of with
  | true =>
    go_wp2_with fail
    refine Bo.wp_region_fork [0, 1, 3] 2 4 _ _ [4, 5, 6, 7] [2, 5, 6, 7] [2, 4, 5, 7] 8 (fun w' => w'.cell? ⟨gs, 3, none⟩ = some (.slice A1 n1 c1) ∧ w'.cell? ⟨gb, 0, none⟩ = some (.bool bd.av) ∧ w'.cell? ⟨gb, 1, none⟩ = some (.int .u64 (bd.an : Int)) ∧ w'.cell? ⟨gb, 2, none⟩ = some (.bool bd.bv) ∧ w'.cell? ⟨gb, 3, none⟩ = some (.int .u64 (bd.bn : Int))) (by kernel_rfl) (by kernel_rfl) rfl rfl rfl rfl (by kernel_rfl) (by kernel_rfl) (by kernel_rfl) (by kernel_rfl) (by kernel_rfl) (by kernel_rfl) (fun _ _ _ _ _ h => h) ⟨w3, v0, v1, v2, v3'⟩ ?_
    simp only [steps, List.getElem?_cons_zero, List.getElem?_cons_succ]
    repeat (
      refine Bo.soft_yes (v := ?_) rfl ?_ ?_
      rotate_left
      (focus (rintro w' ⟨hS0, hS1, hS2, hS3, hS4⟩; go_simp; try with_reducible rfl))
      simp only [Act.put, List.setIfInBounds_toArray, List.set_cons_zero, List.set_cons_succ])
    have hv : Below y.heap.size y y.drew := (Below.refl _ _).drew
    replace w3 := cell_old w3 hv
    replace v0 := cell_old v0 hv
    replace v1 := cell_old v1 hv
    replace v2 := cell_old v2 hv
    replace v3' := cell_old v3' hv
    have HYD := Lib.hid hv
    have hgd : u1.heap.size < y.drew.heap.size := Nat.lt_of_lt_of_le HSY.out hv.size
    have HGD := Lib.hid hgd
    have hsa := HSA.out y.drew (HB.out.trans ((HYU.out.trans (hv.mono HYU.out.size)).mono HB.out.size))
    have hrl := hsa.l
    clear hv hgd hsa hu1 hy z0 z1 z2 z3 z4 w4
    generalize y.drew = w5 at *
    refine Bo.soft_end ⟨?_, ?_⟩
    (focus (
      refine Bo.bd_append (.const (.slice none 0 0)) (.tmp 49) rfl w5.heap.size (.slice none 0 0) 0 [] rfl (World.ownsRow_nil _ _ _ _) _ A1 n1 c1 s.l rfl hrl (by have := HSUM.out; omega) (Nat.le_refl _) ?_
      intro A6 k6 c6 w6 hk6 ha6
      have h6 : Below w5.heap.size w5 w6 := (Below.refl _ w5).grown ha6.out.grown (Nat.le_refl _) (by simp [Value.ownBlock])
      refine ⟨⟨cell_old w3 h6, cell_old v0 h6, cell_old v1 h6, cell_old v2 h6, cell_old v3' h6⟩, ?_⟩
      simp only [Act.put, List.setIfInBounds_toArray, List.set_cons_zero, List.set_cons_succ]
      have h7 : Below w5.heap.size w5 (w6.alloc (.cells #[.bool bd.av, .int .u64 (bd.an : Int), .bool bd.bv, .int .u64 (bd.bn : Int)] 80)) := h6.alloc h6.size _
      have ho1 : Rs Bo.bdc 4 (w6.alloc (.cells #[.bool bd.av, .int .u64 (bd.an : Int), .bool bd.bv, .int .u64 (bd.bn : Int)] 80)) (w6.alloc (.cells #[.bool bd.av, .int .u64 (bd.an : Int), .bool bd.bv, .int .u64 (bd.bn : Int)] 80)).heap.size (some ⟨w6.heap.size, 0, none⟩) 1 1 [bd] := Rs.of_blk Bo.bdc_len (heap_alloc_new w6 _) ⟨[], rfl⟩ rfl (Nat.le_refl _) (by unfold maxLen; omega)
      have own6 := ha6.out.own.alloc (.cells #[.bool bd.av, .int .u64 (bd.an : Int), .bool bd.bv, .int .u64 (bd.bn : Int)] 80)
      refine ord_hard rfl rfl (fun K hK => ?_)
      go_simp
      refine hK.out _ _ (fun _ => ⟨cell_old w3 h7, cell_old v0 h7, cell_old v1 h7, cell_old v2 h7, cell_old v3' h7⟩) ?_
      clear hK K h6 ha6
      try simp only [Act.put, List.setIfInBounds_toArray, List.set_cons_zero, List.set_cons_succ]
      generalize w6.alloc (.cells #[.bool bd.av, .int .u64 (bd.an : Int), .bool bd.bv, .int .u64 (bd.bn : Int)] 80) = w7 at *))
    rotate_left
    (focus (
      have h6 : Below w5.heap.size w5 (w5.alloc (.cells #[.bool bd.av, .int .u64 (bd.an : Int), .bool bd.bv, .int .u64 (bd.bn : Int)] 80)) := (Below.refl _ _).alloc (Nat.le_refl _) _
      have ho0 : Rs Bo.bdc 4 (w5.alloc (.cells #[.bool bd.av, .int .u64 (bd.an : Int), .bool bd.bv, .int .u64 (bd.bn : Int)] 80)) (w5.alloc (.cells #[.bool bd.av, .int .u64 (bd.an : Int), .bool bd.bv, .int .u64 (bd.bn : Int)] 80)).heap.size (some ⟨w5.heap.size, 0, none⟩) 1 1 [bd] := Rs.of_blk Bo.bdc_len (heap_alloc_new w5 _) ⟨[], rfl⟩ rfl (Nat.le_refl _) (by unfold maxLen; omega)
      refine hard_end (fun K hK => ?_)
      go_simp
      refine hK.out _ _ ⟨⟨cell_old w3 h6, cell_old v0 h6, cell_old v1 h6, cell_old v2 h6, cell_old v3' h6⟩, ?_⟩
      clear hK K
      try simp only [Act.put, List.setIfInBounds_toArray, List.set_cons_zero, List.set_cons_succ]
      have hl6 := hrl.at_size (Nat.le_refl _) h6
      generalize w5.alloc (.cells #[.bool bd.av, .int .u64 (bd.an : Int), .bool bd.bv, .int .u64 (bd.bn : Int)] 80) = w6 at *
      refine ord_hard rfl rfl (fun K hK => ?_)
      refine Bo.bd_append (.const (.slice none 0 0)) (.tmp 49) rfl w5.heap.size (.slice none 0 0) 0 [] rfl (World.ownsRow_nil _ _ _ _) _ A1 n1 c1 s.l rfl hl6 (by have := HSUM.out; omega) h6.size ?_
      intro A6 k6 c6 w7 hk6 ha6
      have h7 : Below w5.heap.size w5 w7 := h6.grown ha6.out.grown h6.size (by simp [Value.ownBlock])
      have ho1 := ho0.at_size (Nat.le_refl _) ((Below.refl _ w6).grown ha6.out.grown (Nat.le_refl _) (by simp [Value.ownBlock]))
      have own6 := ha6.out.own
      refine hK.out _ _ (fun _ => ⟨cell_old w3 h7, cell_old v0 h7, cell_old v1 h7, cell_old v2 h7, cell_old v3' h7⟩) ?_
      clear hK K h6 ha6 ho0 hl6
      try simp only [Act.put, List.setIfInBounds_toArray, List.set_cons_zero, List.set_cons_succ]))
    all_goals (
      refine ord_hard rfl rfl (fun K hK => ?_)
      refine Bo.bd_append (.tmp 50) (.tmp 52) rfl w5.heap.size _ k6 _ rfl own6 _ _ 1 1 [bd] rfl ho1 (by have := HSUM.out; have := hk6.out; omega) h7.size ?_
      intro A8 k8 c8 w8 hk8 ha8
      have hv : Below w5.heap.size w5 w8 := h7.grown ha8.out.grown h7.size (fun j hj => (own6.lt j hj).1)
      have hg8 : w8.heap[u1.heap.size]? = some (.cells #[.int .i64 s.lv, .int .i64 s.ev, .slice A n c, .slice A1 n1 c1, .slice A2 n2 c2] 47 (0, 0)) := (hv.block u1.heap.size HGD.out).trans ((HYD.out.block u1.heap.size HSY.out).trans HKG.out)
      have tg := (cell_blk (i := 3) hg8).trans rfl
      have fg : w8.frozen? ⟨u1.heap.size, 3, none⟩ = false := frozen_blk hg8
      have hown := own_off (w' := w8.setCell ⟨u1.heap.size, 3, none⟩ (.slice A8 k8 c8)) ha8.out.own (fun k hk => Below.heap_setCell _ _ _ k (by have := HGD.out; show k ≠ u1.heap.size; omega))
      have hm := Rs.of_own Bo.bdc_len (by decide) hown
      have kg9 := set_blk (i := 3) hg8 (.slice A8 k8 c8)
      have hb9 : Below u1.heap.size u1 (w8.setCell ⟨u1.heap.size, 3, none⟩ (.slice A8 k8 c8)) := below_set (HUY.out.trans ((HYD.out.trans (hv.mono HYD.out.size)).mono HUY.out.size)) (Nat.le_refl _) _
      have HOWN := Lib.hid hm
      have HKG9 := Lib.hid kg9
      have HB9 := Lib.hid hb9
      refine hK.out _ _ (fun _ => ⟨cell_old w3 hv, cell_old v0 hv, cell_old v1 hv, cell_old v2 hv, cell_old v3' hv⟩) ?_
      clear hK K hown hm kg9 hb9 hg8 hk6 hk8 own6 ho1 h7 hrl ha8 hv w3 v0 v1 v2 v3'
      try simp only [Act.put, List.setIfInBounds_toArray, List.set_cons_zero, List.set_cons_succ]
      refine ord_yes (v := ?_) rfl rfl ?_ ?_
      rotate_left
      (focus (rintro w' ⟨hS0, hS1, hS2, hS3, hS4⟩; go_simp; try with_reducible rfl))
      simp only [Act.put, List.setIfInBounds_toArray, List.set_cons_zero, List.set_cons_succ]
      refine ord_hard rfl rfl (fun K hK => ?_)
      go_simp
      refine hK.out _ _ (fun _ => ⟨cell_old HZ3.out HB9.out, cell_old HYY.out.1 HB9.out, cell_old HYY.out.2.1 HB9.out, cell_old HYY.out.2.2.1 HB9.out, cell_old HYY.out.2.2.2 HB9.out⟩) ?_
      clear hK K tg fg
      try simp only [Act.put, List.setIfInBounds_toArray, List.set_cons_zero, List.set_cons_succ]
      refine ord_end ?_
      generalize w8.setCell ⟨u1.heap.size, 3, none⟩ (.slice A8 k8 c8) = w9 at *
      have kg9 := HKG9.out
      have z0 := (cell_blk (i := 0) kg9).trans rfl
      have z1 := (cell_blk (i := 1) kg9).trans rfl
      have z2 := (cell_blk (i := 2) kg9).trans rfl
      have z3 := (cell_blk (i := 3) kg9).trans rfl
      have z4 := (cell_blk (i := 4) kg9).trans rfl
      have hsa := HSA.out w9 (HB.out.trans ((HU1.out.trans (HB9.out.mono HU1.out.size)).mono HB.out.size))
      have hs2 : SchAt w9 ⟨s.lv, s.ev, s.b, [] ++ s.l ++ [bd], s.e⟩ A n c A8 k8 c8 A2 n2 c2 := ⟨hsa.b, hsa.bf, hsa.bt, HOWN.out, more_fit hsa.lf HBF.out, hsa.e, hsa.ef⟩
      have hco := senOf_any _ _ _ _ _ _ _ _ _ _ a b _ _ w9 hs2 (HBO1.out.keep HB9.out) (laOf_ok _) (efOf_ok _)
      unfold schV at hco
      have HCO := Lib.hid hco
      clear kg9 hsa hs2 hco
      go_wp2_with fail
      refine HCO.out.mono ?_
      rintro e t2 ⟨er2, p2, q2, rfl, hof, hv⟩
      have HK1 := Lib.hid (HB9.out.trans (hv.mono HB9.out.size))
      clear hv z0 z1 z2 z3 z4 HCO
      simp only [Q4.v, senV]
      have h8 : B8q _ _ p2 q2 := B8.new t2 p2.A1 p2.n1 p2.c1 p2.A2 p2.n2 p2.c2 p2.A3 p2.n3 p2.c3 p2.A4 p2.n4 p2.c4 q2.A1 q2.n1 q2.c1 q2.A2 q2.n2 q2.c2 q2.A3 q2.n3 q2.c3 q2.A4 q2.n4 q2.c4
      have hal := two_below t2 (.cells #[.slice p2.A1 p2.n1 p2.c1, .slice p2.A2 p2.n2 p2.c2, .slice p2.A3 p2.n3 p2.c3, .slice p2.A4 p2.n4 p2.c4] 28) (.cells #[.slice q2.A1 q2.n1 q2.c1, .slice q2.A2 q2.n2 q2.c2, .slice q2.A3 q2.n3 q2.c3, .slice q2.A4 q2.n4 q2.c4] 28)
      obtain ⟨u2, hu2⟩ : ∃ u, (t2.alloc (.cells #[.slice p2.A1 p2.n1 p2.c1, .slice p2.A2 p2.n2 p2.c2, .slice p2.A3 p2.n3 p2.c3, .slice p2.A4 p2.n4 p2.c4] 28)).alloc (.cells #[.slice q2.A1 q2.n1 q2.c1, .slice q2.A2 q2.n2 q2.c2, .slice q2.A3 q2.n3 q2.c3, .slice q2.A4 q2.n4 q2.c4] 28) = u := ⟨_, rfl⟩
      rw [hu2] at h8 hal
      have HK2 := Lib.hid (HK1.out.trans (hal.mono HK1.out.size))
      have HBO2 := Lib.hid (HBO1.out.keep HK2.out)
      have HB3 := Lib.hid (HB.out.trans ((HU1.out.trans (HK2.out.mono HU1.out.size)).mono HB.out.size))
      have H8A := Lib.hid (H8_1.out.keep HK2.out)
      have H8B := Lib.hid h8
      have HAL2 := Lib.hid hal
      clear h8 hal HK1
      rcases hof with ⟨hne0, -, -, -⟩ | ⟨h0, ql2, qe2, lo2, hi2, lo2', hi2', hok, hp2, hq2⟩
      · have hne2 : (er2 != 0) = true := by simpa using hne0
        clear hne0
        by_cases he1 : er1 = 0
        · subst he1
          go_wp2_with fail
          clear hu2
          refine (lives_any _).mono ?_
          rintro e wz ⟨rfl, hv⟩
          have HZ := Lib.hid (HB3.out.trans (hv.mono HB3.out.size))
          clear hv
          go_wp2_with fail
          go_ret
          exact ⟨rfl, HZ.out⟩
        · have hne1 : (er1 != 0) = true := by simpa using he1
          have heq1 : (er1 == 0) = false := by simpa using he1
          clear he1
          go_wp2_with fail
          clear hu2
          refine (lives_any _).mono ?_
          rintro e wz ⟨rfl, hv⟩
          have HZ := Lib.hid (HB3.out.trans (hv.mono HB3.out.size))
          clear hv
          go_wp2_with fail
          go_ret
          exact ⟨rfl, HZ.out⟩
      subst h0
      have he1 : er1 = 0 := of_back (b := s.b) (lv := s.lv) (ev := s.ev) (l := s.l) (m := s.e) more_mem more_len (fun _ h => h) (Nat.le_refl _) hok HOF1.out
      subst he1
      rcases HOF1.out with ⟨hne0, -, -, -⟩ | ⟨-, ql, qe, lo, hi, lo', hi', hok1, hp1, hq1⟩
      · exact absurd rfl hne0
      obtain rfl : ql2 = ql := by have e1 : s.lv = (ql2 : Int) := hok.lv; have e2 := hok1.lv; omega
      obtain rfl : qe2 = qe := by have e1 : s.ev = (qe2 : Int) := hok.ev; have e2 := hok1.ev; omega
      have HP1 := Lib.hid (hp1.keep (HAL1.out.trans (HK2.out.mono HAL1.out.size)))
      have HQ1 := Lib.hid (hq1.keep (HAL1.out.trans (HK2.out.mono HAL1.out.size)))
      have HP2 := Lib.hid (hp2.keep HAL2.out)
      have HQ2 := Lib.hid (hq2.keep HAL2.out)
      have HM1 := Lib.hid (show p1.n1 ≤ 100000 by rw [← hp1.rp.len]; exact Nat.le_trans (labB_len s.b) (by decide))
      have HN1 := Lib.hid (show q1.n1 ≤ 100000 by rw [← hq1.rp.len]; exact Nat.le_trans (effB_len s.b) (by decide))
      have HRA := Lib.hid (hok1.gl.more hok.gl more_mem (of_check hok1).1 (of_check hok1).2.2.1)
      have HRE := Lib.hid (hok1.ge.more hok.ge (fun _ h => h) (of_check hok1).2.1 (of_check hok1).2.2.2)
      clear hok hok1 hp1 hq1 hp2 hq2
      have HLP := Lib.hid (less_any _ _ p1 p2 _ _ u2 HBO2.out.sl.into HP1.out HP2.out HM1.out true HRA.out)
      have HLQ : Hid (∀ W, Below u2.heap.size u2 W → Calls Tryz.prog 15 #[.iface 55 (.pointer b), q1.v, q2.v] W fun e w' => e = .returned (.bool true) ∧ Below W.heap.size W w') := Lib.hid fun W hW => less_any _ _ q1 q2 _ _ W (HBO2.out.keep hW).sx.into (HQ1.out.keep hW) (HQ2.out.keep hW) HN1.out true HRE.out
      unfold Q4.v senV at HLP HLQ
      clear HP1 HP2 HQ1 HQ2 HRA HRE
      have y0 := H8A.out.p0
      have y1 := H8A.out.p1
      have y2 := H8A.out.p2
      have y3 := H8A.out.p3
      have x0 := H8B.out.p0
      have x1 := H8B.out.p1
      have x2 := H8B.out.p2
      have x3 := H8B.out.p3
      go_wp2_with fail
      clear hu2 y0 y1 y2 y3 x0 x1 x2 x3
      refine HLP.out.mono ?_
      rintro e f1 ⟨rfl, hv⟩
      have HF1 := Lib.hid hv
      clear hv
      have h8a := H8A.out.keep HF1.out
      have h8b := H8B.out.keep HF1.out
      have y0 := h8a.q0
      have y1 := h8a.q1
      have y2 := h8a.q2
      have y3 := h8a.q3
      have x0 := h8b.q0
      have x1 := h8b.q1
      have x2 := h8b.q2
      have x3 := h8b.q3
      clear h8a h8b
      go_wp2_with fail
      refine (HLQ.out _ HF1.out).mono ?_
      rintro e f2 ⟨rfl, hv⟩
      have HBZ := Lib.hid (HB3.out.trans ((HF1.out.trans (hv.mono HF1.out.size)).mono HB3.out.size))
      clear hv y0 y1 y2 y3 x0 x1 x2 x3
      go_wp2_with fail
      refine (lives_any _).mono ?_
      rintro e wz ⟨rfl, hv⟩
      have HZ := Lib.hid (HBZ.out.trans (hv.mono HBZ.out.size))
      clear hv
      go_wp2_with fail
      go_ret
      exact ⟨rfl, HZ.out⟩)
  | false =>
    go_wp2_with fail
    refine Bo.wp_region_fork [0, 1, 3] 2 4 _ _ [4, 5, 6, 7] [2, 5, 6, 7] [2, 4, 5, 7] 8 (fun w' => w'.cell? ⟨gs, 4, none⟩ = some (.slice A2 n2 c2) ∧ w'.cell? ⟨gb, 0, none⟩ = some (.bool bd.av) ∧ w'.cell? ⟨gb, 1, none⟩ = some (.int .u64 (bd.an : Int)) ∧ w'.cell? ⟨gb, 2, none⟩ = some (.bool bd.bv) ∧ w'.cell? ⟨gb, 3, none⟩ = some (.int .u64 (bd.bn : Int))) (by kernel_rfl) (by kernel_rfl) rfl rfl rfl rfl (by kernel_rfl) (by kernel_rfl) (by kernel_rfl) (by kernel_rfl) (by kernel_rfl) (by kernel_rfl) (fun _ _ _ _ _ h => h) ⟨w4, v0, v1, v2, v3'⟩ ?_
    simp only [steps, List.getElem?_cons_zero, List.getElem?_cons_succ]
    repeat (
      refine Bo.soft_yes (v := ?_) rfl ?_ ?_
      rotate_left
      (focus (rintro w' ⟨hS0, hS1, hS2, hS3, hS4⟩; go_simp; try with_reducible rfl))
      simp only [Act.put, List.setIfInBounds_toArray, List.set_cons_zero, List.set_cons_succ])
    have hv : Below y.heap.size y y.drew := (Below.refl _ _).drew
    replace w4 := cell_old w4 hv
    replace v0 := cell_old v0 hv
    replace v1 := cell_old v1 hv
    replace v2 := cell_old v2 hv
    replace v3' := cell_old v3' hv
    have HYD := Lib.hid hv
    have hgd : u1.heap.size < y.drew.heap.size := Nat.lt_of_lt_of_le HSY.out hv.size
    have HGD := Lib.hid hgd
    have hsa := HSA.out y.drew (HB.out.trans ((HYU.out.trans (hv.mono HYU.out.size)).mono HB.out.size))
    have hrl := hsa.e
    clear hv hgd hsa hu1 hy z0 z1 z2 z3 z4 w3
    generalize y.drew = w5 at *
    refine Bo.soft_end ⟨?_, ?_⟩
    (focus (
      refine Bo.bd_append (.const (.slice none 0 0)) (.tmp 56) rfl w5.heap.size (.slice none 0 0) 0 [] rfl (World.ownsRow_nil _ _ _ _) _ A2 n2 c2 s.e rfl hrl (by have := HSUM.out; omega) (Nat.le_refl _) ?_
      intro A6 k6 c6 w6 hk6 ha6
      have h6 : Below w5.heap.size w5 w6 := (Below.refl _ w5).grown ha6.out.grown (Nat.le_refl _) (by simp [Value.ownBlock])
      refine ⟨⟨cell_old w4 h6, cell_old v0 h6, cell_old v1 h6, cell_old v2 h6, cell_old v3' h6⟩, ?_⟩
      simp only [Act.put, List.setIfInBounds_toArray, List.set_cons_zero, List.set_cons_succ]
      have h7 : Below w5.heap.size w5 (w6.alloc (.cells #[.bool bd.av, .int .u64 (bd.an : Int), .bool bd.bv, .int .u64 (bd.bn : Int)] 80)) := h6.alloc h6.size _
      have ho1 : Rs Bo.bdc 4 (w6.alloc (.cells #[.bool bd.av, .int .u64 (bd.an : Int), .bool bd.bv, .int .u64 (bd.bn : Int)] 80)) (w6.alloc (.cells #[.bool bd.av, .int .u64 (bd.an : Int), .bool bd.bv, .int .u64 (bd.bn : Int)] 80)).heap.size (some ⟨w6.heap.size, 0, none⟩) 1 1 [bd] := Rs.of_blk Bo.bdc_len (heap_alloc_new w6 _) ⟨[], rfl⟩ rfl (Nat.le_refl _) (by unfold maxLen; omega)
      have own6 := ha6.out.own.alloc (.cells #[.bool bd.av, .int .u64 (bd.an : Int), .bool bd.bv, .int .u64 (bd.bn : Int)] 80)
      refine ord_hard rfl rfl (fun K hK => ?_)
      go_simp
      refine hK.out _ _ (fun _ => ⟨cell_old w4 h7, cell_old v0 h7, cell_old v1 h7, cell_old v2 h7, cell_old v3' h7⟩) ?_
      clear hK K h6 ha6
      try simp only [Act.put, List.setIfInBounds_toArray, List.set_cons_zero, List.set_cons_succ]
      generalize w6.alloc (.cells #[.bool bd.av, .int .u64 (bd.an : Int), .bool bd.bv, .int .u64 (bd.bn : Int)] 80) = w7 at *))
    rotate_left
    (focus (
      have h6 : Below w5.heap.size w5 (w5.alloc (.cells #[.bool bd.av, .int .u64 (bd.an : Int), .bool bd.bv, .int .u64 (bd.bn : Int)] 80)) := (Below.refl _ _).alloc (Nat.le_refl _) _
      have ho0 : Rs Bo.bdc 4 (w5.alloc (.cells #[.bool bd.av, .int .u64 (bd.an : Int), .bool bd.bv, .int .u64 (bd.bn : Int)] 80)) (w5.alloc (.cells #[.bool bd.av, .int .u64 (bd.an : Int), .bool bd.bv, .int .u64 (bd.bn : Int)] 80)).heap.size (some ⟨w5.heap.size, 0, none⟩) 1 1 [bd] := Rs.of_blk Bo.bdc_len (heap_alloc_new w5 _) ⟨[], rfl⟩ rfl (Nat.le_refl _) (by unfold maxLen; omega)
      refine hard_end (fun K hK => ?_)
      go_simp
      refine hK.out _ _ ⟨⟨cell_old w4 h6, cell_old v0 h6, cell_old v1 h6, cell_old v2 h6, cell_old v3' h6⟩, ?_⟩
      clear hK K
      try simp only [Act.put, List.setIfInBounds_toArray, List.set_cons_zero, List.set_cons_succ]
      have hl6 := hrl.at_size (Nat.le_refl _) h6
      generalize w5.alloc (.cells #[.bool bd.av, .int .u64 (bd.an : Int), .bool bd.bv, .int .u64 (bd.bn : Int)] 80) = w6 at *
      refine ord_hard rfl rfl (fun K hK => ?_)
      refine Bo.bd_append (.const (.slice none 0 0)) (.tmp 56) rfl w5.heap.size (.slice none 0 0) 0 [] rfl (World.ownsRow_nil _ _ _ _) _ A2 n2 c2 s.e rfl hl6 (by have := HSUM.out; omega) h6.size ?_
      intro A6 k6 c6 w7 hk6 ha6
      have h7 : Below w5.heap.size w5 w7 := h6.grown ha6.out.grown h6.size (by simp [Value.ownBlock])
      have ho1 := ho0.at_size (Nat.le_refl _) ((Below.refl _ w6).grown ha6.out.grown (Nat.le_refl _) (by simp [Value.ownBlock]))
      have own6 := ha6.out.own
      refine hK.out _ _ (fun _ => ⟨cell_old w4 h7, cell_old v0 h7, cell_old v1 h7, cell_old v2 h7, cell_old v3' h7⟩) ?_
      clear hK K h6 ha6 ho0 hl6
      try simp only [Act.put, List.setIfInBounds_toArray, List.set_cons_zero, List.set_cons_succ]))
    all_goals (
      refine ord_hard rfl rfl (fun K hK => ?_)
      refine Bo.bd_append (.tmp 57) (.tmp 59) rfl w5.heap.size _ k6 _ rfl own6 _ _ 1 1 [bd] rfl ho1 (by have := HSUM.out; have := hk6.out; omega) h7.size ?_
      intro A8 k8 c8 w8 hk8 ha8
      have hv : Below w5.heap.size w5 w8 := h7.grown ha8.out.grown h7.size (fun j hj => (own6.lt j hj).1)
      have hg8 : w8.heap[u1.heap.size]? = some (.cells #[.int .i64 s.lv, .int .i64 s.ev, .slice A n c, .slice A1 n1 c1, .slice A2 n2 c2] 47 (0, 0)) := (hv.block u1.heap.size HGD.out).trans ((HYD.out.block u1.heap.size HSY.out).trans HKG.out)
      have tg := (cell_blk (i := 4) hg8).trans rfl
      have fg : w8.frozen? ⟨u1.heap.size, 4, none⟩ = false := frozen_blk hg8
      have hown := own_off (w' := w8.setCell ⟨u1.heap.size, 4, none⟩ (.slice A8 k8 c8)) ha8.out.own (fun k hk => Below.heap_setCell _ _ _ k (by have := HGD.out; show k ≠ u1.heap.size; omega))
      have hm := Rs.of_own Bo.bdc_len (by decide) hown
      have kg9 := set_blk (i := 4) hg8 (.slice A8 k8 c8)
      have hb9 : Below u1.heap.size u1 (w8.setCell ⟨u1.heap.size, 4, none⟩ (.slice A8 k8 c8)) := below_set (HUY.out.trans ((HYD.out.trans (hv.mono HYD.out.size)).mono HUY.out.size)) (Nat.le_refl _) _
      have HOWN := Lib.hid hm
      have HKG9 := Lib.hid kg9
      have HB9 := Lib.hid hb9
      refine hK.out _ _ (fun _ => ⟨cell_old w4 hv, cell_old v0 hv, cell_old v1 hv, cell_old v2 hv, cell_old v3' hv⟩) ?_
      clear hK K hown hm kg9 hb9 hg8 hk6 hk8 own6 ho1 h7 hrl ha8 hv w4 v0 v1 v2 v3'
      try simp only [Act.put, List.setIfInBounds_toArray, List.set_cons_zero, List.set_cons_succ]
      refine ord_yes (v := ?_) rfl rfl ?_ ?_
      rotate_left
      (focus (rintro w' ⟨hS0, hS1, hS2, hS3, hS4⟩; go_simp; try with_reducible rfl))
      simp only [Act.put, List.setIfInBounds_toArray, List.set_cons_zero, List.set_cons_succ]
      refine ord_hard rfl rfl (fun K hK => ?_)
      go_simp
      refine hK.out _ _ (fun _ => ⟨cell_old HZ4.out HB9.out, cell_old HYY.out.1 HB9.out, cell_old HYY.out.2.1 HB9.out, cell_old HYY.out.2.2.1 HB9.out, cell_old HYY.out.2.2.2 HB9.out⟩) ?_
      clear hK K tg fg
      try simp only [Act.put, List.setIfInBounds_toArray, List.set_cons_zero, List.set_cons_succ]
      refine ord_end ?_
      generalize w8.setCell ⟨u1.heap.size, 4, none⟩ (.slice A8 k8 c8) = w9 at *
      have kg9 := HKG9.out
      have z0 := (cell_blk (i := 0) kg9).trans rfl
      have z1 := (cell_blk (i := 1) kg9).trans rfl
      have z2 := (cell_blk (i := 2) kg9).trans rfl
      have z3 := (cell_blk (i := 3) kg9).trans rfl
      have z4 := (cell_blk (i := 4) kg9).trans rfl
      have hsa := HSA.out w9 (HB.out.trans ((HU1.out.trans (HB9.out.mono HU1.out.size)).mono HB.out.size))
      have hs2 : SchAt w9 ⟨s.lv, s.ev, s.b, s.l, [] ++ s.e ++ [bd]⟩ A n c A1 n1 c1 A8 k8 c8 := ⟨hsa.b, hsa.bf, hsa.bt, hsa.l, hsa.lf, HOWN.out, more_fit hsa.ef HBF.out⟩
      have hco := senOf_any _ _ _ _ _ _ _ _ _ _ a b _ _ w9 hs2 (HBO1.out.keep HB9.out) (laOf_ok _) (efOf_ok _)
      unfold schV at hco
      have HCO := Lib.hid hco
      clear kg9 hsa hs2 hco
      go_wp2_with fail
      refine HCO.out.mono ?_
      rintro e t2 ⟨er2, p2, q2, rfl, hof, hv⟩
      have HK1 := Lib.hid (HB9.out.trans (hv.mono HB9.out.size))
      clear hv z0 z1 z2 z3 z4 HCO
      simp only [Q4.v, senV]
      have h8 : B8q _ _ p2 q2 := B8.new t2 p2.A1 p2.n1 p2.c1 p2.A2 p2.n2 p2.c2 p2.A3 p2.n3 p2.c3 p2.A4 p2.n4 p2.c4 q2.A1 q2.n1 q2.c1 q2.A2 q2.n2 q2.c2 q2.A3 q2.n3 q2.c3 q2.A4 q2.n4 q2.c4
      have hal := two_below t2 (.cells #[.slice p2.A1 p2.n1 p2.c1, .slice p2.A2 p2.n2 p2.c2, .slice p2.A3 p2.n3 p2.c3, .slice p2.A4 p2.n4 p2.c4] 28) (.cells #[.slice q2.A1 q2.n1 q2.c1, .slice q2.A2 q2.n2 q2.c2, .slice q2.A3 q2.n3 q2.c3, .slice q2.A4 q2.n4 q2.c4] 28)
      obtain ⟨u2, hu2⟩ : ∃ u, (t2.alloc (.cells #[.slice p2.A1 p2.n1 p2.c1, .slice p2.A2 p2.n2 p2.c2, .slice p2.A3 p2.n3 p2.c3, .slice p2.A4 p2.n4 p2.c4] 28)).alloc (.cells #[.slice q2.A1 q2.n1 q2.c1, .slice q2.A2 q2.n2 q2.c2, .slice q2.A3 q2.n3 q2.c3, .slice q2.A4 q2.n4 q2.c4] 28) = u := ⟨_, rfl⟩
      rw [hu2] at h8 hal
      have HK2 := Lib.hid (HK1.out.trans (hal.mono HK1.out.size))
      have HBO2 := Lib.hid (HBO1.out.keep HK2.out)
      have HB3 := Lib.hid (HB.out.trans ((HU1.out.trans (HK2.out.mono HU1.out.size)).mono HB.out.size))
      have H8A := Lib.hid (H8_1.out.keep HK2.out)
      have H8B := Lib.hid h8
      have HAL2 := Lib.hid hal
      clear h8 hal HK1
      rcases hof with ⟨hne0, -, -, -⟩ | ⟨h0, ql2, qe2, lo2, hi2, lo2', hi2', hok, hp2, hq2⟩
      · have hne2 : (er2 != 0) = true := by simpa using hne0
        clear hne0
        by_cases he1 : er1 = 0
        · subst he1
          go_wp2_with fail
          clear hu2
          refine (lives_any _).mono ?_
          rintro e wz ⟨rfl, hv⟩
          have HZ := Lib.hid (HB3.out.trans (hv.mono HB3.out.size))
          clear hv
          go_wp2_with fail
          go_ret
          exact ⟨rfl, HZ.out⟩
        · have hne1 : (er1 != 0) = true := by simpa using he1
          have heq1 : (er1 == 0) = false := by simpa using he1
          clear he1
          go_wp2_with fail
          clear hu2
          refine (lives_any _).mono ?_
          rintro e wz ⟨rfl, hv⟩
          have HZ := Lib.hid (HB3.out.trans (hv.mono HB3.out.size))
          clear hv
          go_wp2_with fail
          go_ret
          exact ⟨rfl, HZ.out⟩
      subst h0
      have he1 : er1 = 0 := of_back (b := s.b) (lv := s.lv) (ev := s.ev) (l := s.l) (m := s.e) (fun _ h => h) (Nat.le_refl _) more_mem more_len hok HOF1.out
      subst he1
      rcases HOF1.out with ⟨hne0, -, -, -⟩ | ⟨-, ql, qe, lo, hi, lo', hi', hok1, hp1, hq1⟩
      · exact absurd rfl hne0
      obtain rfl : ql2 = ql := by have e1 : s.lv = (ql2 : Int) := hok.lv; have e2 := hok1.lv; omega
      obtain rfl : qe2 = qe := by have e1 : s.ev = (qe2 : Int) := hok.ev; have e2 := hok1.ev; omega
      have HP1 := Lib.hid (hp1.keep (HAL1.out.trans (HK2.out.mono HAL1.out.size)))
      have HQ1 := Lib.hid (hq1.keep (HAL1.out.trans (HK2.out.mono HAL1.out.size)))
      have HP2 := Lib.hid (hp2.keep HAL2.out)
      have HQ2 := Lib.hid (hq2.keep HAL2.out)
      have HM1 := Lib.hid (show p1.n1 ≤ 100000 by rw [← hp1.rp.len]; exact Nat.le_trans (labB_len s.b) (by decide))
      have HN1 := Lib.hid (show q1.n1 ≤ 100000 by rw [← hq1.rp.len]; exact Nat.le_trans (effB_len s.b) (by decide))
      have HRA := Lib.hid (hok1.gl.more hok.gl (fun _ h => h) (of_check hok1).1 (of_check hok1).2.2.1)
      have HRE := Lib.hid (hok1.ge.more hok.ge more_mem (of_check hok1).2.1 (of_check hok1).2.2.2)
      clear hok hok1 hp1 hq1 hp2 hq2
      have HLP := Lib.hid (less_any _ _ p1 p2 _ _ u2 HBO2.out.sl.into HP1.out HP2.out HM1.out true HRA.out)
      have HLQ : Hid (∀ W, Below u2.heap.size u2 W → Calls Tryz.prog 15 #[.iface 55 (.pointer b), q1.v, q2.v] W fun e w' => e = .returned (.bool true) ∧ Below W.heap.size W w') := Lib.hid fun W hW => less_any _ _ q1 q2 _ _ W (HBO2.out.keep hW).sx.into (HQ1.out.keep hW) (HQ2.out.keep hW) HN1.out true HRE.out
      unfold Q4.v senV at HLP HLQ
      clear HP1 HP2 HQ1 HQ2 HRA HRE
      have y0 := H8A.out.p0
      have y1 := H8A.out.p1
      have y2 := H8A.out.p2
      have y3 := H8A.out.p3
      have x0 := H8B.out.p0
      have x1 := H8B.out.p1
      have x2 := H8B.out.p2
      have x3 := H8B.out.p3
      go_wp2_with fail
      clear hu2 y0 y1 y2 y3 x0 x1 x2 x3
      refine HLP.out.mono ?_
      rintro e f1 ⟨rfl, hv⟩
      have HF1 := Lib.hid hv
      clear hv
      have h8a := H8A.out.keep HF1.out
      have h8b := H8B.out.keep HF1.out
      have y0 := h8a.q0
      have y1 := h8a.q1
      have y2 := h8a.q2
      have y3 := h8a.q3
      have x0 := h8b.q0
      have x1 := h8b.q1
      have x2 := h8b.q2
      have x3 := h8b.q3
      clear h8a h8b
      go_wp2_with fail
      refine (HLQ.out _ HF1.out).mono ?_
      rintro e f2 ⟨rfl, hv⟩
      have HBZ := Lib.hid (HB3.out.trans ((HF1.out.trans (hv.mono HF1.out.size)).mono HB3.out.size))
      clear hv y0 y1 y2 y3 x0 x1 x2 x3
      go_wp2_with fail
      refine (lives_any _).mono ?_
      rintro e wz ⟨rfl, hv⟩
      have HZ := Lib.hid (HBZ.out.trans (hv.mono HBZ.out.size))
      clear hv
      go_wp2_with fail
      go_ret
      exact ⟨rfl, HZ.out⟩)

section
variable {Hx : Type} {enc : TypeId × Value → Hx} {W : World}
theorem c82 : Tryz.prog.cellsOf 82 = 12 := by kernel_rfl
theorem c80 : Tryz.prog.cellsOf 80 = 4 := by kernel_rfl
theorem c4 : Tryz.prog.cellsOf 4 = 1 := by kernel_rfl
theorem bytes80 : Tryz.prog.bytesOf 80 = 32 := by kernel_rfl
theorem open_sor {m : Nat} {cs : List Value} {y : DataW Hx × List MemPlace} (h : DataW.trod enc Tryz.prog W 0 (fun _ => true) true m 24 cs = some y) :
    ∃ (a0 : Option Addr) (len0 cap0 : Nat) (k : Int) (l : List Nat), cs = [.slice a0 len0 cap0, .int .i64 k] ∧ Rd La.nm W W.heap.size a0 len0 cap0 l ∧ La.Fit l := by
  obtain ⟨a0, n, c, k, l, e, hr, hf⟩ := opened_sorts (v := .agg cs.toArray) (d := y.1) (p := y.2) ⟨m, by simpa [Value.cells] using h⟩
  unfold zV at e
  injection e with e
  have e2 := congrArg Array.toList e
  exact ⟨a0, n, c, k, l, by simpa using e2, hr, hf⟩
/-- A row of bounds weighs what its length weighs. -/
theorem weigh_bds {m : Nat} {A : Option Addr} {n c : Nat} {y : DataW Hx × List MemPlace} (h : DataW.trod enc Tryz.prog W 0 (fun _ => true) true m 45 [.slice A n c] = some y) : n = 0 ∨ ∃ x ∈ y.1.weights Tryz.prog 45, n * 32 ≤ x := by
  rcases Go.Deep.open_slice Tryz.underlying45 h with ⟨hcs, _⟩ | ⟨x, l', c', m', k', D, Pl, hcs, _, hl, hm, hmm, hy, hx⟩
  · injection hcs with e _
    injection e with e1 e2 e3
    exact .inl e2
  · injection hcs with e _
    injection e with e1 e2 e3
    subst e1 e2 e3
    refine .inr ⟨(((List.range n).map D).length + ((List.range (m' - n)).map fun j => D (n + j)).length) * Tryz.prog.bytesOf 80, ?_, ?_⟩
    · rw [hy]
      simp [DataW.weights, Tryz.underlying45]
    · rw [bytes80]
      simp only [List.length_map, List.length_range]
      exact Nat.mul_le_mul_right 32 (Nat.le_add_right _ _)
theorem twelve {α : Type} {l : List α} (h : l.length = 12) : l = l.take 2 ++ ((l.drop 2).take 5 ++ ((l.drop 7).take 4 ++ (l.drop 11).take 1)) := by
  have e1 : l = l.take 2 ++ l.drop 2 := (List.take_append_drop 2 l).symm
  have e2 : l.drop 2 = (l.drop 2).take 5 ++ (l.drop 7) := by
    have := (List.take_append_drop 5 (l.drop 2)).symm
    rwa [List.drop_drop] at this
  have e3 : l.drop 7 = (l.drop 7).take 4 ++ (l.drop 11) := by
    have := (List.take_append_drop 4 (l.drop 7)).symm
    rwa [List.drop_drop] at this
  have e4 : (l.drop 11).take 1 = l.drop 11 := List.take_of_length_le (by simp; omega)
  rw [e4, ← e3, ← e2, ← e1]
/-- A scheme, and what it weighs. -/
theorem open_schW {m : Nat} {cs : List Value} {x : DataW Hx × List MemPlace} (h : DataW.trod enc Tryz.prog W 0 (fun _ => true) true m 47 cs = some x) :
    ∃ (s : Sch) (A : Option Addr) (n c : Nat) (A1 : Option Addr) (n1 c1 : Nat) (A2 : Option Addr) (n2 c2 : Nat), cs = [.int .i64 s.lv, .int .i64 s.ev, .slice A n c, .slice A1 n1 c1, .slice A2 n2 c2] ∧ SchAt W s A n c A1 n1 c1 A2 n2 c2 ∧ (n1 = 0 ∨ ∃ y ∈ x.1.weights Tryz.prog 47, n1 * 32 ≤ y) ∧ (n2 = 0 ∨ ∃ y ∈ x.1.weights Tryz.prog 47, n2 * 32 ≤ y) := by
  obtain ⟨s, A, n, c, A1, n1, c1, A2, n2, c2, e, hS, -, -⟩ := opened_scheme (v := .agg cs.toArray) (d := x.1) (p := x.2) ⟨m, by simpa [Value.cells] using h⟩
  unfold schV at e
  injection e with e
  have e2 := congrArg Array.toList e
  have ec : cs = [.int .i64 s.lv, .int .i64 s.ev, .slice A n c, .slice A1 n1 c1, .slice A2 n2 c2] := by simpa using e2
  refine ⟨s, A, n, c, A1, n1, c1, A2, n2, c2, ec, hS, ?_⟩
  obtain ⟨xs, m', _, hx, hl', hlen, hf⟩ := DataW.trod_struct Tryz.underlying47 h
  match xs, hlen with
  | [y0, y1, y2, y3, y4], _ =>
    have h3 : DataW.trod enc Tryz.prog W 0 (fun _ => true) true m' 45 (List.take (Tryz.prog.cellsOf 45) (List.drop 3 cs)) = some y3 := hf 3 _ rfl
    have h4 : DataW.trod enc Tryz.prog W 0 (fun _ => true) true m' 45 (List.take (Tryz.prog.cellsOf 45) (List.drop 4 cs)) = some y4 := hf 4 _ rfl
    rw [cBnds, ec] at h3 h4
    have mem : ∀ (j : Nat) (d : DataW Hx), ([y0.1, y1.1, y2.1, y3.1, y4.1] : List (DataW Hx))[j]? = some d → ([3, 3, 44, 45, 45] : List Nat)[j]? = some 45 → ∀ y ∈ d.weights Tryz.prog 45, y ∈ x.1.weights Tryz.prog 47 := fun j d hd ht y hy => by
      rw [show x.1 = .agg [y0.1, y1.1, y2.1, y3.1, y4.1] from by rw [hx]; rfl]
      simp only [DataW.weights, Tryz.underlying47]
      exact DataW.weights_mem_each (j := j) (t := 45) (d := d) ht hd _ hy
    constructor
    · rcases weigh_bds h3 with e | ⟨y, hy, hy2⟩
      · exact .inl e
      · exact .inr ⟨y, mem 3 _ rfl rfl y hy, hy2⟩
    · rcases weigh_bds h4 with e | ⟨y, hy, hy2⟩
      · exact .inl e
      · exact .inr ⟨y, mem 4 _ rfl rfl y hy, hy2⟩
theorem open_bdL {m : Nat} {cs : List Value} {y : DataW Hx × List MemPlace} (h : DataW.trod enc Tryz.prog W 0 (fun _ => true) true m 80 cs = some y) : ∃ b : Bo.Bd, cs = [.bool b.av, .int .u64 (b.an : Int), .bool b.bv, .int .u64 (b.bn : Int)] ∧ b.Fit := by
  obtain ⟨b, e, hf⟩ := Bo.open_bd h
  exact ⟨b, e, hf⟩
theorem opened_bounded {v : Value} {d : DataW Hx} {p : List MemPlace} (h : DataW.Trod enc Tryz.prog W 0 (fun _ => true) true 82 v d p) (hw : ∀ y ∈ d.weights Tryz.prog 82, y ≤ 140737488351232) :
    ∃ (A0 : Option Addr) (n0 c0 : Nat) (k : Int) (rows : List Nat) (s : Sch) (A : Option Addr) (n c : Nat) (A1 : Option Addr) (n1 c1 : Nat) (A2 : Option Addr) (n2 c2 : Nat) (bd : Bo.Bd) (of : Bool), v = .agg #[.slice A0 n0 c0, .int .i64 k, .int .i64 s.lv, .int .i64 s.ev, .slice A n c, .slice A1 n1 c1, .slice A2 n2 c2, .bool bd.av, .int .u64 (bd.an : Int), .bool bd.bv, .int .u64 (bd.bn : Int), .bool of] ∧ Rd La.nm W W.heap.size A0 n0 c0 rows ∧ La.Fit rows ∧ SchAt W s A n c A1 n1 c1 A2 n2 c2 ∧ bd.Fit ∧ n1 + n2 ≤ 9223372036854775807 := by
  obtain ⟨fuel, h⟩ := h
  obtain ⟨xs, m, _, hx, hl, hlen, hf⟩ := DataW.trod_struct Tryz.underlying82 h
  rw [c82] at hl
  match xs, hlen with
  | [y0, y1, y2, y3], _ =>
    have h0 : DataW.trod enc Tryz.prog W 0 (fun _ => true) true m 24 (List.take (Tryz.prog.cellsOf 24) (List.drop 0 v.cells.toList)) = some y0 := hf 0 _ rfl
    have h1 : DataW.trod enc Tryz.prog W 0 (fun _ => true) true m 47 (List.take (Tryz.prog.cellsOf 47) (List.drop 2 v.cells.toList)) = some y1 := hf 1 _ rfl
    have h2 : DataW.trod enc Tryz.prog W 0 (fun _ => true) true m 80 (List.take (Tryz.prog.cellsOf 80) (List.drop 7 v.cells.toList)) = some y2 := hf 2 _ rfl
    have h3 : DataW.trod enc Tryz.prog W 0 (fun _ => true) true m 4 (List.take (Tryz.prog.cellsOf 4) (List.drop 11 v.cells.toList)) = some y3 := hf 3 _ rfl
    rw [c31s] at h0
    rw [c25] at h1
    rw [c80] at h2
    rw [c4] at h3
    obtain ⟨A0, n0, c0, k, rows, e0, hr, hrf⟩ := open_sor h0
    obtain ⟨s, A, n, c, A1, n1, c1, A2, n2, c2, e1, hS, g1, g2⟩ := open_schW h1
    obtain ⟨bd, e2, hbf⟩ := open_bdL h2
    obtain ⟨of, e3, _⟩ := DataW.trod_bool Tryz.underlying4 h3
    have e := twelve hl
    rw [List.drop_zero] at e0
    rw [e0, e1, e2, e3] at e
    have hd : d = .agg [y0.1, y1.1, y2.1, y3.1] := by
      injection hx
    have wb : ∀ y ∈ y1.1.weights Tryz.prog 47, y ≤ 140737488351232 := fun y hy => hw y (by
      rw [hd]
      simp only [DataW.weights, Tryz.underlying82]
      exact DataW.weights_mem_each (j := 1) (t := 47) (d := y1.1) rfl rfl _ hy)
    have b1 : n1 * 32 ≤ 140737488351232 := by
      rcases g1 with e | ⟨y, hy, h⟩
      · omega
      · exact Nat.le_trans h (wb y hy)
    have b2 : n2 * 32 ≤ 140737488351232 := by
      rcases g2 with e | ⟨y, hy, h⟩
      · omega
      · exact Nat.le_trans h (wb y hy)
    exact ⟨A0, n0, c0, k, rows, s, A, n, c, A1, n1, c1, A2, n2, c2, bd, of, Bo.agg_of e, hr, hrf, hS, hbf, by omega⟩
end

theorem own : ownKnob Tryz.prog.godebug = none := by kernel_rfl
theorem laidOut : laidOutB Tryz.prog = true := by kernel_rfl

set_option maxRecDepth 100000 in
theorem lifted (os : Os) (started : os.Started) (H : Type) (enc : TypeId × Value → H) :
    ReturnsInHanded {} Tryz.checked os 7 .any (Rows.sensesBoundSpec.pre6 enc Tryz.prog Tryz.f7 Rows.sensesBoundRow.domain false) (Rows.sensesBoundSpec.post enc Tryz.prog Tryz.f7 false true false false) := by
  refine returnsInHanded_of_change_sized (C := Tryz.checked) own started (by kernel_rfl) Tryz.func7
    (ChangeSpec.witness6 (enc := enc) (C := Tryz.checked) false ⟨#[], #[.agg #[.slice none 0 0, .int .i64 0, .int .i64 0, .int .i64 0, .slice none 0 0, .slice none 0 0, .slice none 0 0, .bool false, .int .u64 0, .bool false, .int .u64 0, .bool false]], []⟩ 8 (by kernel_rfl) (by kernel_rfl) (by kernel_rfl) (by kernel_rfl)) ?_
  intro W base args ds gs before hval0 hW hcnd hsz0 _
  have hval : ∀ (j : Nat) t v, Tryz.f7.params[j]? = some t → args[j]? = some v → Value.okWide Tryz.prog W .any base t v := hval0
  have hW' := hW
  obtain ⟨p, q, hA0, hV, rfl, hfz, hnd⟩ := hW
  have hA : DataW.TrodAll enc Tryz.prog W 0 (fun _ => true) true Tryz.f7.params.toList args.toList ds p := hA0
  have hsz : (DataW.weightsEach Tryz.prog (Tryz.f7.params.toList ++ Rows.sensesBoundSpec.plain.varTypes Tryz.prog) (ds ++ gs)).all (· ≤ reachBytes) = true := hsz0
  rw [Tryz.params7] at hA hval hsz
  obtain ⟨v0, vs0, d0, ds0, p0, q0, hargs, rfl, rfl, h0, r0⟩ := trodAll_cons hA
  obtain ⟨rfl, rfl, rfl⟩ := trodAll_nil r0
  obtain rfl : args = #[v0] := by cases args; simp_all
  obtain ⟨rfl, rfl⟩ := trodVars_none hV
  have lt0 : ∀ x ∈ p0, x.block < W.heap.size := by obtain ⟨m, hm⟩ := h0; exact DataW.trod_lt m _ _ _ hm
  have hw : ∀ y ∈ d0.weights Tryz.prog 82, y ≤ 140737488351232 := fun y hy => by
    have h1 := List.all_eq_true.1 hsz _ (DataW.weights_mem_each (j := 0) (t := 82) (d := d0) rfl rfl _ hy)
    simp only [reachBytes] at h1
    exact of_decide_eq_true h1
  obtain ⟨A0, n0, c0, k, rows, s, A, n, c, A1, n1, c1, A2, n2, c2, bd, of, rfl, hr, hrf, hS, hbf, hsum⟩ := opened_bounded h0 hw
  clear hA0 hval0
  refine (walk A0 n0 c0 k rows s A n c A1 n1 c1 A2 n2 c2 bd of W hr hrf hS hbf hsum).mono fun e W' ⟨he, bel⟩ => ?_
  subst he
  exact ⟨_, rfl, _, _, _, [], _, [], hW', trodAll_mk1 (shut_bool Tryz.underlying4 _), (trodAll_cons_mk (Below.trod laidOut (by kernel_rfl) (of_decide_eq_true (by kernel_rfl)) h0 bel lt0) trodAll_mk0), rfl, bel.frame _, fun h => by cases h⟩

theorem over : Rows.sensesBoundRow.holds Tryz.pinned (OpenSpec.ofChange Rows.sensesBoundSpec) :=
  OpenClaim.holds_of_wide 7 Tryz.f7 rfl rfl rfl rfl rfl rfl rfl ⟨rfl, rfl, rfl, rfl, rfl⟩ rfl rfl rfl rfl rfl (by kernel_rfl) Tryz.func7 (by kernel_rfl)
    (of_decide_eq_true (by kernel_rfl)) (by unfold Func.isWrapper; first | (rw [if_pos (by decide +kernel)]; kernel_rfl) | (rw [if_neg (by decide +kernel)]; exact ⟨rfl, rfl⟩))
    (fun os started H enc _ => lifted os started H enc)

theorem proved : Rows.SensesBoundSaid := over
#print axioms proved
end Go.Proofs.YtfdjdgikmhecdaaGreat.sensesBound
