/- RowsConstant is true: a spot whose term is a constant is fixed, by that constant; each fixed spot's value is one of its sort. Condition: none but those of the statement. -/
import Derived.Test.YthbonabadelfdaaGreatCon
import Derived.Test.YthbonabadelfdaaGreatRows
namespace Go.Proofs.YthbonabadelfdaaGreat
open Go.RowKit
theorem wh_toI {z : Sen} (h : wholeS z = true) : I.wholeS (toI z) = true := by
  obtain ⟨a1, a2, a3, a4, a5⟩ := whole_iff.1 h
  refine I.whole_iff.2 ⟨by simpa [toI] using a1, by simpa [toI] using a2, by simpa [toI] using a3, ?_, by simpa [toI] using a5⟩
  intro p hp
  simp only [toI, List.mem_map] at hp
  obtain ⟨x, hx, rfl⟩ := hp
  exact a4 x hx
theorem con_is {S : Bo.Sr} {q : Nat} {b : List Bo.Bd} {lo hi : List Nat} {l : List Sp} (h : Got S q b lo hi) (hs : ∀ p ∈ l, p.s ≤ 2) (hm : ∀ p ∈ l, may1 S q p = true) (hz : ∀ p ∈ (senS S lo hi (rcB q b) l).p, U64 p.z) (fl : La.Fit (senS S lo hi (rcB q b) l).lo) (fh : La.Fit (senS S lo hi (rcB q b) l).hi) : ConIs S (toI (senS S lo hi (rcB q b) l)) := by
  have hl : (toI (senS S lo hi (rcB q b) l)).p.length = l.length := by simp [toI, senS]
  have hat : ∀ i (g : i < (toI (senS S lo hi (rcB q b) l)).p.length) (g' : i < l.length), (toI (senS S lo hi (rcB q b) l)).p[i].v = l[i].v ∧ (toI (senS S lo hi (rcB q b) l)).p[i].z = l[i].z := fun i g g' => by simp [toI, senS]
  refine ⟨wh_toI (sen_whole hs), fun i g hv => ?_, fun i g => ?_⟩
  · have g' : i < l.length := by omega
    obtain ⟨e1, e2⟩ := hat i g g'
    rw [e1] at hv
    obtain ⟨c1, c2⟩ := con_fix (S := S) (q := q) (b := b) (lo := lo) (hi := hi) hs g' hv
    refine ⟨c1, ?_⟩
    rw [e2, c2]
    exact (z_nat (hz _ (List.getElem_mem g'))).1.symm
  · have g' : i < l.length := by omega
    refine ⟨fix_has h hm g', ?_⟩
    rw [val_is g']
    split
    · have := fh (highS S hi l[i]) (by show _ ∈ l.map _; exact List.mem_map.2 ⟨_, List.getElem_mem g', rfl⟩)
      exact this
    · have := fl (lowS S lo l[i]) (by show _ ∈ l.map _; exact List.mem_map.2 ⟨_, List.getElem_mem g', rfl⟩)
      exact this
end Go.Proofs.YthbonabadelfdaaGreat

namespace Go.Proofs.YthbonabadelfdaaGreat.rowsConstant
open Go.ChangeShapes Go.WideShapes Go.ChangeAt Go.RowKit

set_option maxRecDepth 100000 in
set_option maxHeartbeats 8000000 in
theorem walk (s : Sch) (A : Option Addr) (n c : Nat) (A1 : Option Addr) (n1 c1 : Nat) (A2 : Option Addr) (n2 c2 : Nat) (A3 : Option Addr) (n3 c3 : Nat) (k : Int) (rows : List Nat) (w : World) (h : SchAt w s A n c A1 n1 c1 A2 n2 c2) (hr : Rd La.nm w w.heap.size A3 n3 c3 rows) (hrf : La.Fit rows) :
    Calls Tryz.prog 6 #[zV A3 n3 c3 k, schV s A n c A1 n1 c1 A2 n2 c2] w fun e w' => e = .returned (.bool true) ∧ Below w.heap.size w w' := by
  have HSA : Hid (∀ W, Below w.heap.size w W → SchAt W s A n c A1 n1 c1 A2 n2 c2) := Lib.hid fun W hW => h.keep hW
  have HR : Hid (∀ W, Below w.heap.size w W → Rd La.nm W W.heap.size A3 n3 c3 rows) := Lib.hid fun W hW => hr.at_size (Nat.le_refl _) hW
  have HRF := Lib.hid hrf
  have hlen1 := h.l.len
  have HGC : Hid (∀ W : World, Calls Tryz.prog 12 #[schV s A n c A1 n1 c1 A2 n2 c2] W fun e w' => TellsB e (fun r => r = false → n ≤ 60 ∧ (n1 + n2 ≤ 9223372036854775807 → n1 + n2 ≤ 80)) ∧ Below W.heap.size W w') := Lib.hid fun W => great_any s A n c A1 n1 c1 A2 n2 c2 W (by have := h.l.cap; have := h.l.top; unfold maxLen at this; omega) (by have := h.e.cap; have := h.e.top; unfold maxLen at this; omega)
  have HPC : Hid (∀ W, Below w.heap.size w W → Calls Tryz.prog 9 #[zV A3 n3 c3 k] W fun e w' => ∃ a b, e = .returned (.tuple #[.iface 70 (.pointer a), .iface 73 (.pointer b)]) ∧ Both w' a b (laOf rows) (efOf k) ∧ Below W.heap.size W w') := Lib.hid fun W hW => of_sorts A3 n3 c3 k rows W (HR.out W hW) hrf
  have HOC : Hid (∀ (a b : Option Addr) (W : World), Below w.heap.size w W → Both W a b (laOf rows) (efOf k) → Calls Tryz.prog 13 #[schV s A n c A1 n1 c1 A2 n2 c2, .iface 70 (.pointer a), .iface 73 (.pointer b)] W fun e w' => ∃ x p q, e = .returned (.tuple #[Q4.v p, Q4.v q, .int .i64 x]) ∧ OfIs (laOf rows) (efOf k) s w' x p q ∧ Below W.heap.size W w') := Lib.hid fun a b W hW hbo => senOf_any s A n c A1 n1 c1 A2 n2 c2 a b _ _ W (HSA.out W hW) hbo (laOf_ok _) (efOf_ok _)
  clear hlen1
  obtain ⟨x, hx⟩ : ∃ x, w.alloc (.cells #[.slice A3 n3 c3, .int .i64 k] 24) = x := ⟨_, rfl⟩
  obtain ⟨y, hy⟩ : ∃ y, x.alloc (.cells #[.int .i64 s.lv, .int .i64 s.ev, .slice A n c, .slice A1 n1 c1, .slice A2 n2 c2] 51) = y := ⟨_, rfl⟩
  have b0 : Below w.heap.size w x := hx ▸ (Below.refl _ _).alloc (Nat.le_refl _) _
  have sx : x.heap.size = w.heap.size + 1 := by rw [← hx, World.size_alloc]
  have b1 : Below x.heap.size x y := hy ▸ (Below.refl _ _).alloc (Nat.le_refl _) _
  have k0 : y.heap[w.heap.size]? = some (.cells #[.slice A3 n3 c3, .int .i64 k] 24 (0, 0)) := (b1.block _ (by rw [sx]; omega)).trans (hx ▸ heap_alloc_new w _)
  have hbx : Box y (w.heap.size + 1) s.lv s.ev A n c A1 n1 c1 A2 n2 c2 := by rw [← sx, ← hy]; exact Box.new x s.lv s.ev A n c A1 n1 c1 A2 n2 c2
  have hb : Below w.heap.size w y := b0.trans (b1.mono b0.size)
  have s0 := (cell_blk (i := 0) k0).trans rfl
  have s1 := (cell_blk (i := 1) k0).trans rfl
  have HB := Lib.hid hb
  have HBX := Lib.hid hbx
  have HS0 := Lib.hid s0
  have HS1 := Lib.hid s1
  have z0 := hbx.z0
  have z1 := hbx.z1
  have z2 := hbx.z2
  have z3 := hbx.z3
  have z4 := hbx.z4
  clear b0 b1 sx k0 hb hbx h hr hrf s1
  subst hx
  unfold schV at HGC HOC ⊢
  unfold zV at HPC ⊢
  go_enter Tryz.func6, Tryz.ntmps6
  go_wp2_with fail
  clear hy
  refine (HGC.out _).mono ?_
  rintro e w1 ⟨⟨gr, rfl, hgr⟩, hv⟩
  have HGR := Lib.hid hgr
  have HV1 := Lib.hid hv
  replace s0 := cell_old s0 hv
  clear hv hgr z0 z1 z2 z3 z4 HGC
  cases gr with
  | true =>
    have HBZ := Lib.hid (HB.out.trans (HV1.out.mono HB.out.size))
    go_wp2_with fail
    refine (lives_any _).mono ?_
    rintro e wz ⟨rfl, hv⟩
    have HZ := Lib.hid (HBZ.out.trans (hv.mono HBZ.out.size))
    clear hv
    go_wp2_with fail
    go_ret
    exact ⟨rfl, HZ.out⟩
  | false =>
  by_cases hbig : 100 < n3
  · have hbig' : (100 : Int) < (n3 : Int) := by omega
    have HBZ := Lib.hid (HB.out.trans (HV1.out.mono HB.out.size))
    clear hbig
    go_wp2_with fail
    refine (lives_any _).mono ?_
    rintro e wz ⟨rfl, hv⟩
    have HZ := Lib.hid (HBZ.out.trans (hv.mono HBZ.out.size))
    clear hv
    go_wp2_with fail
    go_ret
    exact ⟨rfl, HZ.out⟩
  have hbig' : ¬ (100 : Int) < (n3 : Int) := by omega
  have s1 := cell_old HS1.out HV1.out
  have hcp := HPC.out w1 (HB.out.trans (HV1.out.mono HB.out.size))
  have HCP := Lib.hid hcp
  clear hcp hbig HPC
  go_wp2_with fail
  refine HCP.out.mono ?_
  rintro e w2 ⟨a, b, rfl, hbo, hv⟩
  have HV2 := Lib.hid (HV1.out.trans (hv.mono HV1.out.size))
  have HBO2 := Lib.hid hbo
  have hbx := HBX.out.keep HV2.out
  have z0 := hbx.z0
  have z1 := hbx.z1
  have z2 := hbx.z2
  have z3 := hbx.z3
  have z4 := hbx.z4
  have hco := HOC.out a b w2 (HB.out.trans (HV2.out.mono HB.out.size)) hbo
  have HCO := Lib.hid hco
  clear hv hbo hbx hco hbig' s0 s1 HCP HOC HV1
  go_wp2_with fail
  refine HCO.out.mono ?_
  rintro e w3 ⟨er, p, q, rfl, hof, hv⟩
  have HV3 := Lib.hid (HV2.out.trans (hv.mono HV2.out.size))
  have HBO3 := Lib.hid (HBO2.out.keep hv)
  clear hv z0 z1 z2 z3 z4 HCO HBO2 HV2
  obtain ⟨B1, m1, d1, B2, m2, d2, B3, m3, d3, B4, m4, d4⟩ := p
  obtain ⟨C1, k1, f1, C2, k2, f2, C3, k3, f3, C4, k4, f4⟩ := q
  simp only [Q4.v, senV]
  have h8 := B8.new w3 B1 m1 d1 B2 m2 d2 B3 m3 d3 B4 m4 d4 C1 k1 f1 C2 k2 f2 C3 k3 f3 C4 k4 f4
  have hal := two_below w3 (.cells #[.slice B1 m1 d1, .slice B2 m2 d2, .slice B3 m3 d3, .slice B4 m4 d4] 28) (.cells #[.slice C1 k1 f1, .slice C2 k2 f2, .slice C3 k3 f3, .slice C4 k4 f4] 28)
  obtain ⟨wa, hwa⟩ : ∃ wa, (w3.alloc (.cells #[.slice B1 m1 d1, .slice B2 m2 d2, .slice B3 m3 d3, .slice B4 m4 d4] 28)).alloc (.cells #[.slice C1 k1 f1, .slice C2 k2 f2, .slice C3 k3 f3, .slice C4 k4 f4] 28) = wa := ⟨_, rfl⟩
  rw [hwa] at h8 hal
  have HVA := Lib.hid (HV3.out.trans (hal.mono HV3.out.size))
  have HBA := Lib.hid (HB.out.trans (HVA.out.mono HB.out.size))
  have HBOA := Lib.hid (HBO3.out.keep hal)
  have H8 := Lib.hid h8
  rcases hof with ⟨hne0, -, -, -⟩ | ⟨rfl, ql, qe, lo, hi, lo', hi', hok, hp, hq⟩
  · have hne : (er != 0) = true := by simpa using hne0
    clear hne0 h8 hal
    go_wp2_with fail
    clear hwa
    refine (lives_any _).mono ?_
    rintro e wz ⟨rfl, hv⟩
    have HZ := Lib.hid (HBA.out.trans (hv.mono HBA.out.size))
    clear hv
    go_wp2_with fail
    go_ret
    exact ⟨rfl, HZ.out⟩
  have HOK := Lib.hid hok
  replace hp : SenAt w3 (senS (laOf rows) lo hi (rcB ql s.l) (labB s.b)) B1 m1 d1 B2 m2 d2 B3 m3 d3 B4 m4 d4 := hp
  replace hq : SenAt w3 (senS (efOf k) lo' hi' (rcB qe s.e) (effB s.b)) C1 k1 f1 C2 k2 f2 C3 k3 f3 C4 k4 f4 := hq
  have HP := Lib.hid (hp.keep hal)
  have HQ := Lib.hid (hq.keep hal)
  have hcp := con_is HOK.out.gl (labB_le s.b) (by rw [← HOK.out.lv]; exact (Sch.check_is.1 HOK.out.chk).2.2.2.1) HP.out.fp HP.out.fl HP.out.fh
  have hcq := con_is HOK.out.ge (effB_le s.b) (by rw [← HOK.out.ev]; exact (Sch.check_is.1 HOK.out.chk).2.2.2.2) HQ.out.fp HQ.out.fl HQ.out.fh
  have hl1 : m1 ≤ 60000 := by rw [← HP.out.rp.len]; exact Nat.le_trans (labB_len s.b) (by decide)
  have hl2 : k1 ≤ 60000 := by rw [← HQ.out.rp.len]; exact Nat.le_trans (effB_len s.b) (by decide)
  have HC1 := Lib.hid (constant_any (.iface 70 (.pointer a)) _ _ B1 m1 d1 B2 m2 d2 B3 m3 d3 B4 m4 d4 wa HBOA.out.sl HP.out.toI hcp hl1)
  have HC2 : Hid (∀ W, Below wa.heap.size wa W → Calls Tryz.prog 21 #[.iface 73 (.pointer b), senV C1 k1 f1 C2 k2 f2 C3 k3 f3 C4 k4 f4] W fun e w' => e = .returned (.bool true) ∧ Below W.heap.size W w') := Lib.hid fun W hW => constant_any (.iface 73 (.pointer b)) _ _ C1 k1 f1 C2 k2 f2 C3 k3 f3 C4 k4 f4 W (HBOA.out.sx.keep hW) (HQ.out.keep hW).toI hcq hl2
  have t0 := h8.p0
  have t1 := h8.p1
  have t2 := h8.p2
  have t3 := h8.p3
  clear hp hq h8 hal hok hcp hcq hl1 hl2
  unfold senV at HC1 HC2
  go_wp2_with fail
  clear hwa
  refine HC1.out.mono ?_
  rintro e w5 ⟨rfl, hv⟩
  have HV5 := Lib.hid hv
  have HB5 := Lib.hid (HBA.out.trans (hv.mono HBA.out.size))
  have h8 := H8.out.keep hv
  have q0 := h8.q0
  have q1 := h8.q1
  have q2 := h8.q2
  have q3 := h8.q3
  clear hv h8 t0 t1 t2 t3 HC1
  go_wp2_with fail
  refine (HC2.out _ HV5.out).mono ?_
  rintro e w6 ⟨rfl, hv⟩
  have HB6 := Lib.hid (HB5.out.trans (hv.mono HB5.out.size))
  clear hv q0 q1 q2 q3 HC2
  go_wp2_with fail
  refine (lives_any _).mono ?_
  rintro e wz ⟨rfl, hv⟩
  have HZ := Lib.hid (HB6.out.trans (hv.mono HB6.out.size))
  clear hv
  go_wp2_with fail
  go_ret
  exact ⟨rfl, HZ.out⟩

theorem own : ownKnob Tryz.prog.godebug = none := by kernel_rfl
theorem laidOut : laidOutB Tryz.prog = true := by kernel_rfl

set_option maxRecDepth 100000 in
theorem lifted (os : Os) (started : os.Started) (H : Type) (enc : TypeId × Value → H) :
    ReturnsInHanded {} Tryz.checked os 6 .any (Rows.rowsConstantSpec.pre6 enc Tryz.prog Tryz.f6 Rows.rowsConstantRow.domain false) (Rows.rowsConstantSpec.post enc Tryz.prog Tryz.f6 false true false false) := by
  refine returnsInHanded_of_change (C := Tryz.checked) own started (by kernel_rfl) Tryz.func6
    (ChangeSpec.witness6 (enc := enc) (C := Tryz.checked) false ⟨#[], #[.agg #[.slice none 0 0, .int .i64 0], .agg #[.int .i64 0, .int .i64 0, .slice none 0 0, .slice none 0 0, .slice none 0 0]], []⟩ 8 (by kernel_rfl) (by kernel_rfl) (by kernel_rfl) (by kernel_rfl)) ?_
  intro W base args ds gs before hval0 hW hcnd _
  have hval : ∀ (j : Nat) t v, Tryz.f6.params[j]? = some t → args[j]? = some v → Value.okWide Tryz.prog W .any base t v := hval0
  have hW' := hW
  obtain ⟨p, q, hA0, hV, rfl, hfz, hnd⟩ := hW
  have hA : DataW.TrodAll enc Tryz.prog W 0 (fun _ => true) true Tryz.f6.params.toList args.toList ds p := hA0
  rw [Tryz.params6] at hA hval
  obtain ⟨v0, vs0, d0, ds0, p0, q0, hargs, rfl, rfl, h0, r0⟩ := trodAll_cons hA
  obtain ⟨v1, vs1, d1, ds1, p1, q1, rfl, rfl, rfl, h1, r1⟩ := trodAll_cons r0
  obtain ⟨rfl, rfl, rfl⟩ := trodAll_nil r1
  obtain rfl : args = #[v0, v1] := by cases args; simp_all
  obtain ⟨rfl, rfl⟩ := trodVars_none hV
  have lt0 : ∀ x ∈ p0, x.block < W.heap.size := by obtain ⟨m, hm⟩ := h0; exact DataW.trod_lt m _ _ _ hm
  have lt1 : ∀ x ∈ p1, x.block < W.heap.size := by obtain ⟨m, hm⟩ := h1; exact DataW.trod_lt m _ _ _ hm
  obtain ⟨A3, n3, c3, k, rows, rfl, hr, hrf⟩ := opened_sorts h0
  obtain ⟨s, A, n, c, A1, n1, c1, A2, n2, c2, rfl, hS, -, -⟩ := opened_scheme h1
  clear hA0 hval0
  refine (walk s A n c A1 n1 c1 A2 n2 c2 A3 n3 c3 k rows W hS hr hrf).mono fun e W' ⟨he, bel⟩ => ?_
  subst he
  exact ⟨_, rfl, _, _, _, [], _, [], hW', trodAll_mk1 (shut_bool Tryz.underlying4 _), (trodAll_cons_mk (Below.trod laidOut (by kernel_rfl) (of_decide_eq_true (by kernel_rfl)) h0 bel lt0) (trodAll_cons_mk (Below.trod laidOut (by kernel_rfl) (of_decide_eq_true (by kernel_rfl)) h1 bel lt1) trodAll_mk0)), rfl, bel.frame _, fun h => by cases h⟩

theorem over : Rows.rowsConstantRow.holds Tryz.pinned (OpenSpec.ofChange Rows.rowsConstantSpec) :=
  OpenClaim.holds_of_wide 6 Tryz.f6 rfl rfl rfl rfl rfl rfl rfl ⟨rfl, rfl, rfl, rfl, rfl⟩ rfl rfl rfl rfl rfl (by kernel_rfl) Tryz.func6 (by kernel_rfl)
    (of_decide_eq_true (by kernel_rfl)) (by unfold Func.isWrapper; first | (rw [if_pos (by decide +kernel)]; kernel_rfl) | (rw [if_neg (by decide +kernel)]; exact ⟨rfl, rfl⟩))
    (fun os started H enc _ => lifted os started H enc)

theorem proved : Rows.RowsConstantSaid := over
#print axioms proved
end Go.Proofs.YthbonabadelfdaaGreat.rowsConstant
