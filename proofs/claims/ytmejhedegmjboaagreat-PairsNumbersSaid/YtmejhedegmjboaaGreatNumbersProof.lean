/- RowsKeep is true: where fixed spots' terms are constants, the scheme has the same senses. Condition: none but those of the statement. -/
/- PairsNumbers is true: new variables come in the order of their numbers. Condition: none but those of the statement. -/
import Derived.Test.YtmejhedegmjboaaGreatRows
import Derived.Test.YtmejhedegmjboaaGreatLiv
import Derived.Test.YtmejhedegmjboaaGreatPaLv
namespace Go.Proofs.YtmejhedegmjboaaGreat
open Go.RowKit
open I (sd bb lw hg fixB valF)

theorem wh_toI {z : Sen} (h : wholeS z = true) : I.wholeS (toI z) = true := by
  obtain ⟨a1, a2, a3, a4, a5⟩ := whole_iff.1 h
  refine I.whole_iff.2 ⟨by simpa [toI] using a1, by simpa [toI] using a2, by simpa [toI] using a3, ?_, by simpa [toI] using a5⟩
  intro p hp
  simp only [toI, List.mem_map] at hp
  obtain ⟨x, hx, rfl⟩ := hp
  exact a4 x hx

/-! ### What Of tells of the scheme, where fixed ones are constants -/
end Go.Proofs.YtmejhedegmjboaaGreat
namespace Go.Proofs.YtmejhedegmjboaaGreat.I
open Go.RowKit PaC

/-- What is told of one spot. -/
theorem trm_at {S : Bo.Sr} {z : Sen} (hw : wholeS z = true) {i : Nat} (h : i < (trmL S z).length) : (trmL S z)[i] = trm S z i := by
  have e : trmL S z = (List.range z.p.length).map (trm S z) := if_pos hw
  have := List.getElem_of_eq e h
  rw [this]
  simp
theorem trmL_len {S : Bo.Sr} {z : Sen} (hw : wholeS z = true) : (trmL S z).length = z.p.length := by
  unfold trmL
  rw [if_pos hw, List.length_map, List.length_range]
theorem num_le {c : Cfg} {i : Nat} (hf : c.fx i = false) : c.num i ≤ c.cnt i ∧ (c.num i = c.cnt i ↔ c.lead i = true) := by
  cases hl : c.lead i with
  | true => exact ⟨Nat.le_of_eq (num_new hl), iff_of_true (num_new hl) rfl⟩
  | false =>
    obtain ⟨k, hk, h1, h2, h3⟩ := num_old hf hl
    have := num_lt h1 hk
    exact ⟨by omega, iff_of_false (by omega) (by simp)⟩
theorem lead_fx {c : Cfg} {i : Nat} (hf : c.fx i = true) : c.lead i = false := by
  unfold Cfg.lead
  rw [hf]
  rfl
theorem num_step {c : Cfg} {i : Nat} (hf : c.fx i = false) : c.cnt (i + 1) = if c.num i = c.cnt i then c.cnt i + 1 else c.cnt i := by
  rw [cnt_next]
  have := (num_le hf).2
  by_cases h : c.num i = c.cnt i
  · rw [if_pos h, if_pos (this.1 h)]
  · rw [if_neg h, if_neg fun e => h (this.2 e), Nat.add_zero]
theorem cnt_bound (c : Cfg) (i : Nat) : c.cnt i ≤ i := by
  unfold Cfg.cnt
  have := List.length_filter_le c.lead (List.range i)
  rw [List.length_range] at this
  exact this
end Go.Proofs.YtmejhedegmjboaaGreat.I

namespace Go.Proofs.YtmejhedegmjboaaGreat.pairsNumbers
open Go.ChangeShapes Go.WideShapes Go.ChangeAt Go.RowKit

set_option maxRecDepth 100000 in
set_option maxHeartbeats 8000000 in
theorem walk (s : Sch) (A : Option Addr) (n c : Nat) (A1 : Option Addr) (n1 c1 : Nat) (A2 : Option Addr) (n2 c2 : Nat) (A3 : Option Addr) (n3 c3 : Nat) (k : Int) (rows : List Nat) (w : World) (h : SchAt w s A n c A1 n1 c1 A2 n2 c2) (hr : Rd La.nm w w.heap.size A3 n3 c3 rows) (hrf : La.Fit rows) :
    Calls Tryz.prog 5 #[zV A3 n3 c3 k, schV s A n c A1 n1 c1 A2 n2 c2] w fun e w' => e = .returned (.bool true) ∧ Below w.heap.size w w' := by
  have HSA : Hid (∀ W, Below w.heap.size w W → SchAt W s A n c A1 n1 c1 A2 n2 c2) := Lib.hid fun W hW => h.keep hW
  have HR : Hid (∀ W, Below w.heap.size w W → Rd La.nm W W.heap.size A3 n3 c3 rows) := Lib.hid fun W hW => hr.at_size (Nat.le_refl _) hW
  have HRF := Lib.hid hrf
  have hlen1 := h.l.len
  have HGC : Hid (∀ W : World, Calls Tryz.prog 17 #[schV s A n c A1 n1 c1 A2 n2 c2] W fun e w' => TellsB e (fun r => r = false → n ≤ 60 ∧ (n1 + n2 ≤ 9223372036854775807 → n1 + n2 ≤ 80)) ∧ Below W.heap.size W w') := Lib.hid fun W => great_any s A n c A1 n1 c1 A2 n2 c2 W (by have := h.l.cap; have := h.l.top; unfold maxLen at this; omega) (by have := h.e.cap; have := h.e.top; unfold maxLen at this; omega)
  have HPC : Hid (∀ W, Below w.heap.size w W → Calls Tryz.prog 10 #[zV A3 n3 c3 k] W fun e w' => ∃ a b, e = .returned (.tuple #[.iface 74 (.pointer a), .iface 77 (.pointer b)]) ∧ Both w' a b (laOf rows) (efOf k) ∧ Below W.heap.size W w') := Lib.hid fun W hW => of_sorts A3 n3 c3 k rows W (HR.out W hW) hrf
  have HOC : Hid (∀ (a b : Option Addr) (W : World), Below w.heap.size w W → Both W a b (laOf rows) (efOf k) → Calls Tryz.prog 18 #[schV s A n c A1 n1 c1 A2 n2 c2, .iface 74 (.pointer a), .iface 77 (.pointer b)] W fun e w' => ∃ x p q, e = .returned (.tuple #[Q4.v p, Q4.v q, .int .i64 x]) ∧ OfIs (laOf rows) (efOf k) s w' x p q ∧ Below W.heap.size W w') := Lib.hid fun a b W hW hbo => senOf_any s A n c A1 n1 c1 A2 n2 c2 a b _ _ W (HSA.out W hW) hbo (laOf_ok _) (efOf_ok _)
  clear hlen1
  obtain ⟨x, hx⟩ : ∃ x, w.alloc (.cells #[.slice A3 n3 c3, .int .i64 k] 24) = x := ⟨_, rfl⟩
  obtain ⟨y, hy⟩ : ∃ y, x.alloc (.cells #[.int .i64 s.lv, .int .i64 s.ev, .slice A n c, .slice A1 n1 c1, .slice A2 n2 c2] 49) = y := ⟨_, rfl⟩
  have b0 : Below w.heap.size w x := hx ▸ (Below.refl _ _).alloc (Nat.le_refl _) _
  have sx : x.heap.size = w.heap.size + 1 := by rw [← hx, World.size_alloc]
  have b1 : Below x.heap.size x y := hy ▸ (Below.refl _ _).alloc (Nat.le_refl _) _
  have k0 : y.heap[w.heap.size]? = some (.cells #[.slice A3 n3 c3, .int .i64 k] 24 (0, 0)) := (b1.block _ (by rw [sx]; omega)).trans (hx ▸ heap_alloc_new w _)
  have hbx : Box y (w.heap.size + 1) s.lv s.ev A n c A1 n1 c1 A2 n2 c2 := by rw [← sx, ← hy]; exact Box.new x s.lv s.ev A n c A1 n1 c1 A2 n2 c2
  have hb : Below w.heap.size w y := b0.trans (b1.mono b0.size)
  have s0 := (cell_blk (i := 0) k0).trans rfl
  have s1 := (cell_blk (i := 1) k0).trans rfl
  have HB := Lib.hid hb
  have HBX := Lib.hid hbx
  have HS0 := Lib.hid s0
  have HS1 := Lib.hid s1
  have z0 := hbx.z0
  have z1 := hbx.z1
  have z2 := hbx.z2
  have z3 := hbx.z3
  have z4 := hbx.z4
  clear b0 b1 sx k0 hb hbx h hr hrf s1
  subst hx
  unfold schV at HGC HOC ⊢
  unfold zV at HPC ⊢
  go_enter Tryz.func5, Tryz.ntmps5
  go_wp2_with fail
  clear hy
  refine (HGC.out _).mono ?_
  rintro e w1 ⟨⟨gr, rfl, hgr⟩, hv⟩
  have HGR := Lib.hid hgr
  have HV1 := Lib.hid hv
  replace s0 := cell_old s0 hv
  clear hv hgr z0 z1 z2 z3 z4 HGC
  cases gr with
  | true =>
    have HBZ := Lib.hid (HB.out.trans (HV1.out.mono HB.out.size))
    go_wp2_with fail
    refine (lives_any _).mono ?_
    rintro e wz ⟨rfl, hv⟩
    have HZ := Lib.hid (HBZ.out.trans (hv.mono HBZ.out.size))
    clear hv
    go_wp2_with fail
    go_ret
    exact ⟨rfl, HZ.out⟩
  | false =>
  by_cases hbig : 100 < n3
  · have hbig' : (100 : Int) < (n3 : Int) := by omega
    have HBZ := Lib.hid (HB.out.trans (HV1.out.mono HB.out.size))
    clear hbig
    go_wp2_with fail
    refine (lives_any _).mono ?_
    rintro e wz ⟨rfl, hv⟩
    have HZ := Lib.hid (HBZ.out.trans (hv.mono HBZ.out.size))
    clear hv
    go_wp2_with fail
    go_ret
    exact ⟨rfl, HZ.out⟩
  have hbig' : ¬ (100 : Int) < (n3 : Int) := by omega
  have s1 := cell_old HS1.out HV1.out
  have hcp := HPC.out w1 (HB.out.trans (HV1.out.mono HB.out.size))
  have HCP := Lib.hid hcp
  clear hcp hbig HPC
  go_wp2_with fail
  refine HCP.out.mono ?_
  rintro e w2 ⟨a, b, rfl, hbo, hv⟩
  have HV2 := Lib.hid (HV1.out.trans (hv.mono HV1.out.size))
  have HBO2 := Lib.hid hbo
  have hbx := HBX.out.keep HV2.out
  have z0 := hbx.z0
  have z1 := hbx.z1
  have z2 := hbx.z2
  have z3 := hbx.z3
  have z4 := hbx.z4
  have hco := HOC.out a b w2 (HB.out.trans (HV2.out.mono HB.out.size)) hbo
  have HCO := Lib.hid hco
  clear hv hbo hbx hco hbig' s0 s1 HCP HOC HV1
  go_wp2_with fail
  refine HCO.out.mono ?_
  rintro e w3 ⟨er, p, q, rfl, hof, hv⟩
  have HV3 := Lib.hid (HV2.out.trans (hv.mono HV2.out.size))
  have HBO3 := Lib.hid (HBO2.out.keep hv)
  clear hv z0 z1 z2 z3 z4 HCO HBO2 HV2
  obtain ⟨B1, m1, d1, B2, m2, d2, B3, m3, d3, B4, m4, d4⟩ := p
  obtain ⟨C1, k1, f1, C2, k2, f2, C3, k3, f3, C4, k4, f4⟩ := q
  simp only [Q4.v, senV]
  have h8 := B8.new w3 B1 m1 d1 B2 m2 d2 B3 m3 d3 B4 m4 d4 C1 k1 f1 C2 k2 f2 C3 k3 f3 C4 k4 f4
  have hal := two_below w3 (.cells #[.slice B1 m1 d1, .slice B2 m2 d2, .slice B3 m3 d3, .slice B4 m4 d4] 28) (.cells #[.slice C1 k1 f1, .slice C2 k2 f2, .slice C3 k3 f3, .slice C4 k4 f4] 28)
  obtain ⟨wa, hwa⟩ : ∃ wa, (w3.alloc (.cells #[.slice B1 m1 d1, .slice B2 m2 d2, .slice B3 m3 d3, .slice B4 m4 d4] 28)).alloc (.cells #[.slice C1 k1 f1, .slice C2 k2 f2, .slice C3 k3 f3, .slice C4 k4 f4] 28) = wa := ⟨_, rfl⟩
  rw [hwa] at h8 hal
  have HVA := Lib.hid (HV3.out.trans (hal.mono HV3.out.size))
  have HBA := Lib.hid (HB.out.trans (HVA.out.mono HB.out.size))
  have HBOA := Lib.hid (HBO3.out.keep hal)
  have H8 := Lib.hid h8
  rcases hof with ⟨hne0, -, -, -⟩ | ⟨rfl, ql, qe, lo, hi, lo', hi', hok, hp, hq⟩
  · have hne : (er != 0) = true := by simpa using hne0
    clear hne0 h8 hal
    go_wp2_with fail
    clear hwa
    refine (lives_any _).mono ?_
    rintro e wz ⟨rfl, hv⟩
    have HZ := Lib.hid (HBA.out.trans (hv.mono HBA.out.size))
    clear hv
    go_wp2_with fail
    go_ret
    exact ⟨rfl, HZ.out⟩
  replace hp : SenAt w3 (senS (laOf rows) lo hi (rcB ql s.l) (labB s.b)) B1 m1 d1 B2 m2 d2 B3 m3 d3 B4 m4 d4 := hp
  have HP := Lib.hid (hp.keep hal).toI
  have hwh := wh_toI (sen_whole (S := laOf rows) (lo := lo) (hi := hi) (rc := rcB ql s.l) (labB_le s.b))
  have hm1 : m1 ≤ 400 := by rw [← HP.out.rp.len]; exact Nat.le_trans (by simpa [toI, senS] using labB_len s.b) (by decide)
  generalize toI (senS (laOf rows) lo hi (rcB ql s.l) (labB s.b)) = z at *
  generalize laOf rows = S at *
  have HOF := Lib.hid (I.pairsOf_any (.iface 74 (.pointer a)) S z B1 m1 d1 B2 m2 d2 B3 m3 d3 B4 m4 d4 wa HBOA.out.sl.into HP.out hm1)
  have HWH := Lib.hid hwh
  have HM := Lib.hid hm1
  have t0 := h8.p0
  have t1 := h8.p1
  have t2 := h8.p2
  have t3 := h8.p3
  clear hp hq hal hok h8 hwh hm1
  unfold senV at HOF
  go_wp2_with fail
  clear hwa
  refine HOF.out.mono ?_
  rintro e w4 ⟨A9, N9, c9, rfl, ho, hv⟩
  have hrs := Rs.of_own tmc_len (by decide) ho
  have hlen := hrs.len
  rw [I.trmL_len HWH.out, HP.out.rp.len] at hlen
  subst hlen
  have HT := Lib.hid hrs
  have HB4 := Lib.hid (HBA.out.trans (hv.mono HBA.out.size))
  have h84 := H8.out.keep hv
  have t0 := h84.p0
  have g1 : ((m1 : Int) != (m1 : Int)) = false := by simp
  have HLEN := Lib.hid HP.out.rp.len
  have HTN : Hid (I.trmN S z = (I.cfg S z).cnt m1) := Lib.hid (by
    unfold I.trmN PaC.Cfg.vars
    rw [if_pos HWH.out]
    show PaC.Cfg.cnt _ z.p.length = _
    rw [HLEN.out])
  clear hrs ho hv HOF h84 t1 t2 t3 HBOA HP H8 HBA
  go_wp2_with fail
  clear g1 t0
  go_loopw [12, 13] (fun v12 v13 wr => ∃ i : Nat, v12 = .int .u64 (((I.cfg S z).cnt i : Nat) : Int) ∧ v13 = .int .i64 (i : Int) ∧ i ≤ m1 ∧ Below w4.heap.size w4 wr) (fun _ v13 _ => m1 - (intOf v13).toNat)
  case atStart => exact ⟨0, rfl, rfl, Nat.zero_le _, Below.refl _ _⟩
  case round =>
    obtain ⟨i, rfl, rfl, hi, hb⟩ := hrel
    by_cases hlt : i < m1
    · have hil : i < (I.trmL S z).length := by rw [I.trmL_len HWH.out, HLEN.out]; exact hlt
      obtain ⟨b1, o1, rfl, -, u0, u1⟩ := term_at (HT.out.at_size (Nat.le_refl _) hb) hil
      rw [I.trm_at HWH.out hil] at u0 u1
      have HB := Lib.hid hb
      have HLT := Lib.hid hlt
      have hin : (i : Int) < (m1 : Int) := by omega
      have hi9 : i ≤ 60000 := by have := HM.out; omega
      unfold I.trm at u0 u1
      obtain ⟨fx, hfx⟩ : ∃ x, I.fixB S z i = x := ⟨_, rfl⟩
      rw [hfx] at u0 u1
      have hcb := I.cnt_bound (I.cfg S z) i
      clear hi hlt hil hb
      cases fx with
      | true =>
        have u0 : wr.cell? ⟨b1, o1 + i * 2, none⟩ = some (.bool false) := u0
        have HN : Hid ((I.cfg S z).cnt (i + 1) = (I.cfg S z).cnt i) := Lib.hid (by rw [PaC.cnt_next, I.lead_fx (c := I.cfg S z) hfx]; rfl)
        clear hfx u1 hcb
        go_wp2_with fail
        go_roundw
        case rel => exact ⟨i + 1, by rw [HN.out], by go_num, HLT.out, HB.out⟩
        case measure =>
          have := HLT.out
          simp [intOf]
          omega
      | false =>
        replace u0 : wr.cell? ⟨b1, o1 + i * 2, none⟩ = some (.bool true) := u0
        replace u1 : wr.cell? ⟨b1, o1 + i * 2 + 1, none⟩ = some (.int .u64 (((I.cfg S z).num i : Nat) : Int)) := u1
        have hnl := (I.num_le (c := I.cfg S z) hfx).1
        have hns := I.num_step (c := I.cfg S z) hfx
        obtain ⟨nu, hnu⟩ : ∃ x, (I.cfg S z).num i = x := ⟨_, rfl⟩
        obtain ⟨cn, hcn⟩ : ∃ x, (I.cfg S z).cnt i = x := ⟨_, rfl⟩
        rw [hnu] at u1 hnl hns
        rw [hcn] at hnl hns hcb
        rw [hcn]
        have HNS := Lib.hid hns
        have g2 : ¬ (cn : Int) < (nu : Int) := by omega
        clear hfx hnu hns
        by_cases he : nu = cn
        · subst he
          have g3 : ((nu : Int) == (nu : Int)) = true := by simp
          have HN := Lib.hid (HNS.out.trans (if_pos rfl))
          have hcw : IntKind.u64.wrap ((nu : Int) + 1) = ((nu + 1 : Nat) : Int) := by rw [IntKind.wrap_u64]; omega
          clear HNS hnl hcn
          go_wp2_with fail
          go_roundw
          case rel => exact ⟨i + 1, by rw [HN.out]; first | rfl | go_num, by go_num, HLT.out, HB.out⟩
          case measure =>
            have := HLT.out
            simp [intOf]
            omega
        · have g3 : ((nu : Int) == (cn : Int)) = false := by simp; omega
          have HN := Lib.hid (HNS.out.trans (if_neg he))
          clear HNS hnl hcn he
          go_wp2_with fail
          go_roundw
          case rel => exact ⟨i + 1, by rw [HN.out], by go_num, HLT.out, HB.out⟩
          case measure =>
            have := HLT.out
            simp [intOf]
            omega
    · obtain rfl : i = m1 := by omega
      have HBW := Lib.hid (HB4.out.trans (hb.mono HB4.out.size))
      rw [HTN.out]
      have hcb := I.cnt_bound (I.cfg S z) i
      have hm := HM.out
      obtain ⟨cn, hcn⟩ : ∃ x, (I.cfg S z).cnt i = x := ⟨_, rfl⟩
      rw [hcn] at hcb ⊢
      have hcw : IntKind.u64.wrap (cn : Int) = (cn : Int) := by rw [IntKind.wrap_u64]; omega
      have g3 : ((cn : Int) == (cn : Int)) = true := by simp
      clear hlt hi hb hcn
      go_wp2_with fail
      refine (lives_any _).mono ?_
      rintro e wz ⟨rfl, hv⟩
      have HZ := Lib.hid (HBW.out.trans (hv.mono HBW.out.size))
      clear hv
      go_wp2_with fail
      go_ret
      exact ⟨rfl, HZ.out⟩

theorem own : ownKnob Tryz.prog.godebug = none := by kernel_rfl
theorem laidOut : laidOutB Tryz.prog = true := by kernel_rfl

set_option maxRecDepth 100000 in
theorem lifted (os : Os) (started : os.Started) (H : Type) (enc : TypeId × Value → H) :
    ReturnsInHanded {} Tryz.checked os 5 .any (Rows.pairsNumbersSpec.pre6 enc Tryz.prog Tryz.f5 Rows.pairsNumbersRow.domain false) (Rows.pairsNumbersSpec.post enc Tryz.prog Tryz.f5 false true false false) := by
  refine returnsInHanded_of_change (C := Tryz.checked) own started (by kernel_rfl) Tryz.func5
    (ChangeSpec.witness6 (enc := enc) (C := Tryz.checked) false ⟨#[], #[.agg #[.slice none 0 0, .int .i64 0], .agg #[.int .i64 0, .int .i64 0, .slice none 0 0, .slice none 0 0, .slice none 0 0]], []⟩ 8 (by kernel_rfl) (by kernel_rfl) (by kernel_rfl) (by kernel_rfl)) ?_
  intro W base args ds gs before hval0 hW hcnd _
  have hval : ∀ (j : Nat) t v, Tryz.f5.params[j]? = some t → args[j]? = some v → Value.okWide Tryz.prog W .any base t v := hval0
  have hW' := hW
  obtain ⟨p, q, hA0, hV, rfl, hfz, hnd⟩ := hW
  have hA : DataW.TrodAll enc Tryz.prog W 0 (fun _ => true) true Tryz.f5.params.toList args.toList ds p := hA0
  rw [Tryz.params5] at hA hval
  obtain ⟨v0, vs0, d0, ds0, p0, q0, hargs, rfl, rfl, h0, r0⟩ := trodAll_cons hA
  obtain ⟨v1, vs1, d1, ds1, p1, q1, rfl, rfl, rfl, h1, r1⟩ := trodAll_cons r0
  obtain ⟨rfl, rfl, rfl⟩ := trodAll_nil r1
  obtain rfl : args = #[v0, v1] := by cases args; simp_all
  obtain ⟨rfl, rfl⟩ := trodVars_none hV
  have lt0 : ∀ x ∈ p0, x.block < W.heap.size := by obtain ⟨m, hm⟩ := h0; exact DataW.trod_lt m _ _ _ hm
  have lt1 : ∀ x ∈ p1, x.block < W.heap.size := by obtain ⟨m, hm⟩ := h1; exact DataW.trod_lt m _ _ _ hm
  obtain ⟨A3, n3, c3, k, rows, rfl, hr, hrf⟩ := opened_sorts h0
  obtain ⟨s, A, n, c, A1, n1, c1, A2, n2, c2, rfl, hS, -, -⟩ := opened_scheme h1
  clear hA0 hval0
  refine (walk s A n c A1 n1 c1 A2 n2 c2 A3 n3 c3 k rows W hS hr hrf).mono fun e W' ⟨he, bel⟩ => ?_
  subst he
  exact ⟨_, rfl, _, _, _, [], _, [], hW', trodAll_mk1 (shut_bool Tryz.underlying4 _), (trodAll_cons_mk (Below.trod laidOut (by kernel_rfl) (of_decide_eq_true (by kernel_rfl)) h0 bel lt0) (trodAll_cons_mk (Below.trod laidOut (by kernel_rfl) (of_decide_eq_true (by kernel_rfl)) h1 bel lt1) trodAll_mk0)), rfl, bel.frame _, fun h => by cases h⟩

theorem over : Rows.pairsNumbersRow.holds Tryz.pinned (OpenSpec.ofChange Rows.pairsNumbersSpec) :=
  OpenClaim.holds_of_wide 5 Tryz.f5 rfl rfl rfl rfl rfl rfl rfl ⟨rfl, rfl, rfl, rfl, rfl⟩ rfl rfl rfl rfl rfl (by kernel_rfl) Tryz.func5 (by kernel_rfl)
    (of_decide_eq_true (by kernel_rfl)) (by unfold Func.isWrapper; first | (rw [if_pos (by decide +kernel)]; kernel_rfl) | (rw [if_neg (by decide +kernel)]; exact ⟨rfl, rfl⟩))
    (fun os started H enc _ => lifted os started H enc)

theorem proved : Rows.PairsNumbersSaid := over
end Go.Proofs.YtmejhedegmjboaaGreat.pairsNumbers
