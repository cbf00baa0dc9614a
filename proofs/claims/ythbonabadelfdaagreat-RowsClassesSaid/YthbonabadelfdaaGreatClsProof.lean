/- RowsClasses is true: the first one that is alike is alike to itself alone ahead of it; who is alike to one has its side; a fixed one's are fixed, with its value. Condition: none but those of the statement. -/
import Derived.Test.YthbonabadelfdaaGreatLiv
import Derived.Test.YthbonabadelfdaaGreatOpn
import Derived.Test.YthbonabadelfdaaGreatRows
namespace Go.Proofs.YthbonabadelfdaaGreat.I
open Go.RowKit

/-! ### Classes -/
structure ClsIs (S : Bo.Sr) (z : Sen) (i k : Nat) : Prop where
  le : k ≤ i
  self : first z k = k
  side : sd z k = sd z i
  fix : fixB S z k = fixB S z i
  val : valF z k = valF z i
theorem first_twice {z : Sen} {i : Nat} : first z (first z i) = first z i := by
  by_cases ho : okA z i = true
  · have h := first_is ho
    have k := first_is h.ok
    rcases Nat.lt_or_ge (first z (first z i)) (first z i) with hlt | hge
    · exact absurd (k.look.trans h.look) (h.least _ hlt k.ok)
    · exact Nat.le_antisymm k.le hge
  · have e := first_no (Bool.not_eq_true _ ▸ ho)
    rw [e, e]
theorem cls_is (S : Bo.Sr) (z : Sen) (i : Nat) : ClsIs S z i (first z i) := by
  by_cases ho : okA z i = true
  · have h := first_is ho
    have hf := fix_look (S := S) h.look
    exact ⟨h.le, first_twice, h.look.1, hf.1, hf.2⟩
  · have e := first_no (Bool.not_eq_true _ ▸ ho)
    rw [e]
    exact ⟨Nat.le_refl _, e, rfl, rfl, rfl⟩
theorem al_len (z : Sen) : (alF z).length = 0 ∨ (alF z).length = z.p.length := by
  unfold alF
  split
  · exact .inr (by simp)
  · exact .inl rfl
theorem al_fix (S : Bo.Sr) (z : Sen) : (fixF S z).length = (alF z).length ∧ (fvF S z).length = (alF z).length := by
  unfold alF fixF fvF
  split <;> simp
theorem al_at {S : Bo.Sr} {z : Sen} {i : Nat} (h : i < (alF z).length) (h1 : i < (fixF S z).length) (h2 : i < (fvF S z).length) : i < z.p.length ∧ (alF z)[i] = first z i ∧ (fixF S z)[i] = fixB S z i ∧ (fvF S z)[i] = if fixB S z i = true then valF z i else 0 := by
  have hw : wholeS z = true := by
    cases e : wholeS z with
    | true => rfl
    | false => unfold alF at h; rw [e] at h; cases h
  refine ⟨?_, ?_, ?_, ?_⟩
  · rcases al_len z with e | e <;> omega
  · simp only [alF, if_pos hw, List.getElem_map, List.getElem_range]
  · simp only [fixF, if_pos hw, List.getElem_map, List.getElem_range]
  · simp only [fvF, if_pos hw, List.getElem_map, List.getElem_range]

/-- What is read at one place. -/
structure ClR (w : World) (g i k p o bo oo bi oi bv ov : Nat) (n1 c1 : Nat) (s : Nat) (is : Bool) (u : Nat) : Prop where
  z : w.cell? ⟨g, 0, none⟩ = some (.slice (some ⟨p, o, none⟩) n1 c1)
  s1 : w.cell? ⟨p, o + i * 5 + 2, none⟩ = some (.int .u8 (s : Int))
  s2 : w.cell? ⟨p, o + k * 5 + 2, none⟩ = some (.int .u8 (s : Int))
  f : w.cell? ⟨bo, oo + k, none⟩ = some (.int .i64 (k : Int))
  i1 : w.cell? ⟨bi, oi + i, none⟩ = some (.bool is)
  i2 : w.cell? ⟨bi, oi + k, none⟩ = some (.bool is)
  v1 : w.cell? ⟨bv, ov + i, none⟩ = some (.int .u64 (u : Int))
  v2 : w.cell? ⟨bv, ov + k, none⟩ = some (.int .u64 (u : Int))
theorem ClR.keep {w W : World} {g i k p o bo oo bi oi bv ov n1 c1 s : Nat} {is : Bool} {u : Nat} (h : ClR w g i k p o bo oo bi oi bv ov n1 c1 s is u) (hb : Below w.heap.size w W) : ClR W g i k p o bo oo bi oi bv ov n1 c1 s is u :=
  ⟨cell_old h.z hb, cell_old h.s1 hb, cell_old h.s2 hb, cell_old h.f hb, cell_old h.i1 hb, cell_old h.i2 hb, cell_old h.v1 hb, cell_old h.v2 hb⟩
end Go.Proofs.YthbonabadelfdaaGreat.I

namespace Go.Proofs.YthbonabadelfdaaGreat.rowsClasses
open Go.ChangeShapes Go.WideShapes Go.ChangeAt Go.RowKit

set_option maxRecDepth 100000 in
set_option maxHeartbeats 8000000 in
theorem walk (A5 : Option Addr) (n5 c5 : Nat) (k : Int) (rows : List Nat) (z : I.Sen) (A1 : Option Addr) (n1 c1 : Nat) (A2 : Option Addr) (n2 c2 : Nat) (A3 : Option Addr) (n3 c3 : Nat) (A4 : Option Addr) (n4 c4 : Nat) (w : World) (hr : Rd La.nm w w.heap.size A5 n5 c5 rows) (hrf : La.Fit rows) (h : I.SenAt w z A1 n1 c1 A2 n2 c2 A3 n3 c3 A4 n4 c4) :
    Calls Tryz.prog 3 #[zV A5 n5 c5 k, senV A1 n1 c1 A2 n2 c2 A3 n3 c3 A4 n4 c4] w fun e w' => e = .returned (.bool true) ∧ Below w.heap.size w w' := by
  have HSA : Hid (∀ W, Below w.heap.size w W → I.SenAt W z A1 n1 c1 A2 n2 c2 A3 n3 c3 A4 n4 c4) := Lib.hid fun W hW => h.keep hW
  have HPC : Hid (∀ W, Below w.heap.size w W → Calls Tryz.prog 9 #[zV A5 n5 c5 k] W fun e w' => ∃ a b, e = .returned (.tuple #[.iface 70 (.pointer a), .iface 73 (.pointer b)]) ∧ Both w' a b (laOf rows) (efOf k) ∧ Below W.heap.size W w') := Lib.hid fun W hW => of_sorts A5 n5 c5 k rows W (hr.at_size (Nat.le_refl _) hW) hrf
  have HGA := Lib.hid fun W (hW : Below w.heap.size w W) => I.greatS_any A1 n1 c1 A2 n2 c2 A3 n3 c3 A4 n4 c4 z W (h.keep hW)
  have HLEN := Lib.hid h.rp.len
  obtain ⟨x, hx⟩ : ∃ x, w.alloc (.cells #[.slice A5 n5 c5, .int .i64 k] 24) = x := ⟨_, rfl⟩
  obtain ⟨y, hy⟩ : ∃ y, x.alloc (.cells #[.slice A1 n1 c1, .slice A2 n2 c2, .slice A3 n3 c3, .slice A4 n4 c4] 28) = y := ⟨_, rfl⟩
  have b0 : Below w.heap.size w x := hx ▸ (Below.refl _ _).alloc (Nat.le_refl _) _
  have sx : x.heap.size = w.heap.size + 1 := by rw [← hx, World.size_alloc]
  have b1 : Below x.heap.size x y := hy ▸ (Below.refl _ _).alloc (Nat.le_refl _) _
  have k0 : y.heap[w.heap.size]? = some (.cells #[.slice A5 n5 c5, .int .i64 k] 24 (0, 0)) := (b1.block _ (by rw [sx]; omega)).trans (hx ▸ heap_alloc_new w _)
  have k1 : y.heap[w.heap.size + 1]? = some (.cells #[.slice A1 n1 c1, .slice A2 n2 c2, .slice A3 n3 c3, .slice A4 n4 c4] 28 (0, 0)) := by rw [← sx, ← hy]; exact heap_alloc_new x _
  have hb : Below w.heap.size w y := b0.trans (b1.mono b0.size)
  have s0 := (cell_blk (i := 0) k0).trans rfl
  have s1 := (cell_blk (i := 1) k0).trans rfl
  have hzb := I.ZB.of k1
  have HB := Lib.hid hb
  have HZB := Lib.hid hzb
  have HS0 := Lib.hid s0
  have HS1 := Lib.hid s1
  have z0 := hzb.p0
  have z1 := hzb.p1
  have z2 := hzb.p2
  have z3 := hzb.p3
  have hga := HGA.out y hb
  have HG := Lib.hid hga
  clear b0 b1 sx k0 k1 hb hzb h hr hrf s0 s1 hga HGA
  subst hx
  unfold senV at HG ⊢
  unfold zV at HPC ⊢
  go_enter Tryz.func3, Tryz.ntmps3
  go_wp2_with fail
  clear hy
  refine HG.out.mono ?_
  rintro e w1 ⟨⟨gr, rfl, hgr⟩, hv⟩
  have HGR := Lib.hid hgr
  have HV1 := Lib.hid hv
  clear hv hgr z0 z1 z2 z3 HG
  cases gr with
  | true =>
    have HBZ := Lib.hid (HB.out.trans (HV1.out.mono HB.out.size))
    go_wp2_with fail
    refine (lives_any _).mono ?_
    rintro e wz ⟨rfl, hv⟩
    have HZ := Lib.hid (HBZ.out.trans (hv.mono HBZ.out.size))
    clear hv
    go_wp2_with fail
    go_ret
    exact ⟨rfl, HZ.out⟩
  | false =>
  have HSM := Lib.hid (HGR.out rfl)
  have s0 := cell_old HS0.out HV1.out
  have s1 := cell_old HS1.out HV1.out
  have hcp := HPC.out w1 (HB.out.trans (HV1.out.mono HB.out.size))
  have HCP := Lib.hid hcp
  clear hcp HPC HGR
  go_wp2_with fail
  refine HCP.out.mono ?_
  rintro e w2 ⟨a, b, rfl, hbo, hv⟩
  have HV2 := Lib.hid (HV1.out.trans (hv.mono HV1.out.size))
  have HBO := Lib.hid hbo
  have HB2 := Lib.hid (HB.out.trans (HV2.out.mono HB.out.size))
  have hz2 := HZB.out.keep HV2.out
  have z0 := hz2.p0
  have z1 := hz2.p1
  have z2 := hz2.p2
  have z3 := hz2.p3
  have HOF := Lib.hid (I.rowsOf_any (.iface 70 (.pointer a)) z A1 n1 c1 A2 n2 c2 A3 n3 c3 A4 n4 c4 w2 (HSA.out w2 HB2.out) (by have := HSM.out.p; omega))
  clear hv hbo s0 s1 hz2 HCP HV1
  unfold senV at HOF
  go_wp2_with fail
  refine HOF.out.mono ?_
  rintro e w3 ⟨F, nf, cf, rfl, hof⟩
  have hl9 : z.p.length ≤ 1000 := by have := HSM.out.p; have := HLEN.out; omega
  have hrd := hof.rd hl9
  have hv := hof.1
  have HV3 := Lib.hid (HV2.out.trans (hv.mono HV2.out.size))
  have HB3 := Lib.hid (HB.out.trans (HV3.out.mono HB.out.size))
  have hz2 := HZB.out.keep HV3.out
  have z0 := hz2.p0
  have z1 := hz2.p1
  have z2 := hz2.p2
  have z3 := hz2.p3
  have HRF := Lib.hid hrd
  have HFX := Lib.hid (I.fixed_any (.iface 70 (.pointer a)) (laOf rows) z A1 n1 c1 A2 n2 c2 A3 n3 c3 A4 n4 c4 w3 (HBO.out.keep hv).sl.into (HSA.out w3 HB3.out) (by have := HSM.out.p; omega))
  clear hv hof hrd hz2 hl9 HOF HBO HV2 HB2
  unfold senV at HFX
  go_wp2_with fail
  refine HFX.out.mono ?_
  rintro e w4 ⟨E, ne, ce, D, nd, cd, rfl, hfx⟩
  have hl9 : z.p.length ≤ 1000 := by have := HSM.out.p; have := HLEN.out; omega
  obtain ⟨hrb, hrv⟩ := hfx.rd hl9
  have hv := hfx.1
  have HV4 := Lib.hid (HV3.out.trans (hv.mono HV3.out.size))
  have HB4 := Lib.hid (HB.out.trans (HV4.out.mono HB.out.size))
  have hrf := HRF.out.at_size (Nat.le_refl _) hv
  obtain ⟨hq1, hq2⟩ := I.al_fix (laOf rows) z
  obtain rfl : nf = ne := by have := hrf.len; have := hrb.len; omega
  obtain rfl : nf = nd := by have := hrf.len; have := hrv.len; omega
  have hz2 := HZB.out.keep HV4.out
  have z0 := hz2.p0
  have HZ4 := Lib.hid hz2
  have HF4 := Lib.hid hrf
  have HI4 := Lib.hid hrb
  have HN4 := Lib.hid hrv
  have HNF : Hid (nf = 0 ∨ nf = n1) := Lib.hid (by
    have := hrf.len
    have := HLEN.out
    rcases I.al_len z with e | e <;> omega)
  have HNL := Lib.hid (show (I.alF z).length = nf from hrf.len)
  have HN1 := Lib.hid HSM.out.p
  have n0 : ((nf : Int) != (nf : Int)) = false := by simp
  clear hfx hl9 hv hrf hrb hrv hq1 hq2 hz2 HFX HRF HV3 HB3
  have hnf := HNF.out
  rcases hnf with hn | hn
  · have HNZ := Lib.hid hn
    have n1' : ((nf : Int) != 0) = false := by rw [hn]; rfl
    clear hn
    go_wp2_with fail
    clear n0 n1' z0
    go_loopw [10] (fun v10 wr => ∃ i : Nat, v10 = .int .i64 (i : Int) ∧ i ≤ nf ∧ Below w4.heap.size w4 wr) (fun v10 _ => nf - (intOf v10).toNat)
    case atStart => exact ⟨0, rfl, Nat.zero_le _, Below.refl _ _⟩
    case round =>
      obtain ⟨i, rfl, hi, hb⟩ := hrel
      by_cases hlt : i < nf
      · have hil : i < (I.alF z).length := by rw [HNL.out]; exact hlt
        have hif : i < (I.fixF (laOf rows) z).length := by rw [(I.al_fix _ z).1]; exact hil
        have hiv : i < (I.fvF (laOf rows) z).length := by rw [(I.al_fix _ z).2]; exact hil
        obtain ⟨hip, q1, q2, q3⟩ := I.al_at hil hif hiv
        have hc := I.cls_is (laOf rows) z i
        have hki : I.first z i ≤ i := hc.le
        have hkl : I.first z i < (I.alF z).length := by omega
        have hkf : I.first z i < (I.fixF (laOf rows) z).length := by omega
        have hkv : I.first z i < (I.fvF (laOf rows) z).length := by omega
        obtain ⟨hkp, r1, r2, r3⟩ := I.al_at hkl hkf hkv
        obtain ⟨bo, oo, rfl, -, hco⟩ := HF4.out.spot (by omega)
        obtain ⟨bi, oi, rfl, -, hci⟩ := HI4.out.spot (by omega)
        obtain ⟨bv, ov, rfl, -, hcv⟩ := HN4.out.spot (by omega)
        have c1 := hco i hil
        have c2 := hco _ hkl
        have c3 := hci i hif
        have c4 := hci _ hkf
        have c5 := hcv i hiv
        have c6 := hcv _ hkv
        rw [q1] at c1
        rw [r1, hc.self] at c2
        rw [q2] at c3
        rw [r2, hc.fix] at c4
        rw [q3] at c5
        rw [r3, hc.fix, hc.val] at c6
        have hsn := HSA.out w4 HB4.out
        obtain ⟨p0, o0, rfl, -, -, -, e2, -, -⟩ := I.spot_at hsn.rp hip
        obtain ⟨p0', o0', e, -, -, -, e2', -, -⟩ := I.spot_at hsn.rp hkp
        injection e with e
        injection e with ea eb
        subst ea eb
        rw [← I.sd_at hip] at e2
        rw [← I.sd_at hkp, hc.side] at e2'
        have hkn : I.first z i < n1 := by have := HLEN.out; omega
        obtain ⟨kk, hkk⟩ : ∃ x, I.first z i = x := ⟨_, rfl⟩
        obtain ⟨ss, hss⟩ : ∃ x, I.sd z i = x := ⟨_, rfl⟩
        obtain ⟨is, his⟩ : ∃ x, I.fixB (laOf rows) z i = x := ⟨_, rfl⟩
        obtain ⟨vf, hvf⟩ : ∃ x, I.valF z i = x := ⟨_, rfl⟩
        rw [hkk] at c1 c2 c4 c6 e2' hki hkn hkl
        rw [hss] at e2 e2'
        rw [his] at c3 c4 c5 c6
        rw [hvf] at c5 c6
        have HLT := Lib.hid hlt
        have HKL := Lib.hid hki
        have hk0 : decide ((kk : Int) < 0) = false := decide_eq_false (by omega)
        have hk1 : decide ((i : Int) < (kk : Int)) = false := decide_eq_false (by omega)
        have hk1n : decide (i < kk) = false := decide_eq_false (by omega)
        have hk1m : decide (kk ≤ i) = true := decide_eq_true (by omega)
        have hk1p : decide ((kk : Int) ≤ (i : Int)) = true := decide_eq_true (by omega)
        have hk2 : ((kk : Int) != (kk : Int)) = false := by simp
        have hk3 : ((ss : Int) != (ss : Int)) = false := by simp
        have hin : (i : Int) < (nf : Int) := by omega
        have hin1 : (i : Int) < (n1 : Int) := by have := HLEN.out; omega
        have hkn0 : (kk : Int) < (nf : Int) := by omega
        have hkn1 : (kk : Int) < (n1 : Int) := by omega
        have hi9 : i ≤ 60000 := by have := HN1.out; omega
        have c1' := cell_old c1 hb
        replace c1' : wr.cell? ⟨bo, oo + i, none⟩ = some (.int .i64 (kk : Int)) := c1'
        have HB := Lib.hid hb
        cases is with
        | true =>
          rw [if_pos rfl] at c5 c6
          have hk4 : ((vf : Int) != (vf : Int)) = false := by simp
          have HR := Lib.hid (I.ClR.keep ⟨HZ4.out.p0, e2, e2', c2, c3, c4, c5, c6⟩ hb)
          clear hi hb hlt hil hif hiv hip q1 q2 q3 hc hki hkl hkf hkv hkp r1 r2 r3 hco hci hcv c1 c2 c3 c4 c5 c6 hsn e2 e2' hkn hkk hss his hvf
          go_wp2_with fail
          clear c1'
          have hrx := HR.out
          refine wp_region_ord [0, 1, 2, 3, 4, 5, 6, 7, 8, 9, 10, 11, 12, 13, 14, 15, 16, 17, 18, 19, 20, 21, 22, 23, 24, 25, 26, 27, 28, 29, 30, 31, 32, 33, 34, 35, 36, 37, 38, 39, 40, 41, 42, 43, 44, 45, 46, 47, 48, 49, 50, 51, 52, 53, 54, 55, 56, 57, 58, 59, 60, 61, 62, 63, 64, 65] [] 66 (fun W => I.ClR W (w.heap.size + 1) i kk p0 o0 bo oo bi oi bv ov n1 c1 ss _ _) (by kernel_rfl) (by kernel_rfl) (by kernel_rfl) (by kernel_rfl) (fun _ _ _ _ _ h => h) (hrx.keep (Below.refl _ _).drew) ?_
          simp only [steps, List.getElem?_cons_zero, List.getElem?_cons_succ]
          repeat (first
            | (refine ord_no rfl ?_; simp only [Act.put, List.setIfInBounds_toArray, List.set_cons_zero, List.set_cons_succ])
            | (refine ord_yes (v := ?_) rfl rfl ?_ ?_; rotate_left; (focus (rintro w' ⟨x0, x1, x2, x3, x4, x5, x6, x7⟩; go_simp; try with_reducible rfl)); simp only [Act.put, List.setIfInBounds_toArray, List.set_cons_zero, List.set_cons_succ]))
          refine ord_end ?_
          have HBD := Lib.hid (HB.out.trans ((Below.refl wr.heap.size wr).drew.mono HB.out.size))
          clear hrx HB HR hk0 hk1 hk1n hk1m hk1p hk2 hk3 hk4
          generalize World.drew _ = we at *
          go_wp2_with fail
          go_roundw
          case rel => exact ⟨i + 1, by go_num, HLT.out, HBD.out⟩
          case measure =>
            have := HLT.out
            simp [intOf]
            omega
        | false =>
          rw [if_neg (by decide)] at c5 c6
          have HR := Lib.hid (I.ClR.keep ⟨HZ4.out.p0, e2, e2', c2, c3, c4, c5, c6⟩ hb)
          have hk4 : (((0 : Nat) : Int) != ((0 : Nat) : Int)) = false := by simp
          clear hi hb hlt hil hif hiv hip q1 q2 q3 hc hki hkl hkf hkv hkp r1 r2 r3 hco hci hcv c1 c2 c3 c4 c5 c6 hsn e2 e2' hkn hkk hss his hvf
          go_wp2_with fail
          clear c1'
          have hrx := HR.out
          refine wp_region_ord [0, 1, 2, 3, 4, 5, 6, 7, 8, 9, 10, 11, 12, 13, 14, 15, 16, 17, 18, 19, 20, 21, 22, 23, 24, 25, 26, 27, 28, 29, 30, 31, 32, 33, 34, 35, 36, 37, 38, 39, 40, 41, 42, 43, 44, 45, 46, 47, 48, 49, 50, 51, 52, 53, 54, 55, 56, 57, 58, 59, 60, 61, 62, 63, 64, 65] [] 66 (fun W => I.ClR W (w.heap.size + 1) i kk p0 o0 bo oo bi oi bv ov n1 c1 ss _ _) (by kernel_rfl) (by kernel_rfl) (by kernel_rfl) (by kernel_rfl) (fun _ _ _ _ _ h => h) (hrx.keep (Below.refl _ _).drew) ?_
          simp only [steps, List.getElem?_cons_zero, List.getElem?_cons_succ]
          repeat (first
            | (refine ord_no rfl ?_; simp only [Act.put, List.setIfInBounds_toArray, List.set_cons_zero, List.set_cons_succ])
            | (refine ord_yes (v := ?_) rfl rfl ?_ ?_; rotate_left; (focus (rintro w' ⟨x0, x1, x2, x3, x4, x5, x6, x7⟩; go_simp; try with_reducible rfl)); simp only [Act.put, List.setIfInBounds_toArray, List.set_cons_zero, List.set_cons_succ]))
          refine ord_end ?_
          have HBD := Lib.hid (HB.out.trans ((Below.refl wr.heap.size wr).drew.mono HB.out.size))
          clear hrx HB HR hk0 hk1 hk1n hk1m hk1p hk2 hk3 hk4
          generalize World.drew _ = we at *
          go_wp2_with fail
          go_roundw
          case rel => exact ⟨i + 1, by go_num, HLT.out, HBD.out⟩
          case measure =>
            have := HLT.out
            simp [intOf]
            omega
      · obtain rfl : i = nf := by omega
        have HBZ := Lib.hid (HB4.out.trans (hb.mono HB4.out.size))
        clear hlt hb
        go_wp2_with fail
        refine (lives_any _).mono ?_
        rintro e wz ⟨rfl, hv⟩
        have HZ := Lib.hid (HBZ.out.trans (hv.mono HBZ.out.size))
        clear hv
        go_wp2_with fail
        go_ret
        exact ⟨rfl, HZ.out⟩
  · have hne : ((nf : Int) != (n1 : Int)) = false := by rw [hn]; simp
    by_cases h0 : nf = 0
    · have n1' : ((nf : Int) != 0) = false := by rw [h0]; rfl
      clear hn h0
      go_wp2_with fail
      clear n0 n1' z0 hne
      go_loopw [10] (fun v10 wr => ∃ i : Nat, v10 = .int .i64 (i : Int) ∧ i ≤ nf ∧ Below w4.heap.size w4 wr) (fun v10 _ => nf - (intOf v10).toNat)
      case atStart => exact ⟨0, rfl, Nat.zero_le _, Below.refl _ _⟩
      case round =>
        obtain ⟨i, rfl, hi, hb⟩ := hrel
        by_cases hlt : i < nf
        · have hil : i < (I.alF z).length := by rw [HNL.out]; exact hlt
          have hif : i < (I.fixF (laOf rows) z).length := by rw [(I.al_fix _ z).1]; exact hil
          have hiv : i < (I.fvF (laOf rows) z).length := by rw [(I.al_fix _ z).2]; exact hil
          obtain ⟨hip, q1, q2, q3⟩ := I.al_at hil hif hiv
          have hc := I.cls_is (laOf rows) z i
          have hki : I.first z i ≤ i := hc.le
          have hkl : I.first z i < (I.alF z).length := by omega
          have hkf : I.first z i < (I.fixF (laOf rows) z).length := by omega
          have hkv : I.first z i < (I.fvF (laOf rows) z).length := by omega
          obtain ⟨hkp, r1, r2, r3⟩ := I.al_at hkl hkf hkv
          obtain ⟨bo, oo, rfl, -, hco⟩ := HF4.out.spot (by omega)
          obtain ⟨bi, oi, rfl, -, hci⟩ := HI4.out.spot (by omega)
          obtain ⟨bv, ov, rfl, -, hcv⟩ := HN4.out.spot (by omega)
          have c1 := hco i hil
          have c2 := hco _ hkl
          have c3 := hci i hif
          have c4 := hci _ hkf
          have c5 := hcv i hiv
          have c6 := hcv _ hkv
          rw [q1] at c1
          rw [r1, hc.self] at c2
          rw [q2] at c3
          rw [r2, hc.fix] at c4
          rw [q3] at c5
          rw [r3, hc.fix, hc.val] at c6
          have hsn := HSA.out w4 HB4.out
          obtain ⟨p0, o0, rfl, -, -, -, e2, -, -⟩ := I.spot_at hsn.rp hip
          obtain ⟨p0', o0', e, -, -, -, e2', -, -⟩ := I.spot_at hsn.rp hkp
          injection e with e
          injection e with ea eb
          subst ea eb
          rw [← I.sd_at hip] at e2
          rw [← I.sd_at hkp, hc.side] at e2'
          have hkn : I.first z i < n1 := by have := HLEN.out; omega
          obtain ⟨kk, hkk⟩ : ∃ x, I.first z i = x := ⟨_, rfl⟩
          obtain ⟨ss, hss⟩ : ∃ x, I.sd z i = x := ⟨_, rfl⟩
          obtain ⟨is, his⟩ : ∃ x, I.fixB (laOf rows) z i = x := ⟨_, rfl⟩
          obtain ⟨vf, hvf⟩ : ∃ x, I.valF z i = x := ⟨_, rfl⟩
          rw [hkk] at c1 c2 c4 c6 e2' hki hkn hkl
          rw [hss] at e2 e2'
          rw [his] at c3 c4 c5 c6
          rw [hvf] at c5 c6
          have HLT := Lib.hid hlt
          have HKL := Lib.hid hki
          have hk0 : decide ((kk : Int) < 0) = false := decide_eq_false (by omega)
          have hk1 : decide ((i : Int) < (kk : Int)) = false := decide_eq_false (by omega)
          have hk1n : decide (i < kk) = false := decide_eq_false (by omega)
          have hk1m : decide (kk ≤ i) = true := decide_eq_true (by omega)
          have hk1p : decide ((kk : Int) ≤ (i : Int)) = true := decide_eq_true (by omega)
          have hk2 : ((kk : Int) != (kk : Int)) = false := by simp
          have hk3 : ((ss : Int) != (ss : Int)) = false := by simp
          have hin : (i : Int) < (nf : Int) := by omega
          have hin1 : (i : Int) < (n1 : Int) := by have := HLEN.out; omega
          have hkn0 : (kk : Int) < (nf : Int) := by omega
          have hkn1 : (kk : Int) < (n1 : Int) := by omega
          have hi9 : i ≤ 60000 := by have := HN1.out; omega
          have c1' := cell_old c1 hb
          replace c1' : wr.cell? ⟨bo, oo + i, none⟩ = some (.int .i64 (kk : Int)) := c1'
          have HB := Lib.hid hb
          cases is with
          | true =>
            rw [if_pos rfl] at c5 c6
            have hk4 : ((vf : Int) != (vf : Int)) = false := by simp
            have HR := Lib.hid (I.ClR.keep ⟨HZ4.out.p0, e2, e2', c2, c3, c4, c5, c6⟩ hb)
            clear hi hb hlt hil hif hiv hip q1 q2 q3 hc hki hkl hkf hkv hkp r1 r2 r3 hco hci hcv c1 c2 c3 c4 c5 c6 hsn e2 e2' hkn hkk hss his hvf
            go_wp2_with fail
            clear c1'
            have hrx := HR.out
            refine wp_region_ord [0, 1, 2, 3, 4, 5, 6, 7, 8, 9, 10, 11, 12, 13, 14, 15, 16, 17, 18, 19, 20, 21, 22, 23, 24, 25, 26, 27, 28, 29, 30, 31, 32, 33, 34, 35, 36, 37, 38, 39, 40, 41, 42, 43, 44, 45, 46, 47, 48, 49, 50, 51, 52, 53, 54, 55, 56, 57, 58, 59, 60, 61, 62, 63, 64, 65] [] 66 (fun W => I.ClR W (w.heap.size + 1) i kk p0 o0 bo oo bi oi bv ov n1 c1 ss _ _) (by kernel_rfl) (by kernel_rfl) (by kernel_rfl) (by kernel_rfl) (fun _ _ _ _ _ h => h) (hrx.keep (Below.refl _ _).drew) ?_
            simp only [steps, List.getElem?_cons_zero, List.getElem?_cons_succ]
            repeat (first
              | (refine ord_no rfl ?_; simp only [Act.put, List.setIfInBounds_toArray, List.set_cons_zero, List.set_cons_succ])
              | (refine ord_yes (v := ?_) rfl rfl ?_ ?_; rotate_left; (focus (rintro w' ⟨x0, x1, x2, x3, x4, x5, x6, x7⟩; go_simp; try with_reducible rfl)); simp only [Act.put, List.setIfInBounds_toArray, List.set_cons_zero, List.set_cons_succ]))
            refine ord_end ?_
            have HBD := Lib.hid (HB.out.trans ((Below.refl wr.heap.size wr).drew.mono HB.out.size))
            clear hrx HB HR hk0 hk1 hk1n hk1m hk1p hk2 hk3 hk4
            generalize World.drew _ = we at *
            go_wp2_with fail
            go_roundw
            case rel => exact ⟨i + 1, by go_num, HLT.out, HBD.out⟩
            case measure =>
              have := HLT.out
              simp [intOf]
              omega
          | false =>
            rw [if_neg (by decide)] at c5 c6
            have HR := Lib.hid (I.ClR.keep ⟨HZ4.out.p0, e2, e2', c2, c3, c4, c5, c6⟩ hb)
            have hk4 : (((0 : Nat) : Int) != ((0 : Nat) : Int)) = false := by simp
            clear hi hb hlt hil hif hiv hip q1 q2 q3 hc hki hkl hkf hkv hkp r1 r2 r3 hco hci hcv c1 c2 c3 c4 c5 c6 hsn e2 e2' hkn hkk hss his hvf
            go_wp2_with fail
            clear c1'
            have hrx := HR.out
            refine wp_region_ord [0, 1, 2, 3, 4, 5, 6, 7, 8, 9, 10, 11, 12, 13, 14, 15, 16, 17, 18, 19, 20, 21, 22, 23, 24, 25, 26, 27, 28, 29, 30, 31, 32, 33, 34, 35, 36, 37, 38, 39, 40, 41, 42, 43, 44, 45, 46, 47, 48, 49, 50, 51, 52, 53, 54, 55, 56, 57, 58, 59, 60, 61, 62, 63, 64, 65] [] 66 (fun W => I.ClR W (w.heap.size + 1) i kk p0 o0 bo oo bi oi bv ov n1 c1 ss _ _) (by kernel_rfl) (by kernel_rfl) (by kernel_rfl) (by kernel_rfl) (fun _ _ _ _ _ h => h) (hrx.keep (Below.refl _ _).drew) ?_
            simp only [steps, List.getElem?_cons_zero, List.getElem?_cons_succ]
            repeat (first
              | (refine ord_no rfl ?_; simp only [Act.put, List.setIfInBounds_toArray, List.set_cons_zero, List.set_cons_succ])
              | (refine ord_yes (v := ?_) rfl rfl ?_ ?_; rotate_left; (focus (rintro w' ⟨x0, x1, x2, x3, x4, x5, x6, x7⟩; go_simp; try with_reducible rfl)); simp only [Act.put, List.setIfInBounds_toArray, List.set_cons_zero, List.set_cons_succ]))
            refine ord_end ?_
            have HBD := Lib.hid (HB.out.trans ((Below.refl wr.heap.size wr).drew.mono HB.out.size))
            clear hrx HB HR hk0 hk1 hk1n hk1m hk1p hk2 hk3 hk4
            generalize World.drew _ = we at *
            go_wp2_with fail
            go_roundw
            case rel => exact ⟨i + 1, by go_num, HLT.out, HBD.out⟩
            case measure =>
              have := HLT.out
              simp [intOf]
              omega
        · obtain rfl : i = nf := by omega
          have HBZ := Lib.hid (HB4.out.trans (hb.mono HB4.out.size))
          clear hlt hb
          go_wp2_with fail
          refine (lives_any _).mono ?_
          rintro e wz ⟨rfl, hv⟩
          have HZ := Lib.hid (HBZ.out.trans (hv.mono HBZ.out.size))
          clear hv
          go_wp2_with fail
          go_ret
          exact ⟨rfl, HZ.out⟩
    · have n1' : ((nf : Int) != 0) = true := by rw [bne_iff_ne]; omega
      clear hn h0
      go_wp2_with fail
      clear n0 n1' z0 hne
      go_loopw [10] (fun v10 wr => ∃ i : Nat, v10 = .int .i64 (i : Int) ∧ i ≤ nf ∧ Below w4.heap.size w4 wr) (fun v10 _ => nf - (intOf v10).toNat)
      case atStart => exact ⟨0, rfl, Nat.zero_le _, Below.refl _ _⟩
      case round =>
        obtain ⟨i, rfl, hi, hb⟩ := hrel
        by_cases hlt : i < nf
        · have hil : i < (I.alF z).length := by rw [HNL.out]; exact hlt
          have hif : i < (I.fixF (laOf rows) z).length := by rw [(I.al_fix _ z).1]; exact hil
          have hiv : i < (I.fvF (laOf rows) z).length := by rw [(I.al_fix _ z).2]; exact hil
          obtain ⟨hip, q1, q2, q3⟩ := I.al_at hil hif hiv
          have hc := I.cls_is (laOf rows) z i
          have hki : I.first z i ≤ i := hc.le
          have hkl : I.first z i < (I.alF z).length := by omega
          have hkf : I.first z i < (I.fixF (laOf rows) z).length := by omega
          have hkv : I.first z i < (I.fvF (laOf rows) z).length := by omega
          obtain ⟨hkp, r1, r2, r3⟩ := I.al_at hkl hkf hkv
          obtain ⟨bo, oo, rfl, -, hco⟩ := HF4.out.spot (by omega)
          obtain ⟨bi, oi, rfl, -, hci⟩ := HI4.out.spot (by omega)
          obtain ⟨bv, ov, rfl, -, hcv⟩ := HN4.out.spot (by omega)
          have c1 := hco i hil
          have c2 := hco _ hkl
          have c3 := hci i hif
          have c4 := hci _ hkf
          have c5 := hcv i hiv
          have c6 := hcv _ hkv
          rw [q1] at c1
          rw [r1, hc.self] at c2
          rw [q2] at c3
          rw [r2, hc.fix] at c4
          rw [q3] at c5
          rw [r3, hc.fix, hc.val] at c6
          have hsn := HSA.out w4 HB4.out
          obtain ⟨p0, o0, rfl, -, -, -, e2, -, -⟩ := I.spot_at hsn.rp hip
          obtain ⟨p0', o0', e, -, -, -, e2', -, -⟩ := I.spot_at hsn.rp hkp
          injection e with e
          injection e with ea eb
          subst ea eb
          rw [← I.sd_at hip] at e2
          rw [← I.sd_at hkp, hc.side] at e2'
          have hkn : I.first z i < n1 := by have := HLEN.out; omega
          obtain ⟨kk, hkk⟩ : ∃ x, I.first z i = x := ⟨_, rfl⟩
          obtain ⟨ss, hss⟩ : ∃ x, I.sd z i = x := ⟨_, rfl⟩
          obtain ⟨is, his⟩ : ∃ x, I.fixB (laOf rows) z i = x := ⟨_, rfl⟩
          obtain ⟨vf, hvf⟩ : ∃ x, I.valF z i = x := ⟨_, rfl⟩
          rw [hkk] at c1 c2 c4 c6 e2' hki hkn hkl
          rw [hss] at e2 e2'
          rw [his] at c3 c4 c5 c6
          rw [hvf] at c5 c6
          have HLT := Lib.hid hlt
          have HKL := Lib.hid hki
          have hk0 : decide ((kk : Int) < 0) = false := decide_eq_false (by omega)
          have hk1 : decide ((i : Int) < (kk : Int)) = false := decide_eq_false (by omega)
          have hk1n : decide (i < kk) = false := decide_eq_false (by omega)
          have hk1m : decide (kk ≤ i) = true := decide_eq_true (by omega)
          have hk1p : decide ((kk : Int) ≤ (i : Int)) = true := decide_eq_true (by omega)
          have hk2 : ((kk : Int) != (kk : Int)) = false := by simp
          have hk3 : ((ss : Int) != (ss : Int)) = false := by simp
          have hin : (i : Int) < (nf : Int) := by omega
          have hin1 : (i : Int) < (n1 : Int) := by have := HLEN.out; omega
          have hkn0 : (kk : Int) < (nf : Int) := by omega
          have hkn1 : (kk : Int) < (n1 : Int) := by omega
          have hi9 : i ≤ 60000 := by have := HN1.out; omega
          have c1' := cell_old c1 hb
          replace c1' : wr.cell? ⟨bo, oo + i, none⟩ = some (.int .i64 (kk : Int)) := c1'
          have HB := Lib.hid hb
          cases is with
          | true =>
            rw [if_pos rfl] at c5 c6
            have hk4 : ((vf : Int) != (vf : Int)) = false := by simp
            have HR := Lib.hid (I.ClR.keep ⟨HZ4.out.p0, e2, e2', c2, c3, c4, c5, c6⟩ hb)
            clear hi hb hlt hil hif hiv hip q1 q2 q3 hc hki hkl hkf hkv hkp r1 r2 r3 hco hci hcv c1 c2 c3 c4 c5 c6 hsn e2 e2' hkn hkk hss his hvf
            go_wp2_with fail
            clear c1'
            have hrx := HR.out
            refine wp_region_ord [0, 1, 2, 3, 4, 5, 6, 7, 8, 9, 10, 11, 12, 13, 14, 15, 16, 17, 18, 19, 20, 21, 22, 23, 24, 25, 26, 27, 28, 29, 30, 31, 32, 33, 34, 35, 36, 37, 38, 39, 40, 41, 42, 43, 44, 45, 46, 47, 48, 49, 50, 51, 52, 53, 54, 55, 56, 57, 58, 59, 60, 61, 62, 63, 64, 65] [] 66 (fun W => I.ClR W (w.heap.size + 1) i kk p0 o0 bo oo bi oi bv ov n1 c1 ss _ _) (by kernel_rfl) (by kernel_rfl) (by kernel_rfl) (by kernel_rfl) (fun _ _ _ _ _ h => h) (hrx.keep (Below.refl _ _).drew) ?_
            simp only [steps, List.getElem?_cons_zero, List.getElem?_cons_succ]
            repeat (first
              | (refine ord_no rfl ?_; simp only [Act.put, List.setIfInBounds_toArray, List.set_cons_zero, List.set_cons_succ])
              | (refine ord_yes (v := ?_) rfl rfl ?_ ?_; rotate_left; (focus (rintro w' ⟨x0, x1, x2, x3, x4, x5, x6, x7⟩; go_simp; try with_reducible rfl)); simp only [Act.put, List.setIfInBounds_toArray, List.set_cons_zero, List.set_cons_succ]))
            refine ord_end ?_
            have HBD := Lib.hid (HB.out.trans ((Below.refl wr.heap.size wr).drew.mono HB.out.size))
            clear hrx HB HR hk0 hk1 hk1n hk1m hk1p hk2 hk3 hk4
            generalize World.drew _ = we at *
            go_wp2_with fail
            go_roundw
            case rel => exact ⟨i + 1, by go_num, HLT.out, HBD.out⟩
            case measure =>
              have := HLT.out
              simp [intOf]
              omega
          | false =>
            rw [if_neg (by decide)] at c5 c6
            have HR := Lib.hid (I.ClR.keep ⟨HZ4.out.p0, e2, e2', c2, c3, c4, c5, c6⟩ hb)
            have hk4 : (((0 : Nat) : Int) != ((0 : Nat) : Int)) = false := by simp
            clear hi hb hlt hil hif hiv hip q1 q2 q3 hc hki hkl hkf hkv hkp r1 r2 r3 hco hci hcv c1 c2 c3 c4 c5 c6 hsn e2 e2' hkn hkk hss his hvf
            go_wp2_with fail
            clear c1'
            have hrx := HR.out
            refine wp_region_ord [0, 1, 2, 3, 4, 5, 6, 7, 8, 9, 10, 11, 12, 13, 14, 15, 16, 17, 18, 19, 20, 21, 22, 23, 24, 25, 26, 27, 28, 29, 30, 31, 32, 33, 34, 35, 36, 37, 38, 39, 40, 41, 42, 43, 44, 45, 46, 47, 48, 49, 50, 51, 52, 53, 54, 55, 56, 57, 58, 59, 60, 61, 62, 63, 64, 65] [] 66 (fun W => I.ClR W (w.heap.size + 1) i kk p0 o0 bo oo bi oi bv ov n1 c1 ss _ _) (by kernel_rfl) (by kernel_rfl) (by kernel_rfl) (by kernel_rfl) (fun _ _ _ _ _ h => h) (hrx.keep (Below.refl _ _).drew) ?_
            simp only [steps, List.getElem?_cons_zero, List.getElem?_cons_succ]
            repeat (first
              | (refine ord_no rfl ?_; simp only [Act.put, List.setIfInBounds_toArray, List.set_cons_zero, List.set_cons_succ])
              | (refine ord_yes (v := ?_) rfl rfl ?_ ?_; rotate_left; (focus (rintro w' ⟨x0, x1, x2, x3, x4, x5, x6, x7⟩; go_simp; try with_reducible rfl)); simp only [Act.put, List.setIfInBounds_toArray, List.set_cons_zero, List.set_cons_succ]))
            refine ord_end ?_
            have HBD := Lib.hid (HB.out.trans ((Below.refl wr.heap.size wr).drew.mono HB.out.size))
            clear hrx HB HR hk0 hk1 hk1n hk1m hk1p hk2 hk3 hk4
            generalize World.drew _ = we at *
            go_wp2_with fail
            go_roundw
            case rel => exact ⟨i + 1, by go_num, HLT.out, HBD.out⟩
            case measure =>
              have := HLT.out
              simp [intOf]
              omega
        · obtain rfl : i = nf := by omega
          have HBZ := Lib.hid (HB4.out.trans (hb.mono HB4.out.size))
          clear hlt hb
          go_wp2_with fail
          refine (lives_any _).mono ?_
          rintro e wz ⟨rfl, hv⟩
          have HZ := Lib.hid (HBZ.out.trans (hv.mono HBZ.out.size))
          clear hv
          go_wp2_with fail
          go_ret
          exact ⟨rfl, HZ.out⟩

theorem own : ownKnob Tryz.prog.godebug = none := by kernel_rfl
theorem laidOut : laidOutB Tryz.prog = true := by kernel_rfl

set_option maxRecDepth 100000 in
theorem lifted (os : Os) (started : os.Started) (H : Type) (enc : TypeId × Value → H) :
    ReturnsInHanded {} Tryz.checked os 3 .any (Rows.rowsClassesSpec.pre6 enc Tryz.prog Tryz.f3 Rows.rowsClassesRow.domain false) (Rows.rowsClassesSpec.post enc Tryz.prog Tryz.f3 false true false false) := by
  refine returnsInHanded_of_change (C := Tryz.checked) own started (by kernel_rfl) Tryz.func3
    (ChangeSpec.witness6 (enc := enc) (C := Tryz.checked) false ⟨#[], #[.agg #[.slice none 0 0, .int .i64 0], .agg #[.slice none 0 0, .slice none 0 0, .slice none 0 0, .slice none 0 0]], []⟩ 8 (by kernel_rfl) (by kernel_rfl) (by kernel_rfl) (by kernel_rfl)) ?_
  intro W base args ds gs before hval0 hW hcnd _
  have hval : ∀ (j : Nat) t v, Tryz.f3.params[j]? = some t → args[j]? = some v → Value.okWide Tryz.prog W .any base t v := hval0
  have hW' := hW
  obtain ⟨p, q, hA0, hV, rfl, hfz, hnd⟩ := hW
  have hA : DataW.TrodAll enc Tryz.prog W 0 (fun _ => true) true Tryz.f3.params.toList args.toList ds p := hA0
  rw [Tryz.params3] at hA hval
  obtain ⟨v0, vs0, d0, ds0, p0, q0, hargs, rfl, rfl, h0, r0⟩ := trodAll_cons hA
  obtain ⟨v1, vs1, d1, ds1, p1, q1, rfl, rfl, rfl, h1, r1⟩ := trodAll_cons r0
  obtain ⟨rfl, rfl, rfl⟩ := trodAll_nil r1
  obtain rfl : args = #[v0, v1] := by cases args; simp_all
  obtain ⟨rfl, rfl⟩ := trodVars_none hV
  have lt0 : ∀ x ∈ p0, x.block < W.heap.size := by obtain ⟨m, hm⟩ := h0; exact DataW.trod_lt m _ _ _ hm
  have lt1 : ∀ x ∈ p1, x.block < W.heap.size := by obtain ⟨m, hm⟩ := h1; exact DataW.trod_lt m _ _ _ hm
  obtain ⟨A5, n5, c5, k, rows, rfl, hr, hrf⟩ := opened_sorts h0
  obtain ⟨z, A1, n1, c1, A2, n2, c2, A3, n3, c3, A4, n4, c4, rfl, ha⟩ := I.opened_sense h1
  clear hA0 hval0
  refine (walk A5 n5 c5 k rows z A1 n1 c1 A2 n2 c2 A3 n3 c3 A4 n4 c4 W hr hrf ha).mono fun e W' ⟨he, bel⟩ => ?_
  subst he
  exact ⟨_, rfl, _, _, _, [], _, [], hW', trodAll_mk1 (shut_bool Tryz.underlying4 _), (trodAll_cons_mk (Below.trod laidOut (by kernel_rfl) (of_decide_eq_true (by kernel_rfl)) h0 bel lt0) (trodAll_cons_mk (Below.trod laidOut (by kernel_rfl) (of_decide_eq_true (by kernel_rfl)) h1 bel lt1) trodAll_mk0)), rfl, bel.frame _, fun h => by cases h⟩

theorem over : Rows.rowsClassesRow.holds Tryz.pinned (OpenSpec.ofChange Rows.rowsClassesSpec) :=
  OpenClaim.holds_of_wide 3 Tryz.f3 rfl rfl rfl rfl rfl rfl rfl ⟨rfl, rfl, rfl, rfl, rfl⟩ rfl rfl rfl rfl rfl (by kernel_rfl) Tryz.func3 (by kernel_rfl)
    (of_decide_eq_true (by kernel_rfl)) (by unfold Func.isWrapper; first | (rw [if_pos (by decide +kernel)]; kernel_rfl) | (rw [if_neg (by decide +kernel)]; exact ⟨rfl, rfl⟩))
    (fun os started H enc _ => lifted os started H enc)

theorem proved : Rows.RowsClassesSaid := over
#print axioms proved
end Go.Proofs.YthbonabadelfdaaGreat.rowsClasses
