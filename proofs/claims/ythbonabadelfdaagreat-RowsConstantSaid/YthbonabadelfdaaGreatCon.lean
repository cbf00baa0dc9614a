/- What constant tells: true, where constants are fixed, and what is fixed is a value. Condition: the sense can be read. -/
import Derived.Test.YthbonabadelfdaaGreatLiv
namespace Go.Proofs.YthbonabadelfdaaGreat
open Go.RowKit
open I (sd bb lw hg fixB valF)

/-- What is asked. -/
structure ConIs (S : Bo.Sr) (z : I.Sen) : Prop where
  wh : I.wholeS z = true
  con : ∀ i (h : i < z.p.length), z.p[i].v = false → fixB S z i = true ∧ z.p[i].z = (valF z i : Int)
  has : ∀ i, i < z.p.length → S.has (valF z i) = true ∧ valF z i < 18446744073709551616

/-- What is read at one place. -/
structure CnR (w : World) (g i ga gb p o : Nat) (n1 c1 : Nat) (xv : Bool) (xz : Int) (is : Bool) (vv : Nat) : Prop where
  z : w.cell? ⟨g, 0, none⟩ = some (.slice (some ⟨p, o, none⟩) n1 c1)
  v : w.cell? ⟨p, o + i * 5 + 3, none⟩ = some (.bool xv)
  x : w.cell? ⟨p, o + i * 5 + 4, none⟩ = some (.int .u64 xz)
  s : w.cell? ⟨ga, i, none⟩ = some (.bool is)
  y : w.cell? ⟨gb, i, none⟩ = some (.int .u64 (vv : Int))
theorem CnR.keep {w W : World} {g i ga gb p o n1 c1 : Nat} {xv : Bool} {xz : Int} {is : Bool} {vv : Nat} (h : CnR w g i ga gb p o n1 c1 xv xz is vv) (hb : Below w.heap.size w W) : CnR W g i ga gb p o n1 c1 xv xz is vv :=
  ⟨cell_old h.z hb, cell_old h.v hb, cell_old h.x hb, cell_old h.s hb, cell_old h.y hb⟩

set_option maxRecDepth 100000 in
set_option maxHeartbeats 8000000 in
theorem constant_any (v : Value) (S : Bo.Sr) (z : I.Sen) (A1 : Option Addr) (n1 c1 : Nat) (A2 : Option Addr) (n2 c2 : Nat) (A3 : Option Addr) (n3 c3 : Nat) (A4 : Option Addr) (n4 c4 : Nat) (w : World) (hv : Srt3 w v S) (h : I.SenAt w z A1 n1 c1 A2 n2 c2 A3 n3 c3 A4 n4 c4) (hc : ConIs S z) (hn : n1 ≤ 60000) :
    Calls Tryz.prog 21 #[v, senV A1 n1 c1 A2 n2 c2 A3 n3 c3 A4 n4 c4] w fun e w' => e = .returned (.bool true) ∧ Below w.heap.size w w' := by
  have hk0 := heap_alloc_new w (.cells #[.slice A1 n1 c1, .slice A2 n2 c2, .slice A3 n3 c3, .slice A4 n4 c4] 28)
  have hz0 := I.ZB.of hk0
  have hb0 : Below w.heap.size w (w.alloc (.cells #[.slice A1 n1 c1, .slice A2 n2 c2, .slice A3 n3 c3, .slice A4 n4 c4] 28)) := (Below.refl _ _).alloc (Nat.le_refl _) _
  have HFX := Lib.hid (I.fixed_any v S z A1 n1 c1 A2 n2 c2 A3 n3 c3 A4 n4 c4 _ (hv.keep hb0).into (h.keep hb0) hn)
  have HSW : Hid (∀ W, Below w.heap.size w W → I.SenAt W z A1 n1 c1 A2 n2 c2 A3 n3 c3 A4 n4 c4) := Lib.hid fun W hW => h.keep hW
  have HLEN := Lib.hid h.rp.len
  have HZ0 := Lib.hid hz0
  have HB0 := Lib.hid hb0
  have HN := Lib.hid hn
  have HC := Lib.hid hc
  have HV := Lib.hid hv
  have y0 := hz0.p0
  have y1 := hz0.p1
  have y2 := hz0.p2
  have y3 := hz0.p3
  clear hk0 hz0 hb0 h hn hc hv
  unfold senV at HFX ⊢
  have hsv := HV.out
  rcases hsv with ⟨pa, rfl, hans⟩ | ⟨pa, rfl, hans⟩
  all_goals (
    have HANS := Lib.hid hans
    clear hans
    go_enter Tryz.func21, Tryz.ntmps21
    go_wp2_with fail
    refine HFX.out.mono ?_
    rintro e w1 ⟨A, n, c, B, m, d, rfl, hfx⟩
    have HB1 := Lib.hid (HB0.out.trans (hfx.1.mono HB0.out.size))
    have HZ1 := Lib.hid (HZ0.out.keep hfx.1)
    rcases hfx.2 with ⟨hw, -⟩ | ⟨hw, ga, gb, rfl, hnn, g2, rfl, g3, g4, hfa⟩
    · rw [HC.out.wh] at hw
      cases hw
    obtain rfl : n = n1 := by have := HLEN.out; omega
    obtain rfl : n = c := g2.symm
    obtain rfl : n = m := g3.symm
    obtain rfl : n = d := g4.symm
    have HFA := Lib.hid hfa
    clear hfx hw hnn hfa g2 g3 g4 y0 y1 y2 y3 HFX HB0 HZ0
    have y0 := HZ1.out.p0
    go_wp2_with fail
    clear y0
    go_loopw [7] (fun v7 wr => ∃ i : Nat, v7 = .int .i64 (i : Int) ∧ i ≤ n ∧ Below w1.heap.size w1 wr) (fun v7 _ => n - (intOf v7).toNat)
    case atStart => exact ⟨0, rfl, Nat.zero_le _, Below.refl _ _⟩
    case round =>
      obtain ⟨i, rfl, hi, hb⟩ := hrel
      have y0 := (HZ1.out.keep hb).p0
      by_cases hlt : i < n
      · have hsn := HSW.out w1 HB1.out
        have hip : i < z.p.length := by rw [HLEN.out]; exact hlt
        obtain ⟨p0, o0, rfl, -, -, -, -, e3, e4⟩ := I.spot_at hsn.rp hip
        have d0 := (cell_blk (i := i) HFA.out.a).trans (I.bcl_at (by rw [I.fxB_len]; exact hlt))
        have d1 := (cell_blk (i := i) HFA.out.b).trans (La.cl_at (by rw [I.fxV_len]; exact hlt))
        have q0 : (I.fxB S z n n)[i]'(by rw [I.fxB_len]; exact hlt) = fixB S z i := by simp [I.fxB, hlt]
        have q1 : (I.fxV S z n n)[i]'(by rw [I.fxV_len]; exact hlt) = if fixB S z i = true then valF z i else 0 := by simp [I.fxV, hlt]
        rw [q0] at d0
        rw [q1] at d1
        have hcon := HC.out.con i hip
        have hhas := HC.out.has i hip
        generalize z.p[i] = sp at *
        obtain ⟨xn, xp, xs, xv, xz⟩ := sp
        simp only at e3 e4 hcon
        obtain ⟨is, his⟩ : ∃ x, fixB S z i = x := ⟨_, rfl⟩
        rw [his] at d0 d1 hcon
        obtain ⟨vf, hvf⟩ : ∃ x, valF z i = x := ⟨_, rfl⟩
        rw [hvf] at d1 hcon hhas
        have hh1 := hhas.1
        have HV64 := Lib.hid hhas.2
        have HHAS := Lib.hid hh1
        have HB := Lib.hid hb
        have HLT := Lib.hid hlt
        have hin : (i : Int) < (n : Int) := by omega
        have hi9 : i ≤ 60000 := by have := HN.out; omega
        clear hi hb hlt hsn hip q0 q1 hhas hh1 his hvf
        cases xv with
        | true =>
          clear hcon
          cases is with
          | false =>
            rw [if_neg (by decide)] at d1
            have HR := Lib.hid (CnR.keep ⟨HZ1.out.p0, e3, e4, d0, d1⟩ HB.out)
            clear e3 e4 d0 d1
            have hn1 := Bo.nil_la_Has pa
            have hn2 := Bo.nil_ef_Has pa
            go_wp2_with fail
            have hrx := HR.out
            refine wp_region_ord [0, 1, 2, 3, 4, 5, 6, 7, 8, 9, 10, 11, 12, 13, 14, 15, 16, 17, 18, 19, 20, 21, 22, 23, 24, 25, 26, 27, 28, 29, 30, 31, 32, 33, 34, 35, 36, 37, 38, 39, 40, 41, 42, 43, 44, 45, 46] [43] 47 (fun W => CnR W w.heap.size i ga gb p0 o0 n c1 _ xz _ _) (by kernel_rfl) (by kernel_rfl) (by kernel_rfl) (by kernel_rfl) (fun _ _ _ _ _ h => h) (hrx.keep (Below.refl _ _).drew) ?_
            simp only [steps, List.getElem?_cons_zero, List.getElem?_cons_succ]
            repeat (first
              | (refine ord_no rfl ?_; simp only [Act.put, List.setIfInBounds_toArray, List.set_cons_zero, List.set_cons_succ])
              | (refine ord_yes (v := ?_) rfl rfl ?_ ?_; rotate_left; (focus (rintro w' ⟨x0, x1, x2, x3, x4⟩; go_simp; try with_reducible rfl)); simp only [Act.put, List.setIfInBounds_toArray, List.set_cons_zero, List.set_cons_succ]))
            have HBD := Lib.hid (HB.out.trans ((Below.refl wr.heap.size wr).drew.mono HB.out.size))
            have HRD := Lib.hid (HR.out.keep (Below.refl wr.heap.size wr).drew)
            clear hrx HB HR y0
            generalize World.drew _ = we at *
            have HB2 := HBD
            refine ord_end ?_
            clear hn1 hn2
            go_wp2_with fail
            go_roundw
            case rel => exact ⟨i + 1, by go_num, HLT.out, HB2.out⟩
            case measure =>
              have := HLT.out
              simp [intOf]
              omega
          | true =>
            rw [if_pos rfl] at d1
            have HR := Lib.hid (CnR.keep ⟨HZ1.out.p0, e3, e4, d0, d1⟩ HB.out)
            clear e3 e4 d0 d1
            have hn1 := Bo.nil_la_Has pa
            have hn2 := Bo.nil_ef_Has pa
            go_wp2_with fail
            have hrx := HR.out
            refine wp_region_ord [0, 1, 2, 3, 4, 5, 6, 7, 8, 9, 10, 11, 12, 13, 14, 15, 16, 17, 18, 19, 20, 21, 22, 23, 24, 25, 26, 27, 28, 29, 30, 31, 32, 33, 34, 35, 36, 37, 38, 39, 40, 41, 42, 43, 44, 45, 46] [43] 47 (fun W => CnR W w.heap.size i ga gb p0 o0 n c1 _ xz _ _) (by kernel_rfl) (by kernel_rfl) (by kernel_rfl) (by kernel_rfl) (fun _ _ _ _ _ h => h) (hrx.keep (Below.refl _ _).drew) ?_
            simp only [steps, List.getElem?_cons_zero, List.getElem?_cons_succ]
            repeat (first
              | (refine ord_no rfl ?_; simp only [Act.put, List.setIfInBounds_toArray, List.set_cons_zero, List.set_cons_succ])
              | (refine ord_yes (v := ?_) rfl rfl ?_ ?_; rotate_left; (focus (rintro w' ⟨x0, x1, x2, x3, x4⟩; go_simp; try with_reducible rfl)); simp only [Act.put, List.setIfInBounds_toArray, List.set_cons_zero, List.set_cons_succ]))
            have HBD := Lib.hid (HB.out.trans ((Below.refl wr.heap.size wr).drew.mono HB.out.size))
            have HRD := Lib.hid (HR.out.keep (Below.refl wr.heap.size wr).drew)
            clear hrx HB HR y0
            generalize World.drew _ = we at *
            refine ord_hard rfl rfl (fun K hK => ?_)
            go_simp
            go_invoke
            go_simp
            have hcal := HANS.out.has _ (HB1.out.trans (HBD.out.mono HB1.out.size)) vf HV64.out
            rw [HHAS.out] at hcal
            refine hcal.mono ?_
            rintro e w11 ⟨rfl, hv⟩
            have HB2 := Lib.hid (HBD.out.trans (hv.mono HBD.out.size))
            have hr2 := HRD.out.keep hv
            clear hcal hv HBD HRD
            refine hK.out _ _ (fun _ => hr2) ?_
            clear hK K hr2
            try simp only [Act.put, List.setIfInBounds_toArray, List.set_cons_zero, List.set_cons_succ]
            repeat (first
              | (refine ord_no rfl ?_; simp only [Act.put, List.setIfInBounds_toArray, List.set_cons_zero, List.set_cons_succ])
              | (refine ord_yes (v := ?_) rfl rfl ?_ ?_; rotate_left; (focus (rintro w' ⟨x0, x1, x2, x3, x4⟩; go_simp; try with_reducible rfl)); simp only [Act.put, List.setIfInBounds_toArray, List.set_cons_zero, List.set_cons_succ]))
            refine ord_end ?_
            clear hn1 hn2
            go_wp2_with fail
            go_roundw
            case rel => exact ⟨i + 1, by go_num, HLT.out, HB2.out⟩
            case measure =>
              have := HLT.out
              simp [intOf]
              omega
        | false =>
          obtain ⟨hi1, hz1⟩ := hcon rfl
          obtain rfl := hi1
          rw [if_pos rfl] at d1
          have HR := Lib.hid (CnR.keep ⟨HZ1.out.p0, e3, e4, d0, d1⟩ HB.out)
          have hne : ((vf : Int) != xz) = false := by rw [hz1]; simp
          clear e3 e4 d0 d1 hz1 hcon
          have hn1 := Bo.nil_la_Has pa
          have hn2 := Bo.nil_ef_Has pa
          go_wp2_with fail
          have hrx := HR.out
          refine wp_region_ord [0, 1, 2, 3, 4, 5, 6, 7, 8, 9, 10, 11, 12, 13, 14, 15, 16, 17, 18, 19, 20, 21, 22, 23, 24, 25, 26, 27, 28, 29, 30, 31, 32, 33, 34, 35, 36, 37, 38, 39, 40, 41, 42, 43, 44, 45, 46] [43] 47 (fun W => CnR W w.heap.size i ga gb p0 o0 n c1 _ xz _ _) (by kernel_rfl) (by kernel_rfl) (by kernel_rfl) (by kernel_rfl) (fun _ _ _ _ _ h => h) (hrx.keep (Below.refl _ _).drew) ?_
          simp only [steps, List.getElem?_cons_zero, List.getElem?_cons_succ]
          repeat (first
            | (refine ord_no rfl ?_; simp only [Act.put, List.setIfInBounds_toArray, List.set_cons_zero, List.set_cons_succ])
            | (refine ord_yes (v := ?_) rfl rfl ?_ ?_; rotate_left; (focus (rintro w' ⟨x0, x1, x2, x3, x4⟩; go_simp; try with_reducible rfl)); simp only [Act.put, List.setIfInBounds_toArray, List.set_cons_zero, List.set_cons_succ]))
          have HBD := Lib.hid (HB.out.trans ((Below.refl wr.heap.size wr).drew.mono HB.out.size))
          have HRD := Lib.hid (HR.out.keep (Below.refl wr.heap.size wr).drew)
          clear hrx HB HR y0
          generalize World.drew _ = we at *
          refine ord_hard rfl rfl (fun K hK => ?_)
          go_simp
          go_invoke
          go_simp
          have hcal := HANS.out.has _ (HB1.out.trans (HBD.out.mono HB1.out.size)) vf HV64.out
          rw [HHAS.out] at hcal
          refine hcal.mono ?_
          rintro e w11 ⟨rfl, hv⟩
          have HB2 := Lib.hid (HBD.out.trans (hv.mono HBD.out.size))
          have hr2 := HRD.out.keep hv
          clear hcal hv HBD HRD
          refine hK.out _ _ (fun _ => hr2) ?_
          clear hK K hr2
          try simp only [Act.put, List.setIfInBounds_toArray, List.set_cons_zero, List.set_cons_succ]
          repeat (first
            | (refine ord_no rfl ?_; simp only [Act.put, List.setIfInBounds_toArray, List.set_cons_zero, List.set_cons_succ])
            | (refine ord_yes (v := ?_) rfl rfl ?_ ?_; rotate_left; (focus (rintro w' ⟨x0, x1, x2, x3, x4⟩; go_simp; try with_reducible rfl)); simp only [Act.put, List.setIfInBounds_toArray, List.set_cons_zero, List.set_cons_succ]))
          refine ord_end ?_
          clear hn1 hn2
          go_wp2_with fail
          go_roundw
          case rel => exact ⟨i + 1, by go_num, HLT.out, HB2.out⟩
          case measure =>
            have := HLT.out
            simp [intOf]
            omega
      · obtain rfl : i = n := by omega
        have HB := Lib.hid (HB1.out.trans (hb.mono HB1.out.size))
        clear hlt hb
        go_wp2_with fail
        go_ret
        exact ⟨by simp, HB.out⟩)
end Go.Proofs.YthbonabadelfdaaGreat
