/- What fits tells of a sense and a row of spots. Condition: it can be read. -/
import Derived.Test.YtfmpecnkkbpdlaaGreatExA
import Derived.Test.YtfmpecnkkbpdlaaGreatFct
namespace Go.Proofs.YtfmpecnkkbpdlaaGreat
open Go.RowKit

/-- What is read of a sense and a row of spots at two places. -/
structure FtAt (w : World) (g i k n c2 c3 c4 a o b p p1 q1 bb ob bi oi ci s lo hi y y' : Nat) (x : Bool) : Prop where
  z1 : w.cell? ⟨g, 1, none⟩ = some (.slice (some ⟨a, o, none⟩) n c2)
  z2 : w.cell? ⟨g, 2, none⟩ = some (.slice (some ⟨b, p, none⟩) n c3)
  z3 : w.cell? ⟨g, 3, none⟩ = some (.slice (some ⟨bb, ob, none⟩) n c4)
  k1 : w.cell? ⟨a, o + i, none⟩ = some (.int .u64 (lo : Int))
  k2 : w.cell? ⟨b, p + i, none⟩ = some (.int .u64 (hi : Int))
  row : w.cell? ⟨bb, ob + i, none⟩ = some (.slice (some ⟨bi, oi, none⟩) n ci)
  bit : w.cell? ⟨bi, oi + k, none⟩ = some (.bool x)
  f1 : w.cell? ⟨p1, q1 + i * 5 + 2, none⟩ = some (.int .u8 (s : Int))
  t1 : w.cell? ⟨p1, q1 + i * 5 + 4, none⟩ = some (.int .u64 (y : Int))
  t2 : w.cell? ⟨p1, q1 + k * 5 + 4, none⟩ = some (.int .u64 (y' : Int))
theorem FtAt.keep {w W : World} {g i k n c2 c3 c4 a o b p p1 q1 bb ob bi oi ci s lo hi y y' : Nat} {x : Bool} (h : FtAt w g i k n c2 c3 c4 a o b p p1 q1 bb ob bi oi ci s lo hi y y' x) (hb : Below w.heap.size w W) : FtAt W g i k n c2 c3 c4 a o b p p1 q1 bb ob bi oi ci s lo hi y y' x :=
  ⟨cell_old h.z1 hb, cell_old h.z2 hb, cell_old h.z3 hb, cell_old h.k1 hb, cell_old h.k2 hb, cell_old h.row hb, cell_old h.bit hb, cell_old h.f1 hb, cell_old h.t1 hb, cell_old h.t2 hb⟩
structure AllTo (R : Nat → Prop) (i : Nat) : Prop where
  all : ∀ j, j < i → R j
theorem AllTo.zero (R : Nat → Prop) : AllTo R 0 := ⟨fun j hj => absurd hj (Nat.not_lt_zero j)⟩
theorem AllTo.succ {R : Nat → Prop} {i : Nat} (h : AllTo R i) (hi : R i) : AllTo R (i + 1) := ⟨fun j hj => by
  by_cases e : j = i
  · exact e ▸ hi
  · exact h.all j (by omega)⟩

def PFit (S : Bo.Sr) (z : Sen) (l : List Sp) (i : Nat) : Prop := (∀ (h : i < l.length) (h' : i < z.lo.length), l[i].s ≠ 1 → S.below z.lo[i] l[i].z.toNat = true) ∧ ∀ (h : i < l.length) (h' : i < z.hi.length), l[i].s ≠ 0 → S.below l[i].z.toNat z.hi[i] = true
def QFit (S : Bo.Sr) (z : Sen) (l : List Sp) (i k : Nat) : Prop := ∀ (h : i < l.length) (h' : i < z.be.length) (g : k < l.length) (g' : k < z.be[i].length), z.be[i][k] = true → S.below l[i].z.toNat l[k].z.toNat = true
theorem fits_iff {S : Bo.Sr} {z : Sen} {l : List Sp} : FitsOK S z l ↔ ∀ i, i < l.length → PFit S z l i ∧ ∀ k, k < l.length → QFit S z l i k :=
  ⟨fun h i _ => ⟨⟨h.low i, h.high i⟩, fun k _ g1 g2 => h.bel i g1 g2 k⟩, fun h => ⟨fun i g => (h i g).1.1 g, fun i g => (h i g).1.2 g, fun i g g' k f f' => (h i g).2 k f g g' f f'⟩⟩

set_option maxRecDepth 100000 in
set_option maxHeartbeats 16000000 in
theorem fitsz_any (v : Value) (S : Bo.Sr) (A1 : Option Addr) (n1 c1 : Nat) (A2 : Option Addr) (n2 c2 : Nat) (A3 : Option Addr) (n3 c3 : Nat) (A4 : Option Addr) (n4 c4 : Nat) (z : Sen) (E1 : Option Addr) (n d1 : Nat) (l : List Sp) (w : World) (hv : Srt3 w v S) (h : SenAt w z A1 n1 c1 A2 n2 c2 A3 n3 c3 A4 n4 c4) (r1 : Rs spc 5 w w.heap.size E1 n d1 l) (hu64 : ∀ p ∈ l, U64 p.z) (e0 : z.p.length = l.length) (e1 : z.lo.length = l.length) (e2 : z.hi.length = l.length) (e3 : z.be.length = l.length) (e4 : ∀ r ∈ z.be, r.length = l.length) (hn : n ≤ 100000) :
    Calls Tryz.prog 27 #[v, senV A1 n1 c1 A2 n2 c2 A3 n3 c3 A4 n4 c4, .slice E1 n d1] w fun e w' => TellsB e (fun r => r = true ↔ FitsOK S z l) ∧ Below w.heap.size w w' := by
  unfold senV
  have hlen := r1.len
  obtain rfl : n = n1 := by rw [← h.rp.len, e0, hlen]
  obtain rfl : n2 = n := by rw [← h.rl.len, e1, hlen]
  obtain rfl : n3 = n2 := by rw [← h.rh.len, e2, hlen]
  obtain rfl : n4 = n3 := by rw [← h.rb.len, e3, hlen]
  obtain ⟨n, rfl⟩ : ∃ n, n = n4 := ⟨_, rfl⟩
  have hk := heap_alloc_new w (.cells #[.slice A1 n c1, .slice A2 n c2, .slice A3 n c3, .slice A4 n c4] 28)
  have hal : Below w.heap.size w (w.alloc (.cells #[.slice A1 n c1, .slice A2 n c2, .slice A3 n c3, .slice A4 n c4] 28)) := (Below.refl _ _).alloc (Nat.le_refl _) _
  have z0 := (cell_blk (i := 0) hk).trans rfl
  have z1 := (cell_blk (i := 1) hk).trans rfl
  have z2 := (cell_blk (i := 2) hk).trans rfl
  have z3 := (cell_blk (i := 3) hk).trans rfl
  have hne : ((n : Int) != (n : Int)) = false := by rw [int_ne]; simp
  obtain ⟨u, hu⟩ : ∃ u, w.alloc (.cells #[.slice A1 n c1, .slice A2 n c2, .slice A3 n c3, .slice A4 n c4] 28) = u := ⟨_, rfl⟩
  rw [hu] at hk hal z0 z1 z2 z3
  have HIF : Hid (FitsOK S z l ↔ ∀ i, i < n → PFit S z l i ∧ ∀ k, k < n → QFit S z l i k) := Lib.hid (by rw [← hlen]; exact fits_iff)
  have HA : Hid (∀ i, i < n → ∀ k, k < n → ∃ (a o b p p1 q1 bb ob bi oi ci s lo hi y y' : Nat) (x : Bool), E1 = some ⟨p1, q1, none⟩ ∧ (PFit S z l i ↔ (s ≠ 1 → S.below lo y = true) ∧ (s ≠ 0 → S.below y hi = true)) ∧ (QFit S z l i k ↔ (x = true → S.below y y' = true)) ∧ (lo < 18446744073709551616 ∧ hi < 18446744073709551616 ∧ y < 18446744073709551616 ∧ y' < 18446744073709551616) ∧ FtAt u w.heap.size i k n c2 c3 c4 a o b p p1 q1 bb ob bi oi ci s lo hi y y' x) := Lib.hid fun i hi k hk' => by
    have hu' := h.keep hal
    have g1 := r1.at_size (Nat.le_refl _) hal
    have i1 : i < l.length := by rw [hlen]; exact hi
    have j1 : k < l.length := by rw [hlen]; exact hk'
    have i3 : i < z.lo.length := by rw [e1]; exact i1
    have i4 : i < z.hi.length := by rw [e2]; exact i1
    have i5 : i < z.be.length := by rw [e3]; exact i1
    have j5 : k < z.be[i].length := by rw [e4 _ (List.getElem_mem i5)]; exact j1
    obtain ⟨p1, q1, h1, -, -, -, f1, -, t1⟩ := spot_at g1 i1
    obtain ⟨p2, q2, h2, -, -, -, -, -, t2⟩ := spot_at g1 j1
    rw [h1] at h2
    injection h2 with h2
    injection h2 with h4 h5
    subst h4 h5
    obtain ⟨a, o, h6, -, hl⟩ := hu'.rl.spot (by omega)
    obtain ⟨b, p, h7, -, hh⟩ := hu'.rh.spot (by omega)
    obtain ⟨bb, ob, bi, oi, ci, h8, -, k1, -, k2⟩ := hu'.rb.at' i5 j5
    rw [e4 _ (List.getElem_mem i5), hlen] at k1
    have u1 := hu64 _ (List.getElem_mem i1)
    have u2 := hu64 _ (List.getElem_mem j1)
    have w1 : ((l[i].z.toNat : Nat) : Int) = l[i].z := by have := u1.lo; omega
    have w2 : ((l[k].z.toNat : Nat) : Int) = l[k].z := by have := u2.lo; omega
    refine ⟨a, o, b, p, p1, q1, bb, ob, bi, oi, ci, l[i].s, z.lo[i], z.hi[i], l[i].z.toNat, l[k].z.toNat, z.be[i][k], h1, ⟨fun hp => ⟨hp.1 i1 i3, hp.2 i1 i4⟩, fun hp => ⟨fun _ _ => hp.1, fun _ _ => hp.2⟩⟩, ⟨fun hq => hq i1 i5 j1 j5, fun hq _ _ _ _ => hq⟩, ⟨h.fl _ (List.getElem_mem i3), h.fh _ (List.getElem_mem i4), by have := u1.hi; have := u1.lo; omega, by have := u2.hi; have := u2.lo; omega⟩, ⟨h6 ▸ z1, h7 ▸ z2, h8 ▸ z3, hl i i3, hh i i4, k1, k2, f1, by rw [w1]; exact t1, by rw [w2]; exact t2⟩⟩
  have HB := Lib.hid hal
  have HNN := Lib.hid hn
  have HSV := Lib.hid hv
  clear hk hal h r1 hn hv e0 e1 e2 e3 e4 hu64 hlen
  have hsv := HSV.out
  rcases hsv with ⟨pa, rfl, hans⟩ | ⟨pa, rfl, hans⟩
  all_goals (
    have HANS := Lib.hid hans
    clear hans
    go_enter Tryz.func27, Tryz.ntmps27
    go_wp2_with fail
    clear hu hne z1 z2 z0 z3
    go_loopw [7] (fun v7 wr => ∃ i : Nat, v7 = .int .i64 (i : Int) ∧ i ≤ n ∧ Below u.heap.size u wr ∧ AllTo (fun i => PFit S z l i ∧ ∀ k, k < n → QFit S z l i k) i) (fun v7 _ => n - (intOf v7).toNat)
    case atStart => exact ⟨0, rfl, by omega, Below.refl _ _, AllTo.zero _⟩
    case round =>
      obtain ⟨i, rfl, hi, hb, hall⟩ := hrel
      have HALL := Lib.hid hall
      clear hall
      by_cases hlt : i < n
      · obtain ⟨a, o, b, p, p1, q1, bb, ob, bi, oi, ci, s, lo, hi', y, y', x, rfl, hP, -, hfit, hft⟩ := HA.out i hlt i hlt
        have HI := Lib.hid (HA.out i hlt)
        have HP := Lib.hid hP
        have HFIT := Lib.hid hfit
        have H2 : Hid (∀ W, Below u.heap.size u W → FtAt W w.heap.size i i n c2 c3 c4 a o b p p1 q1 bb ob bi oi ci s lo hi' y y' x) := Lib.hid fun W hW => hft.keep hW
        have hin : (i : Int) < (n : Int) := by omega
        have hbd := hb.trans ((Below.refl wr.heap.size wr).drew.mono hb.size)
        have HBD := Lib.hid hbd
        obtain ⟨ii, hii⟩ : ∃ ii, n = i + 1 + ii := ⟨n - (i + 1), by omega⟩
        have HLT := Lib.hid hii
        clear hii hb hbd hlt HA hP hfit hft
        have hn1 := Bo.nil_la_Below pa
        have hn2 := Bo.nil_ef_Below pa
        by_cases g1 : s = 1
        · have q1' : ((s : Int) != 1) = false := by rw [show ((s : Int) != 1) = !decide (s = 1) from int_ne s 1]; simp [g1]
          have g2 : s ≠ 0 := by omega
          have q2' : ((s : Int) != 0) = true := by rw [show ((s : Int) != 0) = !decide (s = 0) from int_ne s 0]; simp [g2]
          have HG1 := Lib.hid g1
          have HG2 := Lib.hid g2
          clear g1 g2
          go_wp2_with fail
          refine wp_region_ord [0, 1, 2, 3, 4, 5, 6, 7, 8, 9, 10, 11, 12, 13, 14, 15, 16, 17, 18, 19, 20, 21, 22, 23, 24, 25, 26, 27, 28, 29, 30, 31, 32, 33, 34, 35, 36, 37, 38, 39, 40, 41, 42, 43, 44, 45, 46, 47, 48, 49, 50, 51] [22, 48] 52 (fun W => FtAt W w.heap.size i i n c2 c3 c4 a o b p p1 q1 bb ob bi oi ci s lo hi' y y' x) (by kernel_rfl) (by kernel_rfl) (by kernel_rfl) (by kernel_rfl) (fun _ _ _ _ _ h => h) (H2.out _ HBD.out) ?_
          simp only [steps, List.getElem?_cons_zero, List.getElem?_cons_succ]
          repeat (first
            | (refine ord_no rfl ?_; simp only [Act.put, List.setIfInBounds_toArray, List.set_cons_zero, List.set_cons_succ])
            | (refine ord_yes (v := ?_) rfl rfl ?_ ?_; rotate_left; (focus (rintro w' ⟨x0, x1, x2, x3, x4, x5, x6, x7, x8, x9⟩; go_simp; try with_reducible rfl)); simp only [Act.put, List.setIfInBounds_toArray, List.set_cons_zero, List.set_cons_succ]))
          generalize wr.drew = we at *
          refine ord_hard rfl rfl (fun K hK => ?_)
          go_simp
          go_invoke
          go_simp
          have hcal := HANS.out.below _ (HB.out.trans (HBD.out.mono HB.out.size)) y hi' HFIT.out.2.2.1 HFIT.out.2.1
          obtain ⟨rb, hrb⟩ : ∃ r, S.below y hi' = r := ⟨_, rfl⟩
          rw [hrb] at hcal
          have HRB := Lib.hid hrb
          clear hrb
          refine hcal.mono ?_
          rintro e wHBE ⟨rfl, hv⟩
          clear hcal
          have hbd := HBD.out.trans (hv.mono HBD.out.size)
          have HBE := Lib.hid hbd
          clear hv
          refine hK.out _ _ (fun _ => H2.out _ hbd) ?_
          clear hK K hbd
          try simp only [Act.put, List.setIfInBounds_toArray, List.set_cons_zero, List.set_cons_succ]
          cases rb with
          | false =>
            repeat (first
              | (refine ord_no rfl ?_; simp only [Act.put, List.setIfInBounds_toArray, List.set_cons_zero, List.set_cons_succ])
              | (refine ord_yes (v := ?_) rfl rfl ?_ ?_; rotate_left; (focus (rintro w' ⟨x0, x1, x2, x3, x4, x5, x6, x7, x8, x9⟩; go_simp; try with_reducible rfl)); simp only [Act.put, List.setIfInBounds_toArray, List.set_cons_zero, List.set_cons_succ]))
            refine ord_end ?_
            clear hn1 hn2
            have HBZ := Lib.hid (HB.out.trans (HBE.out.mono HB.out.size))
            go_wp2_with fail
            go_ret
            exact ⟨.mk false rfl ⟨fun e => (by cases e), fun hf => (by
                have h1 := (HP.out.1 (HIF.out.1 hf i (by have := HLT.out; omega)).1).2 HG2.out
                rw [HRB.out] at h1
                cases h1)⟩, HBZ.out⟩
          | true =>
            repeat (first
              | (refine ord_no rfl ?_; simp only [Act.put, List.setIfInBounds_toArray, List.set_cons_zero, List.set_cons_succ])
              | (refine ord_yes (v := ?_) rfl rfl ?_ ?_; rotate_left; (focus (rintro w' ⟨x0, x1, x2, x3, x4, x5, x6, x7, x8, x9⟩; go_simp; try with_reducible rfl)); simp only [Act.put, List.setIfInBounds_toArray, List.set_cons_zero, List.set_cons_succ]))
            refine ord_end ?_
            clear hn1 hn2 q1' q2' hin H2
            have HPI := Lib.hid (HP.out.2 ⟨fun h => absurd HG1.out h, fun _ => HRB.out⟩)
            go_wp2_with fail
            go_loopw [8] (fun v8 wq => ∃ k : Nat, v8 = .int .i64 (k : Int) ∧ k ≤ n ∧ Below u.heap.size u wq ∧ AllTo (QFit S z l i) k) (fun v8 _ => n - (intOf v8).toNat)
            case atStart => exact ⟨0, rfl, by omega, HBE.out, AllTo.zero _⟩
            case round =>
              clear HBE
              obtain ⟨k, rfl, hk, hbq, hqa⟩ := hrel
              have HQA := Lib.hid hqa
              clear hqa
              by_cases hltk : k < n
              · obtain ⟨a, o, b, p, p1', q1', bb, ob, bi, oi, ci, s, lo, hi', y, y', x, he, -, hQ, hfit, hft⟩ := HI.out k hltk
                injection he with he
                injection he with he1 he2
                subst he1 he2
                have HFIT := Lib.hid hfit
                have HQ := Lib.hid hQ
                have hin : (i : Int) < (n : Int) := by have := HLT.out; omega
                have hkn : (k : Int) < (n : Int) := by omega
                have H2 : Hid (∀ W, Below u.heap.size u W → FtAt W w.heap.size i k n c2 c3 c4 a o b p p1 q1 bb ob bi oi ci s lo hi' y y' x) := Lib.hid fun W hW => hft.keep hW
                obtain ⟨kk, hkk⟩ : ∃ kk, n = k + 1 + kk := ⟨n - (k + 1), by omega⟩
                have HLK := Lib.hid hkk
                have hbd := hbq.trans ((Below.refl wr.heap.size wr).drew.mono hbq.size)
                have HBD := Lib.hid hbd
                clear hkk hft hfit hQ hbq hbd hltk
                have hn1 := Bo.nil_la_Below pa
                have hn2 := Bo.nil_ef_Below pa
                cases x with
                | false =>
                  go_wp2_with fail
                  refine wp_region_ord [0, 1, 2, 3, 4, 5, 6, 7, 8, 9, 10, 11, 12, 13, 14, 15, 16, 17, 18, 19, 20, 21, 22, 23, 24, 25, 26, 27] [25] 28 (fun W => FtAt W w.heap.size i k n c2 c3 c4 a o b p p1 q1 bb ob bi oi ci s lo hi' y y' false) (by kernel_rfl) (by kernel_rfl) (by kernel_rfl) (by kernel_rfl) (fun _ _ _ _ _ h => h) (H2.out _ HBD.out) ?_
                  simp only [steps, List.getElem?_cons_zero, List.getElem?_cons_succ]
                  repeat (first
                    | (refine ord_no rfl ?_; simp only [Act.put, List.setIfInBounds_toArray, List.set_cons_zero, List.set_cons_succ])
                    | (refine ord_yes (v := ?_) rfl rfl ?_ ?_; rotate_left; (focus (rintro w' ⟨x0, x1, x2, x3, x4, x5, x6, x7, x8, x9⟩; go_simp; try with_reducible rfl)); simp only [Act.put, List.setIfInBounds_toArray, List.set_cons_zero, List.set_cons_succ]))
                  generalize wr.drew = we at *
                  refine ord_end ?_
                  clear hn1 hn2 hin hkn
                  have hkb : k ≤ 100000 := by have := HLK.out; have := HNN.out; omega
                  go_wp2_with fail
                  go_roundw
                  case rel => exact ⟨k + 1, by have := HLK.out; go_num, by have := HLK.out; omega, HBD.out, HQA.out.succ (HQ.out.2 fun e => by cases e)⟩
                  case measure =>
                    have := HLK.out
                    simp [intOf]
                    omega
                | true =>
                  go_wp2_with fail
                  refine wp_region_ord [0, 1, 2, 3, 4, 5, 6, 7, 8, 9, 10, 11, 12, 13, 14, 15, 16, 17, 18, 19, 20, 21, 22, 23, 24, 25, 26, 27] [25] 28 (fun W => FtAt W w.heap.size i k n c2 c3 c4 a o b p p1 q1 bb ob bi oi ci s lo hi' y y' true) (by kernel_rfl) (by kernel_rfl) (by kernel_rfl) (by kernel_rfl) (fun _ _ _ _ _ h => h) (H2.out _ HBD.out) ?_
                  simp only [steps, List.getElem?_cons_zero, List.getElem?_cons_succ]
                  repeat (first
                    | (refine ord_no rfl ?_; simp only [Act.put, List.setIfInBounds_toArray, List.set_cons_zero, List.set_cons_succ])
                    | (refine ord_yes (v := ?_) rfl rfl ?_ ?_; rotate_left; (focus (rintro w' ⟨x0, x1, x2, x3, x4, x5, x6, x7, x8, x9⟩; go_simp; try with_reducible rfl)); simp only [Act.put, List.setIfInBounds_toArray, List.set_cons_zero, List.set_cons_succ]))
                  generalize wr.drew = we at *
                  refine ord_hard rfl rfl (fun K hK => ?_)
                  go_simp
                  go_invoke
                  go_simp
                  have hcal := HANS.out.below _ (HB.out.trans (HBD.out.mono HB.out.size)) y y' HFIT.out.2.2.1 HFIT.out.2.2.2
                  obtain ⟨rq, hrq⟩ : ∃ r, S.below y y' = r := ⟨_, rfl⟩
                  rw [hrq] at hcal
                  have HRQ := Lib.hid hrq
                  clear hrq
                  refine hcal.mono ?_
                  rintro e wHBE ⟨rfl, hv⟩
                  clear hcal
                  have hbd := HBD.out.trans (hv.mono HBD.out.size)
                  have HBE := Lib.hid hbd
                  clear hv
                  refine hK.out _ _ (fun _ => H2.out _ hbd) ?_
                  clear hK K hbd
                  try simp only [Act.put, List.setIfInBounds_toArray, List.set_cons_zero, List.set_cons_succ]
                  cases rq with
                  | false =>
                    repeat (first
                      | (refine ord_no rfl ?_; simp only [Act.put, List.setIfInBounds_toArray, List.set_cons_zero, List.set_cons_succ])
                      | (refine ord_yes (v := ?_) rfl rfl ?_ ?_; rotate_left; (focus (rintro w' ⟨x0, x1, x2, x3, x4, x5, x6, x7, x8, x9⟩; go_simp; try with_reducible rfl)); simp only [Act.put, List.setIfInBounds_toArray, List.set_cons_zero, List.set_cons_succ]))
                    refine ord_end ?_
                    clear hn1 hn2
                    have HBZ := Lib.hid (HB.out.trans (HBE.out.mono HB.out.size))
                    go_wp2_with fail
                    go_ret
                    exact ⟨.mk false rfl ⟨fun e => (by cases e), fun hf => (by
                        have h1 := HQ.out.1 ((HIF.out.1 hf i (by have := HLT.out; omega)).2 k (by have := HLK.out; omega)) (by first | exact trivial | rfl)
                        rw [HRQ.out] at h1
                        cases h1)⟩, HBZ.out⟩
                  | true =>
                    repeat (first
                      | (refine ord_no rfl ?_; simp only [Act.put, List.setIfInBounds_toArray, List.set_cons_zero, List.set_cons_succ])
                      | (refine ord_yes (v := ?_) rfl rfl ?_ ?_; rotate_left; (focus (rintro w' ⟨x0, x1, x2, x3, x4, x5, x6, x7, x8, x9⟩; go_simp; try with_reducible rfl)); simp only [Act.put, List.setIfInBounds_toArray, List.set_cons_zero, List.set_cons_succ]))
                    refine ord_end ?_
                    clear hn1 hn2 hin hkn
                    have hkb : k ≤ 100000 := by have := HLK.out; have := HNN.out; omega
                    go_wp2_with fail
                    go_roundw
                    case rel => exact ⟨k + 1, by have := HLK.out; go_num, by have := HLK.out; omega, HBE.out, HQA.out.succ (HQ.out.2 fun _ => HRQ.out)⟩
                    case measure =>
                      have := HLK.out
                      simp [intOf]
                      omega
              · obtain rfl : k = n := by omega
                have hib : i ≤ 100000 := by have := HLT.out; have := HNN.out; omega
                clear hltk
                have HBQ := Lib.hid hbq
                clear hbq
                go_wp2_with fail
                go_roundw
                case rel => exact ⟨i + 1, by have := HLT.out; go_num, by have := HLT.out; omega, HBQ.out, HALL.out.succ ⟨HPI.out, HQA.out.all⟩⟩
                case measure =>
                  have := HLT.out
                  simp [intOf]
                  omega
        · by_cases g2 : s = 0
          · have q1' : ((s : Int) != 1) = true := by rw [show ((s : Int) != 1) = !decide (s = 1) from int_ne s 1]; simp [g1]
            have q2' : ((s : Int) != 0) = false := by rw [show ((s : Int) != 0) = !decide (s = 0) from int_ne s 0]; simp [g2]
            have HG1 := Lib.hid g1
            have HG2 := Lib.hid g2
            clear g1 g2
            go_wp2_with fail
            refine wp_region_ord [0, 1, 2, 3, 4, 5, 6, 7, 8, 9, 10, 11, 12, 13, 14, 15, 16, 17, 18, 19, 20, 21, 22, 23, 24, 25, 26, 27, 28, 29, 30, 31, 32, 33, 34, 35, 36, 37, 38, 39, 40, 41, 42, 43, 44, 45, 46, 47, 48, 49, 50, 51] [22, 48] 52 (fun W => FtAt W w.heap.size i i n c2 c3 c4 a o b p p1 q1 bb ob bi oi ci s lo hi' y y' x) (by kernel_rfl) (by kernel_rfl) (by kernel_rfl) (by kernel_rfl) (fun _ _ _ _ _ h => h) (H2.out _ HBD.out) ?_
            simp only [steps, List.getElem?_cons_zero, List.getElem?_cons_succ]
            repeat (first
              | (refine ord_no rfl ?_; simp only [Act.put, List.setIfInBounds_toArray, List.set_cons_zero, List.set_cons_succ])
              | (refine ord_yes (v := ?_) rfl rfl ?_ ?_; rotate_left; (focus (rintro w' ⟨x0, x1, x2, x3, x4, x5, x6, x7, x8, x9⟩; go_simp; try with_reducible rfl)); simp only [Act.put, List.setIfInBounds_toArray, List.set_cons_zero, List.set_cons_succ]))
            generalize wr.drew = we at *
            refine ord_hard rfl rfl (fun K hK => ?_)
            go_simp
            go_invoke
            go_simp
            have hcal := HANS.out.below _ (HB.out.trans (HBD.out.mono HB.out.size)) lo y HFIT.out.1 HFIT.out.2.2.1
            obtain ⟨ra, hra⟩ : ∃ r, S.below lo y = r := ⟨_, rfl⟩
            rw [hra] at hcal
            have HRA := Lib.hid hra
            clear hra
            refine hcal.mono ?_
            rintro e wHBE ⟨rfl, hv⟩
            clear hcal
            have hbd := HBD.out.trans (hv.mono HBD.out.size)
            have HBE := Lib.hid hbd
            clear hv
            refine hK.out _ _ (fun _ => H2.out _ hbd) ?_
            clear hK K hbd
            try simp only [Act.put, List.setIfInBounds_toArray, List.set_cons_zero, List.set_cons_succ]
            cases ra with
            | false =>
              repeat (first
                | (refine ord_no rfl ?_; simp only [Act.put, List.setIfInBounds_toArray, List.set_cons_zero, List.set_cons_succ])
                | (refine ord_yes (v := ?_) rfl rfl ?_ ?_; rotate_left; (focus (rintro w' ⟨x0, x1, x2, x3, x4, x5, x6, x7, x8, x9⟩; go_simp; try with_reducible rfl)); simp only [Act.put, List.setIfInBounds_toArray, List.set_cons_zero, List.set_cons_succ]))
              refine ord_end ?_
              clear hn1 hn2
              have HBZ := Lib.hid (HB.out.trans (HBE.out.mono HB.out.size))
              go_wp2_with fail
              go_ret
              exact ⟨.mk false rfl ⟨fun e => (by cases e), fun hf => (by
                  have h1 := (HP.out.1 (HIF.out.1 hf i (by have := HLT.out; omega)).1).1 HG1.out
                  rw [HRA.out] at h1
                  cases h1)⟩, HBZ.out⟩
            | true =>
              repeat (first
                | (refine ord_no rfl ?_; simp only [Act.put, List.setIfInBounds_toArray, List.set_cons_zero, List.set_cons_succ])
                | (refine ord_yes (v := ?_) rfl rfl ?_ ?_; rotate_left; (focus (rintro w' ⟨x0, x1, x2, x3, x4, x5, x6, x7, x8, x9⟩; go_simp; try with_reducible rfl)); simp only [Act.put, List.setIfInBounds_toArray, List.set_cons_zero, List.set_cons_succ]))
              refine ord_end ?_
              clear hn1 hn2 q1' q2' hin H2
              have HPI := Lib.hid (HP.out.2 ⟨fun _ => HRA.out, fun h => absurd HG2.out h⟩)
              go_wp2_with fail
              go_loopw [8] (fun v8 wq => ∃ k : Nat, v8 = .int .i64 (k : Int) ∧ k ≤ n ∧ Below u.heap.size u wq ∧ AllTo (QFit S z l i) k) (fun v8 _ => n - (intOf v8).toNat)
              case atStart => exact ⟨0, rfl, by omega, HBE.out, AllTo.zero _⟩
              case round =>
                clear HBE
                obtain ⟨k, rfl, hk, hbq, hqa⟩ := hrel
                have HQA := Lib.hid hqa
                clear hqa
                by_cases hltk : k < n
                · obtain ⟨a, o, b, p, p1', q1', bb, ob, bi, oi, ci, s, lo, hi', y, y', x, he, -, hQ, hfit, hft⟩ := HI.out k hltk
                  injection he with he
                  injection he with he1 he2
                  subst he1 he2
                  have HFIT := Lib.hid hfit
                  have HQ := Lib.hid hQ
                  have hin : (i : Int) < (n : Int) := by have := HLT.out; omega
                  have hkn : (k : Int) < (n : Int) := by omega
                  have H2 : Hid (∀ W, Below u.heap.size u W → FtAt W w.heap.size i k n c2 c3 c4 a o b p p1 q1 bb ob bi oi ci s lo hi' y y' x) := Lib.hid fun W hW => hft.keep hW
                  obtain ⟨kk, hkk⟩ : ∃ kk, n = k + 1 + kk := ⟨n - (k + 1), by omega⟩
                  have HLK := Lib.hid hkk
                  have hbd := hbq.trans ((Below.refl wr.heap.size wr).drew.mono hbq.size)
                  have HBD := Lib.hid hbd
                  clear hkk hft hfit hQ hbq hbd hltk
                  have hn1 := Bo.nil_la_Below pa
                  have hn2 := Bo.nil_ef_Below pa
                  cases x with
                  | false =>
                    go_wp2_with fail
                    refine wp_region_ord [0, 1, 2, 3, 4, 5, 6, 7, 8, 9, 10, 11, 12, 13, 14, 15, 16, 17, 18, 19, 20, 21, 22, 23, 24, 25, 26, 27] [25] 28 (fun W => FtAt W w.heap.size i k n c2 c3 c4 a o b p p1 q1 bb ob bi oi ci s lo hi' y y' false) (by kernel_rfl) (by kernel_rfl) (by kernel_rfl) (by kernel_rfl) (fun _ _ _ _ _ h => h) (H2.out _ HBD.out) ?_
                    simp only [steps, List.getElem?_cons_zero, List.getElem?_cons_succ]
                    repeat (first
                      | (refine ord_no rfl ?_; simp only [Act.put, List.setIfInBounds_toArray, List.set_cons_zero, List.set_cons_succ])
                      | (refine ord_yes (v := ?_) rfl rfl ?_ ?_; rotate_left; (focus (rintro w' ⟨x0, x1, x2, x3, x4, x5, x6, x7, x8, x9⟩; go_simp; try with_reducible rfl)); simp only [Act.put, List.setIfInBounds_toArray, List.set_cons_zero, List.set_cons_succ]))
                    generalize wr.drew = we at *
                    refine ord_end ?_
                    clear hn1 hn2 hin hkn
                    have hkb : k ≤ 100000 := by have := HLK.out; have := HNN.out; omega
                    go_wp2_with fail
                    go_roundw
                    case rel => exact ⟨k + 1, by have := HLK.out; go_num, by have := HLK.out; omega, HBD.out, HQA.out.succ (HQ.out.2 fun e => by cases e)⟩
                    case measure =>
                      have := HLK.out
                      simp [intOf]
                      omega
                  | true =>
                    go_wp2_with fail
                    refine wp_region_ord [0, 1, 2, 3, 4, 5, 6, 7, 8, 9, 10, 11, 12, 13, 14, 15, 16, 17, 18, 19, 20, 21, 22, 23, 24, 25, 26, 27] [25] 28 (fun W => FtAt W w.heap.size i k n c2 c3 c4 a o b p p1 q1 bb ob bi oi ci s lo hi' y y' true) (by kernel_rfl) (by kernel_rfl) (by kernel_rfl) (by kernel_rfl) (fun _ _ _ _ _ h => h) (H2.out _ HBD.out) ?_
                    simp only [steps, List.getElem?_cons_zero, List.getElem?_cons_succ]
                    repeat (first
                      | (refine ord_no rfl ?_; simp only [Act.put, List.setIfInBounds_toArray, List.set_cons_zero, List.set_cons_succ])
                      | (refine ord_yes (v := ?_) rfl rfl ?_ ?_; rotate_left; (focus (rintro w' ⟨x0, x1, x2, x3, x4, x5, x6, x7, x8, x9⟩; go_simp; try with_reducible rfl)); simp only [Act.put, List.setIfInBounds_toArray, List.set_cons_zero, List.set_cons_succ]))
                    generalize wr.drew = we at *
                    refine ord_hard rfl rfl (fun K hK => ?_)
                    go_simp
                    go_invoke
                    go_simp
                    have hcal := HANS.out.below _ (HB.out.trans (HBD.out.mono HB.out.size)) y y' HFIT.out.2.2.1 HFIT.out.2.2.2
                    obtain ⟨rq, hrq⟩ : ∃ r, S.below y y' = r := ⟨_, rfl⟩
                    rw [hrq] at hcal
                    have HRQ := Lib.hid hrq
                    clear hrq
                    refine hcal.mono ?_
                    rintro e wHBE ⟨rfl, hv⟩
                    clear hcal
                    have hbd := HBD.out.trans (hv.mono HBD.out.size)
                    have HBE := Lib.hid hbd
                    clear hv
                    refine hK.out _ _ (fun _ => H2.out _ hbd) ?_
                    clear hK K hbd
                    try simp only [Act.put, List.setIfInBounds_toArray, List.set_cons_zero, List.set_cons_succ]
                    cases rq with
                    | false =>
                      repeat (first
                        | (refine ord_no rfl ?_; simp only [Act.put, List.setIfInBounds_toArray, List.set_cons_zero, List.set_cons_succ])
                        | (refine ord_yes (v := ?_) rfl rfl ?_ ?_; rotate_left; (focus (rintro w' ⟨x0, x1, x2, x3, x4, x5, x6, x7, x8, x9⟩; go_simp; try with_reducible rfl)); simp only [Act.put, List.setIfInBounds_toArray, List.set_cons_zero, List.set_cons_succ]))
                      refine ord_end ?_
                      clear hn1 hn2
                      have HBZ := Lib.hid (HB.out.trans (HBE.out.mono HB.out.size))
                      go_wp2_with fail
                      go_ret
                      exact ⟨.mk false rfl ⟨fun e => (by cases e), fun hf => (by
                          have h1 := HQ.out.1 ((HIF.out.1 hf i (by have := HLT.out; omega)).2 k (by have := HLK.out; omega)) (by first | exact trivial | rfl)
                          rw [HRQ.out] at h1
                          cases h1)⟩, HBZ.out⟩
                    | true =>
                      repeat (first
                        | (refine ord_no rfl ?_; simp only [Act.put, List.setIfInBounds_toArray, List.set_cons_zero, List.set_cons_succ])
                        | (refine ord_yes (v := ?_) rfl rfl ?_ ?_; rotate_left; (focus (rintro w' ⟨x0, x1, x2, x3, x4, x5, x6, x7, x8, x9⟩; go_simp; try with_reducible rfl)); simp only [Act.put, List.setIfInBounds_toArray, List.set_cons_zero, List.set_cons_succ]))
                      refine ord_end ?_
                      clear hn1 hn2 hin hkn
                      have hkb : k ≤ 100000 := by have := HLK.out; have := HNN.out; omega
                      go_wp2_with fail
                      go_roundw
                      case rel => exact ⟨k + 1, by have := HLK.out; go_num, by have := HLK.out; omega, HBE.out, HQA.out.succ (HQ.out.2 fun _ => HRQ.out)⟩
                      case measure =>
                        have := HLK.out
                        simp [intOf]
                        omega
                · obtain rfl : k = n := by omega
                  have hib : i ≤ 100000 := by have := HLT.out; have := HNN.out; omega
                  clear hltk
                  have HBQ := Lib.hid hbq
                  clear hbq
                  go_wp2_with fail
                  go_roundw
                  case rel => exact ⟨i + 1, by have := HLT.out; go_num, by have := HLT.out; omega, HBQ.out, HALL.out.succ ⟨HPI.out, HQA.out.all⟩⟩
                  case measure =>
                    have := HLT.out
                    simp [intOf]
                    omega
          · have q1' : ((s : Int) != 1) = true := by rw [show ((s : Int) != 1) = !decide (s = 1) from int_ne s 1]; simp [g1]
            have q2' : ((s : Int) != 0) = true := by rw [show ((s : Int) != 0) = !decide (s = 0) from int_ne s 0]; simp [g2]
            have HG1 := Lib.hid g1
            have HG2 := Lib.hid g2
            clear g1 g2
            go_wp2_with fail
            refine wp_region_ord [0, 1, 2, 3, 4, 5, 6, 7, 8, 9, 10, 11, 12, 13, 14, 15, 16, 17, 18, 19, 20, 21, 22, 23, 24, 25, 26, 27, 28, 29, 30, 31, 32, 33, 34, 35, 36, 37, 38, 39, 40, 41, 42, 43, 44, 45, 46, 47, 48, 49, 50, 51] [22, 48] 52 (fun W => FtAt W w.heap.size i i n c2 c3 c4 a o b p p1 q1 bb ob bi oi ci s lo hi' y y' x) (by kernel_rfl) (by kernel_rfl) (by kernel_rfl) (by kernel_rfl) (fun _ _ _ _ _ h => h) (H2.out _ HBD.out) ?_
            simp only [steps, List.getElem?_cons_zero, List.getElem?_cons_succ]
            repeat (first
              | (refine ord_no rfl ?_; simp only [Act.put, List.setIfInBounds_toArray, List.set_cons_zero, List.set_cons_succ])
              | (refine ord_yes (v := ?_) rfl rfl ?_ ?_; rotate_left; (focus (rintro w' ⟨x0, x1, x2, x3, x4, x5, x6, x7, x8, x9⟩; go_simp; try with_reducible rfl)); simp only [Act.put, List.setIfInBounds_toArray, List.set_cons_zero, List.set_cons_succ]))
            generalize wr.drew = we at *
            refine ord_hard rfl rfl (fun K hK => ?_)
            go_simp
            go_invoke
            go_simp
            have hcal := HANS.out.below _ (HB.out.trans (HBD.out.mono HB.out.size)) lo y HFIT.out.1 HFIT.out.2.2.1
            obtain ⟨ra, hra⟩ : ∃ r, S.below lo y = r := ⟨_, rfl⟩
            rw [hra] at hcal
            have HRA := Lib.hid hra
            clear hra
            refine hcal.mono ?_
            rintro e wHBE ⟨rfl, hv⟩
            clear hcal
            have hbd := HBD.out.trans (hv.mono HBD.out.size)
            have HBE := Lib.hid hbd
            clear hv
            refine hK.out _ _ (fun _ => H2.out _ hbd) ?_
            clear hK K hbd
            try simp only [Act.put, List.setIfInBounds_toArray, List.set_cons_zero, List.set_cons_succ]
            cases ra with
            | false =>
              repeat (first
                | (refine ord_no rfl ?_; simp only [Act.put, List.setIfInBounds_toArray, List.set_cons_zero, List.set_cons_succ])
                | (refine ord_yes (v := ?_) rfl rfl ?_ ?_; rotate_left; (focus (rintro w' ⟨x0, x1, x2, x3, x4, x5, x6, x7, x8, x9⟩; go_simp; try with_reducible rfl)); simp only [Act.put, List.setIfInBounds_toArray, List.set_cons_zero, List.set_cons_succ]))
              refine ord_end ?_
              clear hn1 hn2
              have HBZ := Lib.hid (HB.out.trans (HBE.out.mono HB.out.size))
              go_wp2_with fail
              go_ret
              exact ⟨.mk false rfl ⟨fun e => (by cases e), fun hf => (by
                  have h1 := (HP.out.1 (HIF.out.1 hf i (by have := HLT.out; omega)).1).1 HG1.out
                  rw [HRA.out] at h1
                  cases h1)⟩, HBZ.out⟩
            | true =>
              repeat (first
                | (refine ord_no rfl ?_; simp only [Act.put, List.setIfInBounds_toArray, List.set_cons_zero, List.set_cons_succ])
                | (refine ord_yes (v := ?_) rfl rfl ?_ ?_; rotate_left; (focus (rintro w' ⟨x0, x1, x2, x3, x4, x5, x6, x7, x8, x9⟩; go_simp; try with_reducible rfl)); simp only [Act.put, List.setIfInBounds_toArray, List.set_cons_zero, List.set_cons_succ]))
              refine ord_hard rfl rfl (fun K hK => ?_)
              go_simp
              go_invoke
              go_simp
              have hcal := HANS.out.below _ (HB.out.trans (HBE.out.mono HB.out.size)) y hi' HFIT.out.2.2.1 HFIT.out.2.1
              obtain ⟨rb, hrb⟩ : ∃ r, S.below y hi' = r := ⟨_, rfl⟩
              rw [hrb] at hcal
              have HRB := Lib.hid hrb
              clear hrb
              refine hcal.mono ?_
              rintro e wHBF ⟨rfl, hv⟩
              clear hcal
              have hbd := HBE.out.trans (hv.mono HBE.out.size)
              have HBF := Lib.hid hbd
              clear hv
              refine hK.out _ _ (fun _ => H2.out _ hbd) ?_
              clear hK K hbd
              try simp only [Act.put, List.setIfInBounds_toArray, List.set_cons_zero, List.set_cons_succ]
              cases rb with
              | false =>
                repeat (first
                  | (refine ord_no rfl ?_; simp only [Act.put, List.setIfInBounds_toArray, List.set_cons_zero, List.set_cons_succ])
                  | (refine ord_yes (v := ?_) rfl rfl ?_ ?_; rotate_left; (focus (rintro w' ⟨x0, x1, x2, x3, x4, x5, x6, x7, x8, x9⟩; go_simp; try with_reducible rfl)); simp only [Act.put, List.setIfInBounds_toArray, List.set_cons_zero, List.set_cons_succ]))
                refine ord_end ?_
                clear hn1 hn2
                have HBZ := Lib.hid (HB.out.trans (HBF.out.mono HB.out.size))
                go_wp2_with fail
                go_ret
                exact ⟨.mk false rfl ⟨fun e => (by cases e), fun hf => (by
                    have h1 := (HP.out.1 (HIF.out.1 hf i (by have := HLT.out; omega)).1).2 HG2.out
                    rw [HRB.out] at h1
                    cases h1)⟩, HBZ.out⟩
              | true =>
                repeat (first
                  | (refine ord_no rfl ?_; simp only [Act.put, List.setIfInBounds_toArray, List.set_cons_zero, List.set_cons_succ])
                  | (refine ord_yes (v := ?_) rfl rfl ?_ ?_; rotate_left; (focus (rintro w' ⟨x0, x1, x2, x3, x4, x5, x6, x7, x8, x9⟩; go_simp; try with_reducible rfl)); simp only [Act.put, List.setIfInBounds_toArray, List.set_cons_zero, List.set_cons_succ]))
                refine ord_end ?_
                clear hn1 hn2 q1' q2' hin H2
                have HPI := Lib.hid (HP.out.2 ⟨fun _ => HRA.out, fun _ => HRB.out⟩)
                go_wp2_with fail
                go_loopw [8] (fun v8 wq => ∃ k : Nat, v8 = .int .i64 (k : Int) ∧ k ≤ n ∧ Below u.heap.size u wq ∧ AllTo (QFit S z l i) k) (fun v8 _ => n - (intOf v8).toNat)
                case atStart => exact ⟨0, rfl, by omega, HBF.out, AllTo.zero _⟩
                case round =>
                  clear HBF
                  obtain ⟨k, rfl, hk, hbq, hqa⟩ := hrel
                  have HQA := Lib.hid hqa
                  clear hqa
                  by_cases hltk : k < n
                  · obtain ⟨a, o, b, p, p1', q1', bb, ob, bi, oi, ci, s, lo, hi', y, y', x, he, -, hQ, hfit, hft⟩ := HI.out k hltk
                    injection he with he
                    injection he with he1 he2
                    subst he1 he2
                    have HFIT := Lib.hid hfit
                    have HQ := Lib.hid hQ
                    have hin : (i : Int) < (n : Int) := by have := HLT.out; omega
                    have hkn : (k : Int) < (n : Int) := by omega
                    have H2 : Hid (∀ W, Below u.heap.size u W → FtAt W w.heap.size i k n c2 c3 c4 a o b p p1 q1 bb ob bi oi ci s lo hi' y y' x) := Lib.hid fun W hW => hft.keep hW
                    obtain ⟨kk, hkk⟩ : ∃ kk, n = k + 1 + kk := ⟨n - (k + 1), by omega⟩
                    have HLK := Lib.hid hkk
                    have hbd := hbq.trans ((Below.refl wr.heap.size wr).drew.mono hbq.size)
                    have HBD := Lib.hid hbd
                    clear hkk hft hfit hQ hbq hbd hltk
                    have hn1 := Bo.nil_la_Below pa
                    have hn2 := Bo.nil_ef_Below pa
                    cases x with
                    | false =>
                      go_wp2_with fail
                      refine wp_region_ord [0, 1, 2, 3, 4, 5, 6, 7, 8, 9, 10, 11, 12, 13, 14, 15, 16, 17, 18, 19, 20, 21, 22, 23, 24, 25, 26, 27] [25] 28 (fun W => FtAt W w.heap.size i k n c2 c3 c4 a o b p p1 q1 bb ob bi oi ci s lo hi' y y' false) (by kernel_rfl) (by kernel_rfl) (by kernel_rfl) (by kernel_rfl) (fun _ _ _ _ _ h => h) (H2.out _ HBD.out) ?_
                      simp only [steps, List.getElem?_cons_zero, List.getElem?_cons_succ]
                      repeat (first
                        | (refine ord_no rfl ?_; simp only [Act.put, List.setIfInBounds_toArray, List.set_cons_zero, List.set_cons_succ])
                        | (refine ord_yes (v := ?_) rfl rfl ?_ ?_; rotate_left; (focus (rintro w' ⟨x0, x1, x2, x3, x4, x5, x6, x7, x8, x9⟩; go_simp; try with_reducible rfl)); simp only [Act.put, List.setIfInBounds_toArray, List.set_cons_zero, List.set_cons_succ]))
                      generalize wr.drew = we at *
                      refine ord_end ?_
                      clear hn1 hn2 hin hkn
                      have hkb : k ≤ 100000 := by have := HLK.out; have := HNN.out; omega
                      go_wp2_with fail
                      go_roundw
                      case rel => exact ⟨k + 1, by have := HLK.out; go_num, by have := HLK.out; omega, HBD.out, HQA.out.succ (HQ.out.2 fun e => by cases e)⟩
                      case measure =>
                        have := HLK.out
                        simp [intOf]
                        omega
                    | true =>
                      go_wp2_with fail
                      refine wp_region_ord [0, 1, 2, 3, 4, 5, 6, 7, 8, 9, 10, 11, 12, 13, 14, 15, 16, 17, 18, 19, 20, 21, 22, 23, 24, 25, 26, 27] [25] 28 (fun W => FtAt W w.heap.size i k n c2 c3 c4 a o b p p1 q1 bb ob bi oi ci s lo hi' y y' true) (by kernel_rfl) (by kernel_rfl) (by kernel_rfl) (by kernel_rfl) (fun _ _ _ _ _ h => h) (H2.out _ HBD.out) ?_
                      simp only [steps, List.getElem?_cons_zero, List.getElem?_cons_succ]
                      repeat (first
                        | (refine ord_no rfl ?_; simp only [Act.put, List.setIfInBounds_toArray, List.set_cons_zero, List.set_cons_succ])
                        | (refine ord_yes (v := ?_) rfl rfl ?_ ?_; rotate_left; (focus (rintro w' ⟨x0, x1, x2, x3, x4, x5, x6, x7, x8, x9⟩; go_simp; try with_reducible rfl)); simp only [Act.put, List.setIfInBounds_toArray, List.set_cons_zero, List.set_cons_succ]))
                      generalize wr.drew = we at *
                      refine ord_hard rfl rfl (fun K hK => ?_)
                      go_simp
                      go_invoke
                      go_simp
                      have hcal := HANS.out.below _ (HB.out.trans (HBD.out.mono HB.out.size)) y y' HFIT.out.2.2.1 HFIT.out.2.2.2
                      obtain ⟨rq, hrq⟩ : ∃ r, S.below y y' = r := ⟨_, rfl⟩
                      rw [hrq] at hcal
                      have HRQ := Lib.hid hrq
                      clear hrq
                      refine hcal.mono ?_
                      rintro e wHBE ⟨rfl, hv⟩
                      clear hcal
                      have hbd := HBD.out.trans (hv.mono HBD.out.size)
                      have HBE := Lib.hid hbd
                      clear hv
                      refine hK.out _ _ (fun _ => H2.out _ hbd) ?_
                      clear hK K hbd
                      try simp only [Act.put, List.setIfInBounds_toArray, List.set_cons_zero, List.set_cons_succ]
                      cases rq with
                      | false =>
                        repeat (first
                          | (refine ord_no rfl ?_; simp only [Act.put, List.setIfInBounds_toArray, List.set_cons_zero, List.set_cons_succ])
                          | (refine ord_yes (v := ?_) rfl rfl ?_ ?_; rotate_left; (focus (rintro w' ⟨x0, x1, x2, x3, x4, x5, x6, x7, x8, x9⟩; go_simp; try with_reducible rfl)); simp only [Act.put, List.setIfInBounds_toArray, List.set_cons_zero, List.set_cons_succ]))
                        refine ord_end ?_
                        clear hn1 hn2
                        have HBZ := Lib.hid (HB.out.trans (HBE.out.mono HB.out.size))
                        go_wp2_with fail
                        go_ret
                        exact ⟨.mk false rfl ⟨fun e => (by cases e), fun hf => (by
                            have h1 := HQ.out.1 ((HIF.out.1 hf i (by have := HLT.out; omega)).2 k (by have := HLK.out; omega)) (by first | exact trivial | rfl)
                            rw [HRQ.out] at h1
                            cases h1)⟩, HBZ.out⟩
                      | true =>
                        repeat (first
                          | (refine ord_no rfl ?_; simp only [Act.put, List.setIfInBounds_toArray, List.set_cons_zero, List.set_cons_succ])
                          | (refine ord_yes (v := ?_) rfl rfl ?_ ?_; rotate_left; (focus (rintro w' ⟨x0, x1, x2, x3, x4, x5, x6, x7, x8, x9⟩; go_simp; try with_reducible rfl)); simp only [Act.put, List.setIfInBounds_toArray, List.set_cons_zero, List.set_cons_succ]))
                        refine ord_end ?_
                        clear hn1 hn2 hin hkn
                        have hkb : k ≤ 100000 := by have := HLK.out; have := HNN.out; omega
                        go_wp2_with fail
                        go_roundw
                        case rel => exact ⟨k + 1, by have := HLK.out; go_num, by have := HLK.out; omega, HBE.out, HQA.out.succ (HQ.out.2 fun _ => HRQ.out)⟩
                        case measure =>
                          have := HLK.out
                          simp [intOf]
                          omega
                  · obtain rfl : k = n := by omega
                    have hib : i ≤ 100000 := by have := HLT.out; have := HNN.out; omega
                    clear hltk
                    have HBQ := Lib.hid hbq
                    clear hbq
                    go_wp2_with fail
                    go_roundw
                    case rel => exact ⟨i + 1, by have := HLT.out; go_num, by have := HLT.out; omega, HBQ.out, HALL.out.succ ⟨HPI.out, HQA.out.all⟩⟩
                    case measure =>
                      have := HLT.out
                      simp [intOf]
                      omega
      · obtain rfl : i = n := by omega
        clear hlt
        have HBZ := Lib.hid (HB.out.trans (hb.mono HB.out.size))
        clear hb
        go_wp2
        go_ret
        exact ⟨.mk true rfl ⟨fun _ => HIF.out.2 HALL.out.all, fun _ => rfl⟩, HBZ.out⟩)
end Go.Proofs.YtfmpecnkkbpdlaaGreat
