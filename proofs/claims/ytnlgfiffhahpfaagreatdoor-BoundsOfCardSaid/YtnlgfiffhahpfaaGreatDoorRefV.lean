/- The document's Hold. No condition but sizes. -/
import Derived.Test.YtnlgfiffhahpfaaGreatDoorRefS
namespace Go.Proofs.YtnlgfiffhahpfaaGreatDoor
open Go.RowKit

theorem RSrt.rhas {w : World} {t : Nat} {A : Option Addr} {n c m : Nat} {S : Sr} (h : RSrt w.heap.size w t A n c m S) : RHas w (rsV t A n c m) S := fun W hW x hx => rhas_any t A n c m S x W (h.keep hW) hx

set_option maxRecDepth 100000 in
set_option maxHeartbeats 1000000 in
theorem value_ref (b : Bool) (n : Nat) (A : Option Addr) (m c B : Nat) (u : List Nat) (w : World) (h : Rd La.nm w B A m c u) (hB : B ≤ w.heap.size) (hn : n < 18446744073709551616) (x : Nat) (y : Bool) (hx : vl u b n = x) (hy : okT u b n = y) :
    Calls Tryz.prog 39 #[.slice A m c, tmv b n] w fun e w' => e = .returned (.tuple #[.int .u64 (x : Int), .bool y]) ∧ Below w.heap.size w w' := by
  have hal : Below w.heap.size w (w.alloc (.cells #[.bool b, .int .u64 (n : Int)] 75)) := (Below.refl _ _).alloc (Nat.le_refl _) _
  have hlen := h.len
  have htop := h.top
  have hcap := h.cap
  unfold maxLen at htop
  have hw := wrap_small (k := m) (by omega)
  unfold tmv
  subst hx hy
  cases b with
  | false =>
    simp only [vl, okT, cond_false, Bool.not_false, Bool.true_or]
    clear h
    go_enter Tryz.func39, Tryz.ntmps39
    go_wp2
    exact bodyPost_ret (v := .tuple #[.int .u64 (n : Int), .bool true]) (by simp [results, Tryz.results39, go_sem]) rfl ⟨rfl, hal⟩
  | true =>
    simp only [vl, okT, cond_true, Bool.not_true, Bool.false_or]
    by_cases hlt : n < u.length
    · have e : u.getD n 0 = u[n] := by simp [hlt]
      rw [e, decide_eq_true hlt]
      obtain ⟨b, o, rfl, hb, hc'⟩ := h.spot (by omega)
      have hc := hc' n hlt
      clear hc'
      have hc1 := (hal.cell (p := ⟨b, o + n, none⟩) (show b < _ by omega)).trans hc
      replace hc1 : _ = some (Value.int .u64 (u[n] : Int)) := hc1
      have hlt' : n < m := by omega
      clear h hc e
      generalize u[n] = q at *
      clear hlt hlen
      go_enter Tryz.func39, Tryz.ntmps39
      go_wp2
      exact bodyPost_ret (v := .tuple #[.int .u64 (q : Int), .bool true]) (by simp [results, Tryz.results39, go_sem]) rfl ⟨rfl, hal⟩
    · have e : u.getD n 0 = 0 := by simp [List.getD, List.getElem?_eq_none (Nat.le_of_not_lt hlt)]
      rw [e, decide_eq_false hlt]
      have hge : ¬ n < m := by omega
      clear h e hlt hlen
      go_enter Tryz.func39, Tryz.ntmps39
      go_wp2
      exact bodyPost_ret (v := .tuple #[.int .u64 0, .bool false]) (by simp [results, Tryz.results39, go_sem]) rfl ⟨rfl, hal⟩

set_option maxRecDepth 100000 in
set_option maxHeartbeats 4000000 in
theorem hold_ref (t : Nat) (At : Option Addr) (mt ct et : Nat) (A2 : Option Addr) (m c2 : Nat) (u : List Nat) (A : Option Addr) (n c : Nat) (l : List Bd) (S : Sr) (w : World) (x : Bool) (hs : RSrt w.heap.size w t At mt ct et S) (hr2 : Rd La.nm w w.heap.size A2 m c2 u) (hfu : La.Fit u) (h : Rs bdc 4 w w.heap.size A n c l) (hf : ∀ b ∈ l, b.Fit) (hx : holdS S u l = x) :
    Calls Tryz.prog 15 #[rsV t At mt ct et, .slice A2 m c2, .slice A n c] w fun e w' => e = .returned (.bool x) ∧ Below w.heap.size w w' := by
  have hal : Below w.heap.size w (w.alloc (.cells #[.int .i64 (t : Int), .slice At mt ct, .int .i64 (et : Int)] 31)) := (Below.refl _ _).alloc (Nat.le_refl _) _
  have hlen := h.len
  have HX := Lib.hid hx
  have HF := Lib.hid hf
  have HL := Lib.hid hlen
  have htop := h.top
  have hcap := h.cap
  unfold maxLen at htop
  have HR := Lib.hid (h.at_size (Nat.le_refl _) hal)
  have HR2 := Lib.hid (hr2.at_size (Nat.le_refl _) hal)
  have HFU := Lib.hid hfu
  have HS := Lib.hid (hs.keep hal)
  have hbx := heap_alloc_new w (.cells #[.int .i64 (t : Int), .slice At mt ct, .int .i64 (et : Int)] 31)
  have hz0 := (cell_blk (i := 0) hbx).trans rfl
  have hz1 := (cell_blk (i := 1) hbx).trans rfl
  have hz2 := (cell_blk (i := 2) hbx).trans rfl
  have HAL := Lib.hid hal
  clear hx hf hlen h hs hr2 hfu hbx hal
  unfold rsV
  go_enter Tryz.func15, Tryz.ntmps15
  go_wp2_with fail
  obtain ⟨w0, hw0⟩ : ∃ w0, w0 = w.alloc (.cells #[.int .i64 (t : Int), .slice At mt ct, .int .i64 (et : Int)] 31) := ⟨_, rfl⟩
  rw [← hw0] at hz0 hz1 hz2 HAL HS HR HR2 ⊢
  clear hw0
  go_loopw [7] (fun v7 wr => AllRel (okB S u) l w0 v7 wr) (fun v7 _ => n - (intOf v7).toNat)
  case atStart => exact ⟨0, rfl, by omega, rfl, Below.refl _ _⟩
  case round =>
    obtain ⟨i, rfl, hi, hall, hb⟩ := hrel
    by_cases hlt : i < n
    · have hi' : i < l.length := by rw [HL.out]; exact hlt
      have hr := HR.out.at_size (Nat.le_refl _) hb
      replace hz0 := cell_old hz0 hb
      replace hz1 := cell_old hz1 hb
      replace hz2 := cell_old hz2 hb
      obtain ⟨b, o, rfl, hbb, e0, e1, e2, e3⟩ := bd_at hr hi'
      have hu := HF.out _ (List.getElem_mem hi')
      obtain ⟨x1, hx1⟩ : ∃ r, vl u l[i].av l[i].an = r := ⟨_, rfl⟩
      obtain ⟨x2, hx2⟩ : ∃ r, vl u l[i].bv l[i].bn = r := ⟨_, rfl⟩
      obtain ⟨y1, hy1⟩ : ∃ r, okT u l[i].av l[i].an = r := ⟨_, rfl⟩
      obtain ⟨y2, hy2⟩ : ∃ r, okT u l[i].bv l[i].bn = r := ⟨_, rfl⟩
      obtain ⟨z, hz⟩ : ∃ r, S.below x1 x2 = r := ⟨_, rfl⟩
      have HST : Hid ((l.take (i + 1)).all (okB S u) = (y1 && y2 && z)) := Lib.hid (by rw [all_step hi' hall, okB, hx1, hx2, hy1, hy2, hz])
      have HNO : Hid ((y1 && y2 && z) = false → holdS S u l = false) := Lib.hid fun e => all_off hi' (by rw [okB, hx1, hx2, hy1, hy2, hz]; exact e)
      generalize l[i] = y at *
      obtain ⟨av, an, bv, bn⟩ := y
      simp only at e0 e1 e2 e3 hu hx1 hx2 hy1 hy2
      have hx1f : x1 < 18446744073709551616 := hx1 ▸ vl_fit HFU.out hu.1
      have hx2f : x2 < 18446744073709551616 := hx2 ▸ vl_fit HFU.out hu.2
      have HM1 := Lib.hid fun W (hW : Below w0.heap.size w0 W) => value_ref av an A2 m c2 W.heap.size u W (HR2.out.at_size (Nat.le_refl _) hW) (Nat.le_refl _) hu.1 x1 y1 hx1 hy1
      have HM2 := Lib.hid fun W (hW : Below w0.heap.size w0 W) => value_ref bv bn A2 m c2 W.heap.size u W (HR2.out.at_size (Nat.le_refl _) hW) (Nat.le_refl _) hu.2 x2 y2 hx2 hy2
      have HM3 := Lib.hid fun W (hW : Below w0.heap.size w0 W) => hz ▸ rbelow_any t At mt ct et S x1 x2 W (HS.out.keep hW) hx1f hx2f
      have HLT := Lib.hid hlt
      clear hall hr hu hx1 hx2 hy1 hy2 hz hx1f hx2f hbb hi'
      unfold tmv at HM1 HM2
      unfold rsV at HM3
      go_wp2_with fail
      refine (HM1.out _ hb).mono ?_
      rintro e w2 ⟨rfl, hv⟩
      replace hz0 := cell_old hz0 hv
      replace hz1 := cell_old hz1 hv
      replace hz2 := cell_old hz2 hv
      replace e0 := cell_old e0 hv
      replace e1 := cell_old e1 hv
      replace e2 := cell_old e2 hv
      replace e3 := cell_old e3 hv
      replace hb := hb.trans (hv.mono hb.size)
      clear hv
      clear HM1
      go_wp2_with fail
      refine (HM2.out _ hb).mono ?_
      rintro e w3 ⟨rfl, hv⟩
      replace hz0 := cell_old hz0 hv
      replace hz1 := cell_old hz1 hv
      replace hz2 := cell_old hz2 hv
      replace e0 := cell_old e0 hv
      replace e1 := cell_old e1 hv
      replace e2 := cell_old e2 hv
      replace e3 := cell_old e3 hv
      replace hb := hb.trans (hv.mono hb.size)
      clear hv
      clear HM2
      cases y1 with
      | false =>
        have HN := Lib.hid (HNO.out rfl)
        clear HNO HST
        go_wp2_with fail
        go_ret
        refine ⟨?_, HAL.out.trans (hb.mono HAL.out.size)⟩
        rw [← HX.out, HN.out]
        rfl
      | true =>
        cases y2 with
        | false =>
          have HN := Lib.hid (HNO.out rfl)
          clear HNO HST
          go_wp2_with fail
          go_ret
          refine ⟨?_, HAL.out.trans (hb.mono HAL.out.size)⟩
          rw [← HX.out, HN.out]
          rfl
        | true =>
          go_wp2_with fail
          refine (HM3.out _ hb).mono ?_
          rintro e w4 ⟨rfl, hv⟩
          replace hz0 := cell_old hz0 hv
          replace hz1 := cell_old hz1 hv
          replace hz2 := cell_old hz2 hv
          replace e0 := cell_old e0 hv
          replace e1 := cell_old e1 hv
          replace e2 := cell_old e2 hv
          replace e3 := cell_old e3 hv
          replace hb := hb.trans (hv.mono hb.size)
          clear hv
          clear HM3
          cases z with
          | false =>
            have HN := Lib.hid (HNO.out rfl)
            clear HNO HST
            go_wp2_with fail
            go_ret
            refine ⟨?_, HAL.out.trans (hb.mono HAL.out.size)⟩
            rw [← HX.out, HN.out]
            rfl
          | true =>
            clear HNO
            go_wp2_with fail
            go_roundw
            case rel => exact ⟨i + 1, by go_num, by have := HLT.out; have := HL.out; omega, HST.out, hb⟩
            case measure =>
              have := HLT.out
              simp [intOf]
              omega
    · obtain rfl : i = n := by have := HL.out; omega
      have HE : Hid (true = x) := Lib.hid (by
        rw [List.take_of_length_le (by rw [HL.out]; omega)] at hall
        rw [← HX.out, holdS, hall])
      clear hall
      go_wp2
      go_ret
      exact ⟨by rw [← HE.out]; rfl, HAL.out.trans (hb.mono HAL.out.size)⟩
end Go.Proofs.YtnlgfiffhahpfaaGreatDoor
