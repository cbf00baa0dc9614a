/- The document's Term and Check, of any sort of the document's. No condition but sizes. -/
import Derived.Test.YtnlgfiffhahpfaaGreatDoorGvn
import Derived.Test.YtnlgfiffhahpfaaGreatDoorApp
namespace Go.Proofs.YtnlgfiffhahpfaaGreatDoor
open Go.RowKit

/-- A sort of the document's, as a value. -/
def rsV (t : Nat) (A : Option Addr) (n c : Nat) (m : Nat) : Value := .agg #[.int .i64 (t : Int), .slice A n c, .int .i64 (m : Int)]
/-- What its Has tells, in every world behind w. -/
def RHas (w : World) (p : Value) (S : Sr) : Prop := ∀ W, Below w.heap.size w W → ∀ x : Nat, x < 18446744073709551616 → Calls Tryz.prog 28 #[p, .int .u64 (x : Int)] W fun e w' => e = .returned (.bool (S.has x)) ∧ Below W.heap.size W w'
theorem RHas.keep {w W : World} {p : Value} {S : Sr} (h : RHas w p S) (hb : Below w.heap.size w W) : RHas W p S := fun V hV => h V (hb.trans (hV.mono hb.size))

set_option maxRecDepth 100000 in
set_option maxHeartbeats 1000000 in
theorem term_ref (t : Nat) (A : Option Addr) (m c e : Nat) (S : Sr) (b : Bool) (n k : Nat) (w : World) (hs : RHas w (rsV t A m c e) S) (hn : n < 18446744073709551616) (hk : k ≤ 64) :
    Calls Tryz.prog 37 #[rsV t A m c e, .int .i64 (k : Int), tmv b n] w fun e w' => e = .returned (.bool (mayT S k b n)) ∧ Below w.heap.size w w' := by
  have hw := wrap_small (k := k) (by omega)
  have hal : Below w.heap.size w ((w.alloc (.cells #[.int .i64 (t : Int), .slice A m c, .int .i64 (e : Int)] 31)).alloc (.cells #[.bool b, .int .u64 (n : Int)] 75)) := ((Below.refl _ _).alloc (Nat.le_refl _) _).alloc (by simp) _
  unfold tmv mayT
  have HS := Lib.hid hs
  unfold rsV at HS ⊢
  cases b with
  | true =>
    clear hs HS
    simp only [cond_true]
    by_cases h0 : k = 0
    · subst h0
      have e : decide (n < 0) = false := by simp
      rw [e]
      go_enter Tryz.func37, Tryz.ntmps37
      go_wp2
      go_ret
      exact ⟨rfl, hal⟩
    · have e : decide (n < k) = decide ((n : Int) < (k : Int)) := by congr 1; simp
      rw [e]
      have h1 : (0 : Int) < (k : Int) := by omega
      generalize hd : decide ((n : Int) < (k : Int)) = d at *
      clear h0
      go_enter Tryz.func37, Tryz.ntmps37
      go_wp2
      go_ret
      exact ⟨rfl, hal⟩
  | false =>
    simp only [cond_false]
    have HN := Lib.hid hn
    clear hw hk hn hs
    have H := Lib.hid (HS.out _ hal n HN.out)
    generalize S.has n = r at *
    have HA := Lib.hid hal
    clear hal HS
    go_enter Tryz.func37, Tryz.ntmps37
    go_wp2_with fail
    refine H.out.mono ?_
    rintro e w1 ⟨rfl, hb⟩
    go_wp2_with fail
    go_ret
    exact ⟨rfl, HA.out.trans (hb.mono HA.out.size)⟩

set_option maxRecDepth 100000 in
set_option maxHeartbeats 2000000 in
theorem check_ref (t : Nat) (At : Option Addr) (mt ct et : Nat) (k : Int) (A : Option Addr) (n c : Nat) (l : List Bd) (S : Sr) (w : World) (x : Int) (hs : RHas w (rsV t At mt ct et) S) (h : Rs bdc 4 w w.heap.size A n c l) (hf : ∀ b ∈ l, b.Fit) (hx : chkS S k l = x) :
    Calls Tryz.prog 12 #[rsV t At mt ct et, .int .i64 k, .slice A n c] w fun e w' => e = .returned (.int .i64 x) ∧ Below w.heap.size w w' := by
  have hlen := h.len
  have hal : Below w.heap.size w (w.alloc (.cells #[.int .i64 (t : Int), .slice At mt ct, .int .i64 (et : Int)] 31)) := (Below.refl _ _).alloc (Nat.le_refl _) _
  unfold rsV at hs ⊢
  by_cases h0 : k < 0
  · obtain rfl : (3 : Int) = x := by rw [← hx, chkS, if_pos (.inl h0)]
    clear hx hs h hf
    go_enter Tryz.func12, Tryz.ntmps12
    go_wp2
    go_ret
    exact ⟨rfl, hal⟩
  by_cases h1 : 64 < k
  · obtain rfl : (3 : Int) = x := by rw [← hx, chkS, if_pos (.inr (.inl h1))]
    clear hx hs h hf
    go_enter Tryz.func12, Tryz.ntmps12
    go_wp2
    go_ret
    exact ⟨rfl, hal⟩
  by_cases h2 : 256 < n
  · obtain rfl : (3 : Int) = x := by rw [← hx, chkS, if_pos (.inr (.inr (by rw [hlen]; exact h2)))]
    have h2' : (256 : Int) < (n : Int) := by omega
    clear hx hs h hf h2
    go_enter Tryz.func12, Tryz.ntmps12
    go_wp2
    go_ret
    exact ⟨rfl, hal⟩
  obtain ⟨q, rfl⟩ : ∃ q : Nat, k = (q : Int) := ⟨k.toNat, by omega⟩
  have hq : q ≤ 64 := by omega
  have h0' : ¬ (q : Int) < 0 := by omega
  have h2' : ¬ (256 : Int) < (n : Int) := by omega
  have hx' : (if l.all (mayB S q) then (0 : Int) else 1) = x := by rw [← hx, chkS, if_neg (show ¬ ((q : Int) < 0 ∨ 64 < (q : Int) ∨ 256 < l.length) by omega), Int.toNat_natCast]
  have HX := Lib.hid hx'
  have HF := Lib.hid hf
  have HQ := Lib.hid hq
  have HL := Lib.hid hlen
  have htop := h.top
  have hcap := h.cap
  unfold maxLen at htop
  have HR := Lib.hid (h.at_size (Nat.le_refl _) hal)
  have HS := Lib.hid (hs.keep hal)
  have hbx := heap_alloc_new w (.cells #[.int .i64 (t : Int), .slice At mt ct, .int .i64 (et : Int)] 31)
  have hz0 := (cell_blk (i := 0) hbx).trans rfl
  have hz1 := (cell_blk (i := 1) hbx).trans rfl
  have hz2 := (cell_blk (i := 2) hbx).trans rfl
  have HAL := Lib.hid hal
  clear hx hx' hf hq hlen h hs h0 h2 hbx hal
  go_enter Tryz.func12, Tryz.ntmps12
  go_wp2_with fail
  clear h0' h1 h2'
  obtain ⟨w0, hw0⟩ : ∃ w0, w0 = w.alloc (.cells #[.int .i64 (t : Int), .slice At mt ct, .int .i64 (et : Int)] 31) := ⟨_, rfl⟩
  rw [← hw0] at hz0 hz1 hz2 HAL HS HR ⊢
  clear hw0
  go_loopw [7] (fun v7 wr => AllRel (mayB S q) l w0 v7 wr) (fun v7 _ => n - (intOf v7).toNat)
  case atStart => exact ⟨0, rfl, by omega, rfl, Below.refl _ _⟩
  case round =>
    obtain ⟨i, rfl, hi, hall, hb⟩ := hrel
    by_cases hlt : i < n
    · have hi' : i < l.length := by rw [HL.out]; exact hlt
      have hr := (HR.out.at_size (Nat.le_refl _) hb)
      replace hz0 := cell_old hz0 hb
      replace hz1 := cell_old hz1 hb
      replace hz2 := cell_old hz2 hb
      obtain ⟨b, o, rfl, hbb, e0, e1, e2, e3⟩ := bd_at hr hi'
      have hu := HF.out _ (List.getElem_mem hi')
      obtain ⟨r1, hr1⟩ : ∃ r, mayT S q l[i].av l[i].an = r := ⟨_, rfl⟩
      obtain ⟨r2, hr2⟩ : ∃ r, mayT S q l[i].bv l[i].bn = r := ⟨_, rfl⟩
      have HST : Hid ((l.take (i + 1)).all (mayB S q) = (r1 && r2)) := Lib.hid (by rw [all_step hi' hall, mayB, hr1, hr2])
      have HNO : Hid ((r1 && r2) = false → l.all (mayB S q) = false) := Lib.hid fun e => all_off hi' (by rw [mayB, hr1, hr2]; exact e)
      generalize l[i] = y at *
      obtain ⟨av, an, bv, bn⟩ := y
      simp only at e0 e1 e2 e3 hu hr1 hr2
      have HM1 : Hid (∀ W, Below w0.heap.size w0 W → Calls Tryz.prog 37 #[rsV t At mt ct et, .int .i64 (q : Int), tmv av an] W fun e w' => e = .returned (.bool r1) ∧ Below W.heap.size W w') :=
        Lib.hid fun W hW => hr1 ▸ term_ref t At mt ct et S av an q W (HS.out.keep hW) hu.1 HQ.out
      have HM2 : Hid (∀ W, Below w0.heap.size w0 W → Calls Tryz.prog 37 #[rsV t At mt ct et, .int .i64 (q : Int), tmv bv bn] W fun e w' => e = .returned (.bool r2) ∧ Below W.heap.size W w') :=
        Lib.hid fun W hW => hr2 ▸ term_ref t At mt ct et S bv bn q W (HS.out.keep hW) hu.2 HQ.out
      have HLT := Lib.hid hlt
      clear hall hr hu hr1 hr2 hbb hi'
      unfold tmv rsV at HM1 HM2
      go_wp2_with fail
      refine wp_region_ord [0, 1, 2, 3, 4, 5, 6, 7, 8, 9, 10, 11, 12, 13, 14, 15, 16, 17, 18, 19] [7, 17] 20 (fun w' => w'.cell? ⟨w.heap.size, 0, none⟩ = some (.int .i64 (t : Int)) ∧ w'.cell? ⟨w.heap.size, 1, none⟩ = some (.slice At mt ct) ∧ w'.cell? ⟨w.heap.size, 2, none⟩ = some (.int .i64 (et : Int)) ∧ w'.cell? ⟨b, o + i * 4, none⟩ = some (.bool av) ∧ w'.cell? ⟨b, o + i * 4 + 1, none⟩ = some (.int .u64 (an : Int)) ∧ w'.cell? ⟨b, o + i * 4 + 2, none⟩ = some (.bool bv) ∧ w'.cell? ⟨b, o + i * 4 + 3, none⟩ = some (.int .u64 (bn : Int))) (by kernel_rfl) (by kernel_rfl) (by kernel_rfl) (by kernel_rfl) (fun _ _ _ _ _ h => h) ⟨hz0, hz1, hz2, e0, e1, e2, e3⟩ ?_
      simp only [steps, List.getElem?_cons_zero, List.getElem?_cons_succ]
      repeat (first
        | (refine ord_no rfl ?_; simp only [Act.put, List.setIfInBounds_toArray, List.set_cons_zero, List.set_cons_succ])
        | (refine ord_yes (v := ?_) rfl rfl ?_ ?_; rotate_left; (focus (rintro w' ⟨hS0, hS1, hS2, hS3, hS4, hS5, hS6⟩; go_simp; try with_reducible rfl)); simp only [Act.put, List.setIfInBounds_toArray, List.set_cons_zero, List.set_cons_succ]))
      have hv : Below wr.heap.size wr wr.drew := (Below.refl _ _).drew
      replace hz0 := cell_old hz0 hv
      replace hz1 := cell_old hz1 hv
      replace hz2 := cell_old hz2 hv
      replace e0 := cell_old e0 hv
      replace e1 := cell_old e1 hv
      replace e2 := cell_old e2 hv
      replace e3 := cell_old e3 hv
      replace hb := hb.trans (hv.mono hb.size)
      clear hv
      generalize wr.drew = w5 at *
      refine ord_hard rfl rfl (fun K hK => ?_)
      go_simp
      refine (HM1.out _ hb).mono ?_
      rintro e w6 ⟨rfl, hv⟩
      replace hz0 := cell_old hz0 hv
      replace hz1 := cell_old hz1 hv
      replace hz2 := cell_old hz2 hv
      replace e0 := cell_old e0 hv
      replace e1 := cell_old e1 hv
      replace e2 := cell_old e2 hv
      replace e3 := cell_old e3 hv
      replace hb := hb.trans (hv.mono hb.size)
      clear hv
      refine hK.out _ _ (fun _ => ⟨hz0, hz1, hz2, e0, e1, e2, e3⟩) ?_
      clear hK K
      try simp only [Act.put, List.setIfInBounds_toArray, List.set_cons_zero, List.set_cons_succ]
      cases r1 with
      | false =>
        have HN := Lib.hid (HNO.out rfl)
        clear HNO HST
        repeat (first
          | (refine ord_no rfl ?_; simp only [Act.put, List.setIfInBounds_toArray, List.set_cons_zero, List.set_cons_succ])
          | (refine ord_yes (v := ?_) rfl rfl ?_ ?_; rotate_left; (focus (rintro w' ⟨hS0, hS1, hS2, hS3, hS4, hS5, hS6⟩; go_simp; try with_reducible rfl)); simp only [Act.put, List.setIfInBounds_toArray, List.set_cons_zero, List.set_cons_succ]))
        refine ord_end ?_
        go_wp2_with fail
        go_ret
        refine ⟨?_, HAL.out.trans (hb.mono HAL.out.size)⟩
        rw [← HX.out, HN.out]
        rfl
      | true =>
        repeat (first
          | (refine ord_no rfl ?_; simp only [Act.put, List.setIfInBounds_toArray, List.set_cons_zero, List.set_cons_succ])
          | (refine ord_yes (v := ?_) rfl rfl ?_ ?_; rotate_left; (focus (rintro w' ⟨hS0, hS1, hS2, hS3, hS4, hS5, hS6⟩; go_simp; try with_reducible rfl)); simp only [Act.put, List.setIfInBounds_toArray, List.set_cons_zero, List.set_cons_succ]))
        refine ord_hard rfl rfl (fun K hK => ?_)
        go_simp
        refine (HM2.out _ hb).mono ?_
        rintro e w7 ⟨rfl, hv⟩
        replace hz0 := cell_old hz0 hv
        replace hz1 := cell_old hz1 hv
        replace hz2 := cell_old hz2 hv
        replace e0 := cell_old e0 hv
        replace e1 := cell_old e1 hv
        replace e2 := cell_old e2 hv
        replace e3 := cell_old e3 hv
        replace hb := hb.trans (hv.mono hb.size)
        clear hv
        refine hK.out _ _ (fun _ => ⟨hz0, hz1, hz2, e0, e1, e2, e3⟩) ?_
        clear hK K
        try simp only [Act.put, List.setIfInBounds_toArray, List.set_cons_zero, List.set_cons_succ]
        repeat (first
          | (refine ord_no rfl ?_; simp only [Act.put, List.setIfInBounds_toArray, List.set_cons_zero, List.set_cons_succ])
          | (refine ord_yes (v := ?_) rfl rfl ?_ ?_; rotate_left; (focus (rintro w' ⟨hS0, hS1, hS2, hS3, hS4, hS5, hS6⟩; go_simp; try with_reducible rfl)); simp only [Act.put, List.setIfInBounds_toArray, List.set_cons_zero, List.set_cons_succ]))
        refine ord_end ?_
        cases r2 with
        | false =>
          have HN := Lib.hid (HNO.out rfl)
          clear HNO HST
          go_wp2_with fail
          go_ret
          refine ⟨?_, HAL.out.trans (hb.mono HAL.out.size)⟩
          rw [← HX.out, HN.out]
          rfl
        | true =>
          clear HNO
          go_wp2_with fail
          go_roundw
          case rel => exact ⟨i + 1, by go_num, by have := HLT.out; have := HL.out; omega, HST.out, hb⟩
          case measure =>
            have := HLT.out
            simp [intOf]
            omega
    · obtain rfl : i = n := by have := HL.out; omega
      have HE : Hid ((0 : Int) = x) := Lib.hid (by
        rw [List.take_of_length_le (by rw [HL.out]; omega)] at hall
        rw [← HX.out, hall]
        rfl)
      clear hall
      go_wp2
      go_ret
      exact ⟨by rw [← HE.out]; rfl, HAL.out.trans (hb.mono HAL.out.size)⟩
end Go.Proofs.YtnlgfiffhahpfaaGreatDoor
