/- What Of tells: who reaches whom, or an error. No condition but sizes. -/
import Derived.Test.YtomokkpfkhfemaaGreatDoorSqr
namespace Go.Proofs.YtomokkpfkhfemaaGreatDoor
open Go.RowKit

set_option maxRecDepth 100000 in
set_option maxHeartbeats 1000000 in
theorem may_any (v : Bool) (k n : Nat) (w : World) (hn : n ≤ 64) :
    Calls Tryz.prog 12 #[tmv v k, .int .i64 (n : Int)] w fun e w' => e = .returned (.bool (mayV n v k)) ∧ Below w.heap.size w w' := by
  have hw := wrap_small (k := n) (by omega)
  have hal : Below w.heap.size w (w.alloc (.cells #[.bool v, .int .u64 (k : Int)] 53)) := (Below.refl _ _).alloc (Nat.le_refl _) _
  unfold tmv mayV
  cases v with
  | true =>
    simp only [Bool.not_true, Bool.false_or]
    have e : decide (k < n) = decide ((k : Int) < (n : Int)) := by congr 1; simp
    rw [e]
    generalize hd : decide ((k : Int) < (n : Int)) = d at *
    go_enter Tryz.func12, Tryz.ntmps12
    go_wp2
    go_ret
    exact ⟨rfl, hal⟩
  | false =>
    simp only [Bool.not_false, Bool.true_or]
    go_enter Tryz.func12, Tryz.ntmps12
    go_wp2
    go_ret
    exact ⟨rfl, hal⟩

/-- What came of Of, and where it lies. -/
def OfE (k : Int) (l : List Bd) (x : Int) (w : World) (e : Ending) (w' : World) : Prop :=
  (x ≠ 0 ∧ e = .returned (.tuple #[.slice none 0 0, .int .i64 x]) ∧ Below w.heap.size w w') ∨
    (x = 0 ∧ ∃ q g gs, k = ((q : Nat) : Int) ∧ e = .returned (.tuple #[.slice (some ⟨g, 0, none⟩) q q, .int .i64 0]) ∧ Sqr w' w.heap.size g q gs (La.bt (rchN q l)) ∧ Below w.heap.size w w')

set_option maxRecDepth 100000 in
set_option maxHeartbeats 2000000 in
theorem of_any (k : Int) (A : Option Addr) (n c : Nat) (l : List Bd) (w : World) (x : Int) (h : Rs bdc 4 w w.heap.size A n c l) (hx : ofE k l = x) :
    Calls Tryz.prog 5 #[.int .i64 k, .slice A n c] w (OfE k l x w) := by
  have hlen := h.len
  by_cases h0 : k < 0
  · obtain rfl : (3 : Int) = x := by rw [← hx, ofE, if_pos (.inl h0)]
    clear hx h
    go_enter Tryz.func5, Tryz.ntmps5
    go_wp2
    go_ret2
    exact .inl ⟨by decide, rfl, Below.refl _ _⟩
  by_cases h1 : 64 < k
  · obtain rfl : (3 : Int) = x := by rw [← hx, ofE, if_pos (.inr (.inl h1))]
    clear hx h
    go_enter Tryz.func5, Tryz.ntmps5
    go_wp2
    go_ret2
    exact .inl ⟨by decide, rfl, Below.refl _ _⟩
  by_cases h2 : 256 < n
  · obtain rfl : (3 : Int) = x := by rw [← hx, ofE, if_pos (.inr (.inr (by rw [hlen]; exact h2)))]
    have h2' : (256 : Int) < (n : Int) := by omega
    clear hx h h2
    go_enter Tryz.func5, Tryz.ntmps5
    go_wp2
    go_ret2
    exact .inl ⟨by decide, rfl, Below.refl _ _⟩
  obtain ⟨q, rfl⟩ : ∃ q : Nat, k = (q : Int) := ⟨k.toNat, by omega⟩
  have hq : q ≤ 64 := by omega
  have h0' : ¬ (q : Int) < 0 := by omega
  have h2' : ¬ (256 : Int) < (n : Int) := by omega
  have hx' : (if l.all (mayB q) then (0 : Int) else 1) = x := by rw [← hx, ofE, if_neg (show ¬ ((q : Int) < 0 ∨ 64 < (q : Int) ∨ 256 < l.length) by omega), Int.toNat_natCast]
  have HX := Lib.hid hx'
  have HQ := Lib.hid hq
  have HL := Lib.hid hlen
  have htop := h.top
  have hcap := h.cap
  unfold maxLen at htop
  have HR := Lib.hid h
  clear hx hx' hq hlen h h0 h2
  go_enter Tryz.func5, Tryz.ntmps5
  go_wp2_with fail
  clear h0' h1 h2'
  go_loopw [21] (fun v21 wr => AllRel (mayB q) l w v21 wr) (fun v21 _ => n - (intOf v21).toNat)
  case atStart => exact ⟨0, rfl, by omega, rfl, Below.refl _ _⟩
  case round =>
    obtain ⟨i, rfl, hi, hall, hb⟩ := hrel
    by_cases hlt : i < n
    · have hi' : i < l.length := by rw [HL.out]; exact hlt
      have hr := (HR.out.at_size (Nat.le_refl _) hb)
      obtain ⟨b, o, rfl, hbb, e0, e1, e2, e3⟩ := bd_at hr hi'
      obtain ⟨r1, hr1⟩ : ∃ r, mayV q l[i].av l[i].an = r := ⟨_, rfl⟩
      obtain ⟨r2, hr2⟩ : ∃ r, mayV q l[i].bv l[i].bn = r := ⟨_, rfl⟩
      have HST : Hid ((l.take (i + 1)).all (mayB q) = (r1 && r2)) := Lib.hid (by rw [all_step hi' hall, mayB, hr1, hr2])
      have HNO : Hid ((r1 && r2) = false → l.all (mayB q) = false) := Lib.hid fun e => all_off hi' (by rw [mayB, hr1, hr2]; exact e)
      generalize l[i] = y at *
      obtain ⟨av, an, bv, bn⟩ := y
      simp only at e0 e1 e2 e3 hr1 hr2
      have hal : Below wr.heap.size wr (wr.alloc (.cells #[.bool av, .int .u64 (an : Int), .bool bv, .int .u64 (bn : Int)] 55)) := (Below.refl _ _).alloc (Nat.le_refl _) _
      have hb1 := hb.trans (hal.mono hb.size)
      have hm1 := may_any av an q (wr.alloc (.cells #[.bool av, .int .u64 (an : Int), .bool bv, .int .u64 (bn : Int)] 55)) HQ.out
      have HM2 : Hid (∀ W, Calls Tryz.prog 12 #[tmv bv bn, .int .i64 (q : Int)] W fun e w' => e = .returned (.bool r2) ∧ Below W.heap.size W w') :=
        Lib.hid fun W => hr2 ▸ may_any bv bn q W HQ.out
      rw [hr1] at hm1
      have HM1 := Lib.hid hm1
      have HB1 := Lib.hid hb1
      have hcx := fun (j : Nat) (hj : j < 4) => cell_blk (i := j) (heap_alloc_new wr (.cells #[.bool av, .int .u64 (an : Int), .bool bv, .int .u64 (bn : Int)] 55))
      have HLT := Lib.hid hlt
      clear hall hr hr1 hr2 hbb hal hb1 hm1 hi'
      unfold tmv at HM1 HM2
      go_wp2_with fail
      refine HM1.out.mono ?_
      rintro e w2 ⟨rfl, hb2⟩
      have g2 := (hb2.cell (p := ⟨wr.heap.size, 2, none⟩) (show wr.heap.size < (wr.alloc _).heap.size by simp)).trans (hcx 2 (by decide))
      have g3 := (hb2.cell (p := ⟨wr.heap.size, 3, none⟩) (show wr.heap.size < (wr.alloc _).heap.size by simp)).trans (hcx 3 (by decide))
      replace g2 : _ = some (Value.bool bv) := g2
      replace g3 : _ = some (Value.int .u64 (bn : Int)) := g3
      have HB2 := Lib.hid (HB1.out.trans (hb2.mono HB1.out.size))
      clear hb2 hcx e0 e1 e2 e3 HM1
      cases r1 with
      | false =>
        obtain rfl : (1 : Int) = x := by rw [← HX.out, HNO.out rfl]; rfl
        clear HNO HST HX
        go_wp2_with fail
        go_ret2
        exact .inl ⟨by decide, rfl, HB2.out⟩
      | true =>
        have hm2 := HM2.out w2
        go_wp2_with fail
        refine hm2.mono ?_
        rintro e w3 ⟨rfl, hb3⟩
        have HB3 := Lib.hid (HB2.out.trans (hb3.mono HB2.out.size))
        clear hb3 hm2 g2 g3
        cases r2 with
        | false =>
          obtain rfl : (1 : Int) = x := by rw [← HX.out, HNO.out rfl]; rfl
          clear HNO HST HX
          go_wp2_with fail
          go_ret2
          exact .inl ⟨by decide, rfl, HB3.out⟩
        | true =>
          clear HNO
          go_wp2_with fail
          go_roundw
          case rel => exact ⟨i + 1, by go_num, by have := HLT.out; have := HL.out; omega, HST.out, HB3.out⟩
          case measure =>
            have := HLT.out
            simp [intOf]
            omega
    · obtain rfl : i = n := by have := HL.out; omega
      rw [List.take_of_length_le (by rw [HL.out]; omega)] at hall
      have HE : Hid ((0 : Int) = x) := Lib.hid (by rw [← HX.out, hall]; rfl)
      have HM : Hid (∀ b ∈ l, mayB q b = true) := Lib.hid (List.all_eq_true.1 hall)
      clear hall HX
      go_wp2_with fail
      refine (direct_any q A i c l wr (HR.out.at_size (Nat.le_refl _) hb) HQ.out HM.out).mono ?_
      rintro e w2 ⟨rfl, hb2⟩
      have HB2 := Lib.hid (hb.trans (hb2.mono hb.size))
      clear hb2
      have HD1 := Lib.hid (dir_len HQ.out HM.out)
      have HD2 : Hid (La.Fit (dirN q l)) := Lib.hid (dir_lt HQ.out HM.out)
      unfold tv
      go_wp2_with fail
      refine (through_any q (dirN q l) w2 HQ.out HD1.out HD2.out).mono ?_
      rintro e w3 ⟨rfl, hb3⟩
      have HB3 := Lib.hid (HB2.out.trans (hb3.mono HB2.out.size))
      clear hb3
      unfold tv
      go_wp2_with fail
      refine (lists_any q (thrN q (dirN q l) q) w3 HQ.out (thr_len HD1.out q) (thr_fit HD2.out q)).mono ?_
      rintro e w4 ⟨g, gs, rfl, hS, hb4⟩
      have HS := Lib.hid hS
      have HB4 := Lib.hid (HB3.out.trans (hb4.mono HB3.out.size))
      have HSZ := Lib.hid HB3.out.size
      clear hS hb4
      go_wp2_with fail
      go_ret2
      refine .inr ⟨HE.out.symm, q, g, gs, rfl, rfl, ⟨HS.out.blk, HS.out.rows, Nat.le_trans HSZ.out HS.out.gbase, fun i hi => Nat.le_trans HSZ.out (HS.out.bases i hi), HS.out.apart⟩, HB4.out⟩
end Go.Proofs.YtomokkpfkhfemaaGreatDoor
