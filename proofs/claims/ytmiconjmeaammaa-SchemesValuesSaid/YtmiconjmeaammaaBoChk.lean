/- What Check and Hold tell. No condition but sizes. -/
import Derived.Test.YtmiconjmeaammaaBoBd
namespace Go.Proofs.Ytmiconjmeaammaa.Bo
open Go.RowKit

def mayB (S : Sr) (k : Nat) (b : Bd) : Bool := mayT S k b.av b.an && mayT S k b.bv b.bn
def chkS (S : Sr) (k : Int) (l : List Bd) : Int := if k < 0 ∨ 64 < k ∨ 256 < l.length then 3 else if l.all (mayB S k.toNat) then 0 else 1


theorem all_step {α : Type} {p : α → Bool} {l : List α} {i : Nat} (hi : i < l.length) (h : (l.take i).all p = true) : (l.take (i + 1)).all p = p l[i] := by
  rw [List.take_succ_eq_append_getElem hi, List.all_append, h]
  simp
theorem all_off {α : Type} {p : α → Bool} {l : List α} {i : Nat} (hi : i < l.length) (h : p l[i] = false) : l.all p = false := by
  refine Bool.eq_false_iff.2 fun e => ?_
  have := List.all_eq_true.1 e _ (List.getElem_mem hi)
  rw [h] at this
  cases this

/-- The first i have p. -/
def AllRel (p : Bd → Bool) (l : List Bd) (w : World) (v : Value) (wr : World) : Prop := ∃ i : Nat, v = .int .i64 (i : Int) ∧ i ≤ l.length ∧ (l.take i).all p = true ∧ Below w.heap.size w wr

set_option maxRecDepth 100000 in
set_option maxHeartbeats 2000000 in
theorem check_any (v : Value) (k : Int) (A : Option Addr) (n c : Nat) (l : List Bd) (S : Sr) (w : World) (x : Int) (hs : SrtIn w v S) (h : Rs bdc 4 w w.heap.size A n c l) (hf : ∀ b ∈ l, b.Fit) (hx : chkS S k l = x) :
    Calls Try.prog 18 #[v, .int .i64 k, .slice A n c] w fun e w' => e = .returned (.int .i64 x) ∧ Below w.heap.size w w' := by
  have hlen := h.len
  by_cases h0 : k < 0
  · obtain rfl : (3 : Int) = x := by rw [← hx, chkS, if_pos (.inl h0)]
    clear hx hs h hf
    go_enter Try.func18, Try.ntmps18
    go_wp2
    go_ret
    exact ⟨rfl, Below.refl _ _⟩
  by_cases h1 : 64 < k
  · obtain rfl : (3 : Int) = x := by rw [← hx, chkS, if_pos (.inr (.inl h1))]
    clear hx hs h hf
    go_enter Try.func18, Try.ntmps18
    go_wp2
    go_ret
    exact ⟨rfl, Below.refl _ _⟩
  by_cases h2 : 256 < n
  · obtain rfl : (3 : Int) = x := by rw [← hx, chkS, if_pos (.inr (.inr (by rw [hlen]; exact h2)))]
    have h2' : (256 : Int) < (n : Int) := by omega
    clear hx hs h hf h2
    go_enter Try.func18, Try.ntmps18
    go_wp2
    go_ret
    exact ⟨rfl, Below.refl _ _⟩
  obtain ⟨q, rfl⟩ : ∃ q : Nat, k = (q : Int) := ⟨k.toNat, by omega⟩
  have hq : q ≤ 64 := by omega
  have h0' : ¬ (q : Int) < 0 := by omega
  have h2' : ¬ (256 : Int) < (n : Int) := by omega
  have hx' : (if l.all (mayB S q) then (0 : Int) else 1) = x := by rw [← hx, chkS, if_neg (show ¬ ((q : Int) < 0 ∨ 64 < (q : Int) ∨ 256 < l.length) by omega), Int.toNat_natCast]
  have HX := Lib.hid hx'
  have HF := Lib.hid hf
  have HQ := Lib.hid hq
  have HL := Lib.hid hlen
  have htop := h.top
  have hcap := h.cap
  unfold maxLen at htop
  have HR := Lib.hid h
  have hcall := some_any v S w hs
  clear hx hx' hf hq hlen h hs h0 h2
  go_enter Try.func18, Try.ntmps18
  go_wp2_with fail
  refine hcall.mono ?_
  rintro e w1 ⟨v', rfl, hs, rfl⟩
  have HS := Lib.hid hs
  clear hs hcall
  go_wp2_with fail
  clear h0' h1 h2'
  go_loopw [24] (fun v24 wr => AllRel (mayB S q) l w v24 wr) (fun v24 _ => n - (intOf v24).toNat)
  case atStart => exact ⟨0, rfl, by omega, rfl, Below.refl _ _⟩
  case round =>
    obtain ⟨i, rfl, hi, hall, hb⟩ := hrel
    by_cases hlt : i < n
    · have hi' : i < l.length := by rw [HL.out]; exact hlt
      have hr := (HR.out.at_size (Nat.le_refl _) hb)
      obtain ⟨b, o, rfl, hbb, e0, e1, e2, e3⟩ := bd_at hr hi'
      have hu := HF.out _ (List.getElem_mem hi')
      obtain ⟨r1, hr1⟩ : ∃ r, mayT S q l[i].av l[i].an = r := ⟨_, rfl⟩
      obtain ⟨r2, hr2⟩ : ∃ r, mayT S q l[i].bv l[i].bn = r := ⟨_, rfl⟩
      have HST : Hid ((l.take (i + 1)).all (mayB S q) = (r1 && r2)) := Lib.hid (by rw [all_step hi' hall, mayB, hr1, hr2])
      have HNO : Hid ((r1 && r2) = false → l.all (mayB S q) = false) := Lib.hid fun e => all_off hi' (by rw [mayB, hr1, hr2]; exact e)
      generalize l[i] = y at *
      obtain ⟨av, an, bv, bn⟩ := y
      simp only at e0 e1 e2 e3 hu hr1 hr2
      have hal : Below wr.heap.size wr (wr.alloc (.cells #[.bool av, .int .u64 (an : Int), .bool bv, .int .u64 (bn : Int)] 59)) := (Below.refl _ _).alloc (Nat.le_refl _) _
      have hb1 := hb.trans (hal.mono hb.size)
      have hm1 := may_any av an q v' S _ (HS.out.keep hb1) hu.1 HQ.out
      have HM2 : Hid (∀ W, Below w.heap.size w W → Calls Try.prog 37 #[tmv bv bn, v', .int .i64 (q : Int)] W fun e w' => e = .returned (.bool r2) ∧ Below W.heap.size W w') :=
        Lib.hid fun W hW => hr2 ▸ may_any bv bn q v' S W (HS.out.keep hW) hu.2 HQ.out
      rw [hr1] at hm1
      have HM1 := Lib.hid hm1
      have HB1 := Lib.hid hb1
      have hcx := fun (j : Nat) (hj : j < 4) => cell_blk (i := j) (heap_alloc_new wr (.cells #[.bool av, .int .u64 (an : Int), .bool bv, .int .u64 (bn : Int)] 59))
      have HLT := Lib.hid hlt
      clear hall hr hu hr1 hr2 hbb hal hb1 hm1 hi'
      unfold tmv at HM1 HM2
      go_wp2_with fail
      refine HM1.out.mono ?_
      rintro e w2 ⟨rfl, hb2⟩
      have g2 := (hb2.cell (p := ⟨wr.heap.size, 2, none⟩) (show wr.heap.size < (wr.alloc _).heap.size by simp)).trans (hcx 2 (by decide))
      have g3 := (hb2.cell (p := ⟨wr.heap.size, 3, none⟩) (show wr.heap.size < (wr.alloc _).heap.size by simp)).trans (hcx 3 (by decide))
      replace g2 : _ = some (Value.bool bv) := g2
      replace g3 : _ = some (Value.int .u64 (bn : Int)) := g3
      have HB2 := Lib.hid (HB1.out.trans (hb2.mono HB1.out.size))
      clear hb2 hcx e0 e1 e2 e3 HM1
      cases r1 with
      | false =>
        have HN := Lib.hid (HNO.out rfl)
        clear HNO HST
        go_wp2_with fail
        go_ret
        refine ⟨?_, HB2.out⟩
        rw [← HX.out, HN.out]
        rfl
      | true =>
        have hm2 := HM2.out _ HB2.out
        go_wp2_with fail
        refine hm2.mono ?_
        rintro e w3 ⟨rfl, hb3⟩
        have HB3 := Lib.hid (HB2.out.trans (hb3.mono HB2.out.size))
        clear hb3 hm2 g2 g3
        cases r2 with
        | false =>
          have HN := Lib.hid (HNO.out rfl)
          clear HNO HST
          go_wp2_with fail
          go_ret
          refine ⟨?_, HB3.out⟩
          rw [← HX.out, HN.out]
          rfl
        | true =>
          clear HNO
          go_wp2_with fail
          go_roundw
          case rel => exact ⟨i + 1, by go_num, by have := HLT.out; have := HL.out; omega, HST.out, HB3.out⟩
          case measure =>
            have := HLT.out
            simp [intOf]
            omega
    · obtain rfl : i = n := by have := HL.out; omega
      have HE : Hid ((0 : Int) = x) := Lib.hid (by
        rw [List.take_of_length_le (by rw [HL.out]; omega)] at hall
        rw [← HX.out, hall]
        rfl)
      clear hall
      go_wp2
      go_ret
      exact ⟨by rw [← HE.out]; rfl, hb⟩

end Go.Proofs.Ytmiconjmeaammaa.Bo
