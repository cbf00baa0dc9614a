/- What Hold tells. No condition but sizes. -/
import Derived.Test.YtomokkpfkhfemaaBd
namespace Go.Proofs.Ytomokkpfkhfemaa
open Go.RowKit

def okB (S : Sr) (u : List Nat) (b : Bd) : Bool := okT u b.av b.an && okT u b.bv b.bn && S.below (vl u b.av b.an) (vl u b.bv b.bn)
def holdS (S : Sr) (u : List Nat) (l : List Bd) : Bool := l.all (okB S u)

theorem vl_fit {u : List Nat} (hu : La.Fit u) {v : Bool} {n : Nat} (hn : n < 18446744073709551616) : vl u v n < 18446744073709551616 := by
  cases v with
  | false => exact hn
  | true =>
    show u.getD n 0 < _
    by_cases h : n < u.length
    · rw [List.getD_eq_getElem?_getD, List.getElem?_eq_getElem h]
      exact hu.get n h
    · rw [List.getD_eq_getElem?_getD, List.getElem?_eq_none (Nat.le_of_not_lt h)]
      exact Nat.zero_lt_succ _

theorem all_step {α : Type} {p : α → Bool} {l : List α} {i : Nat} (hi : i < l.length) (h : (l.take i).all p = true) : (l.take (i + 1)).all p = p l[i] := by
  rw [List.take_succ_eq_append_getElem hi, List.all_append, h]
  simp
theorem all_off {α : Type} {p : α → Bool} {l : List α} {i : Nat} (hi : i < l.length) (h : p l[i] = false) : l.all p = false := by
  refine Bool.eq_false_iff.2 fun e => ?_
  have := List.all_eq_true.1 e _ (List.getElem_mem hi)
  rw [h] at this
  cases this

/-- The first i have p. -/
def AllRel (p : Bd → Bool) (l : List Bd) (w : World) (v : Value) (wr : World) : Prop := ∃ i : Nat, v = .int .i64 (i : Int) ∧ i ≤ l.length ∧ (l.take i).all p = true ∧ Below w.heap.size w wr


set_option maxRecDepth 100000 in
set_option maxHeartbeats 4000000 in
theorem hold_any (v : Value) (A2 : Option Addr) (m c2 : Nat) (u : List Nat) (A : Option Addr) (n c : Nat) (l : List Bd) (S : Sr) (w : World) (x : Bool) (hs : Srt w v S) (hr2 : Rd La.nm w w.heap.size A2 m c2 u) (hfu : La.Fit u) (h : Rs bdc 4 w w.heap.size A n c l) (hf : ∀ b ∈ l, b.Fit) (hx : holdS S u l = x) :
    Calls Try.prog 12 #[v, .slice A2 m c2, .slice A n c] w fun e w' => e = .returned (.bool x) ∧ Below w.heap.size w w' := by
  have hlen := h.len
  have HX := Lib.hid hx
  have HF := Lib.hid hf
  have HL := Lib.hid hlen
  have htop := h.top
  have hcap := h.cap
  unfold maxLen at htop
  have HR := Lib.hid h
  have HR2 := Lib.hid hr2
  have HFU := Lib.hid hfu
  have hcall := some_any v S w hs
  clear hx hf hlen h hs hr2 hfu
  go_enter Try.func12, Try.ntmps12
  go_wp2_with fail
  refine hcall.mono ?_
  rintro e w1 ⟨v', rfl, hs, rfl⟩
  have HS := Lib.hid hs
  clear hcall
  obtain ⟨a, rfl, hA⟩ := hs
  all_goals (
    have HA := Lib.hid hA
    clear hA
    go_wp2_with fail
    go_loopw [17] (fun v17 wr => AllRel (okB S u) l w v17 wr) (fun v17 _ => n - (intOf v17).toNat)
    case atStart => exact ⟨0, rfl, by omega, rfl, Below.refl _ _⟩
    case round =>
      obtain ⟨i, rfl, hi, hall, hb⟩ := hrel
      by_cases hlt : i < n
      · have hi' : i < l.length := by rw [HL.out]; exact hlt
        have hr := (HR.out.at_size (Nat.le_refl _) hb)
        obtain ⟨b, o, rfl, hbb, e0, e1, e2, e3⟩ := bd_at hr hi'
        have hu := HF.out _ (List.getElem_mem hi')
        obtain ⟨x1, hx1⟩ : ∃ r, vl u l[i].av l[i].an = r := ⟨_, rfl⟩
        obtain ⟨x2, hx2⟩ : ∃ r, vl u l[i].bv l[i].bn = r := ⟨_, rfl⟩
        obtain ⟨y1, hy1⟩ : ∃ r, okT u l[i].av l[i].an = r := ⟨_, rfl⟩
        obtain ⟨y2, hy2⟩ : ∃ r, okT u l[i].bv l[i].bn = r := ⟨_, rfl⟩
        obtain ⟨z, hz⟩ : ∃ r, S.below x1 x2 = r := ⟨_, rfl⟩
        have HST : Hid ((l.take (i + 1)).all (okB S u) = (y1 && y2 && z)) := Lib.hid (by rw [all_step hi' hall, okB, hx1, hx2, hy1, hy2, hz])
        have HNO : Hid ((y1 && y2 && z) = false → holdS S u l = false) := Lib.hid fun e => all_off hi' (by rw [okB, hx1, hx2, hy1, hy2, hz]; exact e)
        generalize l[i] = y at *
        obtain ⟨av, an, bv, bn⟩ := y
        simp only at e0 e1 e2 e3 hu hx1 hx2 hy1 hy2
        have hx1f : x1 < 18446744073709551616 := hx1 ▸ vl_fit HFU.out hu.1
        have hx2f : x2 < 18446744073709551616 := hx2 ▸ vl_fit HFU.out hu.2
        have hal : Below wr.heap.size wr (wr.alloc (.cells #[.bool av, .int .u64 (an : Int), .bool bv, .int .u64 (bn : Int)] 33)) := (Below.refl _ _).alloc (Nat.le_refl _) _
        have hb1 := hb.trans (hal.mono hb.size)
        have HM : Hid (∀ W, Below w.heap.size w W → Calls Try.prog 23 #[tmv av an, .slice A2 m c2] W fun e w' => e = .returned (.tuple #[.int .u64 (x1 : Int), .bool y1]) ∧ Below W.heap.size W w') :=
          Lib.hid fun W hW => value_any av an A2 m c2 W.heap.size u W (HR2.out.at_size (Nat.le_refl _) hW) (Nat.le_refl _) hu.1 x1 y1 hx1 hy1
        have HM2 : Hid (∀ W, Below w.heap.size w W → Calls Try.prog 23 #[tmv bv bn, .slice A2 m c2] W fun e w' => e = .returned (.tuple #[.int .u64 (x2 : Int), .bool y2]) ∧ Below W.heap.size W w') :=
          Lib.hid fun W hW => value_any bv bn A2 m c2 W.heap.size u W (HR2.out.at_size (Nat.le_refl _) hW) (Nat.le_refl _) hu.2 x2 y2 hx2 hy2
        have HM3 := Lib.hid fun W hW => hz ▸ HA.out.below W hW x1 x2 hx1f hx2f
        have hm1 := HM.out _ hb1
        have HM1 := Lib.hid hm1
        have HB1 := Lib.hid hb1
        have hcx := fun (j : Nat) (hj : j < 4) => cell_blk (i := j) (heap_alloc_new wr (.cells #[.bool av, .int .u64 (an : Int), .bool bv, .int .u64 (bn : Int)] 33))
        have HLT := Lib.hid hlt
        clear hall hr hu hx1 hx2 hy1 hy2 hz hx1f hx2f hbb hal hb1 hm1 hi' HM
        unfold tmv at HM1 HM2
        go_wp2_with fail
        refine HM1.out.mono ?_
        rintro e w2 ⟨rfl, hb2⟩
        have g2 := (hb2.cell (p := ⟨wr.heap.size, 2, none⟩) (show wr.heap.size < (wr.alloc _).heap.size by simp)).trans (hcx 2 (by decide))
        have g3 := (hb2.cell (p := ⟨wr.heap.size, 3, none⟩) (show wr.heap.size < (wr.alloc _).heap.size by simp)).trans (hcx 3 (by decide))
        replace g2 : _ = some (Value.bool bv) := g2
        replace g3 : _ = some (Value.int .u64 (bn : Int)) := g3
        have HB2 := Lib.hid (HB1.out.trans (hb2.mono HB1.out.size))
        clear hb2 hcx e0 e1 e2 e3 HM1
        have hm2 := HM2.out _ HB2.out
        go_wp2_with fail
        refine hm2.mono ?_
        rintro e w3 ⟨rfl, hb3⟩
        have HB3 := Lib.hid (HB2.out.trans (hb3.mono HB2.out.size))
        clear hb3 hm2 g2 g3 HM2
        cases y1 with
        | false =>
          have HN := Lib.hid (HNO.out rfl)
          clear HNO HST
          go_wp2_with fail
          go_ret
          refine ⟨?_, HB3.out⟩
          rw [← HX.out, HN.out]
          rfl
        | true =>
          cases y2 with
          | false =>
            have HN := Lib.hid (HNO.out rfl)
            clear HNO HST
            go_wp2_with fail
            go_ret
            refine ⟨?_, HB3.out⟩
            rw [← HX.out, HN.out]
            rfl
          | true =>
            have hm3 := HM3.out _ HB3.out
            go_wp2_with fail
            refine hm3.mono ?_
            rintro e w4 ⟨rfl, hb4⟩
            have HB4 := Lib.hid (HB3.out.trans (hb4.mono HB3.out.size))
            clear hb4 hm3 HM3
            cases z with
            | false =>
              have HN := Lib.hid (HNO.out rfl)
              clear HNO HST
              go_wp2_with fail
              go_ret
              refine ⟨?_, HB4.out⟩
              rw [← HX.out, HN.out]
              rfl
            | true =>
              clear HNO
              go_wp2_with fail
              go_roundw
              case rel => exact ⟨i + 1, by go_num, by have := HLT.out; have := HL.out; omega, HST.out, HB4.out⟩
              case measure =>
                have := HLT.out
                simp [intOf]
                omega
      · obtain rfl : i = n := by have := HL.out; omega
        have HE : Hid (true = x) := Lib.hid (by
          rw [List.take_of_length_le (by rw [HL.out]; omega)] at hall
          rw [← HX.out, holdS, hall])
        clear hall
        go_wp2
        go_ret
        exact ⟨by rw [← HE.out]; rfl, hb⟩)
end Go.Proofs.Ytomokkpfkhfemaa
