/- What hasLeast, joined, Check and Below tell. No condition but sizes. -/
import Derived.Test.YtomokkpfkhfemaaLaCheck
namespace Go.Proofs.Ytomokkpfkhfemaa.La
open Go.RowKit

theorem least_at {l : List Nat} {t k : Nat} (hf : Fit l) (ht : t < 18446744073709551616) (hk : k < l.length) : leastOf l t k = (t.testBit k && (t &&& (18446744073709551615 - l[k]) == 0)) := by
  rw [leastOf, getD_at hk]
  have := andnot_eq (t := t) (r := l[k]) ht (hf.get k hk)
  rw [← this]

def HlRel (l : List Nat) (t : Nat) (w : World) (v8 : Value) (wr : World) : Prop := ∃ k : Nat, v8 = .int .i64 (k : Int) ∧ k ≤ l.length ∧ hasLeastK l t k = false ∧ wr = w

set_option maxRecDepth 100000 in
set_option maxHeartbeats 400000 in
theorem hasLeast_any (A : Option Addr) (n c B : Nat) (l : List Nat) (t : Nat) (w : World) (h : Rd nm w B A n c l) (hf : Fit l) (ht : t < 18446744073709551616) :
    Calls Try.prog 33 #[.slice A n c, .int .u64 (t : Int)] w fun e w' => e = .returned (.bool (hasLeastK l t n)) ∧ w = w' := by
  have HL := Lib.hid h.len
  have hcap := h.cap
  have htop := h.top
  unfold maxLen at htop
  go_enter Try.func33, Try.ntmps33
  go_wp2
  go_loopw [8] (fun v8 wr => HlRel l t w v8 wr) (fun v8 _ => n - (intOf v8).toNat)
  case atStart => exact ⟨0, rfl, by omega, rfl, rfl⟩
  case round =>
    obtain ⟨k, rfl, hk, hkn, rfl⟩ := hrel
    have HK := Lib.hid hkn
    clear hkn
    by_cases hlt : k < n
    · obtain ⟨b, o, rfl, _, hc⟩ := h.spot (by omega)
      have hk' : k < l.length := by rw [HL.out]; exact hlt
      have hcell : wr.cell? ⟨b, o + k, none⟩ = some (.int .u64 (l[k] : Int)) := hc k hk'
      have hx := hf.get k hk'
      have hs := hasLeastK_succ l t k
      have hl := least_at hf ht hk'
      rw [HK.out, Bool.false_or, hl] at hs
      have htrue : (t.testBit k && (t &&& (18446744073709551615 - l[k]) == 0)) = true → hasLeastK l t n = true := fun e => any_true hlt (hl.trans e)
      have han := u64_andNot_nat t l[k] ht hx
      have hcall := has_any t k wr ht
      generalize t &&& (18446744073709551615 - l[k]) = q at *
      generalize l[k] = x at *
      have HS := Lib.hid hs
      have HF := Lib.hid htrue
      clear hc hs htrue hl
      cases hb : t.testBit k with
      | true =>
        rw [hb] at hcall HS HF
        clear hb
        by_cases hq0 : q = 0
        · subst hq0
          go_wp2_with (go_at_call 30; refine hcall.mono ?_; rintro e w' ⟨rfl, rfl⟩)
          go_ret
          exact ⟨by rw [HF.out rfl]; rfl, rfl⟩
        · have hne : ((q : Int) == 0) = false := by simpa using hq0
          go_wp2_with (go_at_call 30; refine hcall.mono ?_; rintro e w' ⟨rfl, rfl⟩)
          go_roundw
          case rel => exact ⟨k + 1, by go_num, by omega, by rw [HS.out]; simpa using hq0, rfl⟩
          case measure => simp [intOf]; omega
      | false =>
        rw [hb] at hcall HS HF
        clear hb
        go_wp2_with (go_at_call 30; refine hcall.mono ?_; rintro e w' ⟨rfl, rfl⟩)
        go_roundw
        case rel => exact ⟨k + 1, by go_num, by omega, by rw [HS.out]; rfl, rfl⟩
        case measure => simp [intOf]; omega
    · obtain rfl : k = n := by have := HL.out; omega
      go_wp2
      go_ret
      exact ⟨by rw [HK.out]; rfl, rfl⟩

def JoRel (l : List Nat) (w : World) (v9 : Value) (wr : World) : Prop := ∃ i : Nat, v9 = .int .i64 (i : Int) ∧ i ≤ l.length ∧ joinedK l i = true ∧ wr = w
def JoIn (l : List Nat) (w : World) (i : Nat) (v18 : Value) (wr : World) : Prop := ∃ j : Nat, v18 = .int .i64 (j : Int) ∧ j ≤ i ∧ joinRow l i j = true ∧ wr = w

theorem nm_size (w : World) : (Go.sizeOf 29).run Try.prog w = .ok 1 w := by kernel_rfl

set_option maxRecDepth 100000 in
set_option maxHeartbeats 400000 in
theorem joined_any (A : Option Addr) (n c B : Nat) (l : List Nat) (w : World) (h : Rd nm w B A n c l) (hf : Fit l) :
    Calls Try.prog 28 #[.slice A n c] w fun e w' => e = .returned (.bool (joinedK l n)) ∧ w = w' := by
  have HL := Lib.hid h.len
  have hcap := h.cap
  have htop := h.top
  unfold maxLen at htop
  go_enter Try.func28, Try.ntmps28
  go_wp2
  go_loopw [9] (fun v9 wr => JoRel l w v9 wr) (fun v9 _ => n - (intOf v9).toNat)
  case atStart => exact ⟨0, rfl, by omega, rfl, rfl⟩
  case round =>
    obtain ⟨i, rfl, hi, hjn, rfl⟩ := hrel
    have HJ := Lib.hid hjn
    clear hjn
    by_cases hlt : i < n
    · have hi' : i < l.length := by rw [HL.out]; exact hlt
      obtain ⟨A', n', c', hsl, hcut⟩ := rd_slice_h 37 29 Try.underlying37 nm_size h (i : Int) (by omega) (by omega)
      rw [Int.toNat_natCast] at hcut
      obtain rfl : n' = i := by rw [← hcut.len, List.length_take]; omega
      have hx := hf.get n' hi'
      have hhl := fun t w => hasLeast_any A n c B l t w
      have HJS := Lib.hid (joinedK_succ l n')
      have hrow : joinRow l n' n' = false → joinedK l n = false := fun e => all_false hlt e
      have HROW := Lib.hid hrow
      clear hrow
      have HALL : Hid (∀ j, j < n' → hasLeastK l (l.getD n' 0 &&& l.getD j 0) l.length = false → joinRow l n' n' = false) := Lib.hid fun j hj e => all_false hj e
      have HGX := Lib.hid (getD_at hi')
      have hcell : ∃ b o, A = some ⟨b, o, none⟩ ∧ wr.cell? ⟨b, o + n', none⟩ = some (.int .u64 (l[n'] : Int)) := by
        obtain ⟨b, o, rfl, _, hc⟩ := h.spot (by omega)
        exact ⟨b, o, rfl, hc n' hi'⟩
      obtain ⟨b, o, rfl, hcx⟩ := hcell
      generalize l[n'] = x at *
      have HH := Lib.hid h
      have hcc := hcut.cap
      have htt := hcut.top
      unfold maxLen at htt
      obtain ⟨wo, rfl⟩ : ∃ wo : World, wo = wr := ⟨_, rfl⟩
      go_wp2
      go_loopw [18] (fun v18 wr => JoIn l wo n' v18 wr) (fun v18 _ => n' - (intOf v18).toNat)
      case atStart => exact ⟨0, rfl, by omega, rfl, rfl⟩
      case round =>
        obtain ⟨j, rfl, hj, hjr, rfl⟩ := hrel
        have HR := Lib.hid hjr
        clear hjr hcx hsl
        by_cases hlt2 : j < n'
        · obtain ⟨b2, o2, rfl, _, hc2⟩ := hcut.spot (by omega)
          have hj' : j < l.length := by omega
          have hcy : wr.cell? ⟨b2, o2 + j, none⟩ = some (.int .u64 (l[j] : Int)) := by
            have := hc2 j (by rw [List.length_take]; omega)
            rw [List.getElem_take] at this
            exact this
          have hy := hf.get j hj'
          have HGY := Lib.hid (getD_at hj')
          have HRS := Lib.hid (joinRow_succ l n' j)
          have hand := u64_and_nat x l[j] hx hy
          have hzlt : x &&& l[j] < 18446744073709551616 := Nat.lt_of_le_of_lt Nat.and_le_left hx
          generalize l[j] = y at *
          have hcall := hhl (x &&& y) wr HH.out hf hzlt
          have HZ : Hid (hasLeastK l (l.getD n' 0 &&& l.getD j 0) l.length = hasLeastK l (x &&& y) n) := by
            refine Lib.hid ?_
            rw [HGX.out, HGY.out, HL.out]
          generalize x &&& y = z at *
          clear hc2
          cases hb : hasLeastK l z n with
          | true =>
            have HB := Lib.hid hb
            rw [hb] at hcall
            clear hb
            go_wp2_with (go_at_call 33; refine hcall.mono ?_; rintro e w' ⟨rfl, rfl⟩)
            go_roundw
            case rel => exact ⟨j + 1, by go_num, by omega, by rw [HRS.out, HR.out, HZ.out, HB.out]; rfl, rfl⟩
            case measure => simp [intOf]; omega
          | false =>
            have HB := Lib.hid hb
            rw [hb] at hcall
            clear hb
            go_wp2_with (go_at_call 33; refine hcall.mono ?_; rintro e w' ⟨rfl, rfl⟩)
            go_ret
            exact ⟨by rw [HROW.out (HALL.out j hlt2 (HZ.out.trans HB.out))]; rfl, rfl⟩
        · obtain rfl : j = n' := by omega
          go_wp2
          go_roundw
          case rel => exact ⟨j + 1, by go_num, by have := HL.out; omega, by rw [HJS.out, HJ.out, HR.out]; rfl, rfl⟩
          case measure => simp [intOf]; omega
    · obtain rfl : i = n := by have := HL.out; omega
      go_wp2
      go_ret
      exact ⟨by rw [HJ.out]; rfl, rfl⟩

set_option maxRecDepth 100000 in
set_option maxHeartbeats 400000 in
theorem check_any (A : Option Addr) (n c : Nat) (l : List Nat) (w : World) (h : Rd nm w w.heap.size A n c l) (hf : Fit l) :
    Calls Try.prog 20 #[.slice A n c] w fun e w' => e = .returned (.int .i64 (checkN l)) ∧ Below w.heap.size w w' := by
  have HL := Lib.hid h.len
  have hkn := known_any A n c w.heap.size l w h hf
  cases hk : knownN l with
  | false =>
    have HE : Hid (checkN l = 1) := Lib.hid (by simp [checkN, hk])
    rw [hk] at hkn
    go_enter Try.func20, Try.ntmps20
    go_wp2_with fail
    refine hkn.mono ?_
    rintro e w1 ⟨rfl, rfl⟩
    go_wp2_with fail
    go_ret
    exact ⟨by rw [HE.out]; rfl, Below.refl _ _⟩
  | true =>
    have hn := ((knownN_iff l).1 hk).1
    rw [HL.out] at hn
    rw [hk] at hkn
    cases ho : orderedK l n with
    | false =>
      have HE : Hid (checkN l = 9) := Lib.hid (by simp [checkN, hk, HL.out, ho])
      have HO := Lib.hid ho
      clear ho hk
      go_enter Try.func20, Try.ntmps20
      go_wp2_with fail
      refine hkn.mono ?_
      rintro e w1 ⟨rfl, rfl⟩
      go_wp2_with fail
      refine (ordered_any A n c l w h hf (by omega)).mono ?_
      rintro e w2 ⟨he, hb2⟩
      rw [HO.out] at he
      subst he
      go_wp2_with fail
      go_ret
      exact ⟨by rw [HE.out]; rfl, hb2⟩
    | true =>
      have HO := Lib.hid ho
      cases hj : joinedK l n with
      | false =>
        have HE : Hid (checkN l = 7) := Lib.hid (by simp [checkN, hk, HL.out, ho, hj])
        have HJ := Lib.hid hj
        clear ho hk hj
        go_enter Try.func20, Try.ntmps20
        go_wp2_with fail
        refine hkn.mono ?_
        rintro e w1 ⟨rfl, rfl⟩
        go_wp2_with fail
        refine (ordered_any A n c l w h hf (by omega)).mono ?_
        rintro e w2 ⟨he, hb2⟩
        rw [HO.out] at he
        subst he
        go_wp2_with fail
        refine (joined_any A n c w.heap.size l w2 (h.below hb2) hf).mono ?_
        rintro e w3 ⟨he, rfl⟩
        rw [HJ.out] at he
        subst he
        go_wp2_with fail
        go_ret
        exact ⟨by rw [HE.out]; rfl, hb2⟩
      | true =>
        have HJ := Lib.hid hj
        have HE : Hid (checkN l = if joinedK (turnedN l) n = true then 0 else 7) := Lib.hid (by simp [checkN, hk, HL.out, ho, hj])
        have htl := turnedN_len l
        rw [HL.out] at htl
        have HTL := Lib.hid htl
        clear ho hk hj htl
        go_enter Try.func20, Try.ntmps20
        go_wp2_with fail
        refine hkn.mono ?_
        rintro e w1 ⟨rfl, rfl⟩
        go_wp2_with fail
        refine (ordered_any A n c l w h hf (by omega)).mono ?_
        rintro e w2 ⟨he, hb2⟩
        rw [HO.out] at he
        subst he
        have h2 := h.at_size (Nat.le_refl _) hb2
        go_wp2_with fail
        refine (joined_any A n c w.heap.size l w2 (h.below hb2) hf).mono ?_
        rintro e w3 ⟨he, rfl⟩
        rw [HJ.out] at he
        subst he
        go_wp2_with fail
        refine (turned_any A n c l w2 h2 hf (by omega)).mono ?_
        rintro e w4 ⟨rfl, hblk, hb4⟩
        have hb24 := hb2.trans (hb4.mono hb2.size)
        have hr4 := rd_blk hblk HTL.out (by omega)
        clear hblk
        go_wp2_with fail
        refine (joined_any _ n n _ (turnedN l) w4 hr4 (turned_fit (by have := HL.out; omega))).mono ?_
        rintro e w5 ⟨he, rfl⟩
        cases hq : joinedK (turnedN l) n with
        | true =>
          rw [hq] at he HE
          subst he
          clear hq
          go_wp2_with fail
          go_ret
          exact ⟨by rw [HE.out]; rfl, hb24⟩
        | false =>
          rw [hq] at he HE
          subst he
          clear hq
          go_wp2_with fail
          go_ret
          exact ⟨by rw [HE.out]; rfl, hb24⟩
end Go.Proofs.Ytomokkpfkhfemaa.La
