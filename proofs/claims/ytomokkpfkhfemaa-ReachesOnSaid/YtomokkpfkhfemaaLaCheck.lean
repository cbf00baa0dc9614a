/- What known, ordered, hasLeast, joined and Check tell. No condition but sizes. -/
import Derived.Test.YtomokkpfkhfemaaLaTurned
import Derived.Deep.QuietTactic
import Derived.BigQuiet
namespace Go.Proofs.Ytomokkpfkhfemaa.La
open Go.RowKit

theorem all_false {p : Nat → Bool} {n i : Nat} (hi : i < n) (h : p i = false) : (List.range n).all p = false := by
  rw [List.all_eq_false]
  exact ⟨i, List.mem_range.2 hi, by simp [h]⟩
theorem any_true {p : Nat → Bool} {n i : Nat} (hi : i < n) (h : p i = true) : (List.range n).any p = true := by
  rw [List.any_eq_true]
  exact ⟨i, List.mem_range.2 hi, h⟩

theorem getD_at {l : List Nat} {k : Nat} (h : k < l.length) : l.getD k 0 = l[k] := by
  rw [List.getD_eq_getElem?_getD, List.getElem?_eq_getElem h]
  rfl

/-- A block of numbers, as a slice. -/
theorem rd_blk {w : World} {g n : Nat} {l : List Nat} (h : w.heap[g]? = some (.cells (cl l) 29 (0, 0))) (hl : l.length = n) (hn : n ≤ 1000000) : Rd nm w w.heap.size (some ⟨g, 0, none⟩) n n l :=
  ⟨hl, Nat.le_refl _, by unfold maxLen; omega, (fun h => by cases h), fun _ => ⟨g, 0, rfl, lt_blk h, fun j hj => by rw [Nat.zero_add, cell_blk h, cl_at hj]; rfl⟩⟩

def KnRel (l : List Nat) (w : World) (v11 : Value) (wr : World) : Prop := ∃ k : Nat, v11 = .int .i64 (k : Int) ∧ k ≤ l.length ∧ knownK l k = true ∧ wr = w

set_option maxRecDepth 100000 in
set_option maxHeartbeats 400000 in
theorem known_any (A : Option Addr) (n c B : Nat) (l : List Nat) (w : World) (h : Rd nm w B A n c l) (hf : Fit l) :
    Calls Try.prog 26 #[.slice A n c] w fun e w' => e = .returned (.bool (knownN l)) ∧ w = w' := by
  have HL := Lib.hid h.len
  have hcap := h.cap
  have htop := h.top
  unfold maxLen at htop
  have hlab := labels_any (n : Int) w
  by_cases h64 : 1 ≤ n ∧ n ≤ 64
  · rw [decide_eq_true (by omega)] at hlab
    have HN : Hid (knownN l = knownK l n) := by
      refine Lib.hid ?_
      rw [knownN, HL.out, decide_eq_true h64, Bool.true_and]
    go_enter Try.func26, Try.ntmps26
    go_wp2_with (go_at_call 31; refine hlab.mono ?_; rintro e w' ⟨rfl, rfl⟩)
    go_loopw [11] (fun v11 wr => KnRel l w v11 wr) (fun v11 _ => n - (intOf v11).toNat)
    case atStart => exact ⟨0, rfl, by omega, rfl, rfl⟩
    case round =>
      obtain ⟨k, rfl, hk, hkn, rfl⟩ := hrel
      have HK := Lib.hid hkn
      clear hkn
      by_cases hlt : k < n
      · obtain ⟨b, o, rfl, _, hc⟩ := h.spot (by omega)
        have hk' : k < l.length := by rw [HL.out]; exact hlt
        have hcell : wr.cell? ⟨b, o + k, none⟩ = some (.int .u64 (l[k] : Int)) := hc k hk'
        have hx := hf.get k hk'
        have hs := knownK_succ l k
        rw [HK.out, Bool.true_and, getD_at hk', HL.out] at hs
        have hq : (l[k] : Int) / 2 ^ n = ((l[k] / 2 ^ n : Nat) : Int) := shr_nat _ _
        have hfalse : (l[k] / 2 ^ n == 0) = false → knownK l n = false := fun e => all_false hlt (by rw [getD_at hk', HL.out]; exact e)
        generalize l[k] / 2 ^ n = q at *
        generalize l[k] = x at *
        have HS := Lib.hid hs
        have HF := Lib.hid hfalse
        clear hc hs hfalse
        by_cases hq0 : q = 0
        · subst hq0
          go_wp2
          go_roundw
          case rel => exact ⟨k + 1, by go_num, by omega, HS.out, rfl⟩
          case measure => simp [intOf]; omega
        · have hne : ((q : Int) != 0) = true := by simpa using hq0
          go_wp2
          go_ret
          exact ⟨by rw [HN.out, HF.out (by simpa using hq0)]; rfl, rfl⟩
      · obtain rfl : k = n := by have := HL.out; omega
        go_wp2
        go_ret
        exact ⟨by rw [HN.out, HK.out]; rfl, rfl⟩
  · rw [decide_eq_false (by omega)] at hlab
    have HN : Hid (knownN l = false) := by
      refine Lib.hid ?_
      rw [knownN, HL.out, decide_eq_false h64, Bool.false_and]
    go_enter Try.func26, Try.ntmps26
    go_wp2_with (go_at_call 31; refine hlab.mono ?_; rintro e w' ⟨rfl, rfl⟩)
    go_ret
    exact ⟨by rw [HN.out]; rfl, rfl⟩

theorem above_q (A : Option Addr) (n c B : Nat) (l : List Nat) (t y : Nat) (w : World) (h : Rd nm w B A n c l) (hf : Fit l) (ht : t < 18446744073709551616) (hy : aboveN l t n = y) :
    Calls Try.prog 32 #[.slice A n c, .int .u64 (t : Int)] w fun e w' => e = .returned (.int .u64 (y : Int)) ∧ w' = w :=
  hy ▸ (above_any A n c B l t w h hf ht).mono fun _ _ ⟨he, hw⟩ => ⟨he, hw.symm⟩

def OrRel (l : List Nat) (w : World) (v10 : Value) (wr : World) : Prop :=
  ∃ i : Nat, v10 = .int .i64 (i : Int) ∧ i ≤ l.length ∧ orderedK l i = true ∧ wr.heap[w.heap.size]? = some (.cells (cl (turnedN l)) 29 (0, 0)) ∧ Below w.heap.size w wr

theorem turned_fit {l : List Nat} (h : l.length ≤ 64) : Fit (turnedN l) := by
  intro y hy
  obtain ⟨x, _, rfl⟩ := List.mem_map.1 hy
  refine Nat.lt_of_lt_of_le (mk_lt _ _) ?_
  show _ ≤ 2 ^ 64
  exact Nat.pow_le_pow_right (by decide) h

set_option maxRecDepth 100000 in
set_option maxHeartbeats 400000 in
theorem ordered_any (A : Option Addr) (n c : Nat) (l : List Nat) (w : World) (h : Rd nm w w.heap.size A n c l) (hf : Fit l) (hn : n ≤ 64) :
    Calls Try.prog 27 #[.slice A n c] w fun e w' => e = .returned (.bool (orderedK l n)) ∧ Below w.heap.size w w' := by
  have HL := Lib.hid h.len
  have hcap := h.cap
  have htop := h.top
  unfold maxLen at htop
  go_enter Try.func27, Try.ntmps27
  go_wp2_with fail
  refine (turned_any A n c l w h hf hn).mono ?_
  rintro e w1 ⟨rfl, hblk1, hb1⟩
  have HB1 := Lib.hid hblk1
  clear hblk1
  go_wp2
  go_loopw [10] (fun v10 wr => OrRel l w v10 wr) (fun v10 _ => n - (intOf v10).toNat)
  case atStart => exact ⟨0, rfl, by omega, rfl, HB1.out, hb1⟩
  case round =>
    obtain ⟨i, rfl, hi, hord, hblk, hb⟩ := hrel
    have HO := Lib.hid hord
    clear hord
    by_cases hlt : i < n
    · have hr := h.below hb
      have hi' : i < l.length := by rw [HL.out]; exact hlt
      have hs := orderedK_succ l i
      have hlen : i < (turnedN l).length := by rw [turnedN_len]; exact hi'
      rw [HO.out, Bool.true_and, getD_at hi', getD_at hlen, HL.out] at hs
      have hx := hf.get i hi'
      have hy := (turned_fit (by have := HL.out; omega)).get i hlen
      have hfalse : ((l[i] &&& (turnedN l)[i] == 2 ^ i) && (aboveN l l[i] n == l[i])) = false → orderedK l n = false := fun e => all_false hlt (by rw [getD_at hi', getD_at hlen, HL.out]; exact e)
      have hcy := (cell_blk (i := i) hblk).trans (cl_at hlen)
      obtain ⟨b, o, rfl, hbb, hc⟩ := hr.spot (by omega)
      have hcx : wr.cell? ⟨b, o + i, none⟩ = some (.int .u64 (l[i] : Int)) := hc i hi'
      have hp := two_pow (k := i) (by omega)
      have hand := u64_and_nat l[i] (turnedN l)[i] hx hy
      have hab : ∀ w', (∀ k, k < w.heap.size → w'.heap[k]? = wr.heap[k]?) → Calls Try.prog 32 #[.slice (some ⟨b, o, none⟩) n c, .int .u64 (l[i] : Int)] w' fun e w2 => e = .returned (.int .u64 (aboveN l l[i] n : Int)) ∧ w2 = w' := fun w' hk => above_q _ n c w.heap.size l _ _ w' (hr.keep hk) hf hx rfl
      generalize l[i] &&& (turnedN l)[i] = z at *
      generalize (turnedN l)[i] = y at *
      generalize aboveN l l[i] n = u at *
      generalize l[i] = x at *
      generalize 2 ^ i = p at *
      have HS := Lib.hid hs
      have HF := Lib.hid hfalse
      have HBK := Lib.hid hblk
      have HA := Lib.hid hab
      clear hc hs hfalse hblk hr hab
      by_cases hz : z = p
      · subst hz
        have hne : ((z : Int) != (z : Int)) = false := by simp
        by_cases hu : u = x
        · subst hu
          have hne2 : ((u : Int) != (u : Int)) = false := by simp
          go_wp2
          go_quiet ((go_at_call 32; exact Calls.quiet_of_same (HA.out _ (fun _ _ => rfl))))
          go_wp2
          go_roundw
          case rel => exact ⟨i + 1, by go_num, by omega, by rw [HS.out]; simp, HBK.out, hb.trans (by first | exact below_drewN _ _ | exact below_drew _)⟩
          case measure => simp [intOf]; omega
        · have hne2 : ((u : Int) != (x : Int)) = true := by simp; omega
          go_wp2
          go_quiet ((go_at_call 32; exact Calls.quiet_of_same (HA.out _ (fun _ _ => rfl))))
          go_wp2
          go_ret
          exact ⟨by rw [HF.out (by simp [hu])]; rfl, hb.trans (by first | exact below_drewN _ _ | exact below_drew _)⟩
      · have hne : ((z : Int) != (p : Int)) = true := by simp; omega
        go_wp2
        go_quiet ((go_at_call 32; exact Calls.quiet_of_same (HA.out _ (fun _ _ => rfl))))
        go_wp2
        go_ret
        exact ⟨by rw [HF.out (by simp [hz])]; rfl, hb.trans (by first | exact below_drewN _ _ | exact below_drew _)⟩
    · obtain rfl : i = n := by have := HL.out; omega
      go_wp2
      go_ret
      exact ⟨by rw [HO.out]; rfl, hb⟩
end Go.Proofs.Ytomokkpfkhfemaa.La
