/- What the document's Join, Meet, Bottom and Top answer of rows of which Check tells no error. No condition but sizes. -/
import Derived.Test.YtnlgfiffhahpfaaGreatDoorLaLatMath
import Derived.Test.YtnlgfiffhahpfaaGreatDoorLaRefLeast
namespace Go.Proofs.YtnlgfiffhahpfaaGreatDoor.La
open Go.RowKit

section
variable {l : List Nat} (h : LatOK l)
include h

theorem below_bt {a b : Nat} (ha : a < l.length) (hb : b < l.length) : belowB l a b = bt l a b := belowB_bt h.known.1.2 ha hb

theorem found_join {a b v : Nat} (k : Found (belowB l) (upsL l a b) v) : v = nearN l l.length a b := by
  by_cases hab : a < l.length ∧ b < l.length
  · obtain ⟨ha, hb⟩ := hab
    have j := join_is h ha hb
    have mem : ∀ x, x ∈ upsL l a b ↔ x < l.length ∧ bt l a x = true ∧ bt l b x = true := fun x => by
      rw [upsL, pick_mem, Bool.and_eq_true]
      constructor
      · rintro ⟨h1, h2, h3⟩
        exact ⟨h1, by rw [← below_bt h ha h1]; exact h2, by rw [← below_bt h hb h1]; exact h3⟩
      · rintro ⟨h1, h2, h3⟩
        exact ⟨h1, by rw [below_bt h ha h1]; exact h2, by rw [below_bt h hb h1]; exact h3⟩
    rcases k with ⟨_, hm, hall⟩ | ⟨hno, _⟩
    · obtain ⟨h1, h2, h3⟩ := (mem v).1 hm
      exact (join_uniq h ha hb ⟨h1, h2, h3, fun d hd g1 g2 => by
        rw [← below_bt h h1 hd]
        exact hall d ((mem d).2 ⟨hd, g1, g2⟩)⟩).symm
    · have := (lsK_iff (belowB l) (upsL l a b)).2 ⟨_, (mem _).2 ⟨j.lt, j.fst, j.snd⟩, fun y hy => by
        obtain ⟨h1, h2, h3⟩ := (mem y).1 hy
        rw [below_bt h j.lt h1]
        exact j.least y h1 h2 h3⟩
      rw [hno] at this
      cases this
  · rw [nearN, if_neg hab]
    rcases k with ⟨_, hm, _⟩ | ⟨_, hv⟩
    · obtain ⟨_, h2⟩ := (pick_mem _ _ _).1 hm
      rw [Bool.and_eq_true] at h2
      exact absurd ⟨(belowB_lt h2.1).1, (belowB_lt h2.2).1⟩ hab
    · exact hv

theorem found_meet {a b v : Nat} (k : Found (fun x y => belowB l y x) (downsL l a b) v) : v = nearN (turnedN l) l.length a b := by
  by_cases hab : a < l.length ∧ b < l.length
  · obtain ⟨ha, hb⟩ := hab
    have j := meet_is h ha hb
    have mem : ∀ x, x ∈ downsL l a b ↔ x < l.length ∧ bt l x a = true ∧ bt l x b = true := fun x => by
      rw [downsL, pick_mem, Bool.and_eq_true]
      constructor
      · rintro ⟨h1, h2, h3⟩
        exact ⟨h1, by rw [← below_bt h h1 ha]; exact h2, by rw [← below_bt h h1 hb]; exact h3⟩
      · rintro ⟨h1, h2, h3⟩
        exact ⟨h1, by rw [below_bt h h1 ha]; exact h2, by rw [below_bt h h1 hb]; exact h3⟩
    rcases k with ⟨_, hm, hall⟩ | ⟨hno, _⟩
    · obtain ⟨h1, h2, h3⟩ := (mem v).1 hm
      exact (meet_uniq h ha hb ⟨h1, h2, h3, fun d hd g1 g2 => by
        show bt l d v = true
        rw [← below_bt h hd h1]
        exact hall d ((mem d).2 ⟨hd, g1, g2⟩)⟩).symm
    · have := (lsK_iff (fun x y => belowB l y x) (downsL l a b)).2 ⟨_, (mem _).2 ⟨j.lt, j.fst, j.snd⟩, fun y hy => by
        obtain ⟨h1, h2, h3⟩ := (mem y).1 hy
        rw [below_bt h h1 j.lt]
        exact j.least y h1 h2 h3⟩
      rw [hno] at this
      cases this
  · rw [nearN, if_neg hab]
    rcases k with ⟨_, hm, _⟩ | ⟨_, hv⟩
    · obtain ⟨_, h2⟩ := (pick_mem _ _ _).1 hm
      rw [Bool.and_eq_true] at h2
      exact absurd ⟨(belowB_lt h2.1).2, (belowB_lt h2.2).2⟩ hab
    · exact hv

theorem found_bot {v : Nat} (k : Found (belowB l) (List.range l.length) v) : v = endN l l.length := by
  have j := bot_is h
  rcases k with ⟨_, hm, hall⟩ | ⟨hno, _⟩
  · have h1 := List.mem_range.1 hm
    exact (bot_uniq h ⟨h1, fun d hd => by
      rw [← below_bt h h1 hd]
      exact hall d (List.mem_range.2 hd)⟩).symm
  · have := (lsK_iff (belowB l) (List.range l.length)).2 ⟨_, List.mem_range.2 j.lt, fun y hy => by
      rw [below_bt h j.lt (List.mem_range.1 hy)]
      exact j.all y (List.mem_range.1 hy)⟩
    rw [hno] at this
    cases this

theorem found_top {v : Nat} (k : Found (fun x y => belowB l y x) (List.range l.length) v) : v = endN (turnedN l) l.length := by
  have j := top_is h
  rcases k with ⟨_, hm, hall⟩ | ⟨hno, _⟩
  · have h1 := List.mem_range.1 hm
    exact (top_uniq h ⟨h1, fun d hd => by
      show bt l d v = true
      rw [← below_bt h hd h1]
      exact hall d (List.mem_range.2 hd)⟩).symm
  · have := (lsK_iff (fun x y => belowB l y x) (List.range l.length)).2 ⟨_, List.mem_range.2 j.lt, fun y hy => by
      rw [below_bt h (List.mem_range.1 hy) j.lt]
      exact j.all y (List.mem_range.1 hy)⟩
    rw [hno] at this
    cases this
end

def EvRel (n : Nat) (w : World) (v3 v4 : Value) (wr : World) : Prop :=
  ∃ k : Nat, v4 = .int .u64 (k : Int) ∧ k ≤ n ∧ ∃ A' n' c', v3 = .slice A' n' c' ∧ Fresh nm 73 w wr A' n' c' (List.range k)

set_option maxRecDepth 100000 in
set_option maxHeartbeats 400000 in
theorem refEvery_any (A : Option Addr) (n c : Nat) (w : World) (hn : n ≤ 1000) :
    Calls Tryz.prog 143 #[.slice A n c] w fun e w' => ∃ A' n' c', e = .returned (.slice A' n' c') ∧ Fresh nm 73 w w' A' n' c' (List.range n) := by
  obtain ⟨i0, hi0, hz0, hz1, hz2⟩ := info_parts nm_inf
  go_enter Tryz.func143, Tryz.ntmps143
  go_wp2
  go_loopw [3, 4] (fun v3 v4 wr => EvRel n w v3 v4 wr) (fun _ v4 _ => n - (intOf v4).toNat)
  case atStart => exact ⟨0, rfl, by omega, none, 0, 0, rfl, World.ownsRow_nil _ _ _ _, Below.refl _ _⟩
  case round =>
    obtain ⟨k, rfl, hk, A', n', c', rfl, hfr⟩ := hrel
    by_cases hlt : k < n
    · have hlen := hfr.len
      rw [List.length_range] at hlen
      have HP := Lib.hid (List.range_succ (n := k))
      have o1 := nm_rd1 wr k
      generalize hq : List.range k = ks at *
      clear hq
      have HN := Lib.hid hlen
      clear hlen
      go_wp2_with (at_builtin; refine wpList_append_rd _ rfl (.tmp 12) (.tmp 14) 22 rfl w.heap.size 73 i0 (.int .u64 0) 8 Tryz.underlying22 hi0 hz0 hz1 hz2 rfl nm_one (.slice A' n' c') n' ks rfl (hfr.own.alloc _) _ _ 1 1 [k] rfl o1 (by have := HN.out; unfold maxLen; omega) (by have := HN.out; omega) (by have := hfr.bel.size; simp; omega) ?_; intro A2 k2 c2 w2 hk2 own2 hg2 ha2)
      go_roundw
      case rel => exact ⟨k + 1, by go_num, by omega, A2, k2, c2, rfl, by rw [HP.out]; exact ⟨own2, (hfr.bel.alloc hfr.bel.size _).grown hg2 (Nat.le_trans hfr.bel.size (by simp)) (fun j hj => (hfr.own.lt j hj).1)⟩⟩
      case measure => simp [intOf]; omega
    · obtain rfl : k = n := by omega
      go_wp2
      go_ret
      exact ⟨A', n', c', rfl, hfr⟩

theorem range_fit {n : Nat} (h : n ≤ 1000) : Fit (List.range n) := fun x hx => by
  have := List.mem_range.1 hx
  omega

theorem refHas_any (A : Option Addr) (n c : Nat) (a : Nat) (w : World) (hn : n ≤ 1000) : Calls Tryz.prog 91 #[.slice A n c, .int .u64 (a : Int)] w fun e w' => e = .returned (.bool (decide (a < n))) ∧ w = w' := by
  go_enter Tryz.func91, Tryz.ntmps91
  go_wp2
  go_ret
  exact ⟨by simp, rfl⟩

set_option maxRecDepth 100000 in
set_option maxHeartbeats 400000 in
theorem refJoin_any (A : Option Addr) (n c : Nat) (l : List Nat) (a b : Nat) (w : World) (h : Rd nm w w.heap.size A n c l) (hf : Fit l) (hok : LatOK l) (ha : a < 18446744073709551616) (hb : b < 18446744073709551616) :
    Calls Tryz.prog 97 #[.slice A n c, .int .u64 (a : Int), .int .u64 (b : Int)] w fun e w' => e = .returned (.int .u64 (nearN l n a b : Int)) ∧ Below w.heap.size w w' := by
  have HL := Lib.hid h.len
  have HOK := Lib.hid hok
  have hn : n ≤ 64 := by rw [← HL.out]; exact hok.known.1.2
  clear hok
  have hfit : Fit (upsL l a b) := pick_fit _ _ (by rw [HL.out]; omega)
  go_enter Tryz.func97, Tryz.ntmps97
  go_wp2_with fail
  refine (refAbove_any A n c l a b w h hf ha hb (by omega)).mono ?_
  rintro e w1 ⟨A1, n1, c1, rfl, f1⟩
  go_wp2_with fail
  refine (refLeast_val A A1 n c n1 c1 _ _ l (upsL l a b) w1 (h.at_size (Nat.le_refl _) f1.bel) hf f1.rd hfit).mono ?_
  rintro e w2 ⟨⟨v, rfl, hv⟩, hd⟩
  have HV : Hid (nearN l n a b = v) := Lib.hid (by rw [← HL.out]; exact (found_join HOK.out hv).symm)
  have hb2 := f1.bel.trans (hd.below (B := w.heap.size))
  clear hv
  generalize leastB l (upsL l a b) = p at *
  go_wp2_with fail
  go_ret
  exact ⟨by rw [HV.out]; rfl, hb2⟩

set_option maxRecDepth 100000 in
set_option maxHeartbeats 400000 in
theorem refBottom_any (A : Option Addr) (n c : Nat) (l : List Nat) (w : World) (h : Rd nm w w.heap.size A n c l) (hf : Fit l) (hok : LatOK l) :
    Calls Tryz.prog 93 #[.slice A n c] w fun e w' => e = .returned (.int .u64 (endN l n : Int)) ∧ Below w.heap.size w w' := by
  have HL := Lib.hid h.len
  have HOK := Lib.hid hok
  have hn : n ≤ 64 := by rw [← HL.out]; exact hok.known.1.2
  clear hok
  go_enter Tryz.func93, Tryz.ntmps93
  go_wp2_with fail
  refine (refEvery_any A n c w (by omega)).mono ?_
  rintro e w1 ⟨A1, n1, c1, rfl, f1⟩
  go_wp2_with fail
  refine (refLeast_val A A1 n c n1 c1 _ _ l (List.range n) w1 (h.at_size (Nat.le_refl _) f1.bel) hf f1.rd (range_fit (by omega))).mono ?_
  rintro e w2 ⟨⟨v, rfl, hv⟩, hd⟩
  have HV : Hid (endN l n = v) := Lib.hid (by
    have := found_bot HOK.out (v := v) (by rw [HL.out]; exact hv)
    rw [this, HL.out])
  have hb2 := f1.bel.trans (hd.below (B := w.heap.size))
  clear hv
  generalize leastB l (List.range n) = p at *
  go_wp2_with fail
  go_ret
  exact ⟨by rw [HV.out]; rfl, hb2⟩

set_option maxRecDepth 100000 in
set_option maxHeartbeats 400000 in
theorem refMeet_any (A : Option Addr) (n c : Nat) (l : List Nat) (a b : Nat) (w : World) (h : Rd nm w w.heap.size A n c l) (hf : Fit l) (hok : LatOK l) (ha : a < 18446744073709551616) (hb : b < 18446744073709551616) :
    Calls Tryz.prog 101 #[.slice A n c, .int .u64 (a : Int), .int .u64 (b : Int)] w fun e w' => e = .returned (.int .u64 (nearN (turnedN l) n a b : Int)) ∧ Below w.heap.size w w' := by
  have HL := Lib.hid h.len
  have HOK := Lib.hid hok
  have hn : n ≤ 64 := by rw [← HL.out]; exact hok.known.1.2
  clear hok
  have hfit : Fit (downsL l a b) := pick_fit _ _ (by rw [HL.out]; omega)
  go_enter Tryz.func101, Tryz.ntmps101
  go_wp2_with fail
  refine (refUnder_any A n c l a b w h hf ha hb (by omega)).mono ?_
  rintro e w1 ⟨A1, n1, c1, rfl, f1⟩
  go_wp2_with fail
  refine (refGreatest_val A A1 n c n1 c1 _ _ l (downsL l a b) w1 (h.at_size (Nat.le_refl _) f1.bel) hf f1.rd hfit).mono ?_
  rintro e w2 ⟨⟨v, rfl, hv⟩, hd⟩
  have HV : Hid (nearN (turnedN l) n a b = v) := Lib.hid (by rw [← HL.out]; exact (found_meet HOK.out hv).symm)
  have hb2 := f1.bel.trans (hd.below (B := w.heap.size))
  clear hv
  generalize greatB l (downsL l a b) = p at *
  go_wp2_with fail
  go_ret
  exact ⟨by rw [HV.out]; rfl, hb2⟩

set_option maxRecDepth 100000 in
set_option maxHeartbeats 400000 in
theorem refTop_any (A : Option Addr) (n c : Nat) (l : List Nat) (w : World) (h : Rd nm w w.heap.size A n c l) (hf : Fit l) (hok : LatOK l) :
    Calls Tryz.prog 94 #[.slice A n c] w fun e w' => e = .returned (.int .u64 (endN (turnedN l) n : Int)) ∧ Below w.heap.size w w' := by
  have HL := Lib.hid h.len
  have HOK := Lib.hid hok
  have hn : n ≤ 64 := by rw [← HL.out]; exact hok.known.1.2
  clear hok
  go_enter Tryz.func94, Tryz.ntmps94
  go_wp2_with fail
  refine (refEvery_any A n c w (by omega)).mono ?_
  rintro e w1 ⟨A1, n1, c1, rfl, f1⟩
  go_wp2_with fail
  refine (refGreatest_val A A1 n c n1 c1 _ _ l (List.range n) w1 (h.at_size (Nat.le_refl _) f1.bel) hf f1.rd (range_fit (by omega))).mono ?_
  rintro e w2 ⟨⟨v, rfl, hv⟩, hd⟩
  have HV : Hid (endN (turnedN l) n = v) := Lib.hid (by
    have := found_top HOK.out (v := v) (by rw [HL.out]; exact hv)
    rw [this, HL.out])
  have hb2 := f1.bel.trans (hd.below (B := w.heap.size))
  clear hv
  generalize greatB l (List.range n) = p at *
  go_wp2_with fail
  go_ret
  exact ⟨by rw [HV.out]; rfl, hb2⟩
end Go.Proofs.YtnlgfiffhahpfaaGreatDoor.La
