/- OrdersClose answers true. Condition: sizes alone. -/
import Derived.Test.YtnoigcaapnjcgaaGreatDoorRefClose
import Derived.Test.YtnoigcaapnjcgaaGreatDoorTwinP
import Derived.Test.YtnoigcaapnjcgaaGreatDoorApart
namespace Go.Proofs.YtnoigcaapnjcgaaGreatDoor
open Go.RowKit

theorem Below.then {w w1 w2 : World} (h : Below w.heap.size w w1) (k : Below w1.heap.size w1 w2) : Below w.heap.size w w2 := h.trans (k.mono h.size)

theorem NL.lt {E sz q n c b : Nat} {us : List Value} {w : World} {A : Option Addr} (h : NL E sz us q w A n c) (hl : lies A b) : b < w.heap.size := by
  obtain ⟨a, ha, rfl⟩ := hl
  cases h with
  | no => cases ha
  | «at» g n c cur e1 e2 e3 e4 e5 e6 =>
    injection ha with ha
    subst ha
    exact lt_blk e1

/-- Where the answer of Close lies. -/
def Lay (w0 w : World) (A : Option Addr) (n c : Nat) (rows : List Nat) : Prop :=
  (A = none ∧ n = 0 ∧ c = 0 ∧ rows = []) ∨ (∃ g, w0.heap.size ≤ g ∧ A = some ⟨g, 0, none⟩ ∧ n = c ∧ n ≤ 64 ∧ rows.length = n ∧ w.heap[g]? = some (.cells (cl rows) 53 (0, 0)))

theorem Lay.rd {w0 w : World} {A : Option Addr} {n c : Nat} {rows : List Nat} (h : Lay w0 w A n c rows) : Rd nm w w.heap.size A n c rows := by
  rcases h with ⟨rfl, rfl, rfl, rfl⟩ | ⟨g, _, rfl, rfl, h64, hl, hblk⟩
  · exact Rd.nil _ _
  · exact rd_blk hblk hl (by omega)
theorem Lay.keep {w0 w w' : World} {A : Option Addr} {n c : Nat} {rows : List Nat} (h : Lay w0 w A n c rows) (hb : Below w.heap.size w w') : Lay w0 w' A n c rows := by
  rcases h with h | ⟨g, h0, h1, h2, h3, h4, h5⟩
  · exact .inl h
  · exact .inr ⟨g, h0, h1, h2, h3, h4, (hb.block g (lt_blk h5)).trans h5⟩
theorem Lay.nl {w0 w : World} {A : Option Addr} {n c : Nat} {rows : List Nat} {us : List Value} (h : Lay w0 w A n c rows) : NL 53 1 us 0 w A n c := by
  rcases h with ⟨rfl, rfl, rfl, rfl⟩ | ⟨g, h0, rfl, rfl, h3, h4, h5⟩
  · exact .no
  · exact .at g n n _ h5 (by simp [cl, h4]) (Nat.le_refl _) (by unfold maxLen; omega) (by omega) (fun j hj => absurd hj (by omega))
theorem Lay.ge {w0 w : World} {A : Option Addr} {n c b : Nat} {rows : List Nat} (h : Lay w0 w A n c rows) (hl : lies A b) : w0.heap.size ≤ b := by
  obtain ⟨a, ha, rfl⟩ := hl
  rcases h with ⟨rfl, _⟩ | ⟨g, h0, rfl, _⟩
  · cases ha
  · injection ha with ha
    subst ha
    exact h0

set_option maxRecDepth 100000 in
set_option maxHeartbeats 4000000 in
theorem walk (N : Int) (A : Option Addr) (n c : Nat) (ps : List (Int × Int)) (w : World) (h : Rp w w.heap.size A n c ps) :
    Calls Tryz.prog 3 #[.int .i64 N, .slice A n c] w fun e w' => e = .returned (.bool true) ∧ Below w.heap.size w w' := by
  have HL := Lib.hid h.len
  have htop := h.top
  have hcap := h.cap
  unfold maxLen at htop
  go_enter Tryz.func3, Tryz.ntmps3
  by_cases h300 : 300 < n
  · have d1 : decide (300 < (n : Int)) = true := by simp; omega
    go_wp2_with fail
    go_ret
    exact ⟨rfl, Below.refl _ _⟩
  have d1 : decide (300 < (n : Int)) = false := by simp; omega
  go_wp2_with fail
  refine (twinP_any A n c ps w h (by omega)).mono ?_
  rintro e w1 ⟨g, rfl, ht, b1⟩
  have hrd1 := ht.rd
  have hr1 := h.at_size (Nat.le_refl _) b1
  have hold := ht.old
  go_wp2_with fail
  refine (close_any N _ n (n + 1) ps w1 hrd1).mono ?_
  rintro e w2 ⟨rows, x, A2, n2, c2, rfl, hC, b2, hor⟩
  have hlay : Lay w1 w2 A2 n2 c2 rows := by
    rcases hor with h | ⟨g2, a1, a2, a3, a4, a5, _, a6⟩
    · exact .inl h
    · exact .inr ⟨g2, a1, a2, a3, a4, a5, a6⟩
  have ht2 := ht.keep b2
  have hr2 := hr1.at_size (Nat.le_refl _) b2
  have b12 := Below.then b1 b2
  clear hor hrd1 hr1 ht
  go_wp2_with fail
  refine (refClose_any N A n c ps w2 hr2).mono ?_
  rintro e w3 ⟨rows3, x3, A3, n3, c3, rfl, hC3, b3, hrd3⟩
  obtain ⟨e1, e2⟩ := hC.uniq hC3
  subst e1
  subst e2
  have hxx : (x != x) = false := by simp
  have hlay3 := hlay.keep b3
  have ht3 := ht2.keep b3
  have hr3 := hr2.at_size (Nat.le_refl _) b3
  have b13 := Below.then b12 b3
  clear hC hC3 hlay ht2 hr2 b12 b3
  go_wp2_with fail
  refine (same_any _ _ A2 A3 n2 n3 c2 c3 rows rows w3 hlay3.rd hrd3).mono ?_
  rintro e w4 ⟨⟨b, rfl, hbb⟩, hd4⟩
  obtain rfl : b = true := hbb.2 rfl
  have b34 : Below w3.heap.size w3 w4 := hd4.below
  have hlay4 := hlay3.keep b34
  have ht4 := ht3.keep b34
  have hr4 := hr3.at_size (Nat.le_refl _) b34
  have b14 := Below.then b13 b34
  clear hlay3 ht3 hr3 b13 b34 hd4 hrd3
  go_wp2_with fail
  refine (leftP_any w _ A g n c ps w4 ht4 hr4).mono ?_
  rintro e w5 ⟨rfl, b45⟩
  have HLAY := Lib.hid (hlay4.keep b45)
  have HT := Lib.hid (ht4.keep b45)
  have b15 := Below.then b14 b45
  have hb1s := b1.size
  have hb5s := b15.size
  clear hlay4 ht4 hr4 b14 b45 b2 b1
  go_wp2_with fail
  have B0 : (w5.alloc (.cells (bookCells ((0 : Nat) : Int) (.slice none 0 0) (.slice none 0 0)) 46)).heap[w5.heap.size]? = some (.cells (bookCells ((0 : Nat) : Int) (.slice none 0 0) (.slice none 0 0)) 46 (0, 0)) := heap_alloc_new w5 _
  have K5 : Kept (fun b => b = w5.heap.size) w5 (w5.alloc (.cells (bookCells ((0 : Nat) : Int) (.slice none 0 0) (.slice none 0 0)) 46)) := (Kept.refl _ _).alloc _
  refine (pairs_any w5.heap.size 0 (.slice none 0 0) (some ⟨g, 0, none⟩) n (n + 1) _ B0 (by omega)).mono ?_
  rintro e w6 ⟨rfl, hbP, capP, HP, c1, p2, p3, p4, p5, p6, p7, k6⟩
  have K6 := K5.trans k6
  have HP7 := Lib.hid p7
  have P2 := Lib.hid p2
  have P3 := Lib.hid p3
  have P456 := Lib.hid (And.intro p4 (And.intro p5 p6))
  clear p2 p3 p4 p5 p6 p7 k6 K5 B0
  go_wp2_with fail
  refine (nums_any w5.heap.size (0 + 1) (.slice (some ⟨hbP, 0, none⟩) 1 capP) A2 n2 c2 w6 P2.out (by omega)).mono ?_
  rintro e w7 ⟨rfl, hbN, capN, HN, q1, q2, q3, q4, q5, q6, q7, k7⟩
  have K7 := K6.trans k7
  have hneP : ¬ hbP = w5.heap.size := by omega
  have BP : NB 7 61 w5.heap.size hbP capP (some ⟨g, 0, none⟩) n (n + 1) (0 + 1) none 0 0 w7 := ⟨by rw [cell_blk q2]; rfl, lt_blk q2, HP, (k7.block hbP (lt_blk P3.out) hneP).trans P3.out, P456.out.1, P456.out.2.1, P456.out.2.2⟩
  have BN : NB 4 63 w5.heap.size hbN capN A2 n2 c2 (0 + 1 + 1) none 0 0 w7 := ⟨by rw [cell_blk q2]; rfl, lt_blk q2, HN, q3, q4, q5, q6⟩
  have LN : NL 53 1 [.int .u64 ((0 + 1 + 1 : Nat) : Int)] 0 w7 A2 n2 c2 := HLAY.out.nl.keep K7 (fun b hl e => by have := HLAY.out.nl (us := []) |>.lt hl; omega)
  have LP : NL 51 2 (pm (0 + 1)) 0 w7 (some ⟨g, 0, none⟩) n (n + 1) := (HT.out.nl (by omega)).keep K7 (fun b hl e => by have := (HT.out.nl (us := []) (by omega)).lt hl; omega)
  have hk7s := K6.size
  have HALL := Lib.hid (apart_any w5.heap.size hbN capN hbP capP g n (n + 1) n2 c2 (0 + 1) (0 + 1 + 1) A2 w7 _ _ q2 BN BP LN LP (by omega) (by omega))
  have HB7 : Hid (Below w.heap.size w5 w7) := Lib.hid (K7.below b15.size fun b hb => by rw [hb]; exact b15.size)
  have hp7 := HP7.out
  have hn7 : w.heap.size ≤ w7.heap.size := Nat.le_trans b15.size K7.size
  have hsz5 : w5.heap.size ≤ (w5.alloc (.cells (bookCells ((0 : Nat) : Int) (.slice none 0 0) (.slice none 0 0)) 46)).heap.size := by simp
  have HS1 : Hid (w.heap.size ≤ hbP) := Lib.hid (by omega)
  have HS2 : Hid (w.heap.size ≤ hbN) := Lib.hid (by omega)
  clear q2 q3 q4 q5 q6 q7 k7 K6 K7 BP BN LN LP hp7 hsz5 P2 P3 P456 HP7
  go_wp2_with fail
  refine HALL.out.mono ?_
  rintro e w8 ⟨rfl, k8⟩
  have HK8 := Lib.hid k8
  clear k8
  go_wp2_with fail
  go_ret
  refine ⟨rfl, b15.trans (HB7.out.trans (HK8.out.below hn7 ?_))⟩
  rintro b (e | e | e | e)
  · rw [e]; exact HS2.out
  · rw [e]; exact HS1.out
  · exact Nat.le_trans hb1s (HLAY.out.ge e)
  · rw [e]; exact hold
end Go.Proofs.YtnoigcaapnjcgaaGreatDoor
