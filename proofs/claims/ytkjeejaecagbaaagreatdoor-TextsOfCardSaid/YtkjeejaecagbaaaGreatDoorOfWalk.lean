/- TextsOf answers true: the walk. Condition: the texts can be read. -/
import Derived.Test.YtkjeejaecagbaaaGreatDoorApart
import Derived.Test.YtkjeejaecagbaaaGreatDoorRefSort
namespace Go.Proofs.YtkjeejaecagbaaaGreatDoor
open Go.RowKit

theorem same_now (B B' : Nat) (A A' : Option Addr) (m m' c c' : Nat) (ss : List (List UInt8)) (w : World) (h : Rd txt w B A m c ss) (h' : Rd txt w B' A' m' c' ss) :
    Calls Tryz.prog 13 #[.slice A m c, .slice A' m' c'] w fun e w' => e = .returned (.bool true) ∧ Below w.heap.size w w' :=
  (same_any B B' A A' m m' c c' ss w h h').mono fun _ _ ⟨he, _, hk⟩ => ⟨he, hk ▸ below_drewN _ _⟩

theorem left_now (w0 : World) (B : Nat) (A : Option Addr) (g n c : Nat) (l : List (List UInt8)) (w : World) (ht : TwinOf w0 w g n l) (h : Rd txt w B A n c l) :
    Calls Tryz.prog 15 #[.slice (some ⟨g, 0, none⟩) n (n + 1), .slice A n c] w fun e w' => e = .returned (.bool true) ∧ Below w.heap.size w w' :=
  (left_any w0 B A g n c l w ht h).mono fun _ _ ⟨he, k, hw⟩ => ⟨he, hw ▸ below_drewN w k⟩

/-- A list's block, known whole. -/
structure Lies (w : World) (g n c : Nat) : Prop where
  blk : ∃ cur, w.heap[g]? = some (.cells cur 9 (0, 0)) ∧ cur.size = c
  fit : n ≤ c
  top : c ≤ maxLen
  small : n ≤ 1000000

theorem Lies.keep {w w' : World} {g n c : Nat} {D : Nat → Prop} (h : Lies w g n c) (hk : Kept D w w') (hn : ¬ D g) : Lies w' g n c := by
  obtain ⟨cur, e1, e2⟩ := h.blk
  exact ⟨⟨cur, (hk.block g (lt_blk e1) hn).trans e1, e2⟩, h.fit, h.top, h.small⟩

theorem Lies.lt {w : World} {g n c : Nat} (h : Lies w g n c) : g < w.heap.size := by
  obtain ⟨cur, e1, _⟩ := h.blk
  exact lt_blk e1

theorem twin_lies {w w' : World} {g n : Nat} {l : List (List UInt8)} (h : TwinOf w w' g n l) (hs : n ≤ 1000000) : Lies w' g n (n + 1) :=
  ⟨⟨_, h.blk, by simp [h.len]⟩, by omega, by have := h.top; omega, hs⟩

/-- A list that is nil, or lies in a block behind b. -/
def Lone (w : World) (b : Nat) (A : Option Addr) (n c : Nat) : Prop := (A = none ∧ n = 0 ∧ c = 0) ∨ ∃ g, A = some ⟨g, 0, none⟩ ∧ b ≤ g ∧ Lies w g n c

theorem Lone.keep {w w' : World} {b n c : Nat} {A : Option Addr} {D : Nat → Prop} (h : Lone w b A n c) (hk : Kept D w w') (hn : ∀ g, g < w.heap.size → ¬ D g) : Lone w' b A n c := by
  rcases h with h | ⟨g, h1, h2, h3⟩
  · exact .inl h
  · exact .inr ⟨g, h1, h2, h3.keep hk (hn g h3.lt)⟩

theorem fresh_lone {w w' : World} {A : Option Addr} {n c : Nat} {l : List (List UInt8)} (h : Fresh txt 9 w w' A n c l) (hs : n ≤ 1000000) : Lone w' w.heap.size A n c := by
  rcases h.own.2 with ⟨hv, e⟩ | ⟨g, cap, cur, hv, hb, hg, hnc, hcm, hcs, _⟩
  · injection hv with h1 h2 h3
    exact .inl ⟨h1, e, h3⟩
  · injection hv with h1 h2 h3
    subst h3
    exact .inr ⟨g, h1, hb, ⟨cur, hg, by simpa using hcs⟩, hnc, hcm, hs⟩

def held2 (bk hb cap g0 n0 c0 g1 n1 c1 : Nat) (z : Bool) : Held :=
  { bk := bk, hb := hb, cap := cap, m := 2, g := fun i => if i = 0 then g0 else g1, n := fun i => if i = 0 then n0 else n1, c := fun i => if i = 0 then c0 else c1, nl := fun i => if i = 0 then false else z }

theorem book2 {w : World} {bk g0 n0 c0 n1 c1 : Nat} {A1 : Option Addr} {v : Value}
    (hB : BookK w bk 2 v ([] ++ [.slice (some ⟨g0, 0, none⟩) n0 c0, .slice none 0 0, .int .i64 (((0 : Nat) : Int) + 1)] ++ [.slice A1 n1 c1, .slice none 0 0, .int .i64 (((1 : Nat) : Int) + 1)]))
    (l0 : Lies w g0 n0 c0) (l1 : Lone w (g0 + 1) A1 n1 c1) (h0 : g0 < bk) (h1 : ∀ g, A1 = some ⟨g, 0, none⟩ → g < bk) :
    ∃ hb cap g1 z, bk < hb ∧ g0 < g1 ∧ BookAt (held2 bk hb cap g0 n0 c0 g1 n1 c1 z) w := by
  rcases hB.own.2 with ⟨_, e⟩ | ⟨hb, cap, cur, hv, hbb, hH, hnc, hcm, hcs, htake⟩
  · cases e
  · subst hv
    have hcell : ∀ j u, ([] ++ [.slice (some ⟨g0, 0, none⟩) n0 c0, .slice none 0 0, .int .i64 (((0 : Nat) : Int) + 1)] ++ [.slice A1 n1 c1, .slice none 0 0, .int .i64 (((1 : Nat) : Int) + 1)])[j]? = some u → w.cell? ⟨hb, j, none⟩ = some u := by
      intro j u hu
      have := hB.own.cells (g := hb) rfl j u hu
      rwa [Addr.add_lit, Nat.zero_add] at this
    have two : ∀ i, i < 2 → i = 0 ∨ i = 1 := by omega
    obtain ⟨g1, z, hA, hg, hz, hl⟩ : ∃ (g1 : Nat) (z : Bool), (A1 = if z then none else some ⟨g1, 0, none⟩) ∧ (g0 < g1 ∧ g1 ≠ bk ∧ g1 ≠ hb) ∧ (z = true → n1 = 0 ∧ c1 = 0) ∧ (z = false → Lies w g1 n1 c1) := by
      rcases l1 with ⟨h', h2, h3⟩ | ⟨g, h', h2, h3⟩
      · exact ⟨bk + hb + 1, true, by simpa using h', ⟨by omega, by omega, by omega⟩, fun _ => ⟨h2, h3⟩, fun h => by cases h⟩
      · have := h1 g h'
        exact ⟨g, false, by simpa using h', ⟨by omega, by omega, by omega⟩, (fun h => by cases h), fun _ => h3⟩
    subst hA
    refine ⟨hb, cap, g1, z, by omega, hg.1, ⟨(show 2 ≤ 8 by decide), ?_, fun i hi => ?_, fun i hi => ?_, fun i hi => ?_, ⟨lt_blk hB.blk, lt_blk hH⟩, ⟨cur, hH⟩, ?_, fun i hi => ?_, fun i hi hn => ?_, fun i hi hn => ?_, fun i j hi hj hne => ?_, fun i hi => ?_⟩⟩
    · show w.cell? ⟨bk, 3, none⟩ = _
      rw [cell_blk hB.blk]
      rfl
    · rcases two i hi with rfl | rfl <;> exact hcell _ _ rfl
    · rcases two i hi with rfl | rfl <;> exact ⟨none, 0, 0, hcell _ _ rfl⟩
    · rcases two i hi with rfl | rfl <;> exact hcell _ _ rfl
    · show bk ≠ hb
      omega
    · rcases two i hi with rfl | rfl
      · exact l0.small
      · show n1 ≤ 1000000
        cases z with
        | true => have := (hz rfl).1; omega
        | false => exact (hl rfl).small
    · rcases two i hi with rfl | rfl
      · cases hn
      · exact hz hn
    · rcases two i hi with rfl | rfl
      · obtain ⟨cu, e1, e2⟩ := l0.blk; exact ⟨cu, e1, e2, l0.fit, l0.top⟩
      · obtain ⟨cu, e1, e2⟩ := (hl hn).blk; exact ⟨cu, e1, e2, (hl hn).fit, (hl hn).top⟩
    · rcases two i hi with rfl | rfl <;> rcases two j hj with rfl | rfl <;> simp [held2] <;> omega
    · rcases two i hi with rfl | rfl <;> simp [held2] <;> omega

set_option maxRecDepth 100000 in
set_option maxHeartbeats 4000000 in
theorem walk (A : Option Addr) (m c : Nat) (ss : List (List UInt8)) (s : List UInt8) (w : World) (hs0 : s.length ≤ 9223372036854775807) (hl : Rd txt w w.heap.size A m c ss) :
    Calls Tryz.prog 3 #[.slice A m c, .string (str s)] w fun e w' => e = .returned (.bool true) ∧ Below w.heap.size w w' := by
  have HL := Lib.hid hl.len
  have htop := hl.top
  have hcap := hl.cap
  unfold maxLen at htop
  have hsz := str_size s
  have hs1 : s.length ≤ 9223372036854775807 := hs0
  have HS1 := Lib.hid hs1
  clear hs1
  generalize hsl : s.length = sl at *
  have HSL := Lib.hid hsl
  clear hsl
  go_enter Tryz.func3, Tryz.ntmps3
  by_cases h200 : 200 < m
  · have h' : (200 : Int) < (m : Int) := by omega
    go_wp2_with fail
    go_ret
    exact ⟨rfl, Below.refl _ _⟩
  have h200' : ¬ (200 : Int) < (m : Int) := by omega
  go_wp2_with fail
  refine (size_any _ A m c ss w hl).mono ?_
  rintro e w0 ⟨⟨z, rfl⟩, rfl⟩
  by_cases hzz : 20000 < z
  · go_wp2_with fail
    go_ret
    exact ⟨rfl, Below.refl _ _⟩
  by_cases hgr : 20000 < sl
  · have hgr' : (20000 : Int) < (sl : Int) := by omega
    go_wp2_with fail
    go_ret
    exact ⟨rfl, Below.refl _ _⟩
  have hgr' : ¬ (20000 : Int) < (sl : Int) := by omega
  go_wp2_with fail
  refine (twin_any A m c ss _ hl (by omega)).mono ?_
  rintro e w1 ⟨g, rfl, ht1, b1⟩
  have rt1 := ht1.rd
  have rl1 := hl.at_size (Nat.le_refl _) b1
  have Lt1 := twin_lies ht1 (by omega)
  clear hl
  go_wp2_with fail
  refine (sort_any _ m (m + 1) ss _ rt1 (by have := HL.out; omega)).mono ?_
  rintro e w2 ⟨A2, n2, c2, rfl, f2⟩
  have hn2 : n2 ≤ 1000 := by have := su_length_le ss; have := f2.len; have := HL.out; omega
  have Lx2 := fresh_lone f2 (by omega)
  have hgo : g + 1 ≤ w1.heap.size := ht1.lt
  have rx2 := f2.rd
  have rt2 := rt1.at_size (Nat.le_refl _) f2.bel
  have rl2 := rl1.at_size (Nat.le_refl _) f2.bel
  have ht2 := ht1.keep f2.bel
  have Lt2 := Lt1.keep (D := fun _ => False) (Kept.of_below f2.bel) (by simp)
  have b2 := Below.then b1 f2.bel
  have hold := ht1.old
  clear f2 rt1 rl1 ht1 Lt1 b1
  go_wp2_with fail
  refine (find_any _ m (m + 1) ss s _ rt2).mono ?_
  rintro e w3 ⟨rfl, b3⟩
  have rl3 := rl2.at_size (Nat.le_refl _) b3
  go_wp2_with fail
  refine (refFind_any _ A m c ss s _ rl3).mono ?_
  rintro e w4 ⟨rfl, q4, rfl⟩
  have d4 : Below w2.heap.size w2 (w3.drewN q4) := Below.then b3 (below_drewN _ _)
  clear rl3 b3
  generalize w3.drewN q4 = w4 at *
  generalize fd ss s = y at *
  generalize isAt ss s = d at *
  have hyy : ((y : Int) != (y : Int)) = false := by simp
  have hdd : (d != d) = false := by simp
  have rt4 := rt2.at_size (Nat.le_refl _) d4
  go_wp2_with fail
  refine (rises_any _ m (m + 1) ss _ rt4).mono ?_
  rintro e w5 ⟨rfl, b5⟩
  have d5 := Below.then d4 b5
  have rl5 := rl2.at_size (Nat.le_refl _) d5
  go_wp2_with fail
  refine (refSorted_any _ A m c ss _ rl5).mono ?_
  rintro e w6 ⟨rfl, q6, rfl⟩
  have d6 := Below.then d5 (below_drewN w5 q6)
  generalize w5.drewN q6 = w6 at *
  generalize rises ss = d2 at *
  have hd2 : (d2 != d2) = false := by simp
  clear rl5 rt4 b5 d4 d5
  go_wp2_with fail
  refine (name_any s _ (by have := HS1.out; have := HSL.out; omega)).mono ?_
  rintro e w7 ⟨rfl, b7⟩
  have d7 := Below.then d6 b7
  go_wp2_with fail
  refine (refName_any s _ (by have := HS1.out; have := HSL.out; omega)).mono ?_
  rintro e w8 ⟨rfl, rfl⟩
  generalize nameB s = d3 at *
  have hd3 : (d3 != d3) = false := by simp
  have rl7 := rl2.at_size (Nat.le_refl _) d7
  have rx7 := rx2.at_size (Nat.le_refl _) d7
  clear d6 b7
  go_wp2_with fail
  refine (refSort_any A m c ss _ rl7 (by omega)).mono ?_
  rintro e w9 ⟨A9, n9, c9, rfl, f9⟩
  have rx9 := rx7.at_size (Nat.le_refl _) f9.bel
  have d9 := Below.then d7 f9.bel
  go_wp2_with fail
  refine (same_now _ _ _ _ _ _ _ _ _ _ rx9 f9.rd).mono ?_
  rintro e w10 ⟨rfl, b10⟩
  have d10 := Below.then d9 b10
  clear rx9 rx7 rl7 f9 b10 d9 d7
  go_wp2_with fail
  refine (left_now w _ A g m c ss _ (ht2.keep d10) (rl2.at_size (Nat.le_refl _) d10)).mono ?_
  rintro e w11 ⟨rfl, b11⟩
  have d11 := Below.then d10 b11
  have k11 : Kept (fun _ => False) w2 w11 := Kept.of_below d11
  have Lt11 := Lt2.keep k11 (by simp)
  have Lx11 := Lx2.keep k11 (by simp)
  have b12 := Below.then b2 d11
  clear d10 b11 d11 k11 Lt2 Lx2 rx2 rl2 rt2 ht2 b2
  go_wp2_with fail
  have B0 : BookK (w11.alloc (.cells (bookCells 0 (.slice none 0 0)) 46)) w11.heap.size 0 (.slice none 0 0) [] := ⟨heap_alloc_new w11 _, World.ownsRow_nil _ _ _ _⟩
  have K0 : Kept (fun b => w11.heap.size ≤ b) w11 (w11.alloc (.cells (bookCells 0 (.slice none 0 0)) 46)) := (Kept.refl _ _).alloc _
  refine (texts_any w11.heap.size 0 _ [] _ m (m + 1) _ B0 (by omega)).mono ?_
  rintro e w12 ⟨rfl, v1, B1, K1⟩
  have K01 := K0.trans K1
  clear B0 K0 K1
  go_wp2_with fail
  refine (texts_any w11.heap.size 1 _ _ _ n2 c2 _ B1 (by omega)).mono ?_
  rintro e w13 ⟨rfl, v2, B2, K2⟩
  have K02 := K01.trans K2
  clear B1 K01 K2
  have lt0 := Lt11.lt
  have hxlt : ∀ g', A2 = some ⟨g', 0, none⟩ → g' < w11.heap.size := by
    intro g' e
    rcases Lx11 with ⟨h', _⟩ | ⟨g'', h', _, h3⟩
    · rw [h'] at e; cases e
    · rw [h'] at e
      injection e with e
      injection e with e
      rw [← e]
      exact h3.lt
  have Lx11' : Lone w13 (g + 1) A2 n2 c2 := by
    have := Lx11.keep K02 (fun g' h => by omega)
    rcases this with h' | ⟨g'', h1, h2, h3⟩
    · exact .inl h'
    · exact .inr ⟨g'', h1, by omega, h3⟩
  obtain ⟨hb, cap, g1, zb, hbk, hg1, hBook⟩ := book2 B2 (Lt11.keep K02 (by omega)) Lx11' lt0 hxlt
  have hblk := Lib.hid B2.blk
  clear B2
  go_wp2_with fail
  refine (apart_any _ v2 _ hBook hblk.out).mono ?_
  rintro e w16 ⟨rfl, K16⟩
  go_wp2_with fail
  go_ret
  refine ⟨rfl, b12.trans ((K02.below b12.size (fun b hb => by have := b12.size; omega)).trans (K16.below ?_ ?_))⟩
  · exact Nat.le_trans b12.size K02.size
  · rintro b (e | ⟨j, hj, e⟩)
    · have e : b = hb := e
      have := b12.size
      omega
    · rw [e]
      show w.heap.size ≤ (if j = 0 then g else g1)
      split <;> omega
end Go.Proofs.YtkjeejaecagbaaaGreatDoor
