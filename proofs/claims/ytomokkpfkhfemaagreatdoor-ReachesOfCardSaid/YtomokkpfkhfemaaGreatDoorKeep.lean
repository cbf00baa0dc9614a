/- Lists of bools, lists of such lists, and lists of bounds are kept in a book. -/
import Derived.Test.YtomokkpfkhfemaaGreatDoorGBook
import Derived.OwnWalk
import Derived.LoopTactic
import Derived.Handy
import Derived.Below
import Derived.Test.YtomokkpfkhfemaaGreatDoorLaHas
namespace Go.Proofs.YtomokkpfkhfemaaGreatDoor
open Go.RowKit

/-- The book's cells: how many, and what of these kinds; nothing else is held. -/
def bookCells (k : Int) (vO vL vB : Value) : Array Value := #[.int .i64 k, .slice none 0 0, .slice none 0 0, .slice none 0 0, .slice none 0 0, vO, vL, .slice none 0 0, .slice none 0 0, vB, .slice none 0 0, .slice none 0 0, .slice none 0 0, .slice none 0 0, .slice none 0 0, .slice none 0 0]

structure BookK (w : World) (bk k : Nat) (vO : Value) (kO : Nat) (xO : List Value) (vL : Value) (kL : Nat) (xL : List Value) (vB : Value) (kB : Nat) (xB : List Value) : Prop where
  blk : w.heap[bk]? = some (.cells (bookCells (k : Int) vO vL vB) 46 (0, 0))
  oO : w.ownsRow (bk + 1) 88 3 vO kO xO
  oL : w.ownsRow (bk + 1) 70 3 vL kL xL
  oB : w.ownsRow (bk + 1) 68 3 vB kB xB

theorem three_src (w : World) (u0 u1 u2 : Value) (e : TypeId) : ∀ j x, [u0, u1, u2][j]? = some x → ((w.alloc (.cells #[u0, u1, u2] e)).drew).cell? ((⟨w.heap.size, 0, none⟩ : Addr).add j) = some x := by
  intro j x hx
  have hb := heap_alloc_new w (.cells #[u0, u1, u2] e)
  rw [Addr.add_lit, Nat.zero_add]
  show (w.alloc (.cells #[u0, u1, u2] e)).cell? ⟨w.heap.size, j, none⟩ = some x
  rw [cell_blk hb, ← hx]
  simp

/-- A row of another kind stays. -/
theorem row_far {W W' : World} {b n m sz1 sz2 : Nat} {E F : TypeId} {v y : Value} {xs ys : List Value} (hE : E ≠ F) (hy : W.ownsRow b E sz1 y m ys) (hv : W.ownsRow b F sz2 v n xs) (hg : W.grownBy W' v.ownBlock) : W'.ownsRow b E sz1 y m ys :=
  own_blk hy fun q e => hg.block q (hy.lt q e).2 fun e' => by
    rcases hy.2 with ⟨rfl, _⟩ | ⟨g, cap, cur, rfl, _, h1, _⟩
    · cases e
    rcases hv.2 with ⟨rfl, _⟩ | ⟨g', cap', cur', rfl, _, h2, _⟩
    · cases e'
    have a1 : g = q := by simpa [Value.ownBlock] using e
    have a2 : q = g' := by simpa [Value.ownBlock] using e'
    exact ne_type h1 h2 hE (a1.trans a2)

set_option maxRecDepth 100000 in
set_option maxHeartbeats 2000000 in
theorem keepO_any (bk k : Nat) (vO : Value) (kO : Nat) (xO : List Value) (vL : Value) (kL : Nat) (xL : List Value) (vB : Value) (kB : Nat) (xB : List Value) (A : Option Addr) (n c : Nat) (w : World) (hB : BookK w bk k vO kO xO vL kL xL vB kB xB) (hk : k ≤ 90) (hkk : kO ≤ 90) :
    Calls Tryz.prog 66 #[.pointer (some ⟨bk, 0, none⟩), .slice A n c] w fun e w' => e = .returned (.tuple #[]) ∧ ∃ v', BookK w' bk (k + 1) v' (kO + 1) (xO ++ [.slice A n c, .slice none 0 0, .int .i64 ((k : Int) + 1)]) vL kL xL vB kB xB ∧ Kept (fun b => bk ≤ b) w w' := by
  obtain ⟨i0, hi0, hz0, hz1, hz2⟩ := info_parts (show (Tryz.prog.info? 88).map (fun i => (i.zero, i.size, i.bytes)) = some (some (.agg #[.slice none 0 0, .slice none 0 0, .int .i64 0]), 3, 56) by kernel_rfl)
  have c0 : w.cell? ⟨bk, 0, none⟩ = some (.int .i64 (k : Int)) := by rw [cell_blk hB.blk]; rfl
  have f0 : w.frozen? ⟨bk, 0, none⟩ = false := frozen_blk hB.blk
  go_enter Tryz.func66, Tryz.ntmps66
  go_wp2
  have hb1 : (w.setCell ⟨bk, 0, none⟩ (.int .i64 ((k : Int) + 1))).heap[bk]? = some (.cells (bookCells ((k : Int) + 1) vO vL vB) 46 (0, 0)) := by rw [set_blk hB.blk]; rfl
  have hon : (w.setCell ⟨bk, 0, none⟩ (.int .i64 ((k : Int) + 1))).ownsRow (bk + 1) 88 3 vO kO xO := ownsRow_setCell_below hB.oO (by simp) _
  have hotL : (w.setCell ⟨bk, 0, none⟩ (.int .i64 ((k : Int) + 1))).ownsRow (bk + 1) 70 3 vL kL xL := ownsRow_setCell_below hB.oL (by simp) _
  have hotB : (w.setCell ⟨bk, 0, none⟩ (.int .i64 ((k : Int) + 1))).ownsRow (bk + 1) 68 3 vB kB xB := ownsRow_setCell_below hB.oB (by simp) _
  have hk1 : Kept (fun b => bk ≤ b) w (w.setCell ⟨bk, 0, none⟩ (.int .i64 ((k : Int) + 1))) := Kept.setCell (D := fun b => bk ≤ b) (p := ⟨bk, 0, none⟩) (Kept.refl _ _) (.inl (Nat.le_refl bk)) _
  have hbk := lt_blk hB.blk
  clear c0 f0 hB
  generalize w.setCell ⟨bk, 0, none⟩ (.int .i64 ((k : Int) + 1)) = w1 at *
  have d0 : w1.cell? ⟨bk, 0, none⟩ = some (.int .i64 ((k : Int) + 1)) := by rw [cell_blk hb1]; rfl
  have d1 : w1.cell? ⟨bk, 5, none⟩ = some vO := by rw [cell_blk hb1]; rfl
  obtain ⟨vA, vc, hv⟩ : ∃ A c, vO = .slice A kO c := by
    rcases hon.2 with ⟨rfl, rfl⟩ | ⟨g, cap, cur, rfl, _⟩
    · exact ⟨_, _, rfl⟩
    · exact ⟨_, _, rfl⟩
  subst hv
  have HB1 := Lib.hid hb1
  clear hb1
  refine wp_region_ord [0, 1, 2, 3, 4, 5, 6, 7, 8, 9, 10, 11, 12, 13, 14, 15] [11, 12, 13, 14, 15] 15 (fun w' => w'.cell? ⟨bk, 0, none⟩ = some (.int .i64 ((k : Int) + 1)) ∧ w'.cell? ⟨bk, 5, none⟩ = some (.slice vA kO vc)) (by kernel_rfl) (by kernel_rfl) (by kernel_rfl) (by kernel_rfl) (fun _ _ _ _ _ h => h) ⟨d0, d1⟩ ?_
  simp only [steps, List.getElem?_cons_zero, List.getElem?_cons_succ]
  repeat (first
    | (refine ord_no rfl ?_; simp only [Act.put, List.setIfInBounds_toArray, List.set_cons_zero, List.set_cons_succ])
    | (refine ord_yes (v := ?_) rfl rfl ?_ ?_; rotate_left; (focus (rintro w' ⟨hS0, hS2⟩; go_simp; try with_reducible rfl)); simp only [Act.put, List.setIfInBounds_toArray, List.set_cons_zero, List.set_cons_succ]))
  refine ord_hard rfl rfl (fun K hK => ?_)
  go_simp
  have hal : ∀ (o : Obj) (j : Nat), ((w1.alloc o).drew).cell? ⟨bk, j, none⟩ = w1.cell? ⟨bk, j, none⟩ := fun o j => World.cell?_alloc_lt w1 o ⟨bk, j, none⟩ (lt_blk HB1.out)
  refine hK.out _ _ (fun _ => ⟨(hal _ 0).trans d0, (hal _ 5).trans d1⟩) ?_
  clear hK K
  refine ord_hard rfl rfl (fun K hK => ?_)
  have hoa := hon.alloc (.cells #[.slice A n c, .slice none 0 0, .int .i64 ((k : Int) + 1)] 88)
  have halotL := hotL.alloc (.cells #[.slice A n c, .slice none 0 0, .int .i64 ((k : Int) + 1)] 88)
  have halotB := hotB.alloc (.cells #[.slice A n c, .slice none 0 0, .int .i64 ((k : Int) + 1)] 88)
  refine wp_append_own _ (.tmp 15) (.tmp 22) 34 rfl (bk + 1) 88 i0 _ 3 56 Tryz.underlying34 hi0 hz0 hz1 hz2 rfl (by decide) (.slice vA kO vc) kO xO rfl hoa ⟨w1.heap.size, 0, none⟩ 1 1 [.slice A n c, .slice none 0 0, .int .i64 ((k : Int) + 1)] rfl rfl ?_ ?_ (by unfold maxLen; omega) (by omega) ?_ ?_
  · exact three_src w1 _ _ _ 88
  · intro u hu
    simp only [List.mem_cons, List.not_mem_nil, or_false] at hu
    rcases hu with rfl | rfl | rfl <;> rfl
  · have := lt_blk HB1.out
    show bk + 1 ≤ (w1.alloc _).heap.size
    simp
    omega
  intro v2 w2 ho2 hg2 hn2
  have hne : some bk ≠ (Value.slice vA kO vc).ownBlock := by
    intro e
    have := (hon.lt bk e.symm).1
    omega
  have hb2 : w2.heap[bk]? = some (.cells (bookCells ((k : Int) + 1) (.slice vA kO vc) vL vB) 46 (0, 0)) := by
    rw [hg2.block bk (by have := lt_blk HB1.out; show bk < (w1.alloc _).heap.size; simp; omega) hne]
    exact (Below.heap_alloc w1 _ bk (lt_blk HB1.out)).trans HB1.out
  have g0 : w2.cell? ⟨bk, 0, none⟩ = some (.int .i64 ((k : Int) + 1)) := by rw [cell_blk hb2]; rfl
  have g1 : w2.cell? ⟨bk, 5, none⟩ = some (.slice vA kO vc) := by rw [cell_blk hb2]; rfl
  have f1 : w2.frozen? ⟨bk, 5, none⟩ = false := frozen_blk hb2
  have HB2 := Lib.hid hb2
  have HotL : Hid (w2.ownsRow (bk + 1) 70 3 vL kL xL) := Lib.hid (row_far (by decide) halotL hoa ⟨hg2.os, hg2.tape, hg2.output, hg2.size, hg2.block⟩)
  have HotB : Hid (w2.ownsRow (bk + 1) 68 3 vB kB xB) := Lib.hid (row_far (by decide) halotB hoa ⟨hg2.os, hg2.tape, hg2.output, hg2.size, hg2.block⟩)
  have hk2 : Kept (fun b => bk ≤ b) w w2 := hk1.trans ⟨hg2.os, hg2.tape, hg2.output, Nat.le_trans (by simp) hg2.size, fun b hb hn => (hg2.block b (Nat.lt_of_lt_of_le hb (by show _ ≤ (w1.alloc _).heap.size; simp)) (fun e => by have := (hon.lt b e.symm).1; omega)).trans (Below.heap_alloc w1 _ b hb)⟩
  clear hb2 d0 d1 hal
  refine hK.out _ _ (fun _ => ⟨g0, g1⟩) ?_
  clear hK K
  simp only [Act.put, List.setIfInBounds_toArray, List.set_cons_zero, List.set_cons_succ]
  refine ord_hard rfl rfl (fun K hK => ?_)
  go_simp
  refine hK.out _ _ (fun _ => ⟨g0, g1⟩) ?_
  clear hK K
  refine ord_hard rfl rfl (fun K hK => ?_)
  go_simp
  refine hK.out _ _ (fun _ => ⟨g0, g1⟩) ?_
  clear hK K
  obtain ⟨A2, c2, hv2⟩ : ∃ A c, v2 = .slice A (kO + 1) c := by
    rcases ho2.2 with ⟨rfl, e⟩ | ⟨g, cap, cur, rfl, _⟩
    · omega
    · exact ⟨_, _, rfl⟩
  subst hv2
  refine ord_hard rfl rfl (fun K hK => ?_)
  go_simp
  refine hK.out _ _ (fun h => absurd rfl h) ?_
  clear hK K
  refine ord_end ?_
  go_wp2
  go_end0
  refine ⟨rfl, .slice A2 (kO + 1) c2, ⟨?_, ?_, ownsRow_setCell_below HotL.out (by simp) _, ownsRow_setCell_below HotB.out (by simp) _⟩, ?_⟩
  · rw [set_blk HB2.out, Int.natCast_add]
    rfl
  · exact ownsRow_setCell_below ho2 (by simp) _
  · exact Kept.setCell (D := fun b => bk ≤ b) (p := ⟨bk, 5, none⟩) hk2 (.inl (Nat.le_refl bk)) _

theorem putO_any (bk k : Nat) (vO : Value) (kO : Nat) (xO : List Value) (vL : Value) (kL : Nat) (xL : List Value) (vB : Value) (kB : Nat) (xB : List Value) (A : Option Addr) (n c : Nat) (w : World) (hB : BookK w bk k vO kO xO vL kL xL vB kB xB) (hk : k ≤ 90) (hkk : kO ≤ 90) :
    Calls Tryz.prog 18 #[.pointer (some ⟨bk, 0, none⟩), .slice A n c] w fun e w' => e = .returned (.tuple #[]) ∧ ∃ v', BookK w' bk (k + 1) v' (kO + 1) (xO ++ [.slice A n c, .slice none 0 0, .int .i64 ((k : Int) + 1)]) vL kL xL vB kB xB ∧ Kept (fun b => bk ≤ b) w w' := by
  go_enter Tryz.func18, Tryz.ntmps18
  go_wp2_with fail
  refine (keepO_any bk k vO kO xO vL kL xL vB kB xB A n c _ hB hk hkk).mono ?_
  rintro e w1 ⟨rfl, v1, hB1, hk1⟩
  go_wp2_with fail
  go_end0
  exact ⟨rfl, v1, hB1, hk1⟩

set_option maxRecDepth 100000 in
set_option maxHeartbeats 2000000 in
theorem keepL_any (bk k : Nat) (vO : Value) (kO : Nat) (xO : List Value) (vL : Value) (kL : Nat) (xL : List Value) (vB : Value) (kB : Nat) (xB : List Value) (A : Option Addr) (n c : Nat) (w : World) (hB : BookK w bk k vO kO xO vL kL xL vB kB xB) (hk : k ≤ 90) (hkk : kL ≤ 90) :
    Calls Tryz.prog 19 #[.pointer (some ⟨bk, 0, none⟩), .slice A n c] w fun e w' => e = .returned (.tuple #[]) ∧ ∃ v', BookK w' bk (k + 1) vO kO xO v' (kL + 1) (xL ++ [.slice A n c, .slice none 0 0, .int .i64 ((k : Int) + 1)]) vB kB xB ∧ Kept (fun b => bk ≤ b) w w' := by
  obtain ⟨i0, hi0, hz0, hz1, hz2⟩ := info_parts (show (Tryz.prog.info? 70).map (fun i => (i.zero, i.size, i.bytes)) = some (some (.agg #[.slice none 0 0, .slice none 0 0, .int .i64 0]), 3, 56) by kernel_rfl)
  have c0 : w.cell? ⟨bk, 0, none⟩ = some (.int .i64 (k : Int)) := by rw [cell_blk hB.blk]; rfl
  have f0 : w.frozen? ⟨bk, 0, none⟩ = false := frozen_blk hB.blk
  go_enter Tryz.func19, Tryz.ntmps19
  go_wp2
  have hb1 : (w.setCell ⟨bk, 0, none⟩ (.int .i64 ((k : Int) + 1))).heap[bk]? = some (.cells (bookCells ((k : Int) + 1) vO vL vB) 46 (0, 0)) := by rw [set_blk hB.blk]; rfl
  have hon : (w.setCell ⟨bk, 0, none⟩ (.int .i64 ((k : Int) + 1))).ownsRow (bk + 1) 70 3 vL kL xL := ownsRow_setCell_below hB.oL (by simp) _
  have hotO : (w.setCell ⟨bk, 0, none⟩ (.int .i64 ((k : Int) + 1))).ownsRow (bk + 1) 88 3 vO kO xO := ownsRow_setCell_below hB.oO (by simp) _
  have hotB : (w.setCell ⟨bk, 0, none⟩ (.int .i64 ((k : Int) + 1))).ownsRow (bk + 1) 68 3 vB kB xB := ownsRow_setCell_below hB.oB (by simp) _
  have hk1 : Kept (fun b => bk ≤ b) w (w.setCell ⟨bk, 0, none⟩ (.int .i64 ((k : Int) + 1))) := Kept.setCell (D := fun b => bk ≤ b) (p := ⟨bk, 0, none⟩) (Kept.refl _ _) (.inl (Nat.le_refl bk)) _
  have hbk := lt_blk hB.blk
  clear c0 f0 hB
  generalize w.setCell ⟨bk, 0, none⟩ (.int .i64 ((k : Int) + 1)) = w1 at *
  have d0 : w1.cell? ⟨bk, 0, none⟩ = some (.int .i64 ((k : Int) + 1)) := by rw [cell_blk hb1]; rfl
  have d1 : w1.cell? ⟨bk, 6, none⟩ = some vL := by rw [cell_blk hb1]; rfl
  obtain ⟨vA, vc, hv⟩ : ∃ A c, vL = .slice A kL c := by
    rcases hon.2 with ⟨rfl, rfl⟩ | ⟨g, cap, cur, rfl, _⟩
    · exact ⟨_, _, rfl⟩
    · exact ⟨_, _, rfl⟩
  subst hv
  have HB1 := Lib.hid hb1
  clear hb1
  refine wp_region_ord [0, 1, 2, 3, 4, 5, 6, 7, 8, 9, 10, 11, 12, 13, 14, 15] [11, 12, 13, 14, 15] 15 (fun w' => w'.cell? ⟨bk, 0, none⟩ = some (.int .i64 ((k : Int) + 1)) ∧ w'.cell? ⟨bk, 6, none⟩ = some (.slice vA kL vc)) (by kernel_rfl) (by kernel_rfl) (by kernel_rfl) (by kernel_rfl) (fun _ _ _ _ _ h => h) ⟨d0, d1⟩ ?_
  simp only [steps, List.getElem?_cons_zero, List.getElem?_cons_succ]
  repeat (first
    | (refine ord_no rfl ?_; simp only [Act.put, List.setIfInBounds_toArray, List.set_cons_zero, List.set_cons_succ])
    | (refine ord_yes (v := ?_) rfl rfl ?_ ?_; rotate_left; (focus (rintro w' ⟨hS0, hS2⟩; go_simp; try with_reducible rfl)); simp only [Act.put, List.setIfInBounds_toArray, List.set_cons_zero, List.set_cons_succ]))
  refine ord_hard rfl rfl (fun K hK => ?_)
  go_simp
  have hal : ∀ (o : Obj) (j : Nat), ((w1.alloc o).drew).cell? ⟨bk, j, none⟩ = w1.cell? ⟨bk, j, none⟩ := fun o j => World.cell?_alloc_lt w1 o ⟨bk, j, none⟩ (lt_blk HB1.out)
  refine hK.out _ _ (fun _ => ⟨(hal _ 0).trans d0, (hal _ 6).trans d1⟩) ?_
  clear hK K
  refine ord_hard rfl rfl (fun K hK => ?_)
  have hoa := hon.alloc (.cells #[.slice A n c, .slice none 0 0, .int .i64 ((k : Int) + 1)] 70)
  have halotO := hotO.alloc (.cells #[.slice A n c, .slice none 0 0, .int .i64 ((k : Int) + 1)] 70)
  have halotB := hotB.alloc (.cells #[.slice A n c, .slice none 0 0, .int .i64 ((k : Int) + 1)] 70)
  refine wp_append_own _ (.tmp 15) (.tmp 22) 35 rfl (bk + 1) 70 i0 _ 3 56 Tryz.underlying35 hi0 hz0 hz1 hz2 rfl (by decide) (.slice vA kL vc) kL xL rfl hoa ⟨w1.heap.size, 0, none⟩ 1 1 [.slice A n c, .slice none 0 0, .int .i64 ((k : Int) + 1)] rfl rfl ?_ ?_ (by unfold maxLen; omega) (by omega) ?_ ?_
  · exact three_src w1 _ _ _ 70
  · intro u hu
    simp only [List.mem_cons, List.not_mem_nil, or_false] at hu
    rcases hu with rfl | rfl | rfl <;> rfl
  · have := lt_blk HB1.out
    show bk + 1 ≤ (w1.alloc _).heap.size
    simp
    omega
  intro v2 w2 ho2 hg2 hn2
  have hne : some bk ≠ (Value.slice vA kL vc).ownBlock := by
    intro e
    have := (hon.lt bk e.symm).1
    omega
  have hb2 : w2.heap[bk]? = some (.cells (bookCells ((k : Int) + 1) vO (.slice vA kL vc) vB) 46 (0, 0)) := by
    rw [hg2.block bk (by have := lt_blk HB1.out; show bk < (w1.alloc _).heap.size; simp; omega) hne]
    exact (Below.heap_alloc w1 _ bk (lt_blk HB1.out)).trans HB1.out
  have g0 : w2.cell? ⟨bk, 0, none⟩ = some (.int .i64 ((k : Int) + 1)) := by rw [cell_blk hb2]; rfl
  have g1 : w2.cell? ⟨bk, 6, none⟩ = some (.slice vA kL vc) := by rw [cell_blk hb2]; rfl
  have f1 : w2.frozen? ⟨bk, 6, none⟩ = false := frozen_blk hb2
  have HB2 := Lib.hid hb2
  have HotO : Hid (w2.ownsRow (bk + 1) 88 3 vO kO xO) := Lib.hid (row_far (by decide) halotO hoa ⟨hg2.os, hg2.tape, hg2.output, hg2.size, hg2.block⟩)
  have HotB : Hid (w2.ownsRow (bk + 1) 68 3 vB kB xB) := Lib.hid (row_far (by decide) halotB hoa ⟨hg2.os, hg2.tape, hg2.output, hg2.size, hg2.block⟩)
  have hk2 : Kept (fun b => bk ≤ b) w w2 := hk1.trans ⟨hg2.os, hg2.tape, hg2.output, Nat.le_trans (by simp) hg2.size, fun b hb hn => (hg2.block b (Nat.lt_of_lt_of_le hb (by show _ ≤ (w1.alloc _).heap.size; simp)) (fun e => by have := (hon.lt b e.symm).1; omega)).trans (Below.heap_alloc w1 _ b hb)⟩
  clear hb2 d0 d1 hal
  refine hK.out _ _ (fun _ => ⟨g0, g1⟩) ?_
  clear hK K
  simp only [Act.put, List.setIfInBounds_toArray, List.set_cons_zero, List.set_cons_succ]
  refine ord_hard rfl rfl (fun K hK => ?_)
  go_simp
  refine hK.out _ _ (fun _ => ⟨g0, g1⟩) ?_
  clear hK K
  refine ord_hard rfl rfl (fun K hK => ?_)
  go_simp
  refine hK.out _ _ (fun _ => ⟨g0, g1⟩) ?_
  clear hK K
  obtain ⟨A2, c2, hv2⟩ : ∃ A c, v2 = .slice A (kL + 1) c := by
    rcases ho2.2 with ⟨rfl, e⟩ | ⟨g, cap, cur, rfl, _⟩
    · omega
    · exact ⟨_, _, rfl⟩
  subst hv2
  refine ord_hard rfl rfl (fun K hK => ?_)
  go_simp
  refine hK.out _ _ (fun h => absurd rfl h) ?_
  clear hK K
  refine ord_end ?_
  go_wp2
  go_end0
  refine ⟨rfl, .slice A2 (kL + 1) c2, ⟨?_, ownsRow_setCell_below HotO.out (by simp) _, ?_, ownsRow_setCell_below HotB.out (by simp) _⟩, ?_⟩
  · rw [set_blk HB2.out, Int.natCast_add]
    rfl
  · exact ownsRow_setCell_below ho2 (by simp) _
  · exact Kept.setCell (D := fun b => bk ≤ b) (p := ⟨bk, 6, none⟩) hk2 (.inl (Nat.le_refl bk)) _


set_option maxRecDepth 100000 in
set_option maxHeartbeats 2000000 in
theorem keepB_any (bk k : Nat) (vO : Value) (kO : Nat) (xO : List Value) (vL : Value) (kL : Nat) (xL : List Value) (vB : Value) (kB : Nat) (xB : List Value) (A : Option Addr) (n c : Nat) (w : World) (hB : BookK w bk k vO kO xO vL kL xL vB kB xB) (hk : k ≤ 90) (hkk : kB ≤ 90) :
    Calls Tryz.prog 17 #[.pointer (some ⟨bk, 0, none⟩), .slice A n c] w fun e w' => e = .returned (.tuple #[]) ∧ ∃ v', BookK w' bk (k + 1) vO kO xO vL kL xL v' (kB + 1) (xB ++ [.slice A n c, .slice none 0 0, .int .i64 ((k : Int) + 1)]) ∧ Kept (fun b => bk ≤ b) w w' := by
  obtain ⟨i0, hi0, hz0, hz1, hz2⟩ := info_parts (show (Tryz.prog.info? 68).map (fun i => (i.zero, i.size, i.bytes)) = some (some (.agg #[.slice none 0 0, .slice none 0 0, .int .i64 0]), 3, 56) by kernel_rfl)
  have c0 : w.cell? ⟨bk, 0, none⟩ = some (.int .i64 (k : Int)) := by rw [cell_blk hB.blk]; rfl
  have f0 : w.frozen? ⟨bk, 0, none⟩ = false := frozen_blk hB.blk
  go_enter Tryz.func17, Tryz.ntmps17
  go_wp2
  have hb1 : (w.setCell ⟨bk, 0, none⟩ (.int .i64 ((k : Int) + 1))).heap[bk]? = some (.cells (bookCells ((k : Int) + 1) vO vL vB) 46 (0, 0)) := by rw [set_blk hB.blk]; rfl
  have hon : (w.setCell ⟨bk, 0, none⟩ (.int .i64 ((k : Int) + 1))).ownsRow (bk + 1) 68 3 vB kB xB := ownsRow_setCell_below hB.oB (by simp) _
  have hotO : (w.setCell ⟨bk, 0, none⟩ (.int .i64 ((k : Int) + 1))).ownsRow (bk + 1) 88 3 vO kO xO := ownsRow_setCell_below hB.oO (by simp) _
  have hotL : (w.setCell ⟨bk, 0, none⟩ (.int .i64 ((k : Int) + 1))).ownsRow (bk + 1) 70 3 vL kL xL := ownsRow_setCell_below hB.oL (by simp) _
  have hk1 : Kept (fun b => bk ≤ b) w (w.setCell ⟨bk, 0, none⟩ (.int .i64 ((k : Int) + 1))) := Kept.setCell (D := fun b => bk ≤ b) (p := ⟨bk, 0, none⟩) (Kept.refl _ _) (.inl (Nat.le_refl bk)) _
  have hbk := lt_blk hB.blk
  clear c0 f0 hB
  generalize w.setCell ⟨bk, 0, none⟩ (.int .i64 ((k : Int) + 1)) = w1 at *
  have d0 : w1.cell? ⟨bk, 0, none⟩ = some (.int .i64 ((k : Int) + 1)) := by rw [cell_blk hb1]; rfl
  have d1 : w1.cell? ⟨bk, 9, none⟩ = some vB := by rw [cell_blk hb1]; rfl
  obtain ⟨vA, vc, hv⟩ : ∃ A c, vB = .slice A kB c := by
    rcases hon.2 with ⟨rfl, rfl⟩ | ⟨g, cap, cur, rfl, _⟩
    · exact ⟨_, _, rfl⟩
    · exact ⟨_, _, rfl⟩
  subst hv
  have HB1 := Lib.hid hb1
  clear hb1
  refine wp_region_ord [0, 1, 2, 3, 4, 5, 6, 7, 8, 9, 10, 11, 12, 13, 14, 15] [11, 12, 13, 14, 15] 15 (fun w' => w'.cell? ⟨bk, 0, none⟩ = some (.int .i64 ((k : Int) + 1)) ∧ w'.cell? ⟨bk, 9, none⟩ = some (.slice vA kB vc)) (by kernel_rfl) (by kernel_rfl) (by kernel_rfl) (by kernel_rfl) (fun _ _ _ _ _ h => h) ⟨d0, d1⟩ ?_
  simp only [steps, List.getElem?_cons_zero, List.getElem?_cons_succ]
  repeat (first
    | (refine ord_no rfl ?_; simp only [Act.put, List.setIfInBounds_toArray, List.set_cons_zero, List.set_cons_succ])
    | (refine ord_yes (v := ?_) rfl rfl ?_ ?_; rotate_left; (focus (rintro w' ⟨hS0, hS2⟩; go_simp; try with_reducible rfl)); simp only [Act.put, List.setIfInBounds_toArray, List.set_cons_zero, List.set_cons_succ]))
  refine ord_hard rfl rfl (fun K hK => ?_)
  go_simp
  have hal : ∀ (o : Obj) (j : Nat), ((w1.alloc o).drew).cell? ⟨bk, j, none⟩ = w1.cell? ⟨bk, j, none⟩ := fun o j => World.cell?_alloc_lt w1 o ⟨bk, j, none⟩ (lt_blk HB1.out)
  refine hK.out _ _ (fun _ => ⟨(hal _ 0).trans d0, (hal _ 9).trans d1⟩) ?_
  clear hK K
  refine ord_hard rfl rfl (fun K hK => ?_)
  have hoa := hon.alloc (.cells #[.slice A n c, .slice none 0 0, .int .i64 ((k : Int) + 1)] 68)
  have halotO := hotO.alloc (.cells #[.slice A n c, .slice none 0 0, .int .i64 ((k : Int) + 1)] 68)
  have halotL := hotL.alloc (.cells #[.slice A n c, .slice none 0 0, .int .i64 ((k : Int) + 1)] 68)
  refine wp_append_own _ (.tmp 15) (.tmp 22) 38 rfl (bk + 1) 68 i0 _ 3 56 Tryz.underlying38 hi0 hz0 hz1 hz2 rfl (by decide) (.slice vA kB vc) kB xB rfl hoa ⟨w1.heap.size, 0, none⟩ 1 1 [.slice A n c, .slice none 0 0, .int .i64 ((k : Int) + 1)] rfl rfl ?_ ?_ (by unfold maxLen; omega) (by omega) ?_ ?_
  · exact three_src w1 _ _ _ 68
  · intro u hu
    simp only [List.mem_cons, List.not_mem_nil, or_false] at hu
    rcases hu with rfl | rfl | rfl <;> rfl
  · have := lt_blk HB1.out
    show bk + 1 ≤ (w1.alloc _).heap.size
    simp
    omega
  intro v2 w2 ho2 hg2 hn2
  have hne : some bk ≠ (Value.slice vA kB vc).ownBlock := by
    intro e
    have := (hon.lt bk e.symm).1
    omega
  have hb2 : w2.heap[bk]? = some (.cells (bookCells ((k : Int) + 1) vO vL (.slice vA kB vc)) 46 (0, 0)) := by
    rw [hg2.block bk (by have := lt_blk HB1.out; show bk < (w1.alloc _).heap.size; simp; omega) hne]
    exact (Below.heap_alloc w1 _ bk (lt_blk HB1.out)).trans HB1.out
  have g0 : w2.cell? ⟨bk, 0, none⟩ = some (.int .i64 ((k : Int) + 1)) := by rw [cell_blk hb2]; rfl
  have g1 : w2.cell? ⟨bk, 9, none⟩ = some (.slice vA kB vc) := by rw [cell_blk hb2]; rfl
  have f1 : w2.frozen? ⟨bk, 9, none⟩ = false := frozen_blk hb2
  have HB2 := Lib.hid hb2
  have HotO : Hid (w2.ownsRow (bk + 1) 88 3 vO kO xO) := Lib.hid (row_far (by decide) halotO hoa ⟨hg2.os, hg2.tape, hg2.output, hg2.size, hg2.block⟩)
  have HotL : Hid (w2.ownsRow (bk + 1) 70 3 vL kL xL) := Lib.hid (row_far (by decide) halotL hoa ⟨hg2.os, hg2.tape, hg2.output, hg2.size, hg2.block⟩)
  have hk2 : Kept (fun b => bk ≤ b) w w2 := hk1.trans ⟨hg2.os, hg2.tape, hg2.output, Nat.le_trans (by simp) hg2.size, fun b hb hn => (hg2.block b (Nat.lt_of_lt_of_le hb (by show _ ≤ (w1.alloc _).heap.size; simp)) (fun e => by have := (hon.lt b e.symm).1; omega)).trans (Below.heap_alloc w1 _ b hb)⟩
  clear hb2 d0 d1 hal
  refine hK.out _ _ (fun _ => ⟨g0, g1⟩) ?_
  clear hK K
  simp only [Act.put, List.setIfInBounds_toArray, List.set_cons_zero, List.set_cons_succ]
  refine ord_hard rfl rfl (fun K hK => ?_)
  go_simp
  refine hK.out _ _ (fun _ => ⟨g0, g1⟩) ?_
  clear hK K
  refine ord_hard rfl rfl (fun K hK => ?_)
  go_simp
  refine hK.out _ _ (fun _ => ⟨g0, g1⟩) ?_
  clear hK K
  obtain ⟨A2, c2, hv2⟩ : ∃ A c, v2 = .slice A (kB + 1) c := by
    rcases ho2.2 with ⟨rfl, e⟩ | ⟨g, cap, cur, rfl, _⟩
    · omega
    · exact ⟨_, _, rfl⟩
  subst hv2
  refine ord_hard rfl rfl (fun K hK => ?_)
  go_simp
  refine hK.out _ _ (fun h => absurd rfl h) ?_
  clear hK K
  refine ord_end ?_
  go_wp2
  go_end0
  refine ⟨rfl, .slice A2 (kB + 1) c2, ⟨?_, ownsRow_setCell_below HotO.out (by simp) _, ownsRow_setCell_below HotL.out (by simp) _, ?_⟩, ?_⟩
  · rw [set_blk HB2.out, Int.natCast_add]
    rfl
  · exact ownsRow_setCell_below ho2 (by simp) _
  · exact Kept.setCell (D := fun b => bk ≤ b) (p := ⟨bk, 9, none⟩) hk2 (.inl (Nat.le_refl bk)) _

theorem putB_any (bk k : Nat) (vO : Value) (kO : Nat) (xO : List Value) (vL : Value) (kL : Nat) (xL : List Value) (vB : Value) (kB : Nat) (xB : List Value) (A : Option Addr) (n c : Nat) (w : World) (hB : BookK w bk k vO kO xO vL kL xL vB kB xB) (hk : k ≤ 90) (hkk : kB ≤ 90) :
    Calls Tryz.prog 9 #[.pointer (some ⟨bk, 0, none⟩), .slice A n c] w fun e w' => e = .returned (.tuple #[]) ∧ ∃ v', BookK w' bk (k + 1) vO kO xO vL kL xL v' (kB + 1) (xB ++ [.slice A n c, .slice none 0 0, .int .i64 ((k : Int) + 1)]) ∧ Kept (fun b => bk ≤ b) w w' := by
  go_enter Tryz.func9, Tryz.ntmps9
  go_wp2_with fail
  refine (keepB_any bk k vO kO xO vL kL xL vB kB xB A n c _ hB hk hkk).mono ?_
  rintro e w1 ⟨rfl, v1, hB1, hk1⟩
  go_wp2_with fail
  go_end0
  exact ⟨rfl, v1, hB1, hk1⟩
end Go.Proofs.YtomokkpfkhfemaaGreatDoor
