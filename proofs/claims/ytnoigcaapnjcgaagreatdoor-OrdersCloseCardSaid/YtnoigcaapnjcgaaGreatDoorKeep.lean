/- A list of pairs and a list of numbers are kept in a book. -/
import Derived.Test.YtnoigcaapnjcgaaGreatDoorPairBook
import Derived.Test.YtnoigcaapnjcgaaGreatDoorOrder
import Derived.Test.YtnoigcaapnjcgaaGreatDoorNone
namespace Go.Proofs.YtnoigcaapnjcgaaGreatDoor
open Go.RowKit

/-- The book's cells: how many, the numbers, the pairs; nothing else is held. -/
def bookCells (k : Int) (v p : Value) : Array Value := #[.int .i64 k, .slice none 0 0, .slice none 0 0, .slice none 0 0, v, .slice none 0 0, .slice none 0 0, p, .slice none 0 0, .slice none 0 0, .slice none 0 0, .slice none 0 0, .slice none 0 0, .slice none 0 0, .slice none 0 0, .slice none 0 0]

theorem heldNum_info : (Tryz.prog.info? 63).map (fun i => (i.zero, i.size, i.bytes)) = some (some (.agg #[.slice none 0 0, .slice none 0 0, .int .i64 0]), 3, 56) := by kernel_rfl
theorem heldPair_info : (Tryz.prog.info? 61).map (fun i => (i.zero, i.size, i.bytes)) = some (some (.agg #[.slice none 0 0, .slice none 0 0, .int .i64 0]), 3, 56) := by kernel_rfl

theorem three_src (w : World) (u0 u1 u2 : Value) (e : TypeId) : ∀ j x, [u0, u1, u2][j]? = some x → ((w.alloc (.cells #[u0, u1, u2] e)).drew).cell? ((⟨w.heap.size, 0, none⟩ : Addr).add j) = some x := by
  intro j x hx
  have hb := heap_alloc_new w (.cells #[u0, u1, u2] e)
  rw [Addr.add_lit, Nat.zero_add]
  show (w.alloc (.cells #[u0, u1, u2] e)).cell? ⟨w.heap.size, j, none⟩ = some x
  rw [cell_blk hb, ← hx]
  simp

set_option maxRecDepth 100000 in
set_option maxHeartbeats 1000000 in
theorem keepPair_any (bk k : Nat) (oth : Value) (A : Option Addr) (n c : Nat) (w : World) (hB : w.heap[bk]? = some (.cells (bookCells (k : Int) oth (.slice none 0 0)) 46 (0, 0))) (hk : k ≤ 100) :
    Calls Tryz.prog 17 #[.pointer (some ⟨bk, 0, none⟩), .slice A n c] w fun e w' => e = .returned (.tuple #[]) ∧ ∃ hb cap H, bk < hb ∧ w'.heap[bk]? = some (.cells (bookCells ((k + 1 : Nat) : Int) oth (.slice (some ⟨hb, 0, none⟩) 1 cap)) 46 (0, 0)) ∧ w'.heap[hb]? = some (.cells H 61 (0, 0)) ∧ H[0]? = some (.slice A n c) ∧ H[1]? = some (.slice none 0 0) ∧ H[2]? = some (.int .i64 ((k + 1 : Nat) : Int)) ∧ w.heap.size ≤ hb ∧ Kept (fun b => b = bk) w w' := by
  obtain ⟨i0, hi0, hz0, hz1, hz2⟩ := info_parts heldPair_info
  have c0 : w.cell? ⟨bk, 0, none⟩ = some (.int .i64 (k : Int)) := by rw [cell_blk hB]; rfl
  have f0 : w.frozen? ⟨bk, 0, none⟩ = false := frozen_blk hB
  go_enter Tryz.func17, Tryz.ntmps17
  go_wp2
  have hb1 : (w.setCell ⟨bk, 0, none⟩ (.int .i64 ((k : Int) + 1))).heap[bk]? = some (.cells (bookCells ((k : Int) + 1) oth (.slice none 0 0)) 46 (0, 0)) := by rw [set_blk hB]; rfl
  have hk1 : Kept (fun b => b = bk) w (w.setCell ⟨bk, 0, none⟩ (.int .i64 ((k : Int) + 1))) := Kept.setCell (D := fun b => b = bk) (p := ⟨bk, 0, none⟩) (Kept.refl _ _) (.inl rfl) _
  have hsz1 : (w.setCell ⟨bk, 0, none⟩ (.int .i64 ((k : Int) + 1))).heap.size = w.heap.size := by simp [World.setCell]
  have hbk := lt_blk hB
  clear c0 f0 hB
  generalize w.setCell ⟨bk, 0, none⟩ (.int .i64 ((k : Int) + 1)) = w1 at *
  have d0 : w1.cell? ⟨bk, 0, none⟩ = some (.int .i64 ((k : Int) + 1)) := by rw [cell_blk hb1]; rfl
  have d1 : w1.cell? ⟨bk, 7, none⟩ = some (.slice none 0 0) := by rw [cell_blk hb1]; rfl
  have HB1 := Lib.hid hb1
  have HSZ := Lib.hid hsz1
  clear hb1 hsz1
  refine wp_region_ord [0, 1, 2, 3, 4, 5, 6, 7, 8, 9, 10, 11, 12, 13, 14, 15] [11, 12, 13, 14, 15] 15 (fun w' => w'.cell? ⟨bk, 0, none⟩ = some (.int .i64 ((k : Int) + 1)) ∧ w'.cell? ⟨bk, 7, none⟩ = some (.slice none 0 0)) (by kernel_rfl) (by kernel_rfl) (by kernel_rfl) (by kernel_rfl) (fun _ _ _ _ _ h => h) ⟨d0, d1⟩ ?_
  simp only [steps, List.getElem?_cons_zero, List.getElem?_cons_succ]
  repeat (first
    | (refine ord_no rfl ?_; simp only [Act.put, List.setIfInBounds_toArray, List.set_cons_zero, List.set_cons_succ])
    | (refine ord_yes (v := ?_) rfl rfl ?_ ?_; rotate_left; (focus (rintro w' ⟨hS0, hS2⟩; go_simp; try with_reducible rfl)); simp only [Act.put, List.setIfInBounds_toArray, List.set_cons_zero, List.set_cons_succ]))
  refine ord_hard rfl rfl (fun K hK => ?_)
  go_simp
  have hal : ∀ (o : Obj) (j : Nat), ((w1.alloc o).drew).cell? ⟨bk, j, none⟩ = w1.cell? ⟨bk, j, none⟩ := fun o j => World.cell?_alloc_lt w1 o ⟨bk, j, none⟩ (lt_blk HB1.out)
  refine hK.out _ _ (fun _ => ⟨(hal _ 0).trans d0, (hal _ 7).trans d1⟩) ?_
  clear hK K
  refine ord_hard rfl rfl (fun K hK => ?_)
  refine wp_append_own _ (.tmp 15) (.tmp 22) 36 rfl w1.heap.size 61 i0 _ 3 56 Tryz.underlying36 hi0 hz0 hz1 hz2 rfl (by decide) (.slice none 0 0) 0 [] rfl (World.ownsRow_nil _ _ _ _) ⟨w1.heap.size, 0, none⟩ 1 1 [.slice A n c, .slice none 0 0, .int .i64 ((k : Int) + 1)] rfl rfl ?_ ?_ (by unfold maxLen; omega) (by omega) ?_ ?_
  · exact three_src w1 _ _ _ 61
  · intro u hu
    simp only [List.mem_cons, List.not_mem_nil, or_false] at hu
    rcases hu with rfl | rfl | rfl <;> rfl
  · show w1.heap.size ≤ (w1.alloc _).heap.size
    simp
  intro v2 w2 ho2 hg2 hn2
  have hb2 : w2.heap[bk]? = some (.cells (bookCells ((k : Int) + 1) oth (.slice none 0 0)) 46 (0, 0)) := by
    rw [hg2.block bk (by have := lt_blk HB1.out; show bk < (w1.alloc _).heap.size; simp; omega) (by simp [Value.ownBlock])]
    exact (Below.heap_alloc w1 _ bk (lt_blk HB1.out)).trans HB1.out
  have g0 : w2.cell? ⟨bk, 0, none⟩ = some (.int .i64 ((k : Int) + 1)) := by rw [cell_blk hb2]; rfl
  have g1 : w2.cell? ⟨bk, 7, none⟩ = some (.slice none 0 0) := by rw [cell_blk hb2]; rfl
  have f1 : w2.frozen? ⟨bk, 7, none⟩ = false := frozen_blk hb2
  have HB2 := Lib.hid hb2
  have hk2 : Kept (fun b => b = bk) w w2 := hk1.trans ⟨hg2.os, hg2.tape, hg2.output, Nat.le_trans (by simp) hg2.size, fun b hb hn => (hg2.block b (Nat.lt_of_lt_of_le hb (by show _ ≤ (w1.alloc _).heap.size; simp)) (by simp [Value.ownBlock])).trans (Below.heap_alloc w1 _ b hb)⟩
  obtain ⟨hb, cap2, H, rfl, hbge, hHb, hnc, hcm, hcs, htake⟩ : ∃ g cap cur, v2 = .slice (some ⟨g, 0, none⟩) (0 + 1) cap ∧ w1.heap.size ≤ g ∧ w2.heap[g]? = some (.cells cur 61 (0, 0)) ∧ 0 + 1 ≤ cap ∧ cap ≤ maxLen ∧ cur.size = cap * 3 ∧ cur.toList.take ((0 + 1) * 3) = [] ++ [.slice A n c, .slice none 0 0, .int .i64 ((k : Int) + 1)] := by
    rcases ho2.2 with ⟨_, e⟩ | ⟨g, cap, cur, h1, h2, h3, h4, h5, h6, h7⟩
    · cases e
    · exact ⟨g, cap, cur, h1, h2, h3, h4, h5, h6, h7⟩
  have hH : ∀ j, j < 3 → H[j]? = ([.slice A n c, .slice none 0 0, .int .i64 ((k : Int) + 1)] : List Value)[j]? := by
    intro j hj
    have e1 : H[j]? = (H.toList.take ((0 + 1) * 3))[j]? := by
      rw [List.getElem?_take_of_lt (by omega)]
      simp
    rw [e1, htake]
    rfl
  have HHb := Lib.hid hHb
  clear hb2 d0 d1 hal ho2 hg2 hn2 hnc hcm hcs htake hHb
  refine hK.out _ _ (fun _ => ⟨g0, g1⟩) ?_
  clear hK K
  simp only [Act.put, List.setIfInBounds_toArray, List.set_cons_zero, List.set_cons_succ]
  refine ord_hard rfl rfl (fun K hK => ?_)
  go_simp
  refine hK.out _ _ (fun _ => ⟨g0, g1⟩) ?_
  clear hK K
  refine ord_hard rfl rfl (fun K hK => ?_)
  go_simp
  refine hK.out _ _ (fun _ => ⟨g0, g1⟩) ?_
  clear hK K
  refine ord_hard rfl rfl (fun K hK => ?_)
  go_simp
  refine hK.out _ _ (fun h => absurd rfl h) ?_
  clear hK K
  refine ord_end ?_
  go_wp2
  go_end0
  have hszz := HSZ.out
  refine ⟨rfl, hb, cap2, H, by omega, ?_, ?_, hH 0 (by decide), hH 1 (by decide), ?_, by omega, ?_⟩
  · rw [set_blk HB2.out, Int.natCast_add]
    rfl
  · exact (Below.heap_setCell w2 _ _ hb (by show hb ≠ bk; have := HSZ.out; omega)).trans HHb.out
  · rw [Int.natCast_add]
    exact hH 2 (by decide)
  · exact Kept.setCell (D := fun b => b = bk) (p := ⟨bk, 7, none⟩) hk2 (.inl rfl) _

set_option maxRecDepth 100000 in
set_option maxHeartbeats 1000000 in
theorem keepNum_any (bk k : Nat) (oth : Value) (A : Option Addr) (n c : Nat) (w : World) (hB : w.heap[bk]? = some (.cells (bookCells (k : Int) (.slice none 0 0) oth) 46 (0, 0))) (hk : k ≤ 100) :
    Calls Tryz.prog 18 #[.pointer (some ⟨bk, 0, none⟩), .slice A n c] w fun e w' => e = .returned (.tuple #[]) ∧ ∃ hb cap H, bk < hb ∧ w'.heap[bk]? = some (.cells (bookCells ((k + 1 : Nat) : Int) (.slice (some ⟨hb, 0, none⟩) 1 cap) oth) 46 (0, 0)) ∧ w'.heap[hb]? = some (.cells H 63 (0, 0)) ∧ H[0]? = some (.slice A n c) ∧ H[1]? = some (.slice none 0 0) ∧ H[2]? = some (.int .i64 ((k + 1 : Nat) : Int)) ∧ w.heap.size ≤ hb ∧ Kept (fun b => b = bk) w w' := by
  obtain ⟨i0, hi0, hz0, hz1, hz2⟩ := info_parts heldNum_info
  have c0 : w.cell? ⟨bk, 0, none⟩ = some (.int .i64 (k : Int)) := by rw [cell_blk hB]; rfl
  have f0 : w.frozen? ⟨bk, 0, none⟩ = false := frozen_blk hB
  go_enter Tryz.func18, Tryz.ntmps18
  go_wp2
  have hb1 : (w.setCell ⟨bk, 0, none⟩ (.int .i64 ((k : Int) + 1))).heap[bk]? = some (.cells (bookCells ((k : Int) + 1) (.slice none 0 0) oth) 46 (0, 0)) := by rw [set_blk hB]; rfl
  have hk1 : Kept (fun b => b = bk) w (w.setCell ⟨bk, 0, none⟩ (.int .i64 ((k : Int) + 1))) := Kept.setCell (D := fun b => b = bk) (p := ⟨bk, 0, none⟩) (Kept.refl _ _) (.inl rfl) _
  have hsz1 : (w.setCell ⟨bk, 0, none⟩ (.int .i64 ((k : Int) + 1))).heap.size = w.heap.size := by simp [World.setCell]
  have hbk := lt_blk hB
  clear c0 f0 hB
  generalize w.setCell ⟨bk, 0, none⟩ (.int .i64 ((k : Int) + 1)) = w1 at *
  have d0 : w1.cell? ⟨bk, 0, none⟩ = some (.int .i64 ((k : Int) + 1)) := by rw [cell_blk hb1]; rfl
  have d1 : w1.cell? ⟨bk, 4, none⟩ = some (.slice none 0 0) := by rw [cell_blk hb1]; rfl
  have HB1 := Lib.hid hb1
  have HSZ := Lib.hid hsz1
  clear hb1 hsz1
  refine wp_region_ord [0, 1, 2, 3, 4, 5, 6, 7, 8, 9, 10, 11, 12, 13, 14, 15] [11, 12, 13, 14, 15] 15 (fun w' => w'.cell? ⟨bk, 0, none⟩ = some (.int .i64 ((k : Int) + 1)) ∧ w'.cell? ⟨bk, 4, none⟩ = some (.slice none 0 0)) (by kernel_rfl) (by kernel_rfl) (by kernel_rfl) (by kernel_rfl) (fun _ _ _ _ _ h => h) ⟨d0, d1⟩ ?_
  simp only [steps, List.getElem?_cons_zero, List.getElem?_cons_succ]
  repeat (first
    | (refine ord_no rfl ?_; simp only [Act.put, List.setIfInBounds_toArray, List.set_cons_zero, List.set_cons_succ])
    | (refine ord_yes (v := ?_) rfl rfl ?_ ?_; rotate_left; (focus (rintro w' ⟨hS0, hS2⟩; go_simp; try with_reducible rfl)); simp only [Act.put, List.setIfInBounds_toArray, List.set_cons_zero, List.set_cons_succ]))
  refine ord_hard rfl rfl (fun K hK => ?_)
  go_simp
  have hal : ∀ (o : Obj) (j : Nat), ((w1.alloc o).drew).cell? ⟨bk, j, none⟩ = w1.cell? ⟨bk, j, none⟩ := fun o j => World.cell?_alloc_lt w1 o ⟨bk, j, none⟩ (lt_blk HB1.out)
  refine hK.out _ _ (fun _ => ⟨(hal _ 0).trans d0, (hal _ 4).trans d1⟩) ?_
  clear hK K
  refine ord_hard rfl rfl (fun K hK => ?_)
  refine wp_append_own _ (.tmp 15) (.tmp 22) 33 rfl w1.heap.size 63 i0 _ 3 56 Tryz.underlying33 hi0 hz0 hz1 hz2 rfl (by decide) (.slice none 0 0) 0 [] rfl (World.ownsRow_nil _ _ _ _) ⟨w1.heap.size, 0, none⟩ 1 1 [.slice A n c, .slice none 0 0, .int .i64 ((k : Int) + 1)] rfl rfl ?_ ?_ (by unfold maxLen; omega) (by omega) ?_ ?_
  · exact three_src w1 _ _ _ 63
  · intro u hu
    simp only [List.mem_cons, List.not_mem_nil, or_false] at hu
    rcases hu with rfl | rfl | rfl <;> rfl
  · show w1.heap.size ≤ (w1.alloc _).heap.size
    simp
  intro v2 w2 ho2 hg2 hn2
  have hb2 : w2.heap[bk]? = some (.cells (bookCells ((k : Int) + 1) (.slice none 0 0) oth) 46 (0, 0)) := by
    rw [hg2.block bk (by have := lt_blk HB1.out; show bk < (w1.alloc _).heap.size; simp; omega) (by simp [Value.ownBlock])]
    exact (Below.heap_alloc w1 _ bk (lt_blk HB1.out)).trans HB1.out
  have g0 : w2.cell? ⟨bk, 0, none⟩ = some (.int .i64 ((k : Int) + 1)) := by rw [cell_blk hb2]; rfl
  have g1 : w2.cell? ⟨bk, 4, none⟩ = some (.slice none 0 0) := by rw [cell_blk hb2]; rfl
  have f1 : w2.frozen? ⟨bk, 4, none⟩ = false := frozen_blk hb2
  have HB2 := Lib.hid hb2
  have hk2 : Kept (fun b => b = bk) w w2 := hk1.trans ⟨hg2.os, hg2.tape, hg2.output, Nat.le_trans (by simp) hg2.size, fun b hb hn => (hg2.block b (Nat.lt_of_lt_of_le hb (by show _ ≤ (w1.alloc _).heap.size; simp)) (by simp [Value.ownBlock])).trans (Below.heap_alloc w1 _ b hb)⟩
  obtain ⟨hb, cap2, H, rfl, hbge, hHb, hnc, hcm, hcs, htake⟩ : ∃ g cap cur, v2 = .slice (some ⟨g, 0, none⟩) (0 + 1) cap ∧ w1.heap.size ≤ g ∧ w2.heap[g]? = some (.cells cur 63 (0, 0)) ∧ 0 + 1 ≤ cap ∧ cap ≤ maxLen ∧ cur.size = cap * 3 ∧ cur.toList.take ((0 + 1) * 3) = [] ++ [.slice A n c, .slice none 0 0, .int .i64 ((k : Int) + 1)] := by
    rcases ho2.2 with ⟨_, e⟩ | ⟨g, cap, cur, h1, h2, h3, h4, h5, h6, h7⟩
    · cases e
    · exact ⟨g, cap, cur, h1, h2, h3, h4, h5, h6, h7⟩
  have hH : ∀ j, j < 3 → H[j]? = ([.slice A n c, .slice none 0 0, .int .i64 ((k : Int) + 1)] : List Value)[j]? := by
    intro j hj
    have e1 : H[j]? = (H.toList.take ((0 + 1) * 3))[j]? := by
      rw [List.getElem?_take_of_lt (by omega)]
      simp
    rw [e1, htake]
    rfl
  have HHb := Lib.hid hHb
  clear hb2 d0 d1 hal ho2 hg2 hn2 hnc hcm hcs htake hHb
  refine hK.out _ _ (fun _ => ⟨g0, g1⟩) ?_
  clear hK K
  simp only [Act.put, List.setIfInBounds_toArray, List.set_cons_zero, List.set_cons_succ]
  refine ord_hard rfl rfl (fun K hK => ?_)
  go_simp
  refine hK.out _ _ (fun _ => ⟨g0, g1⟩) ?_
  clear hK K
  refine ord_hard rfl rfl (fun K hK => ?_)
  go_simp
  refine hK.out _ _ (fun _ => ⟨g0, g1⟩) ?_
  clear hK K
  refine ord_hard rfl rfl (fun K hK => ?_)
  go_simp
  refine hK.out _ _ (fun h => absurd rfl h) ?_
  clear hK K
  refine ord_end ?_
  go_wp2
  go_end0
  have hszz := HSZ.out
  refine ⟨rfl, hb, cap2, H, by omega, ?_, ?_, hH 0 (by decide), hH 1 (by decide), ?_, by omega, ?_⟩
  · rw [set_blk HB2.out, Int.natCast_add]
    rfl
  · exact (Below.heap_setCell w2 _ _ hb (by show hb ≠ bk; have := HSZ.out; omega)).trans HHb.out
  · rw [Int.natCast_add]
    exact hH 2 (by decide)
  · exact Kept.setCell (D := fun b => b = bk) (p := ⟨bk, 4, none⟩) hk2 (.inl rfl) _

end Go.Proofs.YtnoigcaapnjcgaaGreatDoor
