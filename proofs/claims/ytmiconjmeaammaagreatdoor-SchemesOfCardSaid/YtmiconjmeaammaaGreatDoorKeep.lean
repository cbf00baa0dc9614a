/- Lists of nodes, of bounds and of numbers are kept in a book. -/
import Derived.Test.YtmiconjmeaammaaGreatDoorGBook
import Derived.OwnWalk
import Derived.LoopTactic
import Derived.Handy
import Derived.Below
import Derived.Test.YtmiconjmeaammaaGreatDoorLaOrd
namespace Go.Proofs.YtmiconjmeaammaaGreatDoor
open Go.RowKit

/-- The book's cells: how many, and what of these kinds; nothing else is held. -/
def bookCells (k : Int) (vN vB vM : Value) : Array Value := #[.int .i64 k, .slice none 0 0, .slice none 0 0, .slice none 0 0, vM, .slice none 0 0, .slice none 0 0, .slice none 0 0, vN, vB, .slice none 0 0, .slice none 0 0, .slice none 0 0, .slice none 0 0, .slice none 0 0, .slice none 0 0]

structure BookK (w : World) (bk k : Nat) (vN : Value) (kN : Nat) (xN : List Value) (vB : Value) (kB : Nat) (xB : List Value) (vM : Value) (kM : Nat) (xM : List Value) : Prop where
  blk : w.heap[bk]? = some (.cells (bookCells (k : Int) vN vB vM) 66 (0, 0))
  oN : w.ownsRow (bk + 1) 149 3 vN kN xN
  oB : w.ownsRow (bk + 1) 177 3 vB kB xB
  oM : w.ownsRow (bk + 1) 147 3 vM kM xM

theorem three_src (w : World) (u0 u1 u2 : Value) (e : TypeId) : ∀ j x, [u0, u1, u2][j]? = some x → ((w.alloc (.cells #[u0, u1, u2] e)).drew).cell? ((⟨w.heap.size, 0, none⟩ : Addr).add j) = some x := by
  intro j x hx
  have hb := heap_alloc_new w (.cells #[u0, u1, u2] e)
  rw [Addr.add_lit, Nat.zero_add]
  show (w.alloc (.cells #[u0, u1, u2] e)).cell? ⟨w.heap.size, j, none⟩ = some x
  rw [cell_blk hb, ← hx]
  simp

/-- A row of another kind stays. -/
theorem row_far {W W' : World} {b n m sz1 sz2 : Nat} {E F : TypeId} {v y : Value} {xs ys : List Value} (hE : E ≠ F) (hy : W.ownsRow b E sz1 y m ys) (hv : W.ownsRow b F sz2 v n xs) (hg : W.grownBy W' v.ownBlock) : W'.ownsRow b E sz1 y m ys :=
  own_blk hy fun q e => hg.block q (hy.lt q e).2 fun e' => by
    rcases hy.2 with ⟨rfl, _⟩ | ⟨g, cap, cur, rfl, _, h1, _⟩
    · cases e
    rcases hv.2 with ⟨rfl, _⟩ | ⟨g', cap', cur', rfl, _, h2, _⟩
    · cases e'
    have a1 : g = q := by simpa [Value.ownBlock] using e
    have a2 : q = g' := by simpa [Value.ownBlock] using e'
    exact ne_type h1 h2 hE (a1.trans a2)


/-- Old blocks of another type stay. -/
theorem own_type {w : World} {base E n g : Nat} {v : Value} {xs : List Value} {sz : Nat} (h : w.ownsRow base E sz v n xs) (e : v.ownBlock = some g) : ∃ cur, w.heap[g]? = some (.cells cur E (0, 0)) := by
  rcases h.2 with ⟨hv, _⟩ | ⟨g', cap, cur, rfl, hb, hg, r⟩
  · rw [hv] at e; cases e
  · have e' : g' = g := by simpa [Value.ownBlock] using e
    exact ⟨cur, e' ▸ hg⟩
theorem kept_bk {w w' : World} {bk E n : Nat} {v : Value} {xs : List Value} {sz : Nat} (hk : Kept (fun b => b = bk ∨ v.ownBlock = some b) w w') (h : w.ownsRow (bk + 1) E sz v n xs) : Kept (fun b => bk ≤ b) w w' :=
  hk.mono fun b hb => hb.elim (fun e => Nat.le_of_eq e.symm) fun e => by have := (h.lt b e).1; omega
theorem kept_type {w w' : World} {bk E n g t : Nat} {v : Value} {xs : List Value} {sz : Nat} {cs cb : Array Value} (hk : Kept (fun b => b = bk ∨ v.ownBlock = some b) w w') (h : w.ownsRow (bk + 1) E sz v n xs) (hb : w.heap[bk]? = some (.cells cb 66 (0, 0))) (hg : w.heap[g]? = some (.cells cs t (0, 0))) (h1 : t ≠ 66) (h2 : t ≠ E) : w'.heap[g]? = some (.cells cs t (0, 0)) :=
  (hk.block g (lt_blk hg) (by
    rintro (rfl | e)
    · rw [hb] at hg
      injection hg with hg
      injection hg with _ hg
      exact h1 hg.symm
    · obtain ⟨cur, hc⟩ := own_type h e
      rw [hc] at hg
      injection hg with hg
      injection hg with _ hg
      exact h2 hg.symm)).trans hg

set_option maxRecDepth 100000 in
set_option maxHeartbeats 2000000 in
theorem keepN_any (bk k : Nat) (vN : Value) (kN : Nat) (xN : List Value) (vB : Value) (kB : Nat) (xB : List Value) (vM : Value) (kM : Nat) (xM : List Value) (A : Option Addr) (n c : Nat) (w : World) (hB : BookK w bk k vN kN xN vB kB xB vM kM xM) (hk : k ≤ 90) (hkk : kN ≤ 90) :
    Calls Tryz.prog 46 #[.pointer (some ⟨bk, 0, none⟩), .slice A n c] w fun e w' => e = .returned (.tuple #[]) ∧ ∃ v', BookK w' bk (k + 1) v' (kN + 1) (xN ++ [.slice A n c, .slice none 0 0, .int .i64 ((k : Int) + 1)]) vB kB xB vM kM xM ∧ Kept (fun b => b = bk ∨ vN.ownBlock = some b) w w' := by
  obtain ⟨i0, hi0, hz0, hz1, hz2⟩ := info_parts (show (Tryz.prog.info? 149).map (fun i => (i.zero, i.size, i.bytes)) = some (some (.agg #[.slice none 0 0, .slice none 0 0, .int .i64 0]), 3, 56) by kernel_rfl)
  have c0 : w.cell? ⟨bk, 0, none⟩ = some (.int .i64 (k : Int)) := by rw [cell_blk hB.blk]; rfl
  have f0 : w.frozen? ⟨bk, 0, none⟩ = false := frozen_blk hB.blk
  go_enter Tryz.func46, Tryz.ntmps46
  go_wp2
  have hb1 : (w.setCell ⟨bk, 0, none⟩ (.int .i64 ((k : Int) + 1))).heap[bk]? = some (.cells (bookCells ((k : Int) + 1) vN vB vM) 66 (0, 0)) := by rw [set_blk hB.blk]; rfl
  have hon : (w.setCell ⟨bk, 0, none⟩ (.int .i64 ((k : Int) + 1))).ownsRow (bk + 1) 149 3 vN kN xN := ownsRow_setCell_below hB.oN (by simp) _
  have hotB : (w.setCell ⟨bk, 0, none⟩ (.int .i64 ((k : Int) + 1))).ownsRow (bk + 1) 177 3 vB kB xB := ownsRow_setCell_below hB.oB (by simp) _
  have hotM : (w.setCell ⟨bk, 0, none⟩ (.int .i64 ((k : Int) + 1))).ownsRow (bk + 1) 147 3 vM kM xM := ownsRow_setCell_below hB.oM (by simp) _
  have hk1 : Kept (fun b => b = bk ∨ vN.ownBlock = some b) w (w.setCell ⟨bk, 0, none⟩ (.int .i64 ((k : Int) + 1))) := Kept.setCell (D := (fun b => b = bk ∨ vN.ownBlock = some b)) (p := ⟨bk, 0, none⟩) (Kept.refl _ _) (.inl (.inl rfl)) _
  have hbk := lt_blk hB.blk
  clear c0 f0 hB
  generalize w.setCell ⟨bk, 0, none⟩ (.int .i64 ((k : Int) + 1)) = w1 at *
  have d0 : w1.cell? ⟨bk, 0, none⟩ = some (.int .i64 ((k : Int) + 1)) := by rw [cell_blk hb1]; rfl
  have d1 : w1.cell? ⟨bk, 8, none⟩ = some vN := by rw [cell_blk hb1]; rfl
  obtain ⟨vA, vc, hv⟩ : ∃ A c, vN = .slice A kN c := by
    rcases hon.2 with ⟨rfl, rfl⟩ | ⟨g, cap, cur, rfl, _⟩
    · exact ⟨_, _, rfl⟩
    · exact ⟨_, _, rfl⟩
  subst hv
  have HB1 := Lib.hid hb1
  clear hb1
  refine wp_region_ord [0, 1, 2, 3, 4, 5, 6, 7, 8, 9, 10, 11, 12, 13, 14, 15] [11, 12, 13, 14, 15] 15 (fun w' => w'.cell? ⟨bk, 0, none⟩ = some (.int .i64 ((k : Int) + 1)) ∧ w'.cell? ⟨bk, 8, none⟩ = some (.slice vA kN vc)) (by kernel_rfl) (by kernel_rfl) (by kernel_rfl) (by kernel_rfl) (fun _ _ _ _ _ h => h) ⟨d0, d1⟩ ?_
  simp only [steps, List.getElem?_cons_zero, List.getElem?_cons_succ]
  repeat (first
    | (refine ord_no rfl ?_; simp only [Act.put, List.setIfInBounds_toArray, List.set_cons_zero, List.set_cons_succ])
    | (refine ord_yes (v := ?_) rfl rfl ?_ ?_; rotate_left; (focus (rintro w' ⟨hS0, hS2⟩; go_simp; try with_reducible rfl)); simp only [Act.put, List.setIfInBounds_toArray, List.set_cons_zero, List.set_cons_succ]))
  refine ord_hard rfl rfl (fun K hK => ?_)
  go_simp
  have hal : ∀ (o : Obj) (j : Nat), ((w1.alloc o).drew).cell? ⟨bk, j, none⟩ = w1.cell? ⟨bk, j, none⟩ := fun o j => World.cell?_alloc_lt w1 o ⟨bk, j, none⟩ (lt_blk HB1.out)
  refine hK.out _ _ (fun _ => ⟨(hal _ 0).trans d0, (hal _ 8).trans d1⟩) ?_
  clear hK K
  refine ord_hard rfl rfl (fun K hK => ?_)
  have hoa := hon.alloc (.cells #[.slice A n c, .slice none 0 0, .int .i64 ((k : Int) + 1)] 149)
  have halotB := hotB.alloc (.cells #[.slice A n c, .slice none 0 0, .int .i64 ((k : Int) + 1)] 149)
  have halotM := hotM.alloc (.cells #[.slice A n c, .slice none 0 0, .int .i64 ((k : Int) + 1)] 149)
  refine wp_append_own _ (.tmp 15) (.tmp 22) 57 rfl (bk + 1) 149 i0 _ 3 56 Tryz.underlying57 hi0 hz0 hz1 hz2 rfl (by decide) (.slice vA kN vc) kN xN rfl hoa ⟨w1.heap.size, 0, none⟩ 1 1 [.slice A n c, .slice none 0 0, .int .i64 ((k : Int) + 1)] rfl rfl ?_ ?_ (by unfold maxLen; omega) (by omega) ?_ ?_
  · exact three_src w1 _ _ _ 149
  · intro u hu
    simp only [List.mem_cons, List.not_mem_nil, or_false] at hu
    rcases hu with rfl | rfl | rfl <;> rfl
  · have := lt_blk HB1.out
    show bk + 1 ≤ (w1.alloc _).heap.size
    simp
    omega
  intro v2 w2 ho2 hg2 hn2
  have hne : some bk ≠ (Value.slice vA kN vc).ownBlock := by
    intro e
    have := (hon.lt bk e.symm).1
    omega
  have hb2 : w2.heap[bk]? = some (.cells (bookCells ((k : Int) + 1) (.slice vA kN vc) vB vM) 66 (0, 0)) := by
    rw [hg2.block bk (by have := lt_blk HB1.out; show bk < (w1.alloc _).heap.size; simp; omega) hne]
    exact (Below.heap_alloc w1 _ bk (lt_blk HB1.out)).trans HB1.out
  have g0 : w2.cell? ⟨bk, 0, none⟩ = some (.int .i64 ((k : Int) + 1)) := by rw [cell_blk hb2]; rfl
  have g1 : w2.cell? ⟨bk, 8, none⟩ = some (.slice vA kN vc) := by rw [cell_blk hb2]; rfl
  have f1 : w2.frozen? ⟨bk, 8, none⟩ = false := frozen_blk hb2
  have HB2 := Lib.hid hb2
  have HotB : Hid (w2.ownsRow (bk + 1) 177 3 vB kB xB) := Lib.hid (row_far (by decide) halotB hoa ⟨hg2.os, hg2.tape, hg2.output, hg2.size, hg2.block⟩)
  have HotM : Hid (w2.ownsRow (bk + 1) 147 3 vM kM xM) := Lib.hid (row_far (by decide) halotM hoa ⟨hg2.os, hg2.tape, hg2.output, hg2.size, hg2.block⟩)
  have hk2 : Kept (fun b => b = bk ∨ (Value.slice vA kN vc).ownBlock = some b) w w2 := hk1.trans ⟨hg2.os, hg2.tape, hg2.output, Nat.le_trans (by simp) hg2.size, fun b hb hn => (hg2.block b (Nat.lt_of_lt_of_le hb (by show _ ≤ (w1.alloc _).heap.size; simp)) (fun e => hn (.inr e.symm))).trans (Below.heap_alloc w1 _ b hb)⟩
  clear hb2 d0 d1 hal
  refine hK.out _ _ (fun _ => ⟨g0, g1⟩) ?_
  clear hK K
  simp only [Act.put, List.setIfInBounds_toArray, List.set_cons_zero, List.set_cons_succ]
  refine ord_hard rfl rfl (fun K hK => ?_)
  go_simp
  refine hK.out _ _ (fun _ => ⟨g0, g1⟩) ?_
  clear hK K
  refine ord_hard rfl rfl (fun K hK => ?_)
  go_simp
  refine hK.out _ _ (fun _ => ⟨g0, g1⟩) ?_
  clear hK K
  obtain ⟨A2, c2, hv2⟩ : ∃ A c, v2 = .slice A (kN + 1) c := by
    rcases ho2.2 with ⟨rfl, e⟩ | ⟨g, cap, cur, rfl, _⟩
    · omega
    · exact ⟨_, _, rfl⟩
  subst hv2
  refine ord_hard rfl rfl (fun K hK => ?_)
  go_simp
  refine hK.out _ _ (fun h => absurd rfl h) ?_
  clear hK K
  refine ord_end ?_
  go_wp2
  go_end0
  refine ⟨rfl, .slice A2 (kN + 1) c2, ⟨?_, ?_, ownsRow_setCell_below HotB.out (by simp) _, ownsRow_setCell_below HotM.out (by simp) _⟩, ?_⟩
  · rw [set_blk HB2.out, Int.natCast_add]
    rfl
  · exact ownsRow_setCell_below ho2 (by simp) _
  · exact Kept.setCell (D := (fun b => b = bk ∨ (Value.slice vA kN vc).ownBlock = some b)) (p := ⟨bk, 8, none⟩) hk2 (.inl (.inl rfl)) _

theorem putN_any (bk k : Nat) (vN : Value) (kN : Nat) (xN : List Value) (vB : Value) (kB : Nat) (xB : List Value) (vM : Value) (kM : Nat) (xM : List Value) (A : Option Addr) (n c : Nat) (w : World) (hB : BookK w bk k vN kN xN vB kB xB vM kM xM) (hk : k ≤ 90) (hkk : kN ≤ 90) :
    Calls Tryz.prog 19 #[.pointer (some ⟨bk, 0, none⟩), .slice A n c] w fun e w' => e = .returned (.tuple #[]) ∧ ∃ v', BookK w' bk (k + 1) v' (kN + 1) (xN ++ [.slice A n c, .slice none 0 0, .int .i64 ((k : Int) + 1)]) vB kB xB vM kM xM ∧ Kept (fun b => b = bk ∨ vN.ownBlock = some b) w w' := by
  go_enter Tryz.func19, Tryz.ntmps19
  go_wp2_with fail
  refine (keepN_any bk k vN kN xN vB kB xB vM kM xM A n c _ hB hk hkk).mono ?_
  rintro e w1 ⟨rfl, v1, hB1, hk1⟩
  go_wp2_with fail
  go_end0
  exact ⟨rfl, v1, hB1, hk1⟩

set_option maxRecDepth 100000 in
set_option maxHeartbeats 2000000 in
theorem keepB_any (bk k : Nat) (vN : Value) (kN : Nat) (xN : List Value) (vB : Value) (kB : Nat) (xB : List Value) (vM : Value) (kM : Nat) (xM : List Value) (A : Option Addr) (n c : Nat) (w : World) (hB : BookK w bk k vN kN xN vB kB xB vM kM xM) (hk : k ≤ 90) (hkk : kB ≤ 90) :
    Calls Tryz.prog 113 #[.pointer (some ⟨bk, 0, none⟩), .slice A n c] w fun e w' => e = .returned (.tuple #[]) ∧ ∃ v', BookK w' bk (k + 1) vN kN xN v' (kB + 1) (xB ++ [.slice A n c, .slice none 0 0, .int .i64 ((k : Int) + 1)]) vM kM xM ∧ Kept (fun b => b = bk ∨ vB.ownBlock = some b) w w' := by
  obtain ⟨i0, hi0, hz0, hz1, hz2⟩ := info_parts (show (Tryz.prog.info? 177).map (fun i => (i.zero, i.size, i.bytes)) = some (some (.agg #[.slice none 0 0, .slice none 0 0, .int .i64 0]), 3, 56) by kernel_rfl)
  have c0 : w.cell? ⟨bk, 0, none⟩ = some (.int .i64 (k : Int)) := by rw [cell_blk hB.blk]; rfl
  have f0 : w.frozen? ⟨bk, 0, none⟩ = false := frozen_blk hB.blk
  go_enter Tryz.func113, Tryz.ntmps113
  go_wp2
  have hb1 : (w.setCell ⟨bk, 0, none⟩ (.int .i64 ((k : Int) + 1))).heap[bk]? = some (.cells (bookCells ((k : Int) + 1) vN vB vM) 66 (0, 0)) := by rw [set_blk hB.blk]; rfl
  have hon : (w.setCell ⟨bk, 0, none⟩ (.int .i64 ((k : Int) + 1))).ownsRow (bk + 1) 177 3 vB kB xB := ownsRow_setCell_below hB.oB (by simp) _
  have hotN : (w.setCell ⟨bk, 0, none⟩ (.int .i64 ((k : Int) + 1))).ownsRow (bk + 1) 149 3 vN kN xN := ownsRow_setCell_below hB.oN (by simp) _
  have hotM : (w.setCell ⟨bk, 0, none⟩ (.int .i64 ((k : Int) + 1))).ownsRow (bk + 1) 147 3 vM kM xM := ownsRow_setCell_below hB.oM (by simp) _
  have hk1 : Kept (fun b => b = bk ∨ vB.ownBlock = some b) w (w.setCell ⟨bk, 0, none⟩ (.int .i64 ((k : Int) + 1))) := Kept.setCell (D := (fun b => b = bk ∨ vB.ownBlock = some b)) (p := ⟨bk, 0, none⟩) (Kept.refl _ _) (.inl (.inl rfl)) _
  have hbk := lt_blk hB.blk
  clear c0 f0 hB
  generalize w.setCell ⟨bk, 0, none⟩ (.int .i64 ((k : Int) + 1)) = w1 at *
  have d0 : w1.cell? ⟨bk, 0, none⟩ = some (.int .i64 ((k : Int) + 1)) := by rw [cell_blk hb1]; rfl
  have d1 : w1.cell? ⟨bk, 9, none⟩ = some vB := by rw [cell_blk hb1]; rfl
  obtain ⟨vA, vc, hv⟩ : ∃ A c, vB = .slice A kB c := by
    rcases hon.2 with ⟨rfl, rfl⟩ | ⟨g, cap, cur, rfl, _⟩
    · exact ⟨_, _, rfl⟩
    · exact ⟨_, _, rfl⟩
  subst hv
  have HB1 := Lib.hid hb1
  clear hb1
  refine wp_region_ord [0, 1, 2, 3, 4, 5, 6, 7, 8, 9, 10, 11, 12, 13, 14, 15] [11, 12, 13, 14, 15] 15 (fun w' => w'.cell? ⟨bk, 0, none⟩ = some (.int .i64 ((k : Int) + 1)) ∧ w'.cell? ⟨bk, 9, none⟩ = some (.slice vA kB vc)) (by kernel_rfl) (by kernel_rfl) (by kernel_rfl) (by kernel_rfl) (fun _ _ _ _ _ h => h) ⟨d0, d1⟩ ?_
  simp only [steps, List.getElem?_cons_zero, List.getElem?_cons_succ]
  repeat (first
    | (refine ord_no rfl ?_; simp only [Act.put, List.setIfInBounds_toArray, List.set_cons_zero, List.set_cons_succ])
    | (refine ord_yes (v := ?_) rfl rfl ?_ ?_; rotate_left; (focus (rintro w' ⟨hS0, hS2⟩; go_simp; try with_reducible rfl)); simp only [Act.put, List.setIfInBounds_toArray, List.set_cons_zero, List.set_cons_succ]))
  refine ord_hard rfl rfl (fun K hK => ?_)
  go_simp
  have hal : ∀ (o : Obj) (j : Nat), ((w1.alloc o).drew).cell? ⟨bk, j, none⟩ = w1.cell? ⟨bk, j, none⟩ := fun o j => World.cell?_alloc_lt w1 o ⟨bk, j, none⟩ (lt_blk HB1.out)
  refine hK.out _ _ (fun _ => ⟨(hal _ 0).trans d0, (hal _ 9).trans d1⟩) ?_
  clear hK K
  refine ord_hard rfl rfl (fun K hK => ?_)
  have hoa := hon.alloc (.cells #[.slice A n c, .slice none 0 0, .int .i64 ((k : Int) + 1)] 177)
  have halotN := hotN.alloc (.cells #[.slice A n c, .slice none 0 0, .int .i64 ((k : Int) + 1)] 177)
  have halotM := hotM.alloc (.cells #[.slice A n c, .slice none 0 0, .int .i64 ((k : Int) + 1)] 177)
  refine wp_append_own _ (.tmp 15) (.tmp 22) 58 rfl (bk + 1) 177 i0 _ 3 56 Tryz.underlying58 hi0 hz0 hz1 hz2 rfl (by decide) (.slice vA kB vc) kB xB rfl hoa ⟨w1.heap.size, 0, none⟩ 1 1 [.slice A n c, .slice none 0 0, .int .i64 ((k : Int) + 1)] rfl rfl ?_ ?_ (by unfold maxLen; omega) (by omega) ?_ ?_
  · exact three_src w1 _ _ _ 177
  · intro u hu
    simp only [List.mem_cons, List.not_mem_nil, or_false] at hu
    rcases hu with rfl | rfl | rfl <;> rfl
  · have := lt_blk HB1.out
    show bk + 1 ≤ (w1.alloc _).heap.size
    simp
    omega
  intro v2 w2 ho2 hg2 hn2
  have hne : some bk ≠ (Value.slice vA kB vc).ownBlock := by
    intro e
    have := (hon.lt bk e.symm).1
    omega
  have hb2 : w2.heap[bk]? = some (.cells (bookCells ((k : Int) + 1) vN (.slice vA kB vc) vM) 66 (0, 0)) := by
    rw [hg2.block bk (by have := lt_blk HB1.out; show bk < (w1.alloc _).heap.size; simp; omega) hne]
    exact (Below.heap_alloc w1 _ bk (lt_blk HB1.out)).trans HB1.out
  have g0 : w2.cell? ⟨bk, 0, none⟩ = some (.int .i64 ((k : Int) + 1)) := by rw [cell_blk hb2]; rfl
  have g1 : w2.cell? ⟨bk, 9, none⟩ = some (.slice vA kB vc) := by rw [cell_blk hb2]; rfl
  have f1 : w2.frozen? ⟨bk, 9, none⟩ = false := frozen_blk hb2
  have HB2 := Lib.hid hb2
  have HotN : Hid (w2.ownsRow (bk + 1) 149 3 vN kN xN) := Lib.hid (row_far (by decide) halotN hoa ⟨hg2.os, hg2.tape, hg2.output, hg2.size, hg2.block⟩)
  have HotM : Hid (w2.ownsRow (bk + 1) 147 3 vM kM xM) := Lib.hid (row_far (by decide) halotM hoa ⟨hg2.os, hg2.tape, hg2.output, hg2.size, hg2.block⟩)
  have hk2 : Kept (fun b => b = bk ∨ (Value.slice vA kB vc).ownBlock = some b) w w2 := hk1.trans ⟨hg2.os, hg2.tape, hg2.output, Nat.le_trans (by simp) hg2.size, fun b hb hn => (hg2.block b (Nat.lt_of_lt_of_le hb (by show _ ≤ (w1.alloc _).heap.size; simp)) (fun e => hn (.inr e.symm))).trans (Below.heap_alloc w1 _ b hb)⟩
  clear hb2 d0 d1 hal
  refine hK.out _ _ (fun _ => ⟨g0, g1⟩) ?_
  clear hK K
  simp only [Act.put, List.setIfInBounds_toArray, List.set_cons_zero, List.set_cons_succ]
  refine ord_hard rfl rfl (fun K hK => ?_)
  go_simp
  refine hK.out _ _ (fun _ => ⟨g0, g1⟩) ?_
  clear hK K
  refine ord_hard rfl rfl (fun K hK => ?_)
  go_simp
  refine hK.out _ _ (fun _ => ⟨g0, g1⟩) ?_
  clear hK K
  obtain ⟨A2, c2, hv2⟩ : ∃ A c, v2 = .slice A (kB + 1) c := by
    rcases ho2.2 with ⟨rfl, e⟩ | ⟨g, cap, cur, rfl, _⟩
    · omega
    · exact ⟨_, _, rfl⟩
  subst hv2
  refine ord_hard rfl rfl (fun K hK => ?_)
  go_simp
  refine hK.out _ _ (fun h => absurd rfl h) ?_
  clear hK K
  refine ord_end ?_
  go_wp2
  go_end0
  refine ⟨rfl, .slice A2 (kB + 1) c2, ⟨?_, ownsRow_setCell_below HotN.out (by simp) _, ?_, ownsRow_setCell_below HotM.out (by simp) _⟩, ?_⟩
  · rw [set_blk HB2.out, Int.natCast_add]
    rfl
  · exact ownsRow_setCell_below ho2 (by simp) _
  · exact Kept.setCell (D := (fun b => b = bk ∨ (Value.slice vA kB vc).ownBlock = some b)) (p := ⟨bk, 9, none⟩) hk2 (.inl (.inl rfl)) _

theorem putB_any (bk k : Nat) (vN : Value) (kN : Nat) (xN : List Value) (vB : Value) (kB : Nat) (xB : List Value) (vM : Value) (kM : Nat) (xM : List Value) (A : Option Addr) (n c : Nat) (w : World) (hB : BookK w bk k vN kN xN vB kB xB vM kM xM) (hk : k ≤ 90) (hkk : kB ≤ 90) :
    Calls Tryz.prog 44 #[.pointer (some ⟨bk, 0, none⟩), .slice A n c] w fun e w' => e = .returned (.tuple #[]) ∧ ∃ v', BookK w' bk (k + 1) vN kN xN v' (kB + 1) (xB ++ [.slice A n c, .slice none 0 0, .int .i64 ((k : Int) + 1)]) vM kM xM ∧ Kept (fun b => b = bk ∨ vB.ownBlock = some b) w w' := by
  go_enter Tryz.func44, Tryz.ntmps44
  go_wp2_with fail
  refine (keepB_any bk k vN kN xN vB kB xB vM kM xM A n c _ hB hk hkk).mono ?_
  rintro e w1 ⟨rfl, v1, hB1, hk1⟩
  go_wp2_with fail
  go_end0
  exact ⟨rfl, v1, hB1, hk1⟩

set_option maxRecDepth 100000 in
set_option maxHeartbeats 2000000 in
theorem keepM_any (bk k : Nat) (vN : Value) (kN : Nat) (xN : List Value) (vB : Value) (kB : Nat) (xB : List Value) (vM : Value) (kM : Nat) (xM : List Value) (A : Option Addr) (n c : Nat) (w : World) (hB : BookK w bk k vN kN xN vB kB xB vM kM xM) (hk : k ≤ 90) (hkk : kM ≤ 90) :
    Calls Tryz.prog 45 #[.pointer (some ⟨bk, 0, none⟩), .slice A n c] w fun e w' => e = .returned (.tuple #[]) ∧ ∃ v', BookK w' bk (k + 1) vN kN xN vB kB xB v' (kM + 1) (xM ++ [.slice A n c, .slice none 0 0, .int .i64 ((k : Int) + 1)]) ∧ Kept (fun b => b = bk ∨ vM.ownBlock = some b) w w' := by
  obtain ⟨i0, hi0, hz0, hz1, hz2⟩ := info_parts (show (Tryz.prog.info? 147).map (fun i => (i.zero, i.size, i.bytes)) = some (some (.agg #[.slice none 0 0, .slice none 0 0, .int .i64 0]), 3, 56) by kernel_rfl)
  have c0 : w.cell? ⟨bk, 0, none⟩ = some (.int .i64 (k : Int)) := by rw [cell_blk hB.blk]; rfl
  have f0 : w.frozen? ⟨bk, 0, none⟩ = false := frozen_blk hB.blk
  go_enter Tryz.func45, Tryz.ntmps45
  go_wp2
  have hb1 : (w.setCell ⟨bk, 0, none⟩ (.int .i64 ((k : Int) + 1))).heap[bk]? = some (.cells (bookCells ((k : Int) + 1) vN vB vM) 66 (0, 0)) := by rw [set_blk hB.blk]; rfl
  have hon : (w.setCell ⟨bk, 0, none⟩ (.int .i64 ((k : Int) + 1))).ownsRow (bk + 1) 147 3 vM kM xM := ownsRow_setCell_below hB.oM (by simp) _
  have hotN : (w.setCell ⟨bk, 0, none⟩ (.int .i64 ((k : Int) + 1))).ownsRow (bk + 1) 149 3 vN kN xN := ownsRow_setCell_below hB.oN (by simp) _
  have hotB : (w.setCell ⟨bk, 0, none⟩ (.int .i64 ((k : Int) + 1))).ownsRow (bk + 1) 177 3 vB kB xB := ownsRow_setCell_below hB.oB (by simp) _
  have hk1 : Kept (fun b => b = bk ∨ vM.ownBlock = some b) w (w.setCell ⟨bk, 0, none⟩ (.int .i64 ((k : Int) + 1))) := Kept.setCell (D := (fun b => b = bk ∨ vM.ownBlock = some b)) (p := ⟨bk, 0, none⟩) (Kept.refl _ _) (.inl (.inl rfl)) _
  have hbk := lt_blk hB.blk
  clear c0 f0 hB
  generalize w.setCell ⟨bk, 0, none⟩ (.int .i64 ((k : Int) + 1)) = w1 at *
  have d0 : w1.cell? ⟨bk, 0, none⟩ = some (.int .i64 ((k : Int) + 1)) := by rw [cell_blk hb1]; rfl
  have d1 : w1.cell? ⟨bk, 4, none⟩ = some vM := by rw [cell_blk hb1]; rfl
  obtain ⟨vA, vc, hv⟩ : ∃ A c, vM = .slice A kM c := by
    rcases hon.2 with ⟨rfl, rfl⟩ | ⟨g, cap, cur, rfl, _⟩
    · exact ⟨_, _, rfl⟩
    · exact ⟨_, _, rfl⟩
  subst hv
  have HB1 := Lib.hid hb1
  clear hb1
  refine wp_region_ord [0, 1, 2, 3, 4, 5, 6, 7, 8, 9, 10, 11, 12, 13, 14, 15] [11, 12, 13, 14, 15] 15 (fun w' => w'.cell? ⟨bk, 0, none⟩ = some (.int .i64 ((k : Int) + 1)) ∧ w'.cell? ⟨bk, 4, none⟩ = some (.slice vA kM vc)) (by kernel_rfl) (by kernel_rfl) (by kernel_rfl) (by kernel_rfl) (fun _ _ _ _ _ h => h) ⟨d0, d1⟩ ?_
  simp only [steps, List.getElem?_cons_zero, List.getElem?_cons_succ]
  repeat (first
    | (refine ord_no rfl ?_; simp only [Act.put, List.setIfInBounds_toArray, List.set_cons_zero, List.set_cons_succ])
    | (refine ord_yes (v := ?_) rfl rfl ?_ ?_; rotate_left; (focus (rintro w' ⟨hS0, hS2⟩; go_simp; try with_reducible rfl)); simp only [Act.put, List.setIfInBounds_toArray, List.set_cons_zero, List.set_cons_succ]))
  refine ord_hard rfl rfl (fun K hK => ?_)
  go_simp
  have hal : ∀ (o : Obj) (j : Nat), ((w1.alloc o).drew).cell? ⟨bk, j, none⟩ = w1.cell? ⟨bk, j, none⟩ := fun o j => World.cell?_alloc_lt w1 o ⟨bk, j, none⟩ (lt_blk HB1.out)
  refine hK.out _ _ (fun _ => ⟨(hal _ 0).trans d0, (hal _ 4).trans d1⟩) ?_
  clear hK K
  refine ord_hard rfl rfl (fun K hK => ?_)
  have hoa := hon.alloc (.cells #[.slice A n c, .slice none 0 0, .int .i64 ((k : Int) + 1)] 147)
  have halotN := hotN.alloc (.cells #[.slice A n c, .slice none 0 0, .int .i64 ((k : Int) + 1)] 147)
  have halotB := hotB.alloc (.cells #[.slice A n c, .slice none 0 0, .int .i64 ((k : Int) + 1)] 147)
  refine wp_append_own _ (.tmp 15) (.tmp 22) 53 rfl (bk + 1) 147 i0 _ 3 56 Tryz.underlying53 hi0 hz0 hz1 hz2 rfl (by decide) (.slice vA kM vc) kM xM rfl hoa ⟨w1.heap.size, 0, none⟩ 1 1 [.slice A n c, .slice none 0 0, .int .i64 ((k : Int) + 1)] rfl rfl ?_ ?_ (by unfold maxLen; omega) (by omega) ?_ ?_
  · exact three_src w1 _ _ _ 147
  · intro u hu
    simp only [List.mem_cons, List.not_mem_nil, or_false] at hu
    rcases hu with rfl | rfl | rfl <;> rfl
  · have := lt_blk HB1.out
    show bk + 1 ≤ (w1.alloc _).heap.size
    simp
    omega
  intro v2 w2 ho2 hg2 hn2
  have hne : some bk ≠ (Value.slice vA kM vc).ownBlock := by
    intro e
    have := (hon.lt bk e.symm).1
    omega
  have hb2 : w2.heap[bk]? = some (.cells (bookCells ((k : Int) + 1) vN vB (.slice vA kM vc)) 66 (0, 0)) := by
    rw [hg2.block bk (by have := lt_blk HB1.out; show bk < (w1.alloc _).heap.size; simp; omega) hne]
    exact (Below.heap_alloc w1 _ bk (lt_blk HB1.out)).trans HB1.out
  have g0 : w2.cell? ⟨bk, 0, none⟩ = some (.int .i64 ((k : Int) + 1)) := by rw [cell_blk hb2]; rfl
  have g1 : w2.cell? ⟨bk, 4, none⟩ = some (.slice vA kM vc) := by rw [cell_blk hb2]; rfl
  have f1 : w2.frozen? ⟨bk, 4, none⟩ = false := frozen_blk hb2
  have HB2 := Lib.hid hb2
  have HotN : Hid (w2.ownsRow (bk + 1) 149 3 vN kN xN) := Lib.hid (row_far (by decide) halotN hoa ⟨hg2.os, hg2.tape, hg2.output, hg2.size, hg2.block⟩)
  have HotB : Hid (w2.ownsRow (bk + 1) 177 3 vB kB xB) := Lib.hid (row_far (by decide) halotB hoa ⟨hg2.os, hg2.tape, hg2.output, hg2.size, hg2.block⟩)
  have hk2 : Kept (fun b => b = bk ∨ (Value.slice vA kM vc).ownBlock = some b) w w2 := hk1.trans ⟨hg2.os, hg2.tape, hg2.output, Nat.le_trans (by simp) hg2.size, fun b hb hn => (hg2.block b (Nat.lt_of_lt_of_le hb (by show _ ≤ (w1.alloc _).heap.size; simp)) (fun e => hn (.inr e.symm))).trans (Below.heap_alloc w1 _ b hb)⟩
  clear hb2 d0 d1 hal
  refine hK.out _ _ (fun _ => ⟨g0, g1⟩) ?_
  clear hK K
  simp only [Act.put, List.setIfInBounds_toArray, List.set_cons_zero, List.set_cons_succ]
  refine ord_hard rfl rfl (fun K hK => ?_)
  go_simp
  refine hK.out _ _ (fun _ => ⟨g0, g1⟩) ?_
  clear hK K
  refine ord_hard rfl rfl (fun K hK => ?_)
  go_simp
  refine hK.out _ _ (fun _ => ⟨g0, g1⟩) ?_
  clear hK K
  obtain ⟨A2, c2, hv2⟩ : ∃ A c, v2 = .slice A (kM + 1) c := by
    rcases ho2.2 with ⟨rfl, e⟩ | ⟨g, cap, cur, rfl, _⟩
    · omega
    · exact ⟨_, _, rfl⟩
  subst hv2
  refine ord_hard rfl rfl (fun K hK => ?_)
  go_simp
  refine hK.out _ _ (fun h => absurd rfl h) ?_
  clear hK K
  refine ord_end ?_
  go_wp2
  go_end0
  refine ⟨rfl, .slice A2 (kM + 1) c2, ⟨?_, ownsRow_setCell_below HotN.out (by simp) _, ownsRow_setCell_below HotB.out (by simp) _, ?_⟩, ?_⟩
  · rw [set_blk HB2.out, Int.natCast_add]
    rfl
  · exact ownsRow_setCell_below ho2 (by simp) _
  · exact Kept.setCell (D := (fun b => b = bk ∨ (Value.slice vA kM vc).ownBlock = some b)) (p := ⟨bk, 4, none⟩) hk2 (.inl (.inl rfl)) _

theorem putM_any (bk k : Nat) (vN : Value) (kN : Nat) (xN : List Value) (vB : Value) (kB : Nat) (xB : List Value) (vM : Value) (kM : Nat) (xM : List Value) (A : Option Addr) (n c : Nat) (w : World) (hB : BookK w bk k vN kN xN vB kB xB vM kM xM) (hk : k ≤ 90) (hkk : kM ≤ 90) :
    Calls Tryz.prog 18 #[.pointer (some ⟨bk, 0, none⟩), .slice A n c] w fun e w' => e = .returned (.tuple #[]) ∧ ∃ v', BookK w' bk (k + 1) vN kN xN vB kB xB v' (kM + 1) (xM ++ [.slice A n c, .slice none 0 0, .int .i64 ((k : Int) + 1)]) ∧ Kept (fun b => b = bk ∨ vM.ownBlock = some b) w w' := by
  go_enter Tryz.func18, Tryz.ntmps18
  go_wp2_with fail
  refine (keepM_any bk k vN kN xN vB kB xB vM kM xM A n c _ hB hk hkk).mono ?_
  rintro e w1 ⟨rfl, v1, hB1, hk1⟩
  go_wp2_with fail
  go_end0
  exact ⟨rfl, v1, hB1, hk1⟩
end Go.Proofs.YtmiconjmeaammaaGreatDoor
