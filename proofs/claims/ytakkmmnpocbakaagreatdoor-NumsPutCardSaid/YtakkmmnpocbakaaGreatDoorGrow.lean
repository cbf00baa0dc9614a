/- The held lists are grown: each one's longer list is its mark, forty times more, in memory that no other one has. -/
import Derived.Test.YtakkmmnpocbakaaGreatDoorBook
import Derived.Test.YtakkmmnpocbakaaGreatDoorOne
namespace Go.Proofs.YtakkmmnpocbakaaGreatDoor
open Go.RowKit

/-- List j's longer one. -/
def LongAt (h : Held) (w : World) (j : Nat) : Prop :=
  ∃ L c cur, w.cell? ⟨h.hb, j * 3 + 1, none⟩ = some (.slice (some ⟨L, 0, none⟩) (h.n j + 40) c) ∧ w.heap[L]? = some (.cells cur 5 (0, 0)) ∧ cur.size = c ∧ h.n j + 40 ≤ c ∧ c ≤ maxLen ∧
    (∀ q, q < h.n j + 40 → cur[q]? = some (.int .u8 (mark j))) ∧ ∀ i, i < h.m → i ≠ j → L ≠ h.g i

structure GrowAt (h : Held) (w : World) (k : Nat) (wr : World) : Prop where
  kept : Kept (fun b => b = h.hb ∨ ∃ j, j < h.m ∧ b = h.g j) w wr
  book : BookAt h wr
  marks : ∀ j, j < h.m → Marked h wr j (h.n j)
  longs : ∀ j, j < k → LongAt h wr j

def GrowRel (h : Held) (w : World) (i2 : Value) (wr : World) : Prop := ∃ k : Nat, i2 = .int .i64 (k : Int) ∧ k ≤ h.m ∧ GrowAt h w k wr

/-- Of list k's longer one p bytes more are put. -/
structure GrowInAt (h : Held) (wo : World) (k p : Nat) (L c : Nat) (wr : World) : Prop where
  kept : Kept (fun b => b = h.g k) wo wr
  marked : Marked h wr k (h.n k)
  long : ∃ cur, wr.heap[L]? = some (.cells cur 5 (0, 0)) ∧ cur.size = c ∧ h.n k + p ≤ c ∧ c ≤ maxLen ∧ ∀ q, q < h.n k + p → cur[q]? = some (.int .u8 (mark k))
  place : (L = h.g k ∧ c = h.c k) ∨ wo.heap.size < L

def GrowIn (h : Held) (wo : World) (k C : Nat) (v4 i5 : Value) (wr : World) : Prop :=
  ∃ p L c : Nat, i5 = .int .i64 (p : Int) ∧ v4 = .slice (some ⟨L, 0, none⟩) (h.n k + p) c ∧ p ≤ 40 ∧ GrowInAt h wo k p L c wr ∧ wr.cell? ⟨C, 2, none⟩ = some (.int .i64 ((k : Int) + 1)) ∧ C < wr.heap.size

/-- One byte more. -/
theorem growIn_next {h : Held} {wo wr w1 w' : World} {k p L c L' c' : Nat} {cur cur' : Array Value} (hgo : h.g k < wo.heap.size) (hC : wo.heap.size < wr.heap.size) (hg : GrowInAt h wo k p L c wr) (hcur : wr.heap[L]? = some (.cells cur 5 (0, 0)))
    (hmq : ∀ q, q < h.n k + p → cur[q]? = some (.int .u8 (mark k))) (hk1 : Kept (fun _ => False) wr w1) (h1 : OneMore w1 w' L (h.n k + p) c L' c' cur cur' (.int .u8 (mark k))) : GrowInAt h wo k (p + 1) L' c' w' := by
  have hsz : wr.heap.size ≤ w1.heap.size := hk1.size
  have hLw : L < wr.heap.size := lt_blk hcur
  have hmk' : Kept (fun b => b = L ∧ L' = L) wr w' := (hk1.mono (fun _ hf => hf.elim)).trans ⟨h1.kept.os, h1.kept.tape, h1.kept.output, h1.kept.size, h1.kept.block⟩
  have hplace : L' = L ∨ wr.heap.size ≤ L' := by
    rcases h1.place with ⟨e, _⟩ | e
    · exact .inl e
    · exact .inr (by omega)
  have hdirty : ∀ b, (b = L ∧ L' = L) → b = h.g k ∨ wo.heap.size < b := by
    rintro b ⟨rfl, _⟩
    rcases hg.place with ⟨e, _⟩ | e
    · exact .inl e
    · exact .inr e
  have hq' : ∀ q, q < h.n k + (p + 1) → cur'[q]? = some (.int .u8 (mark k)) := by
    intro q hq
    by_cases e : q = h.n k + p
    · subst e; exact h1.new
    · rw [h1.old q (by omega)]
      exact hmq q (by omega)
  refine ⟨?_, ?_, ⟨cur', h1.blk, h1.size, by have := h1.room; omega, h1.top, hq'⟩, ?_⟩
  · refine ⟨hmk'.os.trans hg.kept.os, hmk'.tape.trans hg.kept.tape, hmk'.output.trans hg.kept.output, Nat.le_trans hg.kept.size hmk'.size, fun b hb hn => ?_⟩
    refine (hmk'.block b (Nat.lt_of_lt_of_le hb hg.kept.size) fun hd => ?_).trans (hg.kept.block b hb hn)
    rcases hdirty b hd with e | e
    · exact hn e
    · omega
  · obtain ⟨c0, e1, e2, e3⟩ := hg.marked
    by_cases e : L' = L ∧ h.g k = L
    · have hb := h1.blk
      rw [e.1, ← e.2] at hb
      refine ⟨cur', hb, ?_, fun j hj => hq' j (by omega)⟩
      rcases h1.place with ⟨_, ec⟩ | en
      · rcases hg.place with ⟨_, ec'⟩ | en'
        · rw [h1.size, ec, ec']
        · omega
      · omega
    · exact ⟨c0, (hmk'.block (h.g k) (lt_blk e1) fun hd => e ⟨hd.2, hd.1⟩).trans e1, e2, e3⟩
  · rcases h1.place with ⟨e, ec⟩ | e
    · rcases hg.place with ⟨e', ec'⟩ | e'
      · exact .inl ⟨e.trans e', ec.trans ec'⟩
      · exact .inr (by omega)
    · exact .inr (by have := hg.kept.size; omega)

/-- The copy stands. -/
theorem growIn_copy {h : Held} {wo wr w' : World} {k p L c L' c' : Nat} {cur cur' : Array Value} {o : Obj} {u v : Value} (hgo : h.g k < wo.heap.size) (hC : wo.heap.size < wr.heap.size) (hg : GrowInAt h wo k p L c wr) (h1 : OneMore (wr.alloc o) w' L (h.n k + p) c L' c' cur cur' u)
    (e2 : wr.cell? ⟨wo.heap.size, 2, none⟩ = some v) : w'.cell? ⟨wo.heap.size, 2, none⟩ = some v := by
  refine (h1.kept.cell (p := ⟨wo.heap.size, 2, none⟩) (by simp; omega) ?_).trans ((World.cell?_alloc_lt wr o ⟨wo.heap.size, 2, none⟩ hC).trans e2)
  rintro ⟨e, _⟩
  have e : wo.heap.size = L := e
  rcases hg.place with ⟨e', _⟩ | e'
  · omega
  · omega

theorem cell_set_ne {w : World} {g i j : Nat} {u : Value} (h : i ≠ j) : (w.setCell ⟨g, i, none⟩ u).cell? ⟨g, j, none⟩ = w.cell? ⟨g, j, none⟩ :=
  World.cell?_setCell_other w ⟨g, i, none⟩ ⟨g, j, none⟩ u (fun e => by injection e with _ e; omega)

theorem cell_set_far {w : World} {g i : Nat} {p : Addr} {u : Value} (h : p.block ≠ g) : (w.setCell ⟨g, i, none⟩ u).cell? p = w.cell? p :=
  World.cell?_setCell_other w ⟨g, i, none⟩ p u (fun e => h (by rw [← e]))

theorem heap_set_far {w : World} {g i b : Nat} {u : Value} (h : b ≠ g) : (w.setCell ⟨g, i, none⟩ u).heap[b]? = w.heap[b]? := Below.heap_setCell w ⟨g, i, none⟩ u b h

/-- A longer list is laid into the book. -/
theorem BookAt.setLong {h : Held} {w : World} {k : Nat} {A : Option Addr} {n c : Nat} (hB : BookAt h w) (hk : k < h.m) : BookAt h (w.setCell ⟨h.hb, k * 3 + 1, none⟩ (.slice A n c)) := by
  obtain ⟨H, hH⟩ := hB.hblk
  have hsz : (w.setCell ⟨h.hb, k * 3 + 1, none⟩ (.slice A n c)).heap.size = w.heap.size := by simp [World.setCell]
  refine ⟨hB.many, (cell_set_far (p := ⟨h.bk, 1, none⟩) hB.ne).trans hB.cell1, fun i hi => (cell_set_ne (by omega)).trans (hB.l i hi), fun i hi => ?_, fun i hi => (cell_set_ne (by omega)).trans (hB.no i hi),
    by rw [hsz]; exact hB.lt, ⟨_, set_blk hH _⟩, hB.ne, hB.small, fun i hi => ?_, hB.apart, hB.off⟩
  · by_cases e : i = k
    · subst e
      obtain ⟨A0, n0, c0, h0⟩ := hB.lo i hi
      refine ⟨A, n, c, ?_⟩
      rw [cell_blk (set_blk hH _)]
      rw [cell_blk hH] at h0
      have hlt : i * 3 + 1 < H.size := by
        rcases Nat.lt_or_ge (i * 3 + 1) H.size with hl | hl
        · exact hl
        · rw [Array.getElem?_eq_none hl] at h0; cases h0
      rw [Array.getElem?_setIfInBounds_self_of_lt hlt]
    · obtain ⟨A0, n0, c0, h0⟩ := hB.lo i hi
      exact ⟨A0, n0, c0, (cell_set_ne (by omega)).trans h0⟩
  · obtain ⟨cur, e1, e2⟩ := hB.blk i hi
    exact ⟨cur, (heap_set_far (hB.off i hi).2).trans e1, e2⟩

theorem long_ne {w : World} {L hb : Nat} {cur H : Array Value} (h1 : w.heap[L]? = some (.cells cur 5 (0, 0))) (h2 : w.heap[hb]? = some (.cells H 55 (0, 0))) : L ≠ hb := by
  rintro rfl
  rw [h1] at h2
  injection h2 with h2
  injection h2 with _ h2
  cases h2

theorem growAt_next {h : Held} {w wo wi : World} {k L c : Nat} (hg : GrowAt h w k wo) (hk : k < h.m) (hi : GrowInAt h wo k 40 L c wi) :
    GrowAt h w (k + 1) (wi.setCell ⟨h.hb, k * 3 + 1, none⟩ (.slice (some ⟨L, 0, none⟩) (h.n k + 40) c)) := by
  have hB := hg.book
  have hmk : ∀ i, i < h.m → Marked h wi i (h.n i) := by
    intro i him
    by_cases e : i = k
    · subst e; exact hi.marked
    · obtain ⟨cur, e1, e2, e3⟩ := hg.marks i him
      exact ⟨cur, (hi.kept.block (h.g i) (lt_blk e1) (hB.apart i k him hk e)).trans e1, e2, e3⟩
  have hBi : BookAt h wi := hB.stay hi.kept (fun e => (hB.off k hk).1 e.symm) (fun e => (hB.off k hk).2 e.symm) fun i him => by
    obtain ⟨cur, e1, e2, _⟩ := hmk i him
    exact ⟨cur, e1, e2⟩
  obtain ⟨H, hH⟩ := hBi.hblk
  refine ⟨?_, hBi.setLong hk, fun j hj => ?_, fun j hj => ?_⟩
  · exact (hg.kept.trans (hi.kept.mono fun b hb => .inr ⟨k, hk, hb⟩)).setCell (.inl (.inl rfl)) _
  · obtain ⟨cur, e1, e2, e3⟩ := hmk j hj
    exact ⟨cur, (heap_set_far (hB.off j hj).2).trans e1, e2, e3⟩
  · by_cases e : j = k
    · subst e
      obtain ⟨cur, l1, l2, l3, l4, l5⟩ := hi.long
      obtain ⟨A0, n0, c0, h0⟩ := hBi.lo j hk
      rw [cell_blk hH] at h0
      have hlt : j * 3 + 1 < H.size := by
        rcases Nat.lt_or_ge (j * 3 + 1) H.size with hl | hl
        · exact hl
        · rw [Array.getElem?_eq_none hl] at h0; cases h0
      refine ⟨L, c, cur, ?_, (heap_set_far (long_ne l1 hH)).trans l1, l2, l3, l4, l5, fun i him hne => ?_⟩
      · rw [cell_blk (set_blk hH _), Array.getElem?_setIfInBounds_self_of_lt hlt]
      · rcases hi.place with ⟨e, _⟩ | e
        · rw [e]; exact hB.apart j i hk him (fun e => hne e.symm)
        · obtain ⟨cu, e1, _⟩ := hg.marks i him
          have := lt_blk e1
          omega
    · obtain ⟨L0, c0, cur, l0, l1, l2, l3, l4, l5, l6⟩ := hg.longs j (by omega)
      have hLk : L0 ≠ h.g k := l6 k hk (fun e' => e e'.symm)
      have l1' : wi.heap[L0]? = some (.cells cur 5 (0, 0)) := (hi.kept.block L0 (lt_blk l1) hLk).trans l1
      have l0' : wi.cell? ⟨h.hb, j * 3 + 1, none⟩ = _ := (hi.kept.cell (p := ⟨h.hb, j * 3 + 1, none⟩) hB.lt.2 (fun e => (hB.off k hk).2 e.symm)).trans l0
      exact ⟨L0, c0, cur, (cell_set_ne (by omega)).trans l0', (heap_set_far (long_ne l1' hH)).trans l1', l2, l3, l4, l5, l6⟩

set_option maxRecDepth 100000 in
set_option maxHeartbeats 1000000 in
theorem grow_any (h : Held) (w : World) (hB : BookAt h w) (hmarks : ∀ j, j < h.m → Marked h w j (h.n j)) :
    Calls Tryz.prog 33 #[.pointer (some ⟨h.bk, 0, none⟩)] w fun e w' => e = .returned (.tuple #[]) ∧ GrowAt h w h.m w' := by
  have hm := hB.many
  obtain ⟨i0, hi0, hz0, hz1, hz2⟩ := info_parts byte_info
  go_enter Tryz.func33, Tryz.ntmps33
  go_wp2
  go_loopw [2] (fun i2 wr => GrowRel h w i2 wr) (fun i2 _ => h.m - (intOf i2).toNat)
  case atStart => exact ⟨0, rfl, by omega, Kept.refl _ _, hB, hmarks, fun j hj => absurd hj (by omega)⟩
  case round =>
    clear hmarks
    obtain ⟨k, rfl, hk, hG⟩ := hrel
    have c1 := hG.book.cell1
    by_cases hlt : k < h.m
    · have l0 := hG.book.l k hlt
      obtain ⟨LA, LN, LC, l1⟩ := hG.book.lo k hlt
      have l2 := hG.book.no k hlt
      have hsm := hG.book.small k hlt
      obtain ⟨curg, hgk, _⟩ := hG.marks k hlt
      have HGK := Lib.hid hgk
      clear hgk
      obtain ⟨wo, rfl⟩ : ∃ wo : World, wo = wr := ⟨_, rfl⟩
      go_wp2
      go_loopw [4, 5] (fun v4 i5 wr => GrowIn h wo k wo.heap.size v4 i5 wr) (fun _ i5 _ => 40 - (intOf i5).toNat)
      case atStart =>
        have hb := heap_alloc_new wo (.cells #[.slice (some ⟨h.g k, 0, none⟩) (h.n k) (h.c k), .slice LA LN LC, .int .i64 ((k : Int) + 1)] 55)
        obtain ⟨cur, m1, m2, m3⟩ := hG.marks k hlt
        obtain ⟨_, _, _, m4, m5⟩ := hG.book.blk k hlt
        have m1' := (Below.heap_alloc wo (.cells #[.slice (some ⟨h.g k, 0, none⟩) (h.n k) (h.c k), .slice LA LN LC, .int .i64 ((k : Int) + 1)] 55) (h.g k) (lt_blk m1)).trans m1
        refine ⟨0, h.g k, h.c k, rfl, rfl, by omega, ⟨(Kept.refl _ _).alloc _, ⟨cur, m1', m2, m3⟩, ⟨cur, m1', m2, m4, m5, m3⟩, .inl ⟨rfl, rfl⟩⟩, ?_, by simp⟩
        rw [cell_blk hb]; rfl
      case round =>
        obtain ⟨p, L, c, rfl, rfl, hp, hGI, e2, hC⟩ := hrel
        clear c1 l0 l1 l2
        by_cases hlt2 : p < 40
        · obtain ⟨cur, q1, q2, q3, q4, q5⟩ := hGI.long
          have Q1 := Lib.hid q1
          have Q2 := Lib.hid q2
          have Q5 := Lib.hid q5
          clear q1 q2 q5
          have hd : decide ((p : Int) < 40) = true := by simp; omega
          go_wp2_with fail
          refine (markByte_any ((k : Int) + 1) _).mono ?_
          rintro e w2 ⟨rfl, rfl⟩
          have hX : (wr.alloc (.cells #[.int .u8 (((k : Int) + 1) % 256)] 5)).cell? ⟨wr.heap.size, 0, none⟩ = some (.int .u8 (mark k)) := by rw [World.cell?_alloc_at _ _ _ _ rfl]; rfl
          have HX := Lib.hid hX
          clear hX
          go_wp2_with (at_builtin; refine wpList_append_one _ rfl (.tmp 28) (.tmp 32) 22 rfl i0 Tryz.underlying22 hi0 hz0 hz1 hz2 L (h.n k + p) c cur rfl ((Below.heap_alloc wr _ L (lt_blk Q1.out)).trans Q1.out) Q2.out q3 q4 (by omega) wr.heap.size (.int .u8 (mark k)) rfl HX.out rfl ?_; intro L' c' cur' w' hone)
          go_roundw
          case rel => exact ⟨p + 1, L', c', by go_num, by rw [Nat.add_assoc], by omega, growIn_next (lt_blk HGK.out) hC hGI Q1.out Q5.out ((Kept.refl _ _).alloc _) hone, growIn_copy (lt_blk HGK.out) hC hGI hone e2, by have := hone.kept.size; simp at this; omega⟩
          case measure => simp [intOf]; omega
        · obtain rfl : p = 40 := by omega
          have hnb : ¬ h.hb = h.g k := fun e => (hG.book.off k hlt).2 e.symm
          have c1' : wr.cell? ⟨h.bk, 1, none⟩ = _ := (hGI.kept.cell (p := ⟨h.bk, 1, none⟩) hG.book.lt.1 (fun e => (hG.book.off k hlt).1 e.symm)).trans hG.book.cell1
          obtain ⟨LA', LN', LC', l1'⟩ := hG.book.lo k hlt
          have l1'' : wr.cell? ⟨h.hb, k * 3 + 1, none⟩ = _ := (hGI.kept.cell (p := ⟨h.hb, k * 3 + 1, none⟩) hG.book.lt.2 hnb).trans l1'
          obtain ⟨H, hH⟩ := hG.book.hblk
          have hfz : wr.frozen? ⟨h.hb, k * 3 + 1, none⟩ = false := frozen_blk ((hGI.kept.block h.hb hG.book.lt.2 hnb).trans hH)
          clear hH hnb l1'
          go_wp2_with fail
          go_roundw
          case rel => exact ⟨k + 1, by go_num, by omega, growAt_next hG hlt hGI⟩
          case measure => simp [intOf]; omega
    · obtain rfl : k = h.m := by omega
      go_wp2
      go_end0
      exact ⟨rfl, hG⟩

end Go.Proofs.YtakkmmnpocbakaaGreatDoor
