/- The held lists are grown: each one's longer list is its mark, forty times more, in memory that no other one has. -/
import Derived.Test.YtkjeejaecagbaaaGreatDoorBook
import Derived.Test.YtkjeejaecagbaaaGreatDoorOne
import Derived.Test.YtkjeejaecagbaaaGreatDoorTwin
namespace Go.Proofs.YtkjeejaecagbaaaGreatDoor
open Go.RowKit

/-- List j's longer one. -/
def LongAt (h : Held) (w : World) (j : Nat) : Prop :=
  ∃ L c cur, w.cell? ⟨h.hb, j * 3 + 1, none⟩ = some (.slice (some ⟨L, 0, none⟩) (h.n j + 40) c) ∧ w.heap[L]? = some (.cells cur 9 (0, 0)) ∧ cur.size = c ∧ h.n j + 40 ≤ c ∧ c ≤ maxLen ∧
    (∀ q, q < h.n j + 40 → cur[q]? = some (mark j)) ∧ ∀ i, i < h.m → i ≠ j → h.nl i = false → L ≠ h.g i

structure GrowAt (h : Held) (w : World) (k : Nat) (wr : World) : Prop where
  kept : Kept (fun b => b = h.hb ∨ ∃ j, j < h.m ∧ b = h.g j) w wr
  book : BookAt h wr
  marks : ∀ j, j < h.m → Marked h wr j (h.n j)
  longs : ∀ j, j < k → LongAt h wr j

def GrowRel (h : Held) (w : World) (i2 : Value) (wr : World) : Prop := ∃ k : Nat, i2 = .int .i64 (k : Int) ∧ k ≤ h.m ∧ GrowAt h w k wr

/-- Of list k's longer one p bytes more are put. -/
structure GrowInAt (h : Held) (wo : World) (k p : Nat) (L c : Nat) (wr : World) : Prop where
  kept : Kept (fun b => b = h.g k ∧ h.nl k = false) wo wr
  marked : Marked h wr k (h.n k)
  long : ∃ cur, wr.heap[L]? = some (.cells cur 9 (0, 0)) ∧ cur.size = c ∧ h.n k + p ≤ c ∧ c ≤ maxLen ∧ ∀ q, q < h.n k + p → cur[q]? = some (mark k)
  place : (L = h.g k ∧ c = h.c k ∧ h.nl k = false) ∨ wo.heap.size < L

def GrowIn (h : Held) (wo : World) (k C : Nat) (v4 i5 : Value) (wr : World) : Prop :=
  ∃ p : Nat, i5 = .int .i64 (p : Int) ∧ p ≤ 40 ∧ wr.cell? ⟨C, 2, none⟩ = some (.int .i64 ((k : Int) + 1)) ∧ C < wr.heap.size ∧
    ((h.nl k = true ∧ p = 0 ∧ v4 = .slice none 0 0 ∧ Kept (fun _ => False) wo wr) ∨ ∃ L c : Nat, v4 = .slice (some ⟨L, 0, none⟩) (h.n k + p) c ∧ GrowInAt h wo k p L c wr)

/-- One byte more. -/
theorem growIn_next {h : Held} {wo wr w1 w' : World} {k p L c L' c' : Nat} {cur cur' : Array Value} (hgo : h.nl k = false → h.g k < wo.heap.size) (hC : wo.heap.size < wr.heap.size) (hg : GrowInAt h wo k p L c wr) (hcur : wr.heap[L]? = some (.cells cur 9 (0, 0)))
    (hmq : ∀ q, q < h.n k + p → cur[q]? = some (mark k)) (hk1 : Kept (fun _ => False) wr w1) (h1 : OneMore w1 w' L (h.n k + p) c L' c' cur cur' (mark k)) : GrowInAt h wo k (p + 1) L' c' w' := by
  have hsz : wr.heap.size ≤ w1.heap.size := hk1.size
  have hLw : L < wr.heap.size := lt_blk hcur
  have hmk' : Kept (fun b => b = L ∧ L' = L) wr w' := (hk1.mono (fun _ hf => hf.elim)).trans ⟨h1.kept.os, h1.kept.tape, h1.kept.output, h1.kept.size, h1.kept.block⟩
  have hplace : L' = L ∨ wr.heap.size ≤ L' := by
    rcases h1.place with ⟨e, _⟩ | e
    · exact .inl e
    · exact .inr (by omega)
  have hdirty : ∀ b, (b = L ∧ L' = L) → (b = h.g k ∧ h.nl k = false) ∨ wo.heap.size < b := by
    rintro b ⟨rfl, _⟩
    rcases hg.place with ⟨e, _, en⟩ | e
    · exact .inl ⟨e, en⟩
    · exact .inr e
  have hq' : ∀ q, q < h.n k + (p + 1) → cur'[q]? = some (mark k) := by
    intro q hq
    by_cases e : q = h.n k + p
    · subst e; exact h1.new
    · rw [h1.old q (by omega)]
      exact hmq q (by omega)
  refine ⟨?_, ?_, ⟨cur', h1.blk, h1.size, by have := h1.room; omega, h1.top, hq'⟩, ?_⟩
  · refine ⟨hmk'.os.trans hg.kept.os, hmk'.tape.trans hg.kept.tape, hmk'.output.trans hg.kept.output, Nat.le_trans hg.kept.size hmk'.size, fun b hb hn => ?_⟩
    refine (hmk'.block b (Nat.lt_of_lt_of_le hb hg.kept.size) fun hd => ?_).trans (hg.kept.block b hb hn)
    rcases hdirty b hd with e | e
    · exact hn e
    · omega
  · intro hnl
    obtain ⟨c0, e1, e2, e3⟩ := hg.marked hnl
    have hgo' := hgo hnl
    by_cases e : L' = L ∧ h.g k = L
    · have hb := h1.blk
      rw [e.1, ← e.2] at hb
      refine ⟨cur', hb, ?_, fun j hj => hq' j (by omega)⟩
      rcases h1.place with ⟨_, ec⟩ | en
      · rcases hg.place with ⟨_, ec', _⟩ | en'
        · rw [h1.size, ec, ec']
        · omega
      · omega
    · exact ⟨c0, (hmk'.block (h.g k) (lt_blk e1) fun hd => e ⟨hd.2, hd.1⟩).trans e1, e2, e3⟩
  · rcases h1.place with ⟨e, ec⟩ | e
    · rcases hg.place with ⟨e', ec', en⟩ | e'
      · exact .inl ⟨e.trans e', ec.trans ec', en⟩
      · exact .inr (by omega)
    · exact .inr (by have := hg.kept.size; omega)

/-- The copy stands. -/
theorem growIn_copy {h : Held} {wo wr w' : World} {k p L c L' c' : Nat} {cur cur' : Array Value} {o : Obj} {u v : Value} (hgo : h.nl k = false → h.g k < wo.heap.size) (hC : wo.heap.size < wr.heap.size) (hg : GrowInAt h wo k p L c wr) (h1 : OneMore (wr.alloc o) w' L (h.n k + p) c L' c' cur cur' u)
    (e2 : wr.cell? ⟨wo.heap.size, 2, none⟩ = some v) : w'.cell? ⟨wo.heap.size, 2, none⟩ = some v := by
  refine (h1.kept.cell (p := ⟨wo.heap.size, 2, none⟩) (by simp; omega) ?_).trans ((World.cell?_alloc_lt wr o ⟨wo.heap.size, 2, none⟩ hC).trans e2)
  rintro ⟨e, _⟩
  have e : wo.heap.size = L := e
  rcases hg.place with ⟨e', _, en⟩ | e'
  · have := hgo en
    omega
  · omega

/-- The first one, behind nothing. -/
theorem growIn_first {h : Held} {wo wr w' : World} {k : Nat} {A' : Option Addr} {k' c' : Nat} {o : Obj} (hn0 : h.n k = 0) (hnl : h.nl k = true) (hK : Kept (fun _ => False) wo wr) (hC : wo.heap.size < wr.heap.size)
    (e2 : wr.cell? ⟨wo.heap.size, 2, none⟩ = some (.int .i64 ((k : Int) + 1))) (hk' : Hid (k' = 0 + 1)) (own' : w'.ownsRow wr.heap.size 9 1 (.slice A' k' c') k' (([] ++ [[35, (48 + (k + 1)).toUInt8]]).map txt))
    (hg' : (wr.alloc o).grownBy w' (Value.slice none 0 0).ownBlock) : GrowIn h wo k wo.heap.size (.slice A' k' c') (.int .i64 1) w' := by
  obtain rfl : k' = 1 := hk'.out
  have hk1 : Kept (fun _ => False) wr w' := ⟨hg'.os, hg'.tape, hg'.output, Nat.le_trans (by simp) hg'.size, fun b hb _ => (hg'.block b (Nat.lt_of_lt_of_le hb (by simp)) (by simp [Value.ownBlock])).trans (Below.heap_alloc wr o b hb)⟩
  rcases own'.2 with ⟨_, h0⟩ | ⟨g, cap, cur, hv, hb, hg, hnc, hcm, hcs, htake⟩
  · cases h0
  injection hv with h1 _ h3
  subst h1
  subst h3
  refine ⟨1, rfl, by omega, (hk1.cell (p := ⟨wo.heap.size, 2, none⟩) hC (by simp)).trans e2, Nat.lt_of_lt_of_le hC hk1.size, .inr ⟨g, c', by rw [hn0], ⟨(hK.trans hk1).mono (fun _ hf => hf.elim), (fun hf => by rw [hnl] at hf; cases hf), ⟨cur, hg, by simpa using hcs, by rw [hn0]; omega, hcm, fun q hq => ?_⟩, .inr (by omega)⟩⟩⟩
  obtain rfl : q = 0 := by omega
  have := congrArg (fun l => l[0]?) htake
  simp only [Nat.one_mul, List.getElem?_take, if_pos (show (0 : Nat) < 1 by omega), Array.getElem?_toList] at this
  rw [this]
  rfl

theorem cell_set_ne {w : World} {g i j : Nat} {u : Value} (h : i ≠ j) : (w.setCell ⟨g, i, none⟩ u).cell? ⟨g, j, none⟩ = w.cell? ⟨g, j, none⟩ :=
  World.cell?_setCell_other w ⟨g, i, none⟩ ⟨g, j, none⟩ u (fun e => by injection e with _ e; omega)

theorem cell_set_far {w : World} {g i : Nat} {p : Addr} {u : Value} (h : p.block ≠ g) : (w.setCell ⟨g, i, none⟩ u).cell? p = w.cell? p :=
  World.cell?_setCell_other w ⟨g, i, none⟩ p u (fun e => h (by rw [← e]))

theorem heap_set_far {w : World} {g i b : Nat} {u : Value} (h : b ≠ g) : (w.setCell ⟨g, i, none⟩ u).heap[b]? = w.heap[b]? := Below.heap_setCell w ⟨g, i, none⟩ u b h

/-- A longer list is laid into the book. -/
theorem BookAt.setLong {h : Held} {w : World} {k : Nat} {A : Option Addr} {n c : Nat} (hB : BookAt h w) (hk : k < h.m) : BookAt h (w.setCell ⟨h.hb, k * 3 + 1, none⟩ (.slice A n c)) := by
  obtain ⟨H, hH⟩ := hB.hblk
  have hsz : (w.setCell ⟨h.hb, k * 3 + 1, none⟩ (.slice A n c)).heap.size = w.heap.size := by simp [World.setCell]
  refine ⟨hB.many, (cell_set_far (p := ⟨h.bk, 3, none⟩) hB.ne).trans hB.cell1, fun i hi => (cell_set_ne (by omega)).trans (hB.l i hi), fun i hi => ?_, fun i hi => (cell_set_ne (by omega)).trans (hB.no i hi),
    by rw [hsz]; exact hB.lt, ⟨_, set_blk hH _⟩, hB.ne, hB.small, hB.nils, fun i hi hni => ?_, hB.apart, hB.off⟩
  · by_cases e : i = k
    · subst e
      obtain ⟨A0, n0, c0, h0⟩ := hB.lo i hi
      refine ⟨A, n, c, ?_⟩
      rw [cell_blk (set_blk hH _)]
      rw [cell_blk hH] at h0
      have hlt : i * 3 + 1 < H.size := by
        rcases Nat.lt_or_ge (i * 3 + 1) H.size with hl | hl
        · exact hl
        · rw [Array.getElem?_eq_none hl] at h0; cases h0
      rw [Array.getElem?_setIfInBounds_self_of_lt hlt]
    · obtain ⟨A0, n0, c0, h0⟩ := hB.lo i hi
      exact ⟨A0, n0, c0, (cell_set_ne (by omega)).trans h0⟩
  · obtain ⟨cur, e1, e2⟩ := hB.blk i hi hni
    exact ⟨cur, (heap_set_far (hB.off i hi).2).trans e1, e2⟩

theorem long_ne {w : World} {L hb : Nat} {cur H : Array Value} (h1 : w.heap[L]? = some (.cells cur 9 (0, 0))) (h2 : w.heap[hb]? = some (.cells H 64 (0, 0))) : L ≠ hb := by
  rintro rfl
  rw [h1] at h2
  injection h2 with h2
  injection h2 with _ h2
  cases h2

theorem growAt_next {h : Held} {w wo wi : World} {k L c : Nat} (hg : GrowAt h w k wo) (hk : k < h.m) (hi : GrowInAt h wo k 40 L c wi) :
    GrowAt h w (k + 1) (wi.setCell ⟨h.hb, k * 3 + 1, none⟩ (.slice (some ⟨L, 0, none⟩) (h.n k + 40) c)) := by
  have hB := hg.book
  have hmk : ∀ i, i < h.m → Marked h wi i (h.n i) := by
    intro i him
    by_cases e : i = k
    · subst e; exact hi.marked
    · intro hni
      obtain ⟨cur, e1, e2, e3⟩ := hg.marks i him hni
      exact ⟨cur, (hi.kept.block (h.g i) (lt_blk e1) (fun hd => hB.apart i k him hk e hd.1)).trans e1, e2, e3⟩
  have hBi : BookAt h wi := hB.stay hi.kept (fun e => (hB.off k hk).1 e.1.symm) (fun e => (hB.off k hk).2 e.1.symm) fun i him hni => by
    obtain ⟨cur, e1, e2, _⟩ := hmk i him hni
    exact ⟨cur, e1, e2⟩
  obtain ⟨H, hH⟩ := hBi.hblk
  refine ⟨?_, hBi.setLong hk, fun j hj => ?_, fun j hj => ?_⟩
  · exact (hg.kept.trans (hi.kept.mono fun b hb => .inr ⟨k, hk, hb.1⟩)).setCell (.inl (.inl rfl)) _
  · intro hnj
    obtain ⟨cur, e1, e2, e3⟩ := hmk j hj hnj
    exact ⟨cur, (heap_set_far (hB.off j hj).2).trans e1, e2, e3⟩
  · by_cases e : j = k
    · subst e
      obtain ⟨cur, l1, l2, l3, l4, l5⟩ := hi.long
      obtain ⟨A0, n0, c0, h0⟩ := hBi.lo j hk
      rw [cell_blk hH] at h0
      have hlt : j * 3 + 1 < H.size := by
        rcases Nat.lt_or_ge (j * 3 + 1) H.size with hl | hl
        · exact hl
        · rw [Array.getElem?_eq_none hl] at h0; cases h0
      refine ⟨L, c, cur, ?_, (heap_set_far (long_ne l1 hH)).trans l1, l2, l3, l4, l5, fun i him hne hni => ?_⟩
      · rw [cell_blk (set_blk hH _), Array.getElem?_setIfInBounds_self_of_lt hlt]
      · rcases hi.place with ⟨e, _⟩ | e
        · rw [e]; exact hB.apart j i hk him (fun e => hne e.symm)
        · obtain ⟨cu, e1, _⟩ := hg.marks i him hni
          have := lt_blk e1
          omega
    · obtain ⟨L0, c0, cur, l0, l1, l2, l3, l4, l5, l6⟩ := hg.longs j (by omega)
      have hLk : ¬ (L0 = h.g k ∧ h.nl k = false) := fun hd => l6 k hk (fun e' => e e'.symm) hd.2 hd.1
      have l1' : wi.heap[L0]? = some (.cells cur 9 (0, 0)) := (hi.kept.block L0 (lt_blk l1) hLk).trans l1
      have l0' : wi.cell? ⟨h.hb, j * 3 + 1, none⟩ = _ := (hi.kept.cell (p := ⟨h.hb, j * 3 + 1, none⟩) hB.lt.2 (fun e => (hB.off k hk).2 e.1.symm)).trans l0
      exact ⟨L0, c0, cur, (cell_set_ne (by omega)).trans l0', (heap_set_far (long_ne l1' hH)).trans l1', l2, l3, l4, l5, l6⟩

set_option maxRecDepth 100000 in
set_option maxHeartbeats 1000000 in
theorem grow_any (h : Held) (w : World) (hB : BookAt h w) (hmarks : ∀ j, j < h.m → Marked h w j (h.n j)) :
    Calls Tryz.prog 45 #[.pointer (some ⟨h.bk, 0, none⟩)] w fun e w' => e = .returned (.tuple #[]) ∧ GrowAt h w h.m w' := by
  have hm := hB.many
  obtain ⟨i0, hi0, hz0, hz1, hz2⟩ := info_parts text_inf
  go_enter Tryz.func45, Tryz.ntmps45
  go_wp2
  go_loopw [2] (fun i2 wr => GrowRel h w i2 wr) (fun i2 _ => h.m - (intOf i2).toNat)
  case atStart => exact ⟨0, rfl, by omega, Kept.refl _ _, hB, hmarks, fun j hj => absurd hj (by omega)⟩
  case round =>
    clear hmarks
    obtain ⟨k, rfl, hk, hG⟩ := hrel
    have c1 := hG.book.cell1
    by_cases hlt : k < h.m
    · have l0 := hG.book.l k hlt
      obtain ⟨LA, LN, LC, l1⟩ := hG.book.lo k hlt
      have l2 := hG.book.no k hlt
      have hsm := hG.book.small k hlt
      have hgo0 : h.nl k = false → h.g k < wr.heap.size := fun hn => by
        obtain ⟨_, e, _⟩ := hG.marks k hlt hn
        exact lt_blk e
      have HGK := Lib.hid hgo0
      clear hgo0
      obtain ⟨wo, rfl⟩ : ∃ wo : World, wo = wr := ⟨_, rfl⟩
      go_wp2
      go_loopw [4, 5] (fun v4 i5 wr => GrowIn h wo k wo.heap.size v4 i5 wr) (fun _ i5 _ => 40 - (intOf i5).toNat)
      case atStart =>
        have hb := heap_alloc_new wo (.cells #[.slice (h.a k) (h.n k) (h.c k), .slice LA LN LC, .int .i64 ((k : Int) + 1)] 64)
        refine ⟨0, rfl, by omega, by rw [cell_blk hb]; rfl, by simp, ?_⟩
        cases hnl : h.nl k with
        | true =>
          obtain ⟨hn0, hc0⟩ := hG.book.nils k hlt hnl
          exact .inl ⟨rfl, rfl, by simp [Held.a, hnl, hn0, hc0], (Kept.refl _ _).alloc _⟩
        | false =>
          obtain ⟨cur, m1, m2, m3⟩ := hG.marks k hlt hnl
          obtain ⟨_, _, _, m4, m5⟩ := hG.book.blk k hlt hnl
          have m1' := (Below.heap_alloc wo (.cells #[.slice (h.a k) (h.n k) (h.c k), .slice LA LN LC, .int .i64 ((k : Int) + 1)] 64) (h.g k) (lt_blk m1)).trans m1
          exact .inr ⟨h.g k, h.c k, by simp [Held.a, hnl], ⟨(Kept.refl _ _).alloc _, fun _ => ⟨cur, m1', m2, m3⟩, ⟨cur, m1', m2, m4, m5, m3⟩, .inl ⟨rfl, rfl, hnl⟩⟩⟩
      case round =>
        obtain ⟨p, rfl, hp, e2, hC, hor⟩ := hrel
        clear c1 l0 l1 l2
        have hmt := markText_any (k + 1) (by omega) wr
        rw [Int.natCast_add] at hmt
        by_cases hlt2 : p < 40
        · have hd : decide ((p : Int) < 40) = true := by simp; omega
          rcases hor with ⟨hnl, rfl, rfl, hKn⟩ | ⟨L, c, rfl, hGI⟩
          · obtain ⟨hn0, hc0⟩ := hG.book.nils k hlt hnl
            have HKN := Lib.hid hKn
            have HNL := Lib.hid hnl
            have HN0 := Lib.hid hn0
            clear hKn hnl hn0 hc0
            go_wp2_with fail
            refine hmt.mono ?_
            rintro e w2 ⟨rfl, rfl⟩
            have o1 : Rd txt (wr.alloc (.cells #[.string (wd (k + 1))] 9)) _ _ 1 1 [[35, (48 + (k + 1)).toUInt8]] := Rd.new wr #[.string (wd (k + 1))] 9 1 [[35, (48 + (k + 1)).toUInt8]] rfl rfl (by decide)
            go_wp2_with (at_builtin; refine wpList_append_rd _ rfl (.tmp 28) (.tmp 32) 22 rfl wr.heap.size 9 i0 (.string ByteArray.empty) 16 Tryz.underlying22 hi0 hz0 hz1 hz2 rfl txt_one (.slice none 0 0) 0 [] rfl (World.ownsRow_nil _ _ _ _) _ _ 1 1 _ rfl o1 (by unfold maxLen; omega) (by omega) (by simp) ?_; intro A' k' c' w' hk' own' hg' ha')
            go_roundw
            case rel => exact growIn_first HN0.out HNL.out HKN.out hC e2 hk' own' hg'
            case measure => simp [intOf]
          · obtain ⟨cur, q1, q2, q3, q4, q5⟩ := hGI.long
            have Q1 := Lib.hid q1
            have Q2 := Lib.hid q2
            have Q5 := Lib.hid q5
            clear q1 q2 q5
            go_wp2_with fail
            refine hmt.mono ?_
            rintro e w2 ⟨rfl, rfl⟩
            have hX : (wr.alloc (.cells #[.string (wd (k + 1))] 9)).cell? ⟨wr.heap.size, 0, none⟩ = some (mark k) := by rw [World.cell?_alloc_at _ _ _ _ rfl]; rfl
            have HX := Lib.hid hX
            clear hX
            go_wp2_with (at_builtin; refine wpList_append_one _ rfl (.tmp 28) (.tmp 32) 22 rfl i0 Tryz.underlying22 hi0 hz0 hz1 hz2 L (h.n k + p) c cur rfl ((Below.heap_alloc wr _ L (lt_blk Q1.out)).trans Q1.out) Q2.out q3 q4 (by omega) wr.heap.size (mark k) rfl HX.out rfl ?_; intro L' c' cur' w' hone)
            go_roundw
            case rel => exact ⟨p + 1, by go_num, by omega, growIn_copy HGK.out hC hGI hone e2, by have := hone.kept.size; simp at this; omega, .inr ⟨L', c', by rw [Nat.add_assoc], growIn_next HGK.out hC hGI Q1.out Q5.out ((Kept.refl _ _).alloc _) hone⟩⟩
            case measure => simp [intOf]; omega
        · obtain rfl : p = 40 := by omega
          rcases hor with ⟨_, h0, _⟩ | ⟨L, c, rfl, hGI⟩
          · omega
          have hnb : ¬ (h.hb = h.g k ∧ h.nl k = false) := fun e => (hG.book.off k hlt).2 e.1.symm
          have c1' : wr.cell? ⟨h.bk, 3, none⟩ = _ := (hGI.kept.cell (p := ⟨h.bk, 3, none⟩) hG.book.lt.1 (fun e => (hG.book.off k hlt).1 e.1.symm)).trans hG.book.cell1
          obtain ⟨LA', LN', LC', l1'⟩ := hG.book.lo k hlt
          have l1'' : wr.cell? ⟨h.hb, k * 3 + 1, none⟩ = _ := (hGI.kept.cell (p := ⟨h.hb, k * 3 + 1, none⟩) hG.book.lt.2 hnb).trans l1'
          obtain ⟨H, hH⟩ := hG.book.hblk
          have hfz : wr.frozen? ⟨h.hb, k * 3 + 1, none⟩ = false := frozen_blk ((hGI.kept.block h.hb hG.book.lt.2 hnb).trans hH)
          clear hH hnb l1'
          go_wp2_with fail
          go_roundw
          case rel => exact ⟨k + 1, by go_num, by omega, growAt_next hG hlt hGI⟩
          case measure => simp [intOf]; omega
    · obtain rfl : k = h.m := by omega
      go_wp2
      go_end0
      exact ⟨rfl, hG⟩

end Go.Proofs.YtkjeejaecagbaaaGreatDoor
