/- What TwinScheme and LeftScheme do; a scheme is kept in a book. Condition: the scheme can be read. -/
import Derived.Test.YtmiconjmeaammaaGreatDoorRefC
import Derived.Test.YtmiconjmeaammaaGreatDoorTwinNd
import Derived.Test.YtmiconjmeaammaaGreatDoorBoTwinB
import Derived.Test.YtmiconjmeaammaaGreatDoorLaTwN
import Derived.Test.YtmiconjmeaammaaGreatDoorApart
namespace Go.Proofs.YtmiconjmeaammaaGreatDoor
open Go.RowKit

/-- A scheme's twin. -/
structure TwinSch (w w' : World) (g1 g2 g3 : Nat) (s : Sch) (n n1 n2 : Nat) : Prop where
  t1 : TwinAt w w' g1 n s.b
  t2 : Bo.TwinB w w' g2 n1 s.l
  t3 : Bo.TwinB w w' g3 n2 s.e
  ne : g2 ≠ g3
theorem TwinSch.keep {w w' w2 : World} {g1 g2 g3 : Nat} {s : Sch} {n n1 n2 : Nat} (h : TwinSch w w' g1 g2 g3 s n n1 n2) (hb : Below w'.heap.size w' w2) : TwinSch w w2 g1 g2 g3 s n n1 n2 := ⟨h.t1.keep hb, h.t2.keep hb, h.t3.keep hb, h.ne⟩
theorem TwinSch.at {w w' : World} {g1 g2 g3 : Nat} {s : Sch} {n n1 n2 : Nat} (h : TwinSch w w' g1 g2 g3 s n n1 n2) (hf : ∀ x ∈ s.b, x.Fits) (ht : ∀ x ∈ s.b, x.TFits) (hl : ∀ b ∈ s.l, b.Fit) (he : ∀ b ∈ s.e, b.Fit) : SchAt w' s (some ⟨g1, 0, none⟩) n (n + 1) (some ⟨g2, 0, none⟩) n1 (n1 + 1) (some ⟨g3, 0, none⟩) n2 (n2 + 1) :=
  ⟨h.t1.rs, hf, ht, h.t2.rs, hl, h.t3.rs, he⟩

/-- An empty scheme's block. -/
def ZSch (w : World) (g : Nat) : Prop := w.heap[g]? = some (.cells #[.int .i64 0, .int .i64 0, .slice none 0 0, .slice none 0 0, .slice none 0 0] 25 (0, 0))
theorem ZSch.keep {w W : World} {g : Nat} (h : ZSch w g) (hb : Below w.heap.size w W) : ZSch W g := (hb.block g (lt_blk h)).trans h

set_option maxRecDepth 100000 in
set_option maxHeartbeats 4000000 in
theorem twinSch_any (s : Sch) (A : Option Addr) (n c : Nat) (A1 : Option Addr) (n1 c1 : Nat) (A2 : Option Addr) (n2 c2 : Nat) (w : World) (h : SchAt w s A n c A1 n1 c1 A2 n2 c2) (hn : n ≤ 1000) (hn1 : n1 ≤ 1000) (hn2 : n2 ≤ 1000) :
    Calls Tryz.prog 6 #[schV s A n c A1 n1 c1 A2 n2 c2] w fun e w' => ∃ g1 g2 g3, e = .returned (schV s (some ⟨g1, 0, none⟩) n (n + 1) (some ⟨g2, 0, none⟩) n1 (n1 + 1) (some ⟨g3, 0, none⟩) n2 (n2 + 1)) ∧ TwinSch w w' g1 g2 g3 s n n1 n2 ∧ Below w.heap.size w w' := by
  obtain ⟨lv, ev, bo, sl, se⟩ := s
  unfold schV
  have hal : Below w.heap.size w (w.alloc (.cells #[.int .i64 lv, .int .i64 ev, .slice A n c, .slice A1 n1 c1, .slice A2 n2 c2] 25)) := (Below.refl _ _).alloc (Nat.le_refl _) _
  have hz := Box.new w lv ev A n c A1 n1 c1 A2 n2 c2
  obtain ⟨wa, hwa⟩ : ∃ wa, w.alloc (.cells #[.int .i64 lv, .int .i64 ev, .slice A n c, .slice A1 n1 c1, .slice A2 n2 c2] 25) = wa := ⟨_, rfl⟩
  rw [hwa] at hz hal
  have hsa : wa.heap.size = w.heap.size + 1 := by rw [← hwa, World.size_alloc]
  have hy : ZSch (wa.alloc (.cells #[.int .i64 0, .int .i64 0, .slice none 0 0, .slice none 0 0, .slice none 0 0] 25)) wa.heap.size := heap_alloc_new wa _
  have hv : Below wa.heap.size wa (wa.alloc (.cells #[.int .i64 0, .int .i64 0, .slice none 0 0, .slice none 0 0, .slice none 0 0] 25)) := (Below.refl _ _).alloc (Nat.le_refl _) _
  rw [hsa] at hy
  replace hz := hz.keep hv
  have hb := hal.trans (hv.mono hal.size)
  have h2 := h.keep hb
  clear hv hal hsa h
  subst hwa
  have HB := Lib.hid hb
  have H := Lib.hid h2
  clear hb h2
  go_enter Tryz.func6, Tryz.ntmps6
  go_wp2_with fail
  generalize (w.alloc (.cells #[.int .i64 lv, .int .i64 ev, .slice A n c, .slice A1 n1 c1, .slice A2 n2 c2] 25)).alloc (.cells #[.int .i64 0, .int .i64 0, .slice none 0 0, .slice none 0 0, .slice none 0 0] 25) = w1 at *
  refine wp_region_ord [0, 1, 2, 3, 4, 5, 7, 8, 10, 11, 6, 9, 12, 13, 14] [6, 9, 12, 14] 15 (fun w' => Box w' w.heap.size lv ev A n c A1 n1 c1 A2 n2 c2) (by kernel_rfl) (by kernel_rfl) (by kernel_rfl) (by kernel_rfl) (fun _ _ _ _ _ h => h) (hz.keep (Below.refl _ w1).drew) ?_
  simp only [steps, List.getElem?_cons_zero, List.getElem?_cons_succ]
  repeat (first
    | (refine ord_no rfl ?_; simp only [Act.put, List.setIfInBounds_toArray, List.set_cons_zero, List.set_cons_succ])
    | (refine ord_yes (v := ?_) rfl rfl ?_ ?_; rotate_left; (focus (rintro w' ⟨hS0, hS1, hS2, hS3, hS4⟩; go_simp; try with_reducible rfl)); simp only [Act.put, List.setIfInBounds_toArray, List.set_cons_zero, List.set_cons_succ]))
  have hv : Below w1.heap.size w1 w1.drew := (Below.refl _ _).drew
  replace hz := hz.keep hv
  replace hy := hy.keep hv
  have hb2 := HB.out.trans (hv.mono HB.out.size)
  have h2 := H.out.keep hv
  clear HB H hv
  have HB := Lib.hid hb2
  have H := Lib.hid h2
  clear hb2 h2
  generalize w1.drew = w2 at *
  refine ord_hard rfl rfl (fun K hK => ?_)
  go_simp
  refine (twin_any A n c bo w2 H.out.b hn).mono ?_
  rintro e w3 ⟨g1, rfl, t1, hv⟩
  replace hz := hz.keep hv
  replace hy := hy.keep hv
  have hb2 := HB.out.trans (hv.mono HB.out.size)
  have h2 := H.out.keep hv
  have hsz1 := HB.out.size
  clear HB H hv
  have HB := Lib.hid hb2
  have H := Lib.hid h2
  clear hb2 h2
  refine hK.out _ _ (fun _ => hz) ?_
  clear hK K
  try simp only [Act.put, List.setIfInBounds_toArray, List.set_cons_zero, List.set_cons_succ]
  refine ord_hard rfl rfl (fun K hK => ?_)
  go_simp
  refine (Bo.twinB_any A1 n1 c1 sl w3 H.out.l hn1).mono ?_
  rintro e w4 ⟨g2, rfl, t2, hv⟩
  replace hz := hz.keep hv
  replace hy := hy.keep hv
  replace t1 := t1.keep hv
  have hb2 := HB.out.trans (hv.mono HB.out.size)
  have h2 := H.out.keep hv
  have hsz2 := HB.out.size
  clear HB H hv
  have HB := Lib.hid hb2
  have H := Lib.hid h2
  clear hb2 h2
  refine hK.out _ _ (fun _ => hz) ?_
  clear hK K
  try simp only [Act.put, List.setIfInBounds_toArray, List.set_cons_zero, List.set_cons_succ]
  refine ord_hard rfl rfl (fun K hK => ?_)
  go_simp
  refine (Bo.twinB_any A2 n2 c2 se w4 H.out.e hn2).mono ?_
  rintro e w5 ⟨g3, rfl, t3, hv⟩
  have hlt2 := lt_blk t2.blk
  replace hz := hz.keep hv
  replace hy := hy.keep hv
  replace t1 := t1.keep hv
  replace t2 := t2.keep hv
  have hb2 := HB.out.trans (hv.mono HB.out.size)
  have hsz3 := HB.out.size
  clear HB H hv
  have HB := Lib.hid hb2
  clear hb2
  refine hK.out _ _ (fun _ => hz) ?_
  clear hK K
  try simp only [Act.put, List.setIfInBounds_toArray, List.set_cons_zero, List.set_cons_succ]
  repeat (first
    | (refine ord_no rfl ?_; simp only [Act.put, List.setIfInBounds_toArray, List.set_cons_zero, List.set_cons_succ])
    | (refine ord_yes (v := ?_) rfl rfl ?_ ?_; rotate_left; (focus (rintro w' ⟨hS0, hS1, hS2, hS3, hS4⟩; go_simp; try with_reducible rfl)); simp only [Act.put, List.setIfInBounds_toArray, List.set_cons_zero, List.set_cons_succ]))
  have HT : Hid (TwinSch w w5 g1 g2 g3 ⟨lv, ev, bo, sl, se⟩ n n1 n2) := Lib.hid ⟨⟨t1.len, t1.top, Nat.le_trans hsz1 t1.old, t1.blk⟩, ⟨t2.len, t2.top, Nat.le_trans hsz2 t2.old, t2.blk⟩, ⟨t3.len, t3.top, Nat.le_trans hsz3 t3.old, t3.blk⟩, by have := t3.old; omega⟩
  have HG : Hid (g1 ≠ w.heap.size + 1 ∧ g2 ≠ w.heap.size + 1 ∧ g3 ≠ w.heap.size + 1) := Lib.hid (by
    have ht : ∀ (g t : Nat) (cs : Array Value), w5.heap[g]? = some (.cells cs t (0, 0)) → t ≠ 25 → g ≠ w.heap.size + 1 := fun g t cs hg hne e => by
      have hh := hy
      unfold ZSch at hh
      rw [← e, hg] at hh
      injection hh with hh
      injection hh with _ hh
      exact hne hh
    exact ⟨ht _ _ _ t1.blk (by decide), ht _ _ _ t2.blk (by decide), ht _ _ _ t3.blk (by decide)⟩)
  clear t1 t2 t3 hlt2 hsz1 hsz2 hsz3
  have o0 : w5.cell? ⟨w.heap.size + 1, 0, none⟩ = some (.int .i64 0) := by rw [cell_blk hy]; rfl
  have o1 : w5.cell? ⟨w.heap.size + 1, 1, none⟩ = some (.int .i64 0) := by rw [cell_blk hy]; rfl
  have o2 : w5.cell? ⟨w.heap.size + 1, 2, none⟩ = some (.slice none 0 0) := by rw [cell_blk hy]; rfl
  have o3 : w5.cell? ⟨w.heap.size + 1, 3, none⟩ = some (.slice none 0 0) := by rw [cell_blk hy]; rfl
  have o4 : w5.cell? ⟨w.heap.size + 1, 4, none⟩ = some (.slice none 0 0) := by rw [cell_blk hy]; rfl
  have fz : ∀ i, w5.frozen? ⟨w.heap.size + 1, i, none⟩ = false := fun i => frozen_blk hy
  have f0 := fz 0
  have f1 := fz 1
  have f2 := fz 2
  have f3 := fz 3
  have f4 := fz 4
  clear fz
  refine ord_hard rfl rfl (fun K hK => ?_)
  go_simp
  obtain ⟨w6, hw6⟩ : ∃ w6, w6 = ((((w5.setCell ⟨w.heap.size + 1, 0, none⟩ (.int .i64 lv)).setCell ⟨w.heap.size + 1, 1, none⟩ (.int .i64 ev)).setCell ⟨w.heap.size + 1, 2, none⟩ (.slice (some ⟨g1, 0, none⟩) n (n + 1))).setCell ⟨w.heap.size + 1, 3, none⟩ (.slice (some ⟨g2, 0, none⟩) n1 (n1 + 1))).setCell ⟨w.heap.size + 1, 4, none⟩ (.slice (some ⟨g3, 0, none⟩) n2 (n2 + 1)) := ⟨_, rfl⟩
  have hbs : Below (w.heap.size + 1) w5 w6 := hw6 ▸ (((((Below.refl _ w5).setCell (p := ⟨w.heap.size + 1, 0, none⟩) (Nat.le_refl _) _).setCell (p := ⟨w.heap.size + 1, 1, none⟩) (Nat.le_refl _) _).setCell (p := ⟨w.heap.size + 1, 2, none⟩) (Nat.le_refl _) _).setCell (p := ⟨w.heap.size + 1, 3, none⟩) (Nat.le_refl _) _).setCell (p := ⟨w.heap.size + 1, 4, none⟩) (Nat.le_refl _) _
  have hblk : w6.heap[w.heap.size + 1]? = some (.cells #[.int .i64 lv, .int .i64 ev, .slice (some ⟨g1, 0, none⟩) n (n + 1), .slice (some ⟨g2, 0, none⟩) n1 (n1 + 1), .slice (some ⟨g3, 0, none⟩) n2 (n2 + 1)] 25 (0, 0)) := by
    rw [hw6, set_blk (set_blk (set_blk (set_blk (set_blk hy _) _) _) _) _]
    rfl
  have hoth : ∀ b, b ≠ w.heap.size + 1 → w6.heap[b]? = w5.heap[b]? := fun b hne => by
    rw [hw6]
    exact (Below.heap_setCell _ _ _ _ hne).trans ((Below.heap_setCell _ _ _ _ hne).trans ((Below.heap_setCell _ _ _ _ hne).trans ((Below.heap_setCell _ _ _ _ hne).trans (Below.heap_setCell _ _ _ _ hne))))
  have hbx : Box w6 w.heap.size lv ev A n c A1 n1 c1 A2 n2 c2 :=
    ⟨(hbs.cell (p := ⟨w.heap.size, 0, none⟩) (Nat.lt_succ_self _)).trans hz.z0, (hbs.cell (p := ⟨w.heap.size, 1, none⟩) (Nat.lt_succ_self _)).trans hz.z1, (hbs.cell (p := ⟨w.heap.size, 2, none⟩) (Nat.lt_succ_self _)).trans hz.z2, (hbs.cell (p := ⟨w.heap.size, 3, none⟩) (Nat.lt_succ_self _)).trans hz.z3, (hbs.cell (p := ⟨w.heap.size, 4, none⟩) (Nat.lt_succ_self _)).trans hz.z4⟩
  have HT2 : Hid (TwinSch w w6 g1 g2 g3 ⟨lv, ev, bo, sl, se⟩ n n1 n2) := Lib.hid ⟨⟨HT.out.t1.len, HT.out.t1.top, HT.out.t1.old, (hoth _ HG.out.1).trans HT.out.t1.blk⟩, ⟨HT.out.t2.len, HT.out.t2.top, HT.out.t2.old, (hoth _ HG.out.2.1).trans HT.out.t2.blk⟩, ⟨HT.out.t3.len, HT.out.t3.top, HT.out.t3.old, (hoth _ HG.out.2.2).trans HT.out.t3.blk⟩, HT.out.ne⟩
  have HB2 : Hid (Below w.heap.size w w6) := Lib.hid (HB.out.trans ⟨hbs.os, hbs.tape, hbs.output, hbs.size, fun b hb => hbs.block b (by omega)⟩)
  rw [← hw6]
  clear hw6 hoth hbs o0 o1 o2 o3 o4 f0 f1 f2 f3 f4 hy hz HB HT HG
  refine hK.out _ _ (fun _ => hbx) ?_
  clear hK K hbx
  try simp only [Act.put, List.setIfInBounds_toArray, List.set_cons_zero, List.set_cons_succ]
  refine ord_end ?_
  go_wp2_with fail
  exact bodyPost_ret (results_cell_row (P := Tryz.prog) rfl _ _ (w.heap.size + 1) 25 _ (0, 0) _ rfl hblk Tryz.underlying25 rfl rfl) rfl ⟨g1, g2, g3, rfl, HT2.out, HB2.out⟩

set_option maxRecDepth 100000 in
set_option maxHeartbeats 2000000 in
theorem leftSch_any (w0 : World) (g1 g2 g3 : Nat) (s : Sch) (A : Option Addr) (n c : Nat) (A1 : Option Addr) (n1 c1 : Nat) (A2 : Option Addr) (n2 c2 : Nat) (w : World) (ht : TwinSch w0 w g1 g2 g3 s n n1 n2) (h : SchAt w s A n c A1 n1 c1 A2 n2 c2) :
    Calls Tryz.prog 15 #[schV s (some ⟨g1, 0, none⟩) n (n + 1) (some ⟨g2, 0, none⟩) n1 (n1 + 1) (some ⟨g3, 0, none⟩) n2 (n2 + 1), schV s A n c A1 n1 c1 A2 n2 c2] w fun e w' => e = .returned (.bool true) ∧ Below w.heap.size w w' := by
  obtain ⟨lv, ev, bo, sl, se⟩ := s
  unfold schV
  have hz := Box.new w lv ev (some ⟨g1, 0, none⟩) n (n + 1) (some ⟨g2, 0, none⟩) n1 (n1 + 1) (some ⟨g3, 0, none⟩) n2 (n2 + 1)
  have hb : Below w.heap.size w (w.alloc (.cells #[.int .i64 lv, .int .i64 ev, .slice (some ⟨g1, 0, none⟩) n (n + 1), .slice (some ⟨g2, 0, none⟩) n1 (n1 + 1), .slice (some ⟨g3, 0, none⟩) n2 (n2 + 1)] 25)) := (Below.refl _ _).alloc (Nat.le_refl _) _
  obtain ⟨wa, hwa⟩ : ∃ wa, w.alloc (.cells #[.int .i64 lv, .int .i64 ev, .slice (some ⟨g1, 0, none⟩) n (n + 1), .slice (some ⟨g2, 0, none⟩) n1 (n1 + 1), .slice (some ⟨g3, 0, none⟩) n2 (n2 + 1)] 25) = wa := ⟨_, rfl⟩
  rw [hwa] at hz hb
  have hsa : wa.heap.size = w.heap.size + 1 := by rw [← hwa, World.size_alloc]
  have hy := Box.new wa lv ev A n c A1 n1 c1 A2 n2 c2
  have hv : Below wa.heap.size wa (wa.alloc (.cells #[.int .i64 lv, .int .i64 ev, .slice A n c, .slice A1 n1 c1, .slice A2 n2 c2] 25)) := (Below.refl _ _).alloc (Nat.le_refl _) _
  rw [hsa] at hy
  replace hz := hz.keep hv
  replace hb := hb.trans (hv.mono hb.size)
  replace ht := ht.keep hb
  replace h := h.keep hb
  clear hv hsa
  subst hwa
  have hl : (lv == lv) = true := by simp
  have he : (ev == ev) = true := by simp
  have z0 := hz.z0
  have z1 := hz.z1
  have z2 := hz.z2
  have z3 := hz.z3
  have z4 := hz.z4
  have y0 := hy.z0
  have y1 := hy.z1
  have y2 := hy.z2
  have y3 := hy.z3
  have y4 := hy.z4
  clear hz hy
  go_enter Tryz.func15, Tryz.ntmps15
  go_wp2_with fail
  refine (left_any _ _ A g1 n c bo _ ht.t1 h.b).mono ?_
  rintro e w1 ⟨rfl, hv⟩
  replace ht := ht.keep hv
  replace h := h.keep hv
  replace z3 := cell_old z3 hv
  replace z4 := cell_old z4 hv
  replace y3 := cell_old y3 hv
  replace y4 := cell_old y4 hv
  replace hb := hb.trans (hv.mono hb.size)
  clear hv z0 z1 z2 y0 y1 y2
  go_wp2_with fail
  refine (Bo.leftB_any _ _ A1 g2 n1 c1 sl _ ht.t2 h.l).mono ?_
  rintro e w2 ⟨rfl, hv⟩
  replace ht := ht.keep hv
  replace h := h.keep hv
  replace z4 := cell_old z4 hv
  replace y4 := cell_old y4 hv
  replace hb := hb.trans (hv.mono hb.size)
  clear hv z3 y3
  go_wp2_with fail
  refine (Bo.leftB_any _ _ A2 g3 n2 c2 se _ ht.t3 h.e).mono ?_
  rintro e w3 ⟨rfl, hv⟩
  replace hb := hb.trans (hv.mono hb.size)
  clear hv z4 y4 ht h
  go_wp2_with fail
  go_ret
  exact ⟨rfl, hb⟩

/-- An entry of a book's row. -/
abbrev kx (A : Option Addr) (n c k : Nat) : List Value := [.slice A n c, .slice none 0 0, .int .i64 ((k : Int) + 1)]

set_option maxRecDepth 100000 in
set_option maxHeartbeats 2000000 in
theorem putSch_any (bk k : Nat) (vN : Value) (kN : Nat) (xN : List Value) (vB : Value) (kB : Nat) (xB : List Value) (vM : Value) (kM : Nat) (xM : List Value) (s : Sch) (A : Option Addr) (n c : Nat) (A1 : Option Addr) (n1 c1 : Nat) (A2 : Option Addr) (n2 c2 : Nat) (w : World) (hB : BookK w bk k vN kN xN vB kB xB vM kM xM) (hk : k ≤ 80) (hkN : kN ≤ 80) (hkB : kB ≤ 80) :
    Calls Tryz.prog 17 #[.pointer (some ⟨bk, 0, none⟩), schV s A n c A1 n1 c1 A2 n2 c2] w fun e w' => e = .returned (.tuple #[]) ∧ ∃ v' u', BookK w' bk (k + 1 + 1 + 1) v' (kN + 1) (xN ++ kx A n c k) u' (kB + 1 + 1) (xB ++ kx A1 n1 c1 (k + 1) ++ kx A2 n2 c2 (k + 1 + 1)) vM kM xM ∧ Kept (fun b => bk ≤ b) w w' := by
  obtain ⟨lv, ev, bo, sl, se⟩ := s
  unfold schV
  have hlt := lt_blk hB.blk
  have hal := heap_alloc_new w (.cells #[.int .i64 lv, .int .i64 ev, .slice A n c, .slice A1 n1 c1, .slice A2 n2 c2] 25)
  have hb : Below w.heap.size w (w.alloc (.cells #[.int .i64 lv, .int .i64 ev, .slice A n c, .slice A1 n1 c1, .slice A2 n2 c2] 25)) := (Below.refl _ _).alloc (Nat.le_refl _) _
  have hB1 : BookK (w.alloc (.cells #[.int .i64 lv, .int .i64 ev, .slice A n c, .slice A1 n1 c1, .slice A2 n2 c2] 25)) bk k vN kN xN vB kB xB vM kM xM := ⟨(hb.block bk hlt).trans hB.blk, hB.oN.alloc _, hB.oB.alloc _, hB.oM.alloc _⟩
  have K0 : Kept (fun b => bk ≤ b) w (w.alloc (.cells #[.int .i64 lv, .int .i64 ev, .slice A n c, .slice A1 n1 c1, .slice A2 n2 c2] 25)) := (Kept.refl _ _).alloc _
  obtain ⟨g, hg⟩ : ∃ g, w.heap.size = g := ⟨_, rfl⟩
  rw [hg] at hal
  have z2 := (cell_blk (i := 2) hal).trans rfl
  clear hb hB
  go_enter Tryz.func17, Tryz.ntmps17
  go_wp2_with fail
  generalize w.alloc (.cells #[.int .i64 lv, .int .i64 ev, .slice A n c, .slice A1 n1 c1, .slice A2 n2 c2] 25) = wa at *
  refine (putN_any bk k vN kN xN vB kB xB vM kM xM A n c wa hB1 (by omega) (by omega)).mono ?_
  rintro e w1 ⟨rfl, v1, hB2, k1⟩
  replace hal := kept_type k1 hB1.oN hB1.blk hal (by decide) (by decide)
  have K1 := K0.trans (kept_bk k1 hB1.oN)
  have z3 := (cell_blk (i := 3) hal).trans rfl
  clear K0 k1 hB1 z2
  subst hg
  go_wp2_with fail
  refine (putB_any bk (k + 1) v1 (kN + 1) _ vB kB xB vM kM xM A1 n1 c1 w1 hB2 (by omega) (by omega)).mono ?_
  rintro e w2 ⟨rfl, v2, hB3, k2⟩
  replace hal := kept_type k2 hB2.oB hB2.blk hal (by decide) (by decide)
  have K2 := K1.trans (kept_bk k2 hB2.oB)
  have z4 := (cell_blk (i := 4) hal).trans rfl
  clear K1 k2 hB2 z3
  go_wp2_with fail
  refine (putB_any bk (k + 1 + 1) v1 (kN + 1) _ v2 (kB + 1) _ vM kM xM A2 n2 c2 w2 hB3 (by omega) (by omega)).mono ?_
  rintro e w3 ⟨rfl, v3, hB4, k3⟩
  have K3 := K2.trans (kept_bk k3 hB3.oB)
  clear K2 k3 hB3 z4 hal
  go_wp2_with fail
  go_end0
  exact ⟨rfl, v1, v3, hB4, K3⟩
end Go.Proofs.YtmiconjmeaammaaGreatDoor
