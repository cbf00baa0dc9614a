/- Lists of as many lists of bools: how they lie in memory of their own, and what lists tells. No condition but sizes. -/
import Derived.Test.YtomokkpfkhfemaaGreatDoorTbl
import Derived.Test.YtomokkpfkhfemaaGreatDoorOrder
namespace Go.Proofs.YtomokkpfkhfemaaGreatDoor
open Go.RowKit

/-- What lies in the outer block, of which the first k are there; a row's block, of which the first k are there. -/
def hdr (gs : Nat → Nat) (n k : Nat) : Array Value := ((List.range n).map fun i => if i < k then Value.slice (some ⟨gs i, 0, none⟩) n n else Value.slice none 0 0).toArray
def bls (f : Nat → Bool) (n k : Nat) : Array Value := ((List.range n).map fun j => Value.bool (decide (j < k) && f j)).toArray

theorem hdr_at {gs : Nat → Nat} {n k i : Nat} (hi : i < n) (hk : i < k) : (hdr gs n k)[i]? = some (.slice (some ⟨gs i, 0, none⟩) n n) := by
  simp [hdr, hi, hk]
theorem hdr_no {gs : Nat → Nat} {n k i : Nat} (hi : i < n) (hk : ¬ i < k) : (hdr gs n k)[i]? = some (.slice none 0 0) := by
  simp [hdr, hi, hk]
theorem bls_at {f : Nat → Bool} {n k j : Nat} (hj : j < n) : (bls f n k)[j]? = some (.bool (decide (j < k) && f j)) := by
  simp [bls, hj]
theorem hdr_set {gs : Nat → Nat} {n k b : Nat} : (hdr gs n k).setIfInBounds k (.slice (some ⟨b, 0, none⟩) n n) = hdr (fun i => if i = k then b else gs i) n (k + 1) := by
  apply Array.ext_getElem?
  intro x
  by_cases hx : x < n
  · by_cases e : x = k
    · subst e
      rw [Array.getElem?_setIfInBounds_self_of_lt (by simpa [hdr] using hx), hdr_at hx (by omega), if_pos rfl]
    · rw [Array.getElem?_setIfInBounds_ne (by omega)]
      by_cases h : x < k
      · rw [hdr_at hx h, hdr_at hx (by omega), if_neg e]
      · rw [hdr_no hx h, hdr_no hx (by omega)]
  · rw [Array.getElem?_eq_none (by simp [hdr]; omega), Array.getElem?_eq_none (by simp [hdr]; omega)]
theorem bls_set {f : Nat → Bool} {n k : Nat} : (bls f n k).setIfInBounds k (.bool (f k)) = bls f n (k + 1) := by
  apply Array.ext_getElem?
  intro x
  by_cases hx : x < n
  · by_cases e : x = k
    · subst e
      rw [Array.getElem?_setIfInBounds_self_of_lt (by simpa [bls] using hx), bls_at hx]
      simp
    · rw [Array.getElem?_setIfInBounds_ne (by omega), bls_at hx, bls_at hx, show decide (x < k + 1) = decide (x < k) from decide_eq_decide.2 ⟨fun h => by omega, fun h => by omega⟩]
  · rw [Array.getElem?_eq_none (by simp [bls]; omega), Array.getElem?_eq_none (by simp [bls]; omega)]
theorem hdr_congr {gs gs' : Nat → Nat} {n k : Nat} (h : ∀ i, i < k → gs i = gs' i) : hdr gs n k = hdr gs' n k := by
  unfold hdr
  congr 1
  refine List.map_congr_left fun i hi => ?_
  by_cases e : i < k
  · rw [if_pos e, if_pos e, h i e]
  · rw [if_neg e, if_neg e]

/-- As many lists of as many bools, each in a block of its own. -/
structure Sqr (w : World) (base g n : Nat) (gs : Nat → Nat) (P : Nat → Nat → Bool) : Prop where
  blk : w.heap[g]? = some (.cells (hdr gs n n) 62 (0, 0))
  rows : ∀ i, i < n → w.heap[gs i]? = some (.cells (bls (P i) n n) 4 (0, 0))
  gbase : base ≤ g
  bases : ∀ i, i < n → base ≤ gs i
  apart : ∀ i j, i < n → j < n → i ≠ j → gs i ≠ gs j

theorem Sqr.keep {w w' : World} {base g n : Nat} {gs : Nat → Nat} {P : Nat → Nat → Bool} (h : Sqr w base g n gs P) (hb : Below w.heap.size w w') : Sqr w' base g n gs P :=
  ⟨(hb.block _ (lt_blk h.blk)).trans h.blk, fun i hi => (hb.block _ (lt_blk (h.rows i hi))).trans (h.rows i hi), h.gbase, h.bases, h.apart⟩

theorem inf34 : (Tryz.prog.info? 62).map (fun i => (i.zero, i.size, i.bytes)) = some (some (.slice none 0 0), 1, 24) := by kernel_rfl
theorem inf4 : (Tryz.prog.info? 4).map (fun i => (i.zero, i.size, i.bytes)) = some (some (.bool false), 1, 1) := by kernel_rfl
theorem made_hdr (n : Nat) (gs : Nat → Nat) : madeCells #[.slice none 0 0] n = hdr gs n 0 := by
  apply Array.ext
  · simp [madeCells, hdr]
  · intro i h1 h2
    simp [madeCells, hdr, Nat.mod_one]
theorem made_bls (n : Nat) (f : Nat → Bool) : madeCells #[.bool false] n = bls f n 0 := by
  apply Array.ext
  · simp [madeCells, bls]
  · intro i h1 h2
    simp [madeCells, bls, Nat.mod_one]
theorem make_hdr (n : Nat) (gs : Nat → Nat) (h : n ≤ 64) (W : World) : (Instr.makeSlice 24 (.int .i64 (n : Int)) (.int .i64 (n : Int))).run Tryz.prog W = .ok (.slice (some ⟨W.heap.size, 0, none⟩) n n) (W.alloc (.cells (hdr gs n 0) 62)) := by
  obtain ⟨i0, hi0, hz0, hz1, hz2⟩ := info_parts inf34
  have := run_make (P := Tryz.prog) W 24 62 i0 _ Tryz.underlying24 hi0 hz0 .i64 .i64 n n (by omega) (Int.le_refl _) (by rw [hz2]; omega) (by omega)
  rw [this, hz1, Nat.mul_one, Int.toNat_natCast]
  rw [show (Value.slice none 0 0).cells = #[.slice none 0 0] from rfl, made_hdr n gs]
theorem make_bls (n : Nat) (f : Nat → Bool) (h : n ≤ 64) (W : World) : (Instr.makeSlice 62 (.int .i64 (n : Int)) (.int .i64 (n : Int))).run Tryz.prog W = .ok (.slice (some ⟨W.heap.size, 0, none⟩) n n) (W.alloc (.cells (bls f n 0) 4)) := by
  obtain ⟨i0, hi0, hz0, hz1, hz2⟩ := info_parts inf4
  have := run_make (P := Tryz.prog) W 62 4 i0 _ Tryz.underlying62 hi0 hz0 .i64 .i64 n n (by omega) (Int.le_refl _) (by rw [hz2]; omega) (by omega)
  rw [this, hz1, Nat.mul_one, Int.toNat_natCast]
  rw [show (Value.bool false).cells = #[.bool false] from rfl, made_bls n f]

/-- A whole row out of a block, as one operation of a region that draws. -/
theorem exec_row {P : Program} {a : Act} {o : Oper} {w : World} (ty : TypeId) (x : Operand) (ho : o.op = .load ty x) (g : Nat) (hx : a.eval x = .pointer (some ⟨g, 0, none⟩)) (t : TypeId) (cs : Array Value) (fr : Nat × Nat) (d : TypeDesc)
    (hg : w.heap[g]? = some (.cells cs t fr)) (hu : P.underlying ty = some d) (hd : (match d with | .struct _ | .array _ _ => true | _ => false) = true) (hi : (P.info? ty).map (·.size) = some cs.size) : (execOp a.eval o).run P w = .ok (.value (.agg cs)) w := by
  unfold execOp
  simp only [ho, hx, Instr.loadAt, Instr.sureAddr, Sem.run_bind, Sem.run_pure, Result.andThen_ok, run_loadVar_row w g t ty cs fr d hg hu hd hi]

/-- k rows are there; of row k q bools are there. -/
structure LAt (t : List Nat) (n : Nat) (w : World) (k : Nat) (gs : Nat → Nat) (wr : World) : Prop where
  tbl : wr.heap[w.heap.size]? = some (.cells (La.cl t) 58 (0, 0))
  blk : wr.heap[w.heap.size + 1]? = some (.cells (hdr gs n k) 62 (0, 0))
  rows : ∀ i, i < k → w.heap.size + 2 ≤ gs i ∧ wr.heap[gs i]? = some (.cells (bls (La.bt t i) n n) 4 (0, 0))
  apart : ∀ i j, i < k → j < k → i ≠ j → gs i ≠ gs j
  bel : Below w.heap.size w wr
def LRel (t : List Nat) (n : Nat) (w : World) (v12 : Value) (wr : World) : Prop := ∃ k gs, v12 = .int .i64 ((k : Nat) : Int) ∧ k ≤ n ∧ LAt t n w k gs wr
/-- Row k lies at block b. -/
structure LInAt (t : List Nat) (n : Nat) (w : World) (k b q : Nat) (gs : Nat → Nat) (wr : World) : Prop where
  tbl : wr.heap[w.heap.size]? = some (.cells (La.cl t) 58 (0, 0))
  blk : wr.heap[w.heap.size + 1]? = some (.cells (hdr (fun i => if i = k then b else gs i) n (k + 1)) 62 (0, 0))
  rows : ∀ i, i < k → w.heap.size + 2 ≤ gs i ∧ gs i < b ∧ wr.heap[gs i]? = some (.cells (bls (La.bt t i) n n) 4 (0, 0))
  row : wr.heap[b]? = some (.cells (bls (La.bt t k) n q) 4 (0, 0))
  at_ : w.heap.size + 2 ≤ b
  apart : ∀ i j, i < k → j < k → i ≠ j → gs i ≠ gs j
  bel : Below w.heap.size w wr
def LIn (t : List Nat) (n : Nat) (w : World) (k b : Nat) (gs : Nat → Nat) (v25 : Value) (wr : World) : Prop := ∃ q : Nat, v25 = .int .i64 (q : Int) ∧ q ≤ n ∧ LInAt t n w k b q gs wr

theorem LInAt.done {t : List Nat} {n : Nat} {w : World} {k b : Nat} {gs : Nat → Nat} {wr : World} (h : LInAt t n w k b n gs wr) : LAt t n w (k + 1) (fun i => if i = k then b else gs i) wr := by
  refine ⟨h.tbl, h.blk, fun i hi => ?_, fun i j hi hj hne => ?_, h.bel⟩
  · by_cases e : i = k
    · subst e
      rw [if_pos rfl]
      exact ⟨h.at_, h.row⟩
    · rw [if_neg e]
      obtain ⟨h1, _, h3⟩ := h.rows i (by omega)
      exact ⟨h1, h3⟩
  · by_cases e1 : i = k
    · have e2 : ¬ j = k := by omega
      rw [if_pos e1, if_neg e2]
      have := (h.rows j (by omega)).2.1
      omega
    · by_cases e2 : j = k
      · rw [if_neg e1, if_pos e2]
        have := (h.rows i (by omega)).2.1
        omega
      · rw [if_neg e1, if_neg e2]
        exact h.apart i j (by omega) (by omega) hne

theorem LInAt.keep {t : List Nat} {n : Nat} {w : World} {k b q : Nat} {gs : Nat → Nat} {wr wz : World} (h : LInAt t n w k b q gs wr) (hb : Below wr.heap.size wr wz) : LInAt t n w k b q gs wz :=
  ⟨(hb.block _ (lt_blk h.tbl)).trans h.tbl, (hb.block _ (lt_blk h.blk)).trans h.blk, fun i hi => by
    obtain ⟨h1, h2, h3⟩ := h.rows i hi
    exact ⟨h1, h2, (hb.block _ (lt_blk h3)).trans h3⟩, (hb.block _ (lt_blk h.row)).trans h.row, h.at_, h.apart, h.bel.trans (hb.mono h.bel.size)⟩
theorem LInAt.put {t : List Nat} {n : Nat} {w : World} {k b q : Nat} {gs : Nat → Nat} {wr : World} (h : LInAt t n w k b q gs wr) : LInAt t n w k b (q + 1) gs (wr.setCell ⟨b, q, none⟩ (.bool (La.bt t k q))) := by
  have ha := h.at_
  refine ⟨(Below.heap_setCell wr ⟨b, q, none⟩ _ _ (show _ ≠ b by omega)).trans h.tbl, (Below.heap_setCell wr ⟨b, q, none⟩ _ _ (show _ ≠ b by omega)).trans h.blk, fun i hi => ?_, ?_, ha, h.apart, h.bel.setCell (p := ⟨b, q, none⟩) (show w.heap.size ≤ b by omega) _⟩
  · obtain ⟨h1, h2, h3⟩ := h.rows i hi
    exact ⟨h1, h2, (Below.heap_setCell wr ⟨b, q, none⟩ _ _ (show _ ≠ b by omega)).trans h3⟩
  · rw [set_blk h.row, bls_set]
/-- A new row is laid. -/
theorem LAt.lay {t : List Nat} {n : Nat} {w : World} {k : Nat} {gs : Nat → Nat} {wr : World} (h : LAt t n w k gs wr) : LInAt t n w k wr.heap.size 0 gs ((wr.alloc (.cells (bls (La.bt t k) n 0) 4)).setCell ⟨w.heap.size + 1, k, none⟩ (.slice (some ⟨wr.heap.size, 0, none⟩) n n)) := by
  have h1 := lt_blk h.blk
  have h0 := lt_blk h.tbl
  refine ⟨?_, ?_, fun i hi => ?_, ?_, by omega, h.apart, ?_⟩
  · exact (Below.heap_setCell _ ⟨w.heap.size + 1, k, none⟩ _ _ (show _ ≠ w.heap.size + 1 by omega)).trans ((Below.heap_alloc wr _ _ h0).trans h.tbl)
  · rw [set_blk ((Below.heap_alloc wr _ _ h1).trans h.blk), hdr_set]
  · obtain ⟨g1, g2⟩ := h.rows i hi
    exact ⟨g1, lt_blk g2, (Below.heap_setCell _ ⟨w.heap.size + 1, k, none⟩ _ _ (show _ ≠ w.heap.size + 1 by omega)).trans ((Below.heap_alloc wr _ _ (lt_blk g2)).trans g2)⟩
  · exact (Below.heap_setCell _ ⟨w.heap.size + 1, k, none⟩ _ _ (show _ ≠ w.heap.size + 1 by omega)).trans (heap_alloc_new wr _)
  · exact (h.bel.alloc h.bel.size _).setCell (p := ⟨w.heap.size + 1, k, none⟩) (show w.heap.size ≤ w.heap.size + 1 by omega) _

set_option maxRecDepth 100000 in
set_option maxHeartbeats 4000000 in
theorem lists_any (n : Nat) (t : List Nat) (w : World) (hn : n ≤ 64) (ht : t.length = 64) (hf : La.Fit t) :
    Calls Tryz.prog 15 #[tv t, .int .i64 (n : Int)] w fun e w' => ∃ g gs, e = .returned (.slice (some ⟨g, 0, none⟩) n n) ∧ Sqr w' w.heap.size g n gs (La.bt t) ∧ Below w.heap.size w w' := by
  have hmk := make_hdr n (fun _ => 0) hn
  have HN := Lib.hid hn
  have HT := Lib.hid ht
  have HF := Lib.hid hf
  have H0 : Hid (LAt t n w 0 (fun _ => 0) ((w.alloc (.cells (La.cl t) 58)).alloc (.cells (hdr (fun _ => 0) n 0) 62))) := Lib.hid (by
    refine ⟨(Below.heap_alloc _ _ _ (by simp)).trans (heap_alloc_new _ _), ?_, fun i hi => absurd hi (Nat.not_lt_zero i), fun i _ hi => absurd hi (Nat.not_lt_zero i), ((Below.refl _ _).alloc (Nat.le_refl _) _).alloc (by simp) _⟩
    have := heap_alloc_new (w.alloc (.cells (La.cl t) 58)) (.cells (hdr (fun _ => 0) n 0) 62)
    rwa [show (w.alloc (.cells (La.cl t) 58)).heap.size = w.heap.size + 1 by simp] at this)
  clear hn ht hf
  unfold tv
  go_enter Tryz.func15, Tryz.ntmps15
  go_wp2
  go_loopw [12] (fun v12 wr => LRel t n w v12 wr) (fun v12 _ => n - (intOf v12).toNat)
  case atStart => exact ⟨0, fun _ => 0, rfl, by omega, H0.out⟩
  case round =>
    clear H0 hmk
    obtain ⟨k, gs, rfl, hk, hL⟩ := hrel
    have HL := Lib.hid hL
    clear hL
    by_cases hlt : k < n
    · have hmk := make_bls n (La.bt t k) HN.out
      have HI := Lib.hid HL.out.lay
      have hltw := lt_blk HL.out.blk
      have hold := (cell_blk (i := k) ((Below.heap_alloc wr (.cells (bls (La.bt t k) n 0) 4) _ hltw).trans HL.out.blk)).trans (hdr_no hlt (Nat.lt_irrefl k))
      have hfz := frozen_blk (i := k) ((Below.heap_alloc wr (.cells (bls (La.bt t k) n 0) 4) _ hltw).trans HL.out.blk)
      have hld := (cell_blk (i := k) HI.out.blk).trans (hdr_at hlt (Nat.lt_succ_self k))
      rw [if_pos rfl] at hld
      clear HL hltw
      obtain ⟨wo, rfl⟩ : ∃ wo, wo = wr := ⟨_, rfl⟩
      have HLT := Lib.hid hlt
      go_wp2
      clear hold hfz hld hmk
      go_loopw [25] (fun v25 wr => LIn t n w k wo.heap.size gs v25 wr) (fun v25 _ => n - (intOf v25).toNat)
      case atStart => exact ⟨0, rfl, by omega, HI.out⟩
      case round =>
        clear HI
        obtain ⟨q, rfl, hq, hI⟩ := hrel
        have HI := Lib.hid hI
        by_cases hlt2 : q < n
        · have hk64 : k < 64 := by have := HN.out; omega
          have hq64 : q < 64 := by have := HN.out; omega
          have hcell : ∀ W, LInAt t n w k wo.heap.size q gs W → W.cell? ⟨w.heap.size + 1, k, none⟩ = some (.slice (some ⟨wo.heap.size, 0, none⟩) n n) := fun W hW => by
            have := (cell_blk (i := k) hW.blk).trans (hdr_at hlt (Nat.lt_succ_self k))
            rwa [if_pos rfl] at this
          have HC := Lib.hid hcell
          have hce := hcell _ hI
          have hS0 : LInAt t n w k wo.heap.size q gs wr.drew := hI.keep (La.below_drew wr)
          have hkn : (k : Int) < (n : Int) := by omega
          have hqn : (q : Int) < (n : Int) := by omega
          clear hI hcell
          go_wp2
          refine wp_region_ord [0, 1, 2, 3, 4, 5, 6, 7, 8, 9, 10] [8, 10] 10 (fun w' => LInAt t n w k wo.heap.size q gs w') (by kernel_rfl) (by kernel_rfl) (by kernel_rfl) (by kernel_rfl) (fun _ _ _ _ _ h => h) hS0 ?_
          simp only [steps, List.getElem?_cons_zero, List.getElem?_cons_succ]
          repeat (first
            | (refine ord_yes (v := .agg (La.cl t)) rfl rfl (fun w' hS => exec_row 58 (.tmp 2) rfl w.heap.size rfl 58 (La.cl t) (0, 0) _ hS.tbl Tryz.underlying58 rfl (by rw [size51, cl_size, HT.out])) ?_; simp only [Act.put, List.setIfInBounds_toArray, List.set_cons_zero, List.set_cons_succ])
            | (refine ord_yes (v := ?_) rfl rfl ?_ ?_; rotate_left; (focus (rintro w' hS; have c0 := HC.out w' hS; clear hS; go_simp; try with_reducible rfl)); simp only [Act.put, List.setIfInBounds_toArray, List.set_cons_zero, List.set_cons_succ]))
          refine ord_hard rfl rfl (fun K hK => ?_)
          go_simp
          refine (has_any t k q wr.drew HT.out HF.out hk64 hq64).mono ?_
          rintro e w2 ⟨rfl, hb2⟩
          have HI2 := Lib.hid (hS0.keep hb2)
          refine hK.out _ _ (fun _ => HI2.out) ?_
          clear hK K HI hS0 hb2 hce
          repeat (first
            | (refine ord_yes (v := ?_) rfl rfl ?_ ?_; rotate_left; (focus (rintro w' hS; have c0 := HC.out w' hS; clear hS; go_simp; try with_reducible rfl)); simp only [Act.put, List.setIfInBounds_toArray, List.set_cons_zero, List.set_cons_succ]))
          refine ord_hard rfl rfl (fun K hK => ?_)
          have hce1 := (cell_blk (i := q) HI2.out.row).trans (bls_at hlt2)
          have hfz1 := frozen_blk (i := q) HI2.out.row
          go_simp
          refine hK.out _ _ (fun h => absurd rfl h) ?_
          clear hK K
          refine ord_end ?_
          have HI3 := Lib.hid HI2.out.put
          clear hce1 hfz1
          go_wp2
          go_roundw
          case rel => exact ⟨q + 1, by go_num, by omega, HI3.out⟩
          case measure => simp [intOf]; omega
        · obtain rfl : q = n := by omega
          have hk64 : k < 64 := by have := HN.out; omega
          clear hI
          go_wp2
          go_roundw
          case rel => exact ⟨k + 1, _, by go_num, by omega, HI.out.done⟩
          case measure =>
            have := HLT.out
            simp [intOf]
            omega
    · obtain rfl : k = n := by omega
      go_wp2
      go_ret
      exact ⟨w.heap.size + 1, gs, rfl, ⟨HL.out.blk, fun i hi => (HL.out.rows i hi).2, by omega, fun i hi => by have := (HL.out.rows i hi).1; omega, HL.out.apart⟩, HL.out.bel⟩
end Go.Proofs.YtomokkpfkhfemaaGreatDoor
