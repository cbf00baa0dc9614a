/- What TwinPairs and LeftPairs do: a twin of pairs with a mark in its spare room; it is left as it was. Conditions: sizes alone. -/
import Derived.Test.YtnoigcaapnjcgaaGreatDoorTwin
import Derived.Test.YtnoigcaapnjcgaaGreatDoorPairBook
namespace Go.Proofs.YtnoigcaapnjcgaaGreatDoor
open Go.RowKit

theorem pair_size (w : World) : (Go.sizeOf 51).run Tryz.prog w = .ok 2 w := by kernel_rfl

/-- A twin: a block of its own, the pairs and the mark behind them. -/
structure TwinP (w w' : World) (g n : Nat) (ps : List (Int × Int)) : Prop where
  len : ps.length = n
  top : n < maxLen
  old : w.heap.size ≤ g
  blk : w'.heap[g]? = some (.cells (flat (ps ++ [(77, 0)])).toArray 51 (0, 0))

theorem TwinP.lt {w w' : World} {g n : Nat} {ps : List (Int × Int)} (h : TwinP w w' g n ps) : g < w'.heap.size := lt_blk h.blk
theorem TwinP.keep {w w' w2 : World} {g n : Nat} {ps : List (Int × Int)} (h : TwinP w w' g n ps) (hb : Below w'.heap.size w' w2) : TwinP w w2 g n ps :=
  ⟨h.len, h.top, h.old, (hb.block g h.lt).trans h.blk⟩
theorem TwinP.cell {w w' : World} {g n : Nat} {ps : List (Int × Int)} (h : TwinP w w' g n ps) (j : Nat) (hj : j < (ps ++ [((77 : Int), (0 : Int))]).length) : w'.cell? ⟨g, j * 2, none⟩ = some (.int .i64 (ps ++ [((77 : Int), (0 : Int))])[j].1) ∧ w'.cell? ⟨g, j * 2 + 1, none⟩ = some (.int .i64 (ps ++ [((77 : Int), (0 : Int))])[j].2) := by
  obtain ⟨g1, g2⟩ := flat_get _ j hj
  rw [cell_blk h.blk, cell_blk h.blk, List.getElem?_toArray, List.getElem?_toArray]
  exact ⟨g1, g2⟩
theorem TwinP.rd {w w' : World} {g n : Nat} {ps : List (Int × Int)} (h : TwinP w w' g n ps) : Rp w' w'.heap.size (some ⟨g, 0, none⟩) n (n + 1) ps := by
  refine ⟨h.len, by omega, by have := h.top; omega, (fun h => by cases h), fun _ => ⟨g, 0, rfl, h.lt, fun j hj => ?_⟩⟩
  have := h.cell j (by rw [List.length_append]; omega)
  rw [Nat.zero_add, List.getElem_append_left hj] at *
  exact this
theorem TwinP.nl {w w' : World} {g n : Nat} {ps : List (Int × Int)} {us : List Value} (h : TwinP w w' g n ps) (hn : n ≤ 1000000) : NL 51 2 us 0 w' (some ⟨g, 0, none⟩) n (n + 1) :=
  .at g n (n + 1) _ h.blk (by rw [List.size_toArray, flat_len, List.length_append, h.len]; rfl) (by omega) (by have := h.top; omega) hn (fun j hj => absurd hj (by omega))

def TPRel (ps : List (Int × Int)) (w : World) (g n : Nat) (v3 i4 : Value) (wr : World) : Prop :=
  ∃ k : Nat, i4 = .int .i64 (k : Int) ∧ k ≤ ps.length ∧ v3 = .slice (some ⟨g, 0, none⟩) k (n + 1) ∧ wr.ownsRow w.heap.size 51 2 (.slice (some ⟨g, 0, none⟩) k (n + 1)) k (flat (ps.take k)) ∧ Below w.heap.size w wr

theorem flat_take_snoc (ps : List (Int × Int)) (k : Nat) (h : k < ps.length) : flat (ps.take k) ++ [.int .i64 ps[k].1, .int .i64 ps[k].2] = flat (ps.take (k + 1)) := by
  rw [List.take_succ_eq_append_getElem h, flat_append]
  rfl

theorem own_block_pairs {w : World} {base g n : Nat} {xs : List Value} (h : w.ownsRow base 51 2 (.slice (some ⟨g, 0, none⟩) n n) n xs) : w.heap[g]? = some (.cells xs.toArray 51 (0, 0)) := by
  rcases h.2 with ⟨hv, _⟩ | ⟨g', cap, cur, hv, hb, hg, hnc, hcm, hcs, htake⟩
  · cases hv
  · injection hv with h1 h2 h3
    injection h1 with h1
    injection h1 with h1
    subst h1
    subst h3
    rw [hg]
    have : cur = xs.toArray := by
      apply Array.toList_inj.1
      rw [← htake, List.take_of_length_le (by rw [Array.length_toList, hcs]; exact Nat.le_refl _)]
    rw [this]

theorem slice_pairs (W : World) (g n c hi : Nat) (h2 : hi ≤ c) :
    (Instr.slice 22 (.slice (some ⟨g, 0, none⟩) n c) none (some (.int .i64 (hi : Int))) none).run Tryz.prog W = .ok (.slice (some ⟨g, 0, none⟩) hi c) W := by
  have he : Tryz.prog.elem 22 = 51 := by simp [Program.elem, Tryz.underlying22]
  have ht' : Tryz.prog.underlying 22 = some (.slice (Tryz.prog.elem 22)) := by rw [he]; exact Tryz.underlying22
  rw [run_slice_h W 22 _ _ _ ht' .i64 _ (by omega) (by omega), he, pair_size]
  simp [Result.andThen, sliced, Addr.add]

set_option maxRecDepth 100000 in
set_option maxHeartbeats 400000 in
theorem twinP_any (A : Option Addr) (n c : Nat) (ps : List (Int × Int)) (w : World) (h : Rp w w.heap.size A n c ps) (hb : n ≤ 1000000) :
    Calls Tryz.prog 4 #[.slice A n c] w fun e w' => ∃ g, e = .returned (.slice (some ⟨g, 0, none⟩) n (n + 1)) ∧ TwinP w w' g n ps ∧ Below w.heap.size w w' := by
  obtain ⟨i0, hi0, hz0, hz1, hz2⟩ := info_parts pair_inf
  have HL := Lib.hid h.len
  go_enter Tryz.func4, Tryz.ntmps4
  go_wp2_with (at_make; refine wpList_make_own _ rfl _ _ 22 rfl w.heap.size 51 i0 _ 2 Tryz.underlying22 hi0 hz0 hz1 .i64 .i64 _ (n + 1) rfl rfl (by omega) (by rw [hz2]; omega) (by unfold maxLen; omega) (Nat.le_refl _) ?_; intro w1 hown1 hg1; have hb1 : Below w.heap.size w w1 := (Below.refl _ _).grown hg1 (Nat.le_refl _) (by simp))
  have hsl := fun W => slice_pairs W w.heap.size (n + 1) (n + 1) n (by omega)
  go_loopw [3, 4] (fun v3 i4 wr => TPRel ps w w.heap.size n v3 i4 wr) (fun _ i4 _ => n - (intOf i4).toNat)
  case atStart => exact ⟨0, rfl, by omega, rfl, hown1, hb1⟩
  case round =>
    obtain ⟨k, rfl, hk, rfl, hown, hbr⟩ := hrel
    clear hown1 hb1 hg1
    by_cases hlt : k < n
    · obtain ⟨b, o, rfl, hbb, hc⟩ := (h.below hbr).spot (by omega)
      have hk' : k < ps.length := by rw [HL.out]; exact hlt
      obtain ⟨hc1, hc2⟩ := hc k hk'
      have HS := Lib.hid (flat_take_snoc ps k hk')
      clear hc
      generalize ps[k] = q at *
      obtain ⟨x, y⟩ := q
      have hc1 : wr.cell? ⟨b, o + k * 2, none⟩ = some (.int .i64 x) := hc1
      have hc2 : wr.cell? ⟨b, o + k * 2 + 1, none⟩ = some (.int .i64 y) := hc2
      have HS : Hid (flat (ps.take k) ++ [.int .i64 x, .int .i64 y] = flat (ps.take (k + 1))) := HS
      go_wp2_with (at_builtin; refine wpList_append_fits _ rfl (.tmp 15) (.tmp 20) 22 rfl w.heap.size 51 i0 2 Tryz.underlying22 hi0 hz1 w.heap.size k (n + 1) _ rfl (hown.alloc _) ⟨wr.heap.size, 0, none⟩ 1 1 [.int .i64 x, .int .i64 y] rfl rfl (pair_src _ _ _ _) (by intro u hu; simp only [List.mem_cons, List.not_mem_nil, or_false] at hu; rcases hu with rfl | rfl <;> rfl) (by omega) ?_; intro w2 hown2 hg2)
      go_roundw
      case rel => exact ⟨k + 1, by go_num, by omega, rfl, by rw [← HS.out]; exact hown2, (hbr.alloc hbr.size _).grown hg2 (Nat.le_trans hbr.size (by simp)) (by intro j hj; injection hj with hj; omega)⟩
      case measure => simp [intOf]; omega
    · obtain rfl : k = n := by have := HL.out; omega
      go_wp2_with (at_builtin; refine wpList_append_fits _ rfl (.tmp 22) (.tmp 24) 22 rfl w.heap.size 51 i0 2 Tryz.underlying22 hi0 hz1 w.heap.size k (k + 1) _ rfl (hown.alloc _) ⟨wr.heap.size, 0, none⟩ 1 1 [.int .i64 77, .int .i64 0] rfl rfl (pair_src _ _ _ _) (by intro u hu; simp only [List.mem_cons, List.not_mem_nil, or_false] at hu; rcases hu with rfl | rfl <;> rfl) (by omega) ?_; intro w2 hown2 hg2)
      go_ret
      have hl2 : flat (ps.take k) ++ [.int .i64 77, .int .i64 0] = flat (ps ++ [(77, 0)]) := by
        rw [List.take_of_length_le (by rw [HL.out]; exact Nat.le_refl _), flat_append]
        rfl
      rw [hl2] at hown2
      exact ⟨w.heap.size, rfl, ⟨HL.out, by unfold maxLen; omega, Nat.le_refl _, own_block_pairs hown2⟩, (hbr.alloc hbr.size _).grown hg2 (Nat.le_trans hbr.size (by simp)) (by intro j hj; injection hj with hj; omega)⟩

def LPRel (n : Nat) (w : World) (i5 : Value) (wr : World) : Prop := ∃ k : Nat, i5 = .int .i64 (k : Int) ∧ k ≤ n ∧ Drawn w wr

set_option maxRecDepth 100000 in
set_option maxHeartbeats 400000 in
theorem leftP_any (w0 : World) (B : Nat) (A : Option Addr) (g n c : Nat) (ps : List (Int × Int)) (w : World) (ht : TwinP w0 w g n ps) (h : Rp w B A n c ps) :
    Calls Tryz.prog 8 #[.slice (some ⟨g, 0, none⟩) n (n + 1), .slice A n c] w fun e w' => e = .returned (.bool true) ∧ Below w.heap.size w w' := by
  have HL := Lib.hid h.len
  have htop := ht.top
  unfold maxLen at htop
  have hmark : w.cell? ⟨g, n * 2, none⟩ = some (.int .i64 77) ∧ w.cell? ⟨g, n * 2 + 1, none⟩ = some (.int .i64 0) := by
    have := ht.cell n (by rw [List.length_append, HL.out]; simp)
    rw [List.getElem_append_right (by rw [HL.out]; exact Nat.le_refl _)] at this
    simpa using this
  have HM := Lib.hid hmark
  clear hmark
  have hsl := fun W => slice_pairs W g n (n + 1) (n + 1) (by omega)
  have hsl' : ∀ W, (Instr.slice 22 (.slice (some ⟨g, 0, none⟩) n (n + 1)) none (some (.int .i64 ((n : Int) + 1))) none).run Tryz.prog W = .ok (.slice (some ⟨g, 0, none⟩) (n + 1) (n + 1)) W := by
    intro W
    have := hsl W
    rwa [Int.natCast_add] at this
  clear hsl
  go_enter Tryz.func8, Tryz.ntmps8
  go_wp2
  go_loopw [5] (fun i5 wr => LPRel n w i5 wr) (fun i5 _ => n - (intOf i5).toNat)
  case atStart => exact ⟨0, rfl, by omega, Drawn.refl _⟩
  case round =>
    obtain ⟨k, rfl, hk, hd⟩ := hrel
    by_cases hlt : k < n
    · obtain ⟨b, o, rfl, _, hc⟩ := h.spot (by omega)
      have hl : k < ps.length := by have := HL.out; omega
      obtain ⟨a1, a2⟩ := hc k hl
      obtain ⟨c1, c2⟩ := ht.cell k (by rw [List.length_append]; omega)
      rw [List.getElem_append_left hl] at c1 c2
      clear hc
      generalize ps[k] = q at *
      obtain ⟨x, y⟩ := q
      have e1 : wr.cell? ⟨b, o + k * 2, none⟩ = some (.int .i64 x) := (hd.cell _).trans a1
      have e2 : wr.cell? ⟨b, o + k * 2 + 1, none⟩ = some (.int .i64 y) := (hd.cell _).trans a2
      have e3 : wr.cell? ⟨g, k * 2, none⟩ = some (.int .i64 x) := (hd.cell _).trans c1
      have e4 : wr.cell? ⟨g, k * 2 + 1, none⟩ = some (.int .i64 y) := (hd.cell _).trans c2
      have heq : ∀ W, (Op.equalIn 10000 51 (.agg #[.int .i64 x, .int .i64 y]) (.agg #[.int .i64 x, .int .i64 y])).run Tryz.prog W = .ok true W := fun W => by rw [eq_pair]; simp
      clear a1 a2 c1 c2
      go_wp2
      go_quiet (fail)
      go_wp2
      go_roundw
      case rel => exact ⟨k + 1, by go_num, by omega, hd.more _⟩
      case measure => simp [intOf]; omega
    · obtain rfl : k = n := by omega
      have e1 : wr.cell? ⟨g, k * 2, none⟩ = some (.int .i64 77) := (hd.cell _).trans HM.out.1
      have e2 : wr.cell? ⟨g, k * 2 + 1, none⟩ = some (.int .i64 0) := (hd.cell _).trans HM.out.2
      have heq : ∀ W, (Op.equalIn 10000 51 (.agg #[.int .i64 77, .int .i64 0]) (.agg #[.int .i64 77, .int .i64 0])).run Tryz.prog W = .ok true W := fun W => by rw [eq_pair]; rfl
      go_wp2_with fail
      go_ret
      exact ⟨rfl, (hd.below (B := w.heap.size)).alloc (by rw [hd.heap]; exact Nat.le_refl _) _⟩
end Go.Proofs.YtnoigcaapnjcgaaGreatDoor
