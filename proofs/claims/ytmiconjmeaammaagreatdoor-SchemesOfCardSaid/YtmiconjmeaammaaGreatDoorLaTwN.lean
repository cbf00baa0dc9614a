/- LaTwin; LaTwN: merged. -/
import Derived.Test.YtmiconjmeaammaaGreatDoorLaOrd
import Derived.Deep.QuietTactic
import Derived.BigQuiet

/- What SameNums does. Conditions: sizes alone. -/
namespace Go.Proofs.YtmiconjmeaammaaGreatDoor.La
open Go.RowKit

theorem nm_size' (w : World) : (Go.sizeOf 80).run Tryz.prog w = .ok 1 w := by kernel_rfl

theorem own_block_all {E : TypeId} {w : World} {base g n c : Nat} {xs : List Value} (h : w.ownsRow base E 1 (.slice (some ⟨g, 0, none⟩) n c) n xs) (hc : n = c) : w.heap[g]? = some (.cells xs.toArray E (0, 0)) ∧ base ≤ g := by
  rcases h.2 with ⟨hv, _⟩ | ⟨g', cap, cur, hv, hb, hg, hnc, hcm, hcs, htake⟩
  · cases hv
  · injection hv with h1 h2 h3
    injection h1 with h1
    injection h1 with h1
    subst h1
    subst h3
    subst hc
    refine ⟨?_, hb⟩
    rw [hg]
    have : cur = xs.toArray := by
      apply Array.toList_inj.1
      rw [← htake, List.take_of_length_le (by rw [Array.length_toList, hcs]; exact Nat.le_refl _)]
    rw [this]

theorem slice_to {P : Program} (W : World) (t e : TypeId) (ht : P.underlying t = some (.slice e)) (hz : ∀ w, (Go.sizeOf e).run P w = .ok 1 w) (g n c hi : Nat) (h2 : hi ≤ c) :
    (Instr.slice t (.slice (some ⟨g, 0, none⟩) n c) none (some (.int .i64 (hi : Int))) none).run P W = .ok (.slice (some ⟨g, 0, none⟩) hi c) W := by
  have he : P.elem t = e := by simp [Program.elem, ht]
  have ht' : P.underlying t = some (.slice (P.elem t)) := by rw [he]; exact ht
  rw [run_slice_h W t _ _ _ ht' .i64 _ (by omega) (by omega), he, hz]
  simp [Result.andThen, sliced, Addr.add]

def SameE (l l' : List Nat) (w : World) (e : Ending) (w' : World) : Prop := (∃ b, e = .returned (.bool b) ∧ (b = true ↔ l = l')) ∧ Drawn w w'
theorem sameE_no {l l' : List Nat} {w w' : World} (h : l ≠ l') (hw : Drawn w w') : SameE l l' w (.returned (.bool false)) w' := ⟨⟨false, rfl, (fun e => by cases e), fun e => absurd e h⟩, hw⟩
theorem sameE_yes {l l' : List Nat} {w w' : World} (h : l = l') (hw : Drawn w w') : SameE l l' w (.returned (.bool true)) w' := ⟨⟨true, rfl, fun _ => h, fun _ => rfl⟩, hw⟩

def SaRel (l l' : List Nat) (w : World) (i5 : Value) (wr : World) : Prop := ∃ k : Nat, i5 = .int .i64 (k : Int) ∧ k ≤ l.length ∧ l.take k = l'.take k ∧ Drawn w wr

end Go.Proofs.YtmiconjmeaammaaGreatDoor.La

/- What TwinNums, LeftNums and SameNums do. Conditions: sizes alone. -/
namespace Go.Proofs.YtmiconjmeaammaaGreatDoor.La
open Go.RowKit


/-- A twin: a block of its own, the numbers and the mark behind them. -/
structure TwinOf (w w' : World) (g n : Nat) (l : List Nat) : Prop where
  len : l.length = n
  top : n < maxLen
  old : w.heap.size ≤ g
  blk : w'.heap[g]? = some (.cells (cl (l ++ [77])) 80 (0, 0))

theorem TwinOf.lt {w w' : World} {g n : Nat} {l : List Nat} (h : TwinOf w w' g n l) : g < w'.heap.size := (Array.getElem?_eq_some_iff.1 h.blk).1

theorem TwinOf.keep {w w' w2 : World} {g n : Nat} {l : List Nat} (h : TwinOf w w' g n l) (hb : Below w'.heap.size w' w2) : TwinOf w w2 g n l :=
  ⟨h.len, h.top, h.old, (hb.block g h.lt).trans h.blk⟩

theorem TwinOf.cell {w w' : World} {g n : Nat} {l : List Nat} (h : TwinOf w w' g n l) (j : Nat) (hj : j < (l ++ [77]).length) : w'.cell? ⟨g, j, none⟩ = some (nm (l ++ [77])[j]) := by
  rw [cell_blk h.blk, cl_at hj]
  rfl

theorem TwinOf.rd {w w' : World} {g n : Nat} {l : List Nat} (h : TwinOf w w' g n l) : Rd nm w' w'.heap.size (some ⟨g, 0, none⟩) n (n + 1) l := by
  refine ⟨h.len, by omega, by have := h.top; omega, (fun h => by cases h), fun _ => ⟨g, 0, rfl, h.lt, fun j hj => ?_⟩⟩
  have := h.cell j (by rw [List.length_append]; omega)
  rw [Nat.zero_add, this, List.getElem_append_left hj]

def TRel (l : List Nat) (w : World) (g n : Nat) (v3 i4 : Value) (wr : World) : Prop :=
  ∃ k : Nat, i4 = .int .i64 (k : Int) ∧ k ≤ l.length ∧ v3 = .slice (some ⟨g, 0, none⟩) k (n + 1) ∧ wr.ownsRow w.heap.size 80 1 (.slice (some ⟨g, 0, none⟩) k (n + 1)) k ((l.take k).map nm) ∧ Below w.heap.size w wr

theorem nm_take_snoc (l : List Nat) (k : Nat) (h : k < l.length) : (l.take k).map nm ++ [.int .u64 (l[k] : Int)] = (l.take (k + 1)).map nm := by
  rw [List.take_succ_eq_append_getElem h, List.map_append]
  rfl



set_option maxRecDepth 100000 in
set_option maxHeartbeats 400000 in
theorem twin_any (A : Option Addr) (n c : Nat) (l : List Nat) (w : World) (h : Rd nm w w.heap.size A n c l) (hb : n ≤ 1000000) :
    Calls Tryz.prog 7 #[.slice A n c] w fun e w' => ∃ g, e = .returned (.slice (some ⟨g, 0, none⟩) n (n + 1)) ∧ TwinOf w w' g n l ∧ Below w.heap.size w w' := by
  obtain ⟨i0, hi0, hz0, hz1, hz2⟩ := info_parts nm_inf
  have HL := Lib.hid h.len
  go_enter Tryz.func7, Tryz.ntmps7
  go_wp2_with (at_make; refine wpList_make_own _ rfl _ _ 26 rfl w.heap.size 80 i0 (.int .u64 0) 1 Tryz.underlying26 hi0 hz0 hz1 .i64 .i64 _ (n + 1) rfl rfl (by omega) (by rw [hz2]; omega) (by unfold maxLen; omega) (Nat.le_refl _) ?_; intro w1 hown1 hg1; have hb1 : Below w.heap.size w w1 := (Below.refl _ _).grown hg1 (Nat.le_refl _) (by simp))
  have hsl := fun W => slice_to (P := Tryz.prog) W 26 80 Tryz.underlying26 nm_size' w.heap.size (n + 1) (n + 1) n (by omega)
  go_loopw [3, 4] (fun v3 i4 wr => TRel l w w.heap.size n v3 i4 wr) (fun _ i4 _ => n - (intOf i4).toNat)
  case atStart => exact ⟨0, rfl, by omega, rfl, hown1, hb1⟩
  case round =>
    obtain ⟨k, rfl, hk, rfl, hown, hbr⟩ := hrel
    clear hown1 hb1 hg1
    by_cases hlt : k < n
    · obtain ⟨b, o, rfl, hbb, hc⟩ := h.spot (by omega)
      have hk' : k < l.length := by rw [HL.out]; exact hlt
      have hcell : wr.cell? ⟨b, o + k, none⟩ = some (.int .u64 (l[k] : Int)) := (hbr.cell (p := ⟨b, o + k, none⟩) hbb).trans (hc k hk')
      have HS := Lib.hid (nm_take_snoc l k hk')
      clear hc
      generalize l[k] = q at *
      go_wp2_with (at_builtin; refine wpList_append_fits _ rfl (.tmp 15) (.tmp 20) 26 rfl w.heap.size 80 i0 1 Tryz.underlying26 hi0 hz1 w.heap.size k (n + 1) _ rfl (hown.alloc _) ⟨wr.heap.size, 0, none⟩ 1 1 [.int .u64 (q : Int)] rfl rfl (one_src _ _ _) (one_one rfl) (by omega) ?_; intro w2 hown2 hg2)
      go_roundw
      case rel => exact ⟨k + 1, by go_num, by omega, rfl, by rw [← HS.out]; exact hown2, (hbr.alloc hbr.size _).grown hg2 (Nat.le_trans hbr.size (by simp)) (by intro j hj; injection hj with hj; omega)⟩
      case measure => simp [intOf]; omega
    · obtain rfl : k = n := by have := HL.out; omega
      go_wp2_with (at_builtin; refine wpList_append_fits _ rfl (.tmp 22) (.tmp 23) 26 rfl w.heap.size 80 i0 1 Tryz.underlying26 hi0 hz1 w.heap.size k (k + 1) _ rfl (hown.alloc _) ⟨wr.heap.size, 0, none⟩ 1 1 [.int .u64 77] rfl rfl (one_src _ _ _) (one_one rfl) (by omega) ?_; intro w2 hown2 hg2)
      go_ret
      have hl2 : (l.take k).map nm ++ [.int .u64 77] = (l ++ [77]).map nm := by
        rw [List.take_of_length_le (by rw [HL.out]; exact Nat.le_refl _), List.map_append]
        rfl
      rw [hl2] at hown2
      obtain ⟨hblk, hold⟩ := own_block_all hown2 rfl
      exact ⟨w.heap.size, rfl, ⟨HL.out, by unfold maxLen; omega, Nat.le_refl _, hblk⟩, (hbr.alloc hbr.size _).grown hg2 (Nat.le_trans hbr.size (by simp)) (by intro j hj; injection hj with hj; omega)⟩

/-- The mark is read, the numbers are the same. -/
def LRel (n : Nat) (w : World) (i5 : Value) (wr : World) : Prop := ∃ k q : Nat, i5 = .int .i64 (k : Int) ∧ k ≤ n ∧ wr = w.drewN q

set_option maxRecDepth 100000 in
set_option maxHeartbeats 400000 in
theorem left_any (w0 : World) (B : Nat) (A : Option Addr) (g n c : Nat) (l : List Nat) (w : World) (ht : TwinOf w0 w g n l) (h : Rd nm w B A n c l) :
    Calls Tryz.prog 16 #[.slice (some ⟨g, 0, none⟩) n (n + 1), .slice A n c] w fun e w' => e = .returned (.bool true) ∧ ∃ k, w' = w.drewN k := by
  have HL := Lib.hid h.len
  have htop := ht.top
  unfold maxLen at htop
  have hmark : w.cell? ⟨g, n, none⟩ = some (.int .u64 77) := by
    have := ht.cell n (by rw [List.length_append, HL.out]; simp)
    rw [this, List.getElem_append_right (by rw [HL.out]; exact Nat.le_refl _)]
    simp [nm]
  have hsl := fun W => slice_to (P := Tryz.prog) W 26 80 Tryz.underlying26 nm_size' g n (n + 1) (n + 1) (by omega)
  have hsl' : ∀ W, (Instr.slice 26 (.slice (some ⟨g, 0, none⟩) n (n + 1)) none (some (.int .i64 ((n : Int) + 1))) none).run Tryz.prog W = .ok (.slice (some ⟨g, 0, none⟩) (n + 1) (n + 1)) W := by
    intro W
    have := hsl W
    rwa [Int.natCast_add] at this
  clear hsl
  go_enter Tryz.func16, Tryz.ntmps16
  go_wp2
  go_loopw [5] (fun i5 wr => LRel n w i5 wr) (fun i5 _ => n - (intOf i5).toNat)
  case atStart => exact ⟨0, 0, rfl, by omega, rfl⟩
  case round =>
    obtain ⟨k, q, rfl, hk, rfl⟩ := hrel
    by_cases hlt : k < n
    · obtain ⟨b, o, rfl, _, hc⟩ := h.spot (by omega)
      have hl : k < l.length := by have := HL.out; omega
      have e1 : w.cell? ⟨b, o + k, none⟩ = some (.int .u64 (l[k] : Int)) := hc k hl
      have e2 := ht.cell k (by rw [List.length_append]; omega)
      rw [List.getElem_append_left hl, show nm l[k] = .int .u64 (l[k] : Int) from rfl] at e2
      clear hc
      generalize l[k] = u at *
      have hne : ((u : Int) != (u : Int)) = false := by simp
      go_wp2
      go_quiet (fail)
      go_wp2
      go_roundw
      case rel => exact ⟨k + 1, _, by go_num, by omega, rfl⟩
      case measure => simp [intOf]; omega
    · obtain rfl : k = n := by omega
      go_wp2_with fail
      go_ret
      exact ⟨rfl, _, rfl⟩
end Go.Proofs.YtmiconjmeaammaaGreatDoor.La
