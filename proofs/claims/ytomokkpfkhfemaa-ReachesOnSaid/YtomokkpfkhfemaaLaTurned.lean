/- What turned makes: the rows turned round, in memory of their own. No condition but sizes. -/
import Derived.Test.YtomokkpfkhfemaaLaHas
import Derived.Test.YtomokkpfkhfemaaKept
import Derived.Test.YtomokkpfkhfemaaOrder
import Derived.Laws.MakeOwn
import Derived.StillTailTactics
import Derived.Laws.ShiftsVarLaws
namespace Go.Proofs.Ytomokkpfkhfemaa.La
open Go.RowKit

theorem nm_inf : (Try.prog.info? 29).map (fun i => (i.zero, i.size, i.bytes)) = some (some (.int .u64 0), 1, 8) := by kernel_rfl

theorem made_nm (n : Nat) : madeCells #[.int .u64 0] n = cl (List.replicate n 0) := by
  apply Array.ext
  · simp [madeCells, cl]
  · intro i h1 h2
    simp [madeCells, nm, cl, Nat.mod_one]

theorem make_nm (n : Nat) (h : n ≤ 1000000) (W : World) : (Instr.makeSlice 37 (.int .i64 (n : Int)) (.int .i64 (n : Int))).run Try.prog W = .ok (.slice (some ⟨W.heap.size, 0, none⟩) n n) (W.alloc (.cells (cl (List.replicate n 0)) 29)) := by
  obtain ⟨i0, hi0, hz0, hz1, hz2⟩ := info_parts nm_inf
  have := run_make (P := Try.prog) W 37 29 i0 _ Try.underlying37 hi0 hz0 .i64 .i64 n n (by omega) (Int.le_refl _) (by rw [hz2]; omega) (by omega)
  rw [this, hz1, Nat.mul_one, Int.toNat_natCast]
  rw [show (Value.int IntKind.u64 0).cells = #[.int .u64 0] from rfl, made_nm]

theorem two_pow {k : Nat} (h : k < 64) : IntKind.u64.wrap ((2 : Int) ^ k) = ((2 ^ k : Nat) : Int) := by
  have h1 : (2 : Nat) ^ k < 18446744073709551616 := Nat.pow_lt_pow_right (n := 64) (by decide) h
  show (2 : Int) ^ k % 18446744073709551616 = _
  rw [Int.natCast_pow]
  have : ((2 ^ k : Nat) : Int) < 18446744073709551616 := by omega
  rw [Int.natCast_pow] at this
  exact Int.emod_eq_of_lt (Int.le_of_lt (Int.pow_pos (by decide))) this

theorem below_drewN (w : World) (q : Nat) {B : Nat} : Below B w (w.drewN q) := ⟨rfl, rfl, rfl, Nat.le_refl _, fun _ _ => rfl⟩
theorem below_drew (w : World) {B : Nat} : Below B w w.drew := ⟨rfl, rfl, rfl, Nat.le_refl _, fun _ _ => rfl⟩

/-- The same, but for what was drawn. -/
def Drawn (w wr : World) : Prop := ∃ q, wr = w.drewN q
theorem Drawn.refl (w : World) : Drawn w w := ⟨0, rfl⟩
theorem Drawn.more {w wr : World} (h : Drawn w wr) (n : Nat) : Drawn w (wr.drewN n) := by
  obtain ⟨q, rfl⟩ := h
  exact ⟨q + n, by simp [World.drewN, Nat.add_assoc]⟩
theorem Drawn.heap {w wr : World} (h : Drawn w wr) : wr.heap = w.heap := by
  obtain ⟨q, rfl⟩ := h
  rfl
theorem Drawn.cell {w wr : World} (h : Drawn w wr) (p : Addr) : wr.cell? p = w.cell? p := by
  obtain ⟨q, rfl⟩ := h
  rfl
theorem Drawn.below {w wr : World} (h : Drawn w wr) {B : Nat} : Below B w wr := by
  obtain ⟨q, rfl⟩ := h
  exact below_drewN _ _

/-- Turned: rows below i are there, and of row i those below j. -/
def turnI (l : List Nat) (i j : Nat) : List Nat := (List.range l.length).map fun x => mk (fun y => bt l y x) (if x < j then i + 1 else i)

theorem turnI_len (l : List Nat) (i j : Nat) : (turnI l i j).length = l.length := by simp [turnI]

theorem turnI_zero (l : List Nat) : turnI l 0 0 = List.replicate l.length 0 := by
  apply List.ext_getElem (by simp [turnI])
  intro x h1 h2
  simp [turnI, mk]

theorem turnI_row (l : List Nat) (i : Nat) : turnI l i l.length = turnI l (i + 1) 0 := by
  apply List.ext_getElem (by simp [turnI])
  intro x h1 h2
  have : x < l.length := by simpa [turnI] using h1
  simp [turnI, this]

theorem turnI_all (l : List Nat) : turnI l l.length 0 = turnedN l := by
  simp [turnI, turnedN]

theorem turnI_get (l : List Nat) (i j x : Nat) (h : x < (turnI l i j).length) : (turnI l i j)[x] = mk (fun y => bt l y x) (if x < j then i + 1 else i) := by
  simp [turnI]

theorem turnI_no (l : List Nat) (i j : Nat) (h : bt l i j = false) : turnI l i (j + 1) = turnI l i j := by
  apply List.ext_getElem (by simp [turnI])
  intro x h1 h2
  rw [turnI_get, turnI_get]
  by_cases e : x = j
  · subst e
    simp [mk, h]
  · have : (x < j + 1) = (x < j) := propext ⟨fun h => by omega, fun h => by omega⟩
    simp only [this]

theorem turnI_yes (l : List Nat) (i j : Nat) (hj : j < (turnI l i j).length) (h : bt l i j = true) : turnI l i (j + 1) = (turnI l i j).set j ((turnI l i j)[j] ||| 2 ^ i) := by
  apply List.ext_getElem (by simp [turnI])
  intro x h1 h2
  rw [turnI_get]
  by_cases e : x = j
  · subst e
    rw [List.getElem_set_self, turnI_get]
    simp [mk, h]
  · have : (x < j + 1) = (x < j) := propext ⟨fun h => by omega, fun h => by omega⟩
    rw [List.getElem_set_ne (by omega), turnI_get]
    simp only [this]

theorem turnI_fit (l : List Nat) (i j : Nat) (hi : i < 64) : Fit (turnI l i j) := by
  intro y hy
  obtain ⟨x, _, rfl⟩ := List.mem_map.1 hy
  refine Nat.lt_of_lt_of_le (mk_lt _ _) ?_
  show _ ≤ 2 ^ 64
  exact Nat.pow_le_pow_right (by decide) (by split <;> omega)


def TuRel (l : List Nat) (w : World) (v12 : Value) (wr : World) : Prop :=
  ∃ i : Nat, v12 = .int .i64 (i : Int) ∧ i ≤ l.length ∧ wr.heap[w.heap.size]? = some (.cells (cl (turnI l i 0)) 29 (0, 0)) ∧ Below w.heap.size w wr
def TuIn (l : List Nat) (w : World) (i : Nat) (v19 : Value) (wr : World) : Prop :=
  ∃ j : Nat, v19 = .int .i64 (j : Int) ∧ j ≤ l.length ∧ wr.heap[w.heap.size]? = some (.cells (cl (turnI l i j)) 29 (0, 0)) ∧ Below w.heap.size w wr

set_option maxRecDepth 100000 in
set_option maxHeartbeats 400000 in
theorem turned_any (A : Option Addr) (n c : Nat) (l : List Nat) (w : World) (h : Rd nm w w.heap.size A n c l) (hf : Fit l) (hn : n ≤ 64) :
    Calls Try.prog 29 #[.slice A n c] w fun e w' => e = .returned (.slice (some ⟨w.heap.size, 0, none⟩) n n) ∧ w'.heap[w.heap.size]? = some (.cells (cl (turnedN l)) 29 (0, 0)) ∧ Below w.heap.size w w' := by
  have HL := Lib.hid h.len
  have hmk := make_nm n (by omega)
  go_enter Try.func29, Try.ntmps29
  go_wp2
  go_loopw [12] (fun v12 wr => TuRel l w v12 wr) (fun v12 _ => n - (intOf v12).toNat)
  case atStart => exact ⟨0, rfl, by omega, by rw [turnI_zero, HL.out]; exact heap_alloc_new _ _, (Below.refl _ _).alloc (Nat.le_refl _) _⟩
  case round =>
    obtain ⟨i, rfl, hi, hblk, hb⟩ := hrel
    have HB := Lib.hid hblk
    clear hblk hmk
    by_cases hlt : i < n
    · obtain ⟨b, o, rfl, hbb, hc⟩ := h.spot (by omega)
      have hi' : i < l.length := by rw [HL.out]; exact hlt
      have hcell : wr.cell? ⟨b, o + i, none⟩ = some (.int .u64 (l[i] : Int)) := (hb.cell (p := ⟨b, o + i, none⟩) hbb).trans (hc i hi')
      have hx := hf.get i hi'
      have hbt : ∀ j, bt l i j = l[i].testBit j := bt_get hi'
      have HT := Lib.hid hbt
      clear hc hbt
      generalize l[i] = x at *
      go_wp2
      go_loopw [19] (fun v19 wr => TuIn l w i v19 wr) (fun v19 _ => n - (intOf v19).toNat)
      case atStart => exact ⟨0, rfl, by omega, HB.out, hb⟩
      case round =>
        obtain ⟨j, rfl, hj, hblk, hb2⟩ := hrel
        clear hcell hb HB
        by_cases hlt2 : j < n
        · have hcall := has_any x j wr hx
          have hp := two_pow (k := i) (by omega)
          have hlen : j < (turnI l i j).length := by rw [turnI_len, HL.out]; exact hlt2
          have hcj := (cell_blk (i := j) hblk).trans (cl_at hlen)
          have hfz : wr.frozen? ⟨w.heap.size, j, none⟩ = false := frozen_blk hblk
          have hyes := turnI_yes l i j hlen
          have hfit := (turnI_fit l i j (by omega)).get j hlen
          generalize (turnI l i j)[j] = y at *
          have HBK := Lib.hid hblk
          have HY := Lib.hid hyes
          have hor := u64_or_nat y (2 ^ i) hfit (by exact Nat.pow_lt_pow_right (n := 64) (by decide) (by omega))
          clear hblk hyes
          generalize 2 ^ i = p at *
          cases hbit : x.testBit j with
          | true =>
            rw [hbit] at hcall
            have HBIT := Lib.hid hbit
            clear hbit
            go_wp2_with (go_at_call 30; refine hcall.mono ?_; rintro e w' ⟨rfl, rfl⟩)
            go_still_tail 7, (by kernel_rfl)
            change wpList _ _ _ _ _ wr.drew
            have hcj' : wr.drew.cell? ⟨w.heap.size, j, none⟩ = some (.int .u64 (y : Int)) := hcj
            have hfz' : wr.drew.frozen? ⟨w.heap.size, j, none⟩ = false := hfz
            have hb3 : Below w.heap.size w wr.drew := hb2.trans (below_drew wr)
            have HBK' : Hid (wr.drew.heap[w.heap.size]? = some (.cells (cl (turnI l i j)) 29 (0, 0))) := HBK
            clear hcj hfz HBK hb2 hcall
            generalize wr.drew = w3 at *
            go_wp2
            go_roundw
            case rel => exact ⟨j + 1, by go_num, by have := HL.out; omega, by rw [set_blk HBK'.out, cl_set, HY.out (by rw [HT.out, HBIT.out])], hb3.setCell (p := ⟨w.heap.size, j, none⟩) (Nat.le_refl _) _⟩
            case measure => simp [intOf]; omega
          | false =>
            rw [hbit] at hcall
            have HBIT := Lib.hid hbit
            clear hbit
            go_wp2_with (go_at_call 30; refine hcall.mono ?_; rintro e w' ⟨rfl, rfl⟩)
            go_roundw
            case rel => exact ⟨j + 1, by go_num, by have := HL.out; omega, by rw [turnI_no l i j (by rw [HT.out, HBIT.out])]; exact HBK.out, hb2⟩
            case measure => simp [intOf]; omega
        · obtain rfl : j = n := by have := HL.out; omega
          have HB2 := Lib.hid hblk
          clear hblk
          go_wp2
          go_roundw
          case rel => exact ⟨i + 1, by go_num, by have := HL.out; omega, by rw [← turnI_row, HL.out]; exact HB2.out, hb2⟩
          case measure => simp [intOf]; omega
    · obtain rfl : i = n := by have := HL.out; omega
      go_wp2
      go_ret
      exact ⟨rfl, by have := HB.out; rwa [← HL.out, turnI_all] at this, hb⟩
end Go.Proofs.Ytomokkpfkhfemaa.La
