/- Pairs in two cells each; what within tells of them. No condition but sizes. -/
import Derived.Test.YtnoigcaapnjcgaaGreatDoorClos
import Derived.Test.YtnoigcaapnjcgaaGreatDoorCheck
import Derived.LoopTactic
namespace Go.Proofs.YtnoigcaapnjcgaaGreatDoor
open Go.RowKit

/-- The slice (A, n, c) reads as the pairs ps, and lies below block B. -/
structure Rp (w : World) (B : Nat) (A : Option Addr) (n c : Nat) (ps : List (Int × Int)) : Prop where
  len : ps.length = n
  cap : n ≤ c
  top : c ≤ maxLen
  none0 : A = none → c = 0
  spot : 0 < n → ∃ b o, A = some ⟨b, o, none⟩ ∧ b < B ∧ ∀ j (h : j < ps.length), w.cell? ⟨b, o + j * 2, none⟩ = some (.int .i64 ps[j].1) ∧ w.cell? ⟨b, o + j * 2 + 1, none⟩ = some (.int .i64 ps[j].2)

section
variable {w w' : World} {B B' : Nat} {A : Option Addr} {n c : Nat} {ps : List (Int × Int)}

theorem Rp.nil (w : World) (B : Nat) : Rp w B none 0 0 [] := ⟨rfl, Nat.le_refl _, Nat.zero_le _, fun _ => rfl, fun h => absurd h (by omega)⟩

theorem Rp.keep (h : Rp w B A n c ps) (hk : ∀ k, k < B → w'.heap[k]? = w.heap[k]?) : Rp w' B A n c ps :=
  ⟨h.len, h.cap, h.top, h.none0, fun hn => by
    obtain ⟨b, o, e, hb, hc⟩ := h.spot hn
    exact ⟨b, o, e, hb, fun j hj => ⟨(World.cell?_of_block (w := w) (w' := w') (a := ⟨b, o + j * 2, none⟩) (hk b hb)).trans (hc j hj).1, (World.cell?_of_block (w := w) (w' := w') (a := ⟨b, o + j * 2 + 1, none⟩) (hk b hb)).trans (hc j hj).2⟩⟩⟩

theorem Rp.below (h : Rp w B A n c ps) (hb : Below B w w') : Rp w' B A n c ps := h.keep hb.block

theorem Rp.mono (h : Rp w B A n c ps) (hB : B ≤ B') : Rp w B' A n c ps :=
  ⟨h.len, h.cap, h.top, h.none0, fun hn => by
    obtain ⟨b, o, e, hb, hc⟩ := h.spot hn
    exact ⟨b, o, e, by omega, hc⟩⟩

theorem Rp.at_size (h : Rp w B A n c ps) (hB : B ≤ w.heap.size) (hb : Below w.heap.size w w') : Rp w' w'.heap.size A n c ps :=
  ((h.mono hB).below hb).mono hb.size
end

/-- Both numbers are labels. -/
def inB (n : Int) (p : Int × Int) : Bool := decide (0 ≤ p.1 ∧ p.1 < n) && decide (0 ≤ p.2 ∧ p.2 < n)
def withinK (n : Int) (ps : List (Int × Int)) (k : Nat) : Bool := (ps.take k).all (inB n)
theorem withinK_succ (n : Int) (ps : List (Int × Int)) (k : Nat) (h : k < ps.length) : withinK n ps (k + 1) = (withinK n ps k && inB n ps[k]) := by
  rw [withinK, List.take_succ_eq_append_getElem h, List.all_append]
  simp [withinK]
theorem withinK_all (n : Int) (ps : List (Int × Int)) : withinK n ps ps.length = ps.all (inB n) := by rw [withinK, List.take_length]
theorem within_no {n : Int} {ps : List (Int × Int)} {k : Nat} (h : k < ps.length) (e : inB n ps[k] = false) : ps.all (inB n) = false := by
  rw [List.all_eq_false]
  exact ⟨_, List.getElem_mem h, by simp [e]⟩
theorem within_iff {n : Int} {m : Nat} {ps : List (Int × Int)} (h : n = m) : ps.all (inB n) = true ↔ Within m ps := by
  subst h
  simp [inB, Within]

theorem index_pair (W : World) (u v : Value) : (Instr.index 51 (.agg #[u, v]) (.int .i64 0)).run Tryz.prog W = .ok u W ∧ (Instr.index 51 (.agg #[u, v]) (.int .i64 1)).run Tryz.prog W = .ok v W := by
  constructor <;> simp [Instr.index, run_underlying Tryz.underlying51, asIntOf, go_sem]

def WiRel (n : Int) (ps : List (Int × Int)) (w : World) (v11 : Value) (wr : World) : Prop := ∃ k : Nat, v11 = .int .i64 (k : Int) ∧ k ≤ ps.length ∧ withinK n ps k = true ∧ Below w.heap.size w wr

set_option maxRecDepth 100000 in
set_option maxHeartbeats 400000 in
theorem within_any (N : Int) (A : Option Addr) (n c : Nat) (ps : List (Int × Int)) (w : World) (h : Rp w w.heap.size A n c ps) :
    Calls Tryz.prog 13 #[.int .i64 N, .slice A n c] w fun e w' => e = .returned (.bool (ps.all (inB N))) ∧ Below w.heap.size w w' := by
  have HL := Lib.hid h.len
  have hcap := h.cap
  have htop := h.top
  unfold maxLen at htop
  go_enter Tryz.func13, Tryz.ntmps13
  go_wp2
  go_loopw [11] (fun v11 wr => WiRel N ps w v11 wr) (fun v11 _ => n - (intOf v11).toNat)
  case atStart => exact ⟨0, rfl, by omega, rfl, Below.refl _ _⟩
  case round =>
    obtain ⟨k, rfl, hk, hwk, hb⟩ := hrel
    have HK := Lib.hid hwk
    clear hwk
    by_cases hlt : k < n
    · obtain ⟨b, o, rfl, hbb, hc⟩ := (h.below hb).spot (by omega)
      have hk' : k < ps.length := by rw [HL.out]; exact hlt
      obtain ⟨hc1, hc2⟩ := hc k hk'
      have HS := Lib.hid (withinK_succ N ps k hk')
      have HF : Hid (inB N ps[k] = false → ps.all (inB N) = false) := Lib.hid (within_no hk')
      clear hc
      generalize ps[k] = p at *
      obtain ⟨x, y⟩ := p
      have hc1 : wr.cell? ⟨b, o + k * 2, none⟩ = some (.int .i64 x) := hc1
      have hc2 : wr.cell? ⟨b, o + k * 2 + 1, none⟩ = some (.int .i64 y) := hc2
      have HI : Hid (inB N (x, y) = (decide (0 ≤ x ∧ x < N) && decide (0 ≤ y ∧ y < N))) := Lib.hid rfl
      have hx1 : ∀ W, (Instr.index 51 (.agg #[.int .i64 x, .int .i64 y]) (.int .i64 0)).run Tryz.prog W = .ok (.int .i64 x) W := fun W => (index_pair W _ _).1
      have hx2 : ∀ W, (Instr.index 51 (.agg #[.int .i64 x, .int .i64 y]) (.int .i64 1)).run Tryz.prog W = .ok (.int .i64 y) W := fun W => (index_pair W _ _).2
      have hb' := hb.alloc hb.size (.cells #[.int .i64 x, .int .i64 y] 51)
      by_cases hx0 : x < 0
      · have d1 : decide (x < 0) = true := by simpa using hx0
        go_wp2
        refine wp_loop_rounds 3 ?_
        rw [rounds_succ]
        go_wp2
        go_ret
        exact ⟨by rw [HF.out (by rw [HI.out, decide_eq_false (by omega), Bool.false_and])]; rfl, hb'⟩
      have d1 : decide (x < 0) = false := by simpa using hx0
      by_cases hxN : N ≤ x
      · have d2 : decide (N ≤ x) = true := by simpa using hxN
        go_wp2
        refine wp_loop_rounds 3 ?_
        rw [rounds_succ]
        go_wp2
        go_ret
        exact ⟨by rw [HF.out (by rw [HI.out, decide_eq_false (by omega), Bool.false_and])]; rfl, hb'⟩
      have d2 : decide (N ≤ x) = false := by simp; omega
      by_cases hy0 : y < 0
      · have d3 : decide (y < 0) = true := by simpa using hy0
        go_wp2
        refine wp_loop_rounds 3 ?_
        rw [rounds_succ]
        go_wp2
        rw [rounds_succ]
        go_wp2
        go_ret
        exact ⟨by rw [HF.out (by rw [HI.out, decide_eq_false (p := 0 ≤ y ∧ y < N) (by omega), Bool.and_false])]; rfl, hb'⟩
      have d3 : decide (y < 0) = false := by simpa using hy0
      by_cases hyN : N ≤ y
      · have d4 : decide (N ≤ y) = true := by simpa using hyN
        go_wp2
        refine wp_loop_rounds 3 ?_
        rw [rounds_succ]
        go_wp2
        rw [rounds_succ]
        go_wp2
        go_ret
        exact ⟨by rw [HF.out (by rw [HI.out, decide_eq_false (p := 0 ≤ y ∧ y < N) (by omega), Bool.and_false])]; rfl, hb'⟩
      have d4 : decide (N ≤ y) = false := by simp; omega
      go_wp2
      refine wp_loop_rounds 3 ?_
      rw [rounds_succ]
      go_wp2
      rw [rounds_succ]
      go_wp2
      rw [rounds_succ]
      go_wp2
      go_roundw
      case rel => exact ⟨k + 1, by go_num, by omega, by rw [HS.out, HK.out, HI.out, decide_eq_true (by omega), decide_eq_true (by omega)]; rfl, hb'⟩
      case measure => simp [intOf]; omega
    · obtain rfl : k = n := by have := HL.out; omega
      have HE := Lib.hid (withinK_all N ps)
      go_wp2
      go_ret
      exact ⟨by rw [← HE.out, HL.out, HK.out]; rfl, hb⟩
end Go.Proofs.YtnoigcaapnjcgaaGreatDoor
