/- What Below tells of a lattice. No condition but sizes. -/
import Derived.Test.YtomokkpfkhfemaaLaLat
import Derived.Deep.QuietTactic
import Derived.BigQuiet
import Derived.Test.YtomokkpfkhfemaaLaTurned
namespace Go.Proofs.Ytomokkpfkhfemaa.La
open Go.RowKit

theorem len39 : Try.prog.arrayLen 50 = 64 := by kernel_rfl
theorem elem39 : Try.prog.elem 50 = 29 := by kernel_rfl
theorem size23 (w : World) : (Go.sizeOf 29).run Try.prog w = .ok 1 w := by kernel_rfl
theorem arr39 : Try.prog.underlying 50 = some (.array (Try.prog.arrayLen 50) (Try.prog.elem 50)) := by rw [len39, elem39]; exact Try.underlying50

/-- x[:n] of an array. -/
theorem slice_head (g o n : Nat) (h : n ≤ 64) (W : World) : (Instr.sliceAt 50 (.pointer (some ⟨g, o, none⟩)) none (some (.int .i64 (n : Int))) none).run Try.prog W = .ok (.slice (some ⟨g, o, none⟩) n 64) W := by
  rw [run_sliceAt_array_h W 50 _ arr39 .i64 _ (by omega) (by rw [len39]; omega), elem39, size23, len39]
  simp [Result.andThen, slicedAt, Addr.add]
theorem slice_whole (g o : Nat) (W : World) : (Instr.sliceAt 50 (.pointer (some ⟨g, o, none⟩)) none none none).run Try.prog W = .ok (.slice (some ⟨g, o, none⟩) 64 64) W := by
  rw [run_sliceAt_array_all W 50 _ arr39, elem39, size23, len39]
  simp [Result.andThen, slicedAt, Addr.add]

set_option maxRecDepth 100000 in
set_option maxHeartbeats 400000 in
theorem belowL_nil (a b : Nat) (w : World) : Calls Try.prog 13 #[.pointer none, .int .u64 (a : Int), .int .u64 (b : Int)] w fun e w' => e = .returned (.bool false) ∧ Drawn w w' := by
  go_enter Try.func13, Try.ntmps13
  go_wp2
  go_quiet (fail)
  go_wp2
  go_ret
  exact ⟨rfl, (Drawn.refl w).more _⟩

set_option maxRecDepth 100000 in
set_option maxHeartbeats 400000 in
theorem belowL_any (g n : Nat) (us ds : List Nat) (a b : Nat) (w : World) (h : LatAt w g n us ds) (ha : a < 18446744073709551616) (hb : b < 18446744073709551616) :
    Calls Try.prog 13 #[.pointer (some ⟨g, 0, none⟩), .int .u64 (a : Int), .int .u64 (b : Int)] w fun e w' => e = .returned (.bool (belowB (us.take n) a b)) ∧ Drawn w w' := by
  have hc := h.count
  have ht := h.top
  have hcall : ∀ W, W.heap = w.heap → Calls Try.prog 21 #[.slice (some ⟨g, 1, none⟩) n 64, .int .u64 (a : Int), .int .u64 (b : Int)] W fun e w' => e = .returned (.bool (belowB (us.take n) a b)) ∧ w' = W :=
    fun W hW => below_q _ n 64 w.heap.size _ a b W (h.rd.keep fun _ _ => by rw [hW]) (fun x hx => h.uf x (List.mem_of_mem_take hx)) ha hb
  have HCALL := Lib.hid hcall
  have hsl := slice_head g 1 n ht
  clear hcall h
  generalize belowB (us.take n) a b = r at *
  go_enter Try.func13, Try.ntmps13
  go_wp2
  go_quiet ((go_at_call 21; exact Calls.quiet_of_same (HCALL.out _ rfl)))
  go_wp2
  go_ret
  exact ⟨rfl, (Drawn.refl w).more _⟩
end Go.Proofs.Ytomokkpfkhfemaa.La
