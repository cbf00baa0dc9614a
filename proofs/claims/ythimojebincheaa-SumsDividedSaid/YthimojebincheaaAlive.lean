/- The document's own examples, as the statements ask them, and 'great': they come out as it says. No condition. -/
import Derived.Test.YthimojebincheaaOn
import Derived.Lib.SlBytesConst
namespace Go.Proofs.Ythimojebincheaa
open Go.RowKit

theorem Below.next {w a a' : World} {o : Obj} (h : Below w.heap.size w a) (k : Below (a.alloc o).heap.size (a.alloc o) a') : Below w.heap.size w a' :=
  (h.alloc h.size o).trans (k.mono (Nat.le_trans h.size (by simp)))

theorem Below.then {w a a' : World} (h : Below w.heap.size w a) (k : Below a.heap.size a a') : Below w.heap.size w a' := h.trans (k.mono h.size)

theorem rd_lit (w : World) (cs : Array Value) (n : Nat) (l : List UInt8) (hcs : cs.toList = Lib.byteCells l) (hn : l.length = n) (hm : n ≤ maxLen) :
    Rd (w.alloc (.cells cs 5)) (w.alloc (.cells cs 5)).heap.size (some ⟨w.heap.size, 0, none⟩) n n l := Rd.new w cs 5 n l hcs hn hm

theorem of_now {A : Option Addr} {m c : Nat} {bs : List UInt8} {r : Nat} (w : World) (hL : Rd w w.heap.size A m c bs) (h : sumOf 0 bs = r) :
    Calls Try.prog 9 #[.slice A m c] w fun e w' => e = .returned (.int .u32 (r : Int)) ∧ Below w.heap.size w w' := h ▸ of_any A m c bs w hL
theorem on_now {s : Nat} {A : Option Addr} {m c : Nat} {bs : List UInt8} {r : Nat} (w : World) (hs0 : s < 4294967296) (hL : Rd w w.heap.size A m c bs) (h : sumOf s bs = r) :
    Calls Try.prog 11 #[.int .u32 (s : Int), .slice A m c] w fun e w' => e = .returned (.int .u32 (r : Int)) ∧ Below w.heap.size w w' := h ▸ on_any s A m c bs w hs0 hL

theorem rd_mark (w : World) (cs : Array Value) (fr : Nat × Nat) (n : Nat) (l : List UInt8) (hcs : cs.toList = Lib.byteCells l) (hn : l.length = n) (hm : n ≤ maxLen) :
    Rd (w.alloc (.cells cs 5 fr)) (w.alloc (.cells cs 5 fr)).heap.size (some ⟨w.heap.size, 0, none⟩) n n l := by
  refine ⟨hn, Nat.le_refl _, hm, (fun h => by cases h), fun _ => ⟨w.heap.size, 0, rfl, by simp, fun j hj => ?_⟩⟩
  rw [Nat.zero_add, cell_of_row _ w.heap.size j cs 5 fr (heap_alloc_new w _), ← Array.getElem?_toList, hcs]
  simp [Lib.byteCells, hj]

set_option maxRecDepth 100000 in
set_option maxHeartbeats 1000000 in
theorem alive_any (w : World) : Calls Try.prog 15 #[] w fun e w' => e = .returned (.bool true) ∧ Below w.heap.size w w' := by
  have hcv := fun (w : World) (C : Array Value) (n c : Nat) => Lib.run_convert_bytes_const (P := Try.prog) w 22 5 C n c Try.underlying22 Try.underlying5
  go_enter Try.func15, Try.ntmps15
  go_wp2_with fail
  refine (of_now (r := 0) _ (Rd.nil _ _) (by decide)).mono ?_
  rintro e w1 ⟨rfl, b1⟩
  go_wp2_with fail
  refine (of_now (r := 3421780262) _ (rd_mark _ _ _ 9 [49, 50, 51, 52, 53, 54, 55, 56, 57] rfl rfl (by decide)) (by decide)).mono ?_
  rintro e w2 ⟨rfl, b2⟩
  replace b2 := Below.next b1 b2
  clear b1
  go_wp2_with fail
  refine (on_now (s := 0) (r := 3904355907) _ (by decide) (rd_mark _ _ _ 1 [97] rfl rfl (by decide)) (by decide)).mono ?_
  rintro e w3 ⟨rfl, b3⟩
  replace b3 := Below.next b2 b3
  clear b2
  go_wp2_with fail
  refine (of_now (r := 3904355907) _ (rd_mark _ _ _ 1 [97] rfl rfl (by decide)) (by decide)).mono ?_
  rintro e w4 ⟨rfl, b4⟩
  replace b4 := Below.next b3 b4
  clear b3
  go_wp2_with fail
  refine (on_now (s := 7) (r := 7) _ (by decide) (Rd.nil _ _) (by decide)).mono ?_
  rintro e w5 ⟨rfl, b5⟩
  replace b5 := Below.then b4 b5
  clear b4
  go_wp2_with fail
  refine (of_now (r := 4294967295) _ (rd_lit _ _ 4 [255, 255, 255, 255] rfl rfl (by decide)) (by decide)).mono ?_
  rintro e w6 ⟨rfl, b6⟩
  replace b6 := Below.next b5 b6
  go_wp2_with fail
  go_ret
  exact ⟨rfl, b6⟩

set_option maxRecDepth 100000 in
set_option maxHeartbeats 400000 in
/-- great of one slice. -/
theorem great_one (A : Option Addr) (n c : Nat) (w : World) (g : Nat) (hn : n ≤ 9223372036854775807) (hc : w.cell? ⟨g, 0, none⟩ = some (.slice A n c)) :
    Calls Try.prog 14 #[.slice (some ⟨g, 0, none⟩) 1 1] w fun e w' => e = .returned (.bool (decide (50000 < (n : Int)))) ∧ w = w' := by
  go_enter Try.func14, Try.ntmps14
  go_wp2
  go_loop [3, 4] (fun a3 a4 => ∃ k : Nat, k ≤ 1 ∧ a4 = .int .i64 (k : Int) ∧ a3 = .int .i64 (if k = 1 then (n : Int) else 0)) (fun _ a4 => 1 - (intOf a4).toNat)
  case atStart => exact ⟨0, by omega, rfl, rfl⟩
  case round =>
    obtain ⟨k, hk, rfl, rfl⟩ := hrel
    rcases Nat.lt_or_ge k 1 with hlt | hge
    · obtain rfl : k = 0 := by omega
      go_wp2
      go_round
      case rel => exact ⟨1, by omega, rfl, by simp⟩
      case measure => simp [intOf]
    · obtain rfl : k = 1 := by omega
      go_wp2
      go_ret
      exact ⟨rfl, rfl⟩

theorem u32_nat {a : Int} (h : (Lit.int .u32 a).wf = true) : ∃ x : Nat, a = (x : Int) ∧ x < 4294967296 := by
  have hb : IntKind.u32.min ≤ a ∧ a ≤ IntKind.u32.max := by simpa [Lit.wf] using h
  have e1 : IntKind.u32.min = 0 := by decide
  have e2 : IntKind.u32.max = 4294967295 := by decide
  rw [e1, e2] at hb
  exact ⟨a.toNat, by omega, by omega⟩

theorem u16_nat {a : Int} (h : (Lit.int .u16 a).wf = true) : ∃ x : Nat, a = (x : Int) ∧ x < 65536 := by
  have hb : IntKind.u16.min ≤ a ∧ a ≤ IntKind.u16.max := by simpa [Lit.wf] using h
  have e1 : IntKind.u16.min = 0 := by decide
  have e2 : IntKind.u16.max = 65535 := by decide
  rw [e1, e2] at hb
  exact ⟨a.toNat, by omega, by omega⟩
end Go.Proofs.Ythimojebincheaa
