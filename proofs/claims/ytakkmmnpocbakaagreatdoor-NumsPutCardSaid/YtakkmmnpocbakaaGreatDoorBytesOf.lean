/- What bytesOf and putBytes do, and Put by them: the bytes that were there, and behind them the number's. No condition but sizes. -/
import Derived.Test.YtakkmmnpocbakaaGreatDoorBytes
import Derived.Test.YtakkmmnpocbakaaGreatDoorChecked
import Derived.WalkKit
import Derived.OwnWalk
import Derived.Outline
namespace Go.Proofs.YtakkmmnpocbakaaGreatDoor
open Go.RowKit

theorem byte_info : (Tryz.prog.info? 5).map (fun i => (i.zero, i.size, i.bytes)) = some (some (.int .u8 0), 1, 1) := by kernel_rfl

/-- A new block of one cell, as an append's source. -/
theorem one_src (w : World) (u : Value) (e : TypeId) : ∀ j x, [u][j]? = some x → (w.alloc (.cells #[u] e)).cell? ((⟨w.heap.size, 0, none⟩ : Addr).add j) = some x := by
  intro j x hx
  rcases j with _ | j
  · simp only [List.getElem?_cons_zero, Option.some.injEq] at hx
    subst hx
    rw [Addr.add_lit, World.cell?_alloc_at _ _ _ _ rfl]
    rfl
  · simp at hx

theorem one_one {u : Value} (h : u.oneCell' = true) : ∀ x ∈ [u], x.oneCell' = true := by
  intro x hx
  simp only [List.mem_singleton] at hx
  subst hx
  exact h

/-- After some rounds: y is left, pre is put. -/
def BRel (x : Nat) (w : World) (m v : Value) (wr : World) : Prop :=
  ∃ (y : Nat) (pre : List UInt8), m = .int .u64 (y : Int) ∧ y < 18446744073709551616 ∧ pre ++ Lib.uvarint y = Lib.uvarint x ∧
    wr.ownsRow w.heap.size 5 1 v pre.length (Lib.byteCells pre) ∧ Below w.heap.size w wr

theorem snoc_own {w : World} {base : Nat} {v : Value} {pre : List UInt8} {a : Nat} {z : Int} (ha : a < 256) (hz : z = (a : Int)) (h : w.ownsRow base 5 1 v (pre.length + 1) (Lib.byteCells pre ++ [.int .u8 z])) :
    w.ownsRow base 5 1 v (pre ++ [a.toUInt8]).length (Lib.byteCells (pre ++ [a.toUInt8])) := by
  subst hz
  rw [Lib.byteCells_snoc pre ha, List.length_append]
  exact h

theorem brel_next {x : Nat} {w wr w1 : World} {v v1 : Value} {y : Nat} {pre : List UInt8} (o : Obj) (hy : y < 18446744073709551616) (hlt : 128 ≤ y) (he : pre ++ Lib.uvarint y = Lib.uvarint x)
    (hown : wr.ownsRow w.heap.size 5 1 v pre.length (Lib.byteCells pre)) (hbel : Below w.heap.size w wr)
    (hown1 : w1.ownsRow w.heap.size 5 1 v1 (pre.length + 1) (Lib.byteCells pre ++ [.int .u8 ((y : Int) % 128 + 128)])) (hg : (wr.alloc o).grownBy w1 v.ownBlock) :
    BRel x w (.int .u64 ((y : Int) / 128)) v1 w1 := by
  refine ⟨y / 128, pre ++ [(y % 128 + 128).toUInt8], by simp, by omega, ?_, snoc_own (by omega) (by omega) hown1, ?_⟩
  · rw [← he, Lib.uvarint_big hlt]
    simp
  · exact (hbel.alloc hbel.size o).grown hg (Nat.le_trans hbel.size (by simp)) fun k hk => (hown.lt k hk).1

theorem brel_end {x : Nat} {w wr w1 : World} {v v1 : Value} {y : Nat} {pre : List UInt8} (o : Obj) (hlt : y < 128) (he : pre ++ Lib.uvarint y = Lib.uvarint x)
    (hown : wr.ownsRow w.heap.size 5 1 v pre.length (Lib.byteCells pre)) (hbel : Below w.heap.size w wr)
    (hown1 : w1.ownsRow w.heap.size 5 1 v1 (pre.length + 1) (Lib.byteCells pre ++ [.int .u8 (y : Int)])) (hg : (wr.alloc o).grownBy w1 v.ownBlock) :
    ∃ A n c, Ending.returned v1 = .returned (.slice A n c) ∧ Fresh 5 w w1 A n c (Lib.uvarint x) := by
  have ho := snoc_own (a := y) (by omega) rfl hown1
  rw [← Lib.uvarint_small hlt, he] at ho
  obtain ⟨A, c, rfl⟩ := own_form ho
  exact ⟨A, _, c, rfl, ho, (hbel.alloc hbel.size o).grown hg (Nat.le_trans hbel.size (by simp)) fun k hk => (hown.lt k hk).1⟩

set_option maxRecDepth 100000 in
set_option maxHeartbeats 400000 in
theorem bytesOf_any (x : Nat) (w : World) (hx : x < 18446744073709551616) :
    Calls Tryz.prog 16 #[.int .u64 (x : Int)] w fun e w' => ∃ A n c, e = .returned (.slice A n c) ∧ Fresh 5 w w' A n c (Lib.uvarint x) := by
  obtain ⟨i0, hi0, hz0, hz1, hz2⟩ := info_parts byte_info
  have hlen := Lib.uvarint_length64 hx
  have HX := Lib.hid hx
  clear hx
  go_enter Tryz.func16, Tryz.ntmps16
  go_wp2
  go_loopw [0, 3] (fun m v wr => BRel x w m v wr) (fun m _ _ => (intOf m).toNat)
  case atStart => exact ⟨x, [], rfl, HX.out, rfl, World.ownsRow_nil _ _ _ _, Below.refl _ _⟩
  case round =>
    obtain ⟨y, pre, rfl, hy, he, hown, hbel⟩ := hrel
    have HE := Lib.hid he
    have HY := Lib.hid hy
    have hpl : pre.length + (Lib.uvarint y).length = (Lib.uvarint x).length := by rw [← he, List.length_append]
    have hp1 := Lib.uvarint_pos y
    have hp2 : pre.length + 1 ≤ 10 := by omega
    clear hpl hp1 he hy
    by_cases hlt : 128 ≤ y
    · have hd : decide (128 ≤ (y : Int)) = true := by simp; omega
      have hor : bits .or .u8 ((y : Int) % 256) 128 = (y : Int) % 128 + 128 := by rw [Lib.u8_or128_any _ (by omega) (by omega)]; omega
      go_wp2_with (at_builtin; refine wpList_append_own _ rfl (.tmp 6) (.tmp 10) 22 rfl w.heap.size 5 i0 (.int .u8 0) 1 1 Tryz.underlying22 hi0 hz0 hz1 hz2 rfl (by decide) _ _ _ rfl (hown.alloc _) ⟨wr.heap.size, 0, none⟩ 1 1 [.int .u8 ((y : Int) % 128 + 128)] rfl rfl (one_src _ _ _) (one_one rfl) (by unfold maxLen; omega) (by omega) (Nat.le_trans hbel.size (by simp)) ?_; intro v1 w1 hown1 hg1 hn1)
      go_roundw
      case rel => exact brel_next _ HY.out hlt HE.out hown hbel hown1 hg1
      case measure => simp [intOf]; omega
    · have hd : decide (128 ≤ (y : Int)) = false := by simp; omega
      have hm : (y : Int) % 256 = y := by omega
      go_wp2_with (at_builtin; refine wpList_append_own _ rfl (.tmp 14) (.tmp 17) 22 rfl w.heap.size 5 i0 (.int .u8 0) 1 1 Tryz.underlying22 hi0 hz0 hz1 hz2 rfl (by decide) _ _ _ rfl (hown.alloc _) ⟨wr.heap.size, 0, none⟩ 1 1 [.int .u8 (y : Int)] rfl rfl (one_src _ _ _) (one_one rfl) (by unfold maxLen; omega) (by omega) (Nat.le_trans hbel.size (by simp)) ?_; intro v1 w1 hown1 hg1 hn1)
      go_ret
      exact brel_end _ (by omega) HE.out hown hbel hown1 hg1
end Go.Proofs.YtakkmmnpocbakaaGreatDoor
