/- What turned makes: the rows turned round, in memory of their own. No condition but sizes. -/
import Derived.Test.YtomokkpfkhfemaaGreatDoorLaHas
import Derived.Test.YtomokkpfkhfemaaGreatDoorKept
import Derived.Test.YtomokkpfkhfemaaGreatDoorOrder
import Derived.Laws.MakeOwn
import Derived.StillTailTactics
import Derived.Laws.ShiftsVarLaws
namespace Go.Proofs.YtomokkpfkhfemaaGreatDoor.La
open Go.RowKit

theorem nm_inf : (Tryz.prog.info? 51).map (fun i => (i.zero, i.size, i.bytes)) = some (some (.int .u64 0), 1, 8) := by kernel_rfl

theorem made_nm (n : Nat) : madeCells #[.int .u64 0] n = cl (List.replicate n 0) := by
  apply Array.ext
  · simp [madeCells, cl]
  · intro i h1 h2
    simp [madeCells, nm, cl, Nat.mod_one]

theorem make_nm (n : Nat) (h : n ≤ 1000000) (W : World) : (Instr.makeSlice 83 (.int .i64 (n : Int)) (.int .i64 (n : Int))).run Tryz.prog W = .ok (.slice (some ⟨W.heap.size, 0, none⟩) n n) (W.alloc (.cells (cl (List.replicate n 0)) 51)) := by
  obtain ⟨i0, hi0, hz0, hz1, hz2⟩ := info_parts nm_inf
  have := run_make (P := Tryz.prog) W 83 51 i0 _ Tryz.underlying83 hi0 hz0 .i64 .i64 n n (by omega) (Int.le_refl _) (by rw [hz2]; omega) (by omega)
  rw [this, hz1, Nat.mul_one, Int.toNat_natCast]
  rw [show (Value.int IntKind.u64 0).cells = #[.int .u64 0] from rfl, made_nm]

theorem two_pow {k : Nat} (h : k < 64) : IntKind.u64.wrap ((2 : Int) ^ k) = ((2 ^ k : Nat) : Int) := by
  have h1 : (2 : Nat) ^ k < 18446744073709551616 := Nat.pow_lt_pow_right (n := 64) (by decide) h
  show (2 : Int) ^ k % 18446744073709551616 = _
  rw [Int.natCast_pow]
  have : ((2 ^ k : Nat) : Int) < 18446744073709551616 := by omega
  rw [Int.natCast_pow] at this
  exact Int.emod_eq_of_lt (Int.le_of_lt (Int.pow_pos (by decide))) this

theorem below_drewN (w : World) (q : Nat) {B : Nat} : Below B w (w.drewN q) := ⟨rfl, rfl, rfl, Nat.le_refl _, fun _ _ => rfl⟩
theorem below_drew (w : World) {B : Nat} : Below B w w.drew := ⟨rfl, rfl, rfl, Nat.le_refl _, fun _ _ => rfl⟩

/-- The same, but for what was drawn. -/
def Drawn (w wr : World) : Prop := ∃ q, wr = w.drewN q
theorem Drawn.refl (w : World) : Drawn w w := ⟨0, rfl⟩
theorem Drawn.more {w wr : World} (h : Drawn w wr) (n : Nat) : Drawn w (wr.drewN n) := by
  obtain ⟨q, rfl⟩ := h
  exact ⟨q + n, by simp [World.drewN, Nat.add_assoc]⟩
theorem Drawn.heap {w wr : World} (h : Drawn w wr) : wr.heap = w.heap := by
  obtain ⟨q, rfl⟩ := h
  rfl
theorem Drawn.cell {w wr : World} (h : Drawn w wr) (p : Addr) : wr.cell? p = w.cell? p := by
  obtain ⟨q, rfl⟩ := h
  rfl
theorem Drawn.below {w wr : World} (h : Drawn w wr) {B : Nat} : Below B w wr := by
  obtain ⟨q, rfl⟩ := h
  exact below_drewN _ _












end Go.Proofs.YtomokkpfkhfemaaGreatDoor.La
