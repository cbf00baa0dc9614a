/- A lattice in memory, and what its methods tell. No condition but sizes. -/
import Derived.Test.YtnlgfiffhahpfaaGreatDoorLaLatMath
import Derived.Test.YtnlgfiffhahpfaaGreatDoorLaBelow
namespace Go.Proofs.YtnlgfiffhahpfaaGreatDoor.La
open Go.RowKit

/-- The cells of a lattice: how many labels, what is above each, what is below each. -/
def lc (n : Nat) (us ds : List Nat) : Array Value := (Value.int .i64 (n : Int) :: (us ++ ds).map nm).toArray

structure LatAt (w : World) (g n : Nat) (us ds : List Nat) : Prop where
  blk : w.heap[g]? = some (.cells (lc n us ds) 98 (0, 0))
  ul : us.length = 64
  dl : ds.length = 64
  top : n ≤ 64
  uf : Fit us
  df : Fit ds

section
variable {w w' : World} {g n : Nat} {us ds : List Nat} (h : LatAt w g n us ds)
include h
theorem LatAt.lt : g < w.heap.size := (Array.getElem?_eq_some_iff.1 h.blk).1
theorem LatAt.keep (hb : Below w.heap.size w w') : LatAt w' g n us ds := ⟨(hb.block g h.lt).trans h.blk, h.ul, h.dl, h.top, h.uf, h.df⟩
theorem LatAt.heap (e : w'.heap = w.heap) : LatAt w' g n us ds := ⟨by rw [e]; exact h.blk, h.ul, h.dl, h.top, h.uf, h.df⟩
theorem LatAt.count : w.cell? ⟨g, 0, none⟩ = some (.int .i64 (n : Int)) := by
  rw [cell_blk h.blk]
  rfl
theorem LatAt.up (j : Nat) (hj : j < us.length) : w.cell? ⟨g, 1 + j, none⟩ = some (.int .u64 (us[j] : Int)) := by
  rw [cell_blk h.blk, lc, List.getElem?_toArray, Nat.add_comm, List.getElem?_cons_succ, List.getElem?_map, List.getElem?_append_left hj, List.getElem?_eq_getElem hj]
  rfl
theorem LatAt.down (j : Nat) (hj : j < ds.length) : w.cell? ⟨g, 65 + j, none⟩ = some (.int .u64 (ds[j] : Int)) := by
  have e : 65 + j = (64 + j) + 1 := by omega
  have e2 : 64 + j - us.length = j := by rw [h.ul]; omega
  rw [cell_blk h.blk, lc, List.getElem?_toArray, e, List.getElem?_cons_succ, List.getElem?_map, List.getElem?_append_right (by rw [h.ul]; omega), e2, List.getElem?_eq_getElem hj]
  rfl
theorem LatAt.rd : Rd nm w w.heap.size (some ⟨g, 1, none⟩) n 64 (us.take n) :=
  ⟨by rw [List.length_take, h.ul, Nat.min_eq_left h.top], h.top, by decide, (fun h => by cases h), fun _ => ⟨g, 1, rfl, h.lt, fun j hj => by
    rw [List.length_take] at hj
    rw [h.up j (by omega), List.getElem_take]
    rfl⟩⟩
end

/-- The lattice that a pointer leads to, if it leads to one. -/
def ptr (g : Nat) : Value := .pointer (some ⟨g, 0, none⟩)

set_option maxRecDepth 100000 in
set_option maxHeartbeats 400000 in
theorem hasL_nil (a : Nat) (w : World) : Calls Tryz.prog 192 #[.pointer none, .int .u64 (a : Int)] w fun e w' => e = .returned (.bool false) ∧ w = w' := by
  go_enter Tryz.func192, Tryz.ntmps192
  go_wp2
  go_ret
  exact ⟨rfl, rfl⟩

set_option maxRecDepth 100000 in
set_option maxHeartbeats 400000 in
theorem hasL_any (g n : Nat) (us ds : List Nat) (a : Nat) (w : World) (h : LatAt w g n us ds) : Calls Tryz.prog 192 #[.pointer (some ⟨g, 0, none⟩), .int .u64 (a : Int)] w fun e w' => e = .returned (.bool (decide (a < n))) ∧ w = w' := by
  have hc := h.count
  have ht := h.top
  clear h
  go_enter Tryz.func192, Tryz.ntmps192
  go_wp2
  go_ret
  exact ⟨by simp, rfl⟩

set_option maxRecDepth 100000 in
set_option maxHeartbeats 400000 in
theorem up_any (g n : Nat) (us ds : List Nat) (a : Nat) (w : World) (h : LatAt w g n us ds) (ha : a < 64) : Calls Tryz.prog 197 #[.pointer (some ⟨g, 0, none⟩), .int .u64 (a : Int)] w fun e w' => e = .returned (.int .u64 (us.getD a 0 : Int)) ∧ w = w' := by
  have hl : a < us.length := by rw [h.ul]; exact ha
  have hc := h.up a hl
  rw [getD_at hl]
  generalize us[a] = x at *
  clear h hl
  go_enter Tryz.func197, Tryz.ntmps197
  go_wp2
  go_ret
  exact ⟨rfl, rfl⟩

set_option maxRecDepth 100000 in
set_option maxHeartbeats 400000 in
theorem down_any (g n : Nat) (us ds : List Nat) (a : Nat) (w : World) (h : LatAt w g n us ds) (ha : a < 64) : Calls Tryz.prog 199 #[.pointer (some ⟨g, 0, none⟩), .int .u64 (a : Int)] w fun e w' => e = .returned (.int .u64 (ds.getD a 0 : Int)) ∧ w = w' := by
  have hl : a < ds.length := by rw [h.dl]; exact ha
  have hc := h.down a hl
  rw [getD_at hl]
  generalize ds[a] = x at *
  clear h hl
  go_enter Tryz.func199, Tryz.ntmps199
  go_wp2
  go_ret
  exact ⟨rfl, rfl⟩

end Go.Proofs.YtnlgfiffhahpfaaGreatDoor.La
