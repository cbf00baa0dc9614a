/- A lattice in memory, and what its methods tell. No condition but sizes. -/
import Derived.Test.YtomokkpfkhfemaaLaLatMath
import Derived.Test.YtomokkpfkhfemaaLaBelow
namespace Go.Proofs.Ytomokkpfkhfemaa.La
open Go.RowKit

/-- The cells of a lattice: how many labels, what is above each, what is below each. -/
def lc (n : Nat) (us ds : List Nat) : Array Value := (Value.int .i64 (n : Int) :: (us ++ ds).map nm).toArray

structure LatAt (w : World) (g n : Nat) (us ds : List Nat) : Prop where
  blk : w.heap[g]? = some (.cells (lc n us ds) 57 (0, 0))
  ul : us.length = 64
  dl : ds.length = 64
  top : n ≤ 64
  uf : Fit us
  df : Fit ds

section
variable {w w' : World} {g n : Nat} {us ds : List Nat} (h : LatAt w g n us ds)
include h
theorem LatAt.lt : g < w.heap.size := (Array.getElem?_eq_some_iff.1 h.blk).1
theorem LatAt.keep (hb : Below w.heap.size w w') : LatAt w' g n us ds := ⟨(hb.block g h.lt).trans h.blk, h.ul, h.dl, h.top, h.uf, h.df⟩
theorem LatAt.heap (e : w'.heap = w.heap) : LatAt w' g n us ds := ⟨by rw [e]; exact h.blk, h.ul, h.dl, h.top, h.uf, h.df⟩
theorem LatAt.count : w.cell? ⟨g, 0, none⟩ = some (.int .i64 (n : Int)) := by
  rw [cell_blk h.blk]
  rfl
theorem LatAt.up (j : Nat) (hj : j < us.length) : w.cell? ⟨g, 1 + j, none⟩ = some (.int .u64 (us[j] : Int)) := by
  rw [cell_blk h.blk, lc, List.getElem?_toArray, Nat.add_comm, List.getElem?_cons_succ, List.getElem?_map, List.getElem?_append_left hj, List.getElem?_eq_getElem hj]
  rfl
theorem LatAt.down (j : Nat) (hj : j < ds.length) : w.cell? ⟨g, 65 + j, none⟩ = some (.int .u64 (ds[j] : Int)) := by
  have e : 65 + j = (64 + j) + 1 := by omega
  have e2 : 64 + j - us.length = j := by rw [h.ul]; omega
  rw [cell_blk h.blk, lc, List.getElem?_toArray, e, List.getElem?_cons_succ, List.getElem?_map, List.getElem?_append_right (by rw [h.ul]; omega), e2, List.getElem?_eq_getElem hj]
  rfl
theorem LatAt.rd : Rd nm w w.heap.size (some ⟨g, 1, none⟩) n 64 (us.take n) :=
  ⟨by rw [List.length_take, h.ul, Nat.min_eq_left h.top], h.top, by decide, (fun h => by cases h), fun _ => ⟨g, 1, rfl, h.lt, fun j hj => by
    rw [List.length_take] at hj
    rw [h.up j (by omega), List.getElem_take]
    rfl⟩⟩
end

/-- The lattice that a pointer leads to, if it leads to one. -/
def ptr (g : Nat) : Value := .pointer (some ⟨g, 0, none⟩)





end Go.Proofs.Ytomokkpfkhfemaa.La
