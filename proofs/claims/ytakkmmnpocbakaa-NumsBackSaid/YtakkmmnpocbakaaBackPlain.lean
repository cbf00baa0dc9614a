/- Plain facts for NumsBack: what is put is got, and cut it is too short, as functions on lists. No memory. -/
import Derived.Test.YtakkmmnpocbakaaAlive
namespace Go.Proofs.Ytakkmmnpocbakaa.numsBack
open Go.RowKit

theorem gotFour_four (y : Nat) (hy : y < 4294967296) (r : List UInt8) : gotFour (four y ++ r) = .tuple #[.int .u32 (y : Int), .int .i64 0] := by
  have h : 4 ≤ (four y ++ r).length := by simp [four]
  unfold gotFour
  rw [dif_pos h]
  have e : unfour (four y ++ r)[0].toNat (four y ++ r)[1].toNat (four y ++ r)[2].toNat (four y ++ r)[3].toNat = y := by
    simp only [four, List.cons_append, List.getElem_cons_zero, List.getElem_cons_succ, unfour]
    rw [Lib.toUInt8_toNat (by omega), Lib.toUInt8_toNat (by omega), Lib.toUInt8_toNat (by omega), Lib.toUInt8_toNat (by omega)]
    omega
  rw [e]

theorem textL_put (a r : List UInt8) (ha : a.length ≤ 20000) : textL (Lib.uvarint a.length ++ a ++ r) = (a, (Lib.uvarint a.length ++ a).length, 0) := by
  have hg := getL_put a.length (a ++ r) (by omega)
  rw [List.append_assoc]
  unfold textL
  rw [hg]
  have hs : ¬ (Lib.uvarint a.length ++ (a ++ r)).length - (Lib.uvarint a.length).length < a.length := by simp only [List.length_append]; omega
  simp only [ne_eq, not_true_eq_false, if_false, hs]
  rw [List.drop_left, List.take_left, List.length_append]

theorem textL_cut (a : List UInt8) (ha : a.length ≤ 20000) : textL ((Lib.uvarint a.length ++ a).take ((Lib.uvarint a.length ++ a).length - 1)) = ([], 0, 5) := by
  by_cases h0 : a = []
  · subst h0
    rw [List.append_nil]
    have hg := getL_cut ([] : List UInt8).length ((Lib.uvarint ([] : List UInt8).length).length - 1) (by simp) (by have := Lib.uvarint_pos ([] : List UInt8).length; omega)
    unfold textL
    rw [hg]
    simp
  · have hp : 0 < a.length := List.length_pos_iff.2 h0
    have e : (Lib.uvarint a.length ++ a).take ((Lib.uvarint a.length ++ a).length - 1) = Lib.uvarint a.length ++ a.take (a.length - 1) := by
      rw [List.length_append, List.take_append, List.take_of_length_le (by omega)]
      congr 2
      omega
    rw [e]
    have hg := getL_put a.length (a.take (a.length - 1)) (by omega)
    unfold textL
    rw [hg]
    simp
    omega

theorem str_back (s : ByteArray) : str s.data.toList = s := by
  cases s
  simp [str]

/-- Ahead and behind of what was put. -/
theorem take_ahead (l u : List UInt8) (n : Nat) (h : l.length = n) : (l ++ u).take n = l := by subst h; exact List.take_left
theorem drop_ahead (l u : List UInt8) (n : Nat) (h : l.length = n) : (l ++ u).drop n = u := by subst h; exact List.drop_left

/-- A box of two cells. -/
structure Boxed (w : World) (b : Nat) (v0 v1 : Value) : Prop where
  lt : b < w.heap.size
  c0 : w.cell? ⟨b, 0, none⟩ = some v0
  c1 : w.cell? ⟨b, 1, none⟩ = some v1

theorem Boxed.keep {w w' : World} {b : Nat} {v0 v1 : Value} (h : Boxed w b v0 v1) (hb : Below w.heap.size w w') : Boxed w' b v0 v1 :=
  ⟨Nat.lt_of_lt_of_le h.lt hb.size, (hb.cell (p := ⟨b, 0, none⟩) h.lt).trans h.c0, (hb.cell (p := ⟨b, 1, none⟩) h.lt).trans h.c1⟩

theorem Boxed.new (w : World) (v0 v1 : Value) (t : TypeId) : Boxed (w.alloc (.cells #[v0, v1] t)) w.heap.size v0 v1 := by
  have hb := heap_alloc_new w (.cells #[v0, v1] t)
  refine ⟨by simp, ?_, ?_⟩
  · rw [cell_of_row _ w.heap.size 0 _ t (0, 0) hb]; rfl
  · rw [cell_of_row _ w.heap.size 1 _ t (0, 0) hb]; rfl

theorem Rd.heap {w w' : World} {B : Nat} {A : Option Addr} {n c : Nat} {l : List UInt8} (h : Rd w B A n c l) (e : w'.heap = w.heap) : Rd w' B A n c l := h.keep fun _ _ => by rw [e]

theorem Below.undrew {w w' : World} (h : Below w.drew.heap.size w.drew w') : Below w.heap.size w w' := ⟨h.os, h.tape, h.output, h.size, h.block⟩

/-- SameBytes of two lists that read alike, of the world that it leaves no more than that old memory stands. -/
theorem same_now (B1 B2 : Nat) (A1 A2 : Option Addr) (n1 c1 n2 c2 : Nat) (l : List UInt8) (w : World) (h1 : Rd w B1 A1 n1 c1 l) (h2 : Rd w B2 A2 n2 c2 l) : Calls Try.prog 20 #[.slice A1 n1 c1, .slice A2 n2 c2] w fun e w' => e = .returned (.bool true) ∧ Below w.heap.size w w' :=
  (same_any B1 B2 A1 A2 n1 c1 n2 c2 l w h1 h2).mono fun _ _ ⟨he, k, hw⟩ => ⟨he, hw ▸ below_drewN w k⟩

end Go.Proofs.Ytakkmmnpocbakaa.numsBack
