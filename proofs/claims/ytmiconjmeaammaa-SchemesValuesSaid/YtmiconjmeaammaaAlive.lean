/- The nodes and the examples that the laws make. No condition but sizes. -/
import Derived.Test.YtmiconjmeaammaaSame
import Derived.Test.YtmiconjmeaammaaTell
namespace Go.Proofs.Ytmiconjmeaammaa
open Go.RowKit

/-- A node int; one of a function. -/
def nInt : Nd := ⟨1, 0, [105, 110, 116], 0, false, 0, false, 0, false, 0⟩
def nFun : Nd := ⟨5, 0, [], 2, false, 0, false, 0, false, 0⟩
abbrev vInt : Value := .agg #[.int .u8 1, .int .i64 0, .string (str [105, 110, 116]), .int .i64 0, .bool false, .int .u64 0, .bool false, .int .u64 0, .bool false, .int .u64 0]
abbrev vFun : Value := .agg #[.int .u8 5, .int .i64 0, .string (str []), .int .i64 2, .bool false, .int .u64 0, .bool false, .int .u64 0, .bool false, .int .u64 0]
theorem fits_int : nInt.Fits := ⟨by decide, by decide, by decide, by decide, by decide, by decide, by decide⟩
theorem fits_fun : nFun.Fits := ⟨by decide, by decide, by decide, by decide, by decide, by decide, by decide⟩



abbrev oOne : Obj := .cells #[.int .u8 1, .int .i64 0, .string (str [105, 110, 116]), .int .i64 0, .bool false, .int .u64 0, .bool false, .int .u64 0, .bool false, .int .u64 0] 64
abbrev oFun : Obj := .cells #[.int .u8 5, .int .i64 0, .string (str []), .int .i64 2, .bool false, .int .u64 0, .bool false, .int .u64 0, .bool false, .int .u64 0, .int .u8 1, .int .i64 0, .string (str [105, 110, 116]), .int .i64 0, .bool false, .int .u64 0, .bool false, .int .u64 0, .bool false, .int .u64 0, .int .u8 1, .int .i64 0, .string (str [105, 110, 116]), .int .i64 0, .bool false, .int .u64 0, .bool false, .int .u64 0, .bool false, .int .u64 0] 64
abbrev oTwo : Obj := .cells #[.int .u8 1, .int .i64 0, .string (str [105, 110, 116]), .int .i64 0, .bool false, .int .u64 0, .bool false, .int .u64 0, .bool false, .int .u64 0, .int .u8 1, .int .i64 0, .string (str [105, 110, 116]), .int .i64 0, .bool false, .int .u64 0, .bool false, .int .u64 0, .bool false, .int .u64 0] 64

theorem check_lit (A : Option Addr) (n c : Nat) (l : List Nd) (r : Nat) (w : World) (h : Ns w w.heap.size A n c l) (hf : ∀ x ∈ l, x.Fits) (e : checkB l = r) :
    Calls Try.prog 17 #[.slice A n c] w fun e w' => e = .returned (.int .i64 (r : Int)) ∧ Below w.heap.size w w' := by
  have := check_any A n c l w h hf
  rwa [e] at this
theorem same_lit' (A A2 : Option Addr) (n c n2 c2 : Nat) (a b : List Nd) (r : Bool) (w : World) (h : Ns w w.heap.size A n c a) (h2 : Ns w w.heap.size A2 n2 c2 b) (e : sameB a b = r) :
    Calls Try.prog 12 #[.slice A n c, .slice A2 n2 c2] w fun e w' => e = .returned (.bool r) ∧ Below w.heap.size w w' := by
  have := same_any A A2 n c n2 c2 _ a b w h h2 (Nat.le_refl _)
  rwa [e] at this

theorem Rs.head {α : Type} {enc : α → List Value} {sz : Nat} {w : World} {B n c k : Nat} {A : Option Addr} {l : List α} (h : Rs enc sz w B A n c l) (hk : k ≤ n) : Rs enc sz w B A k c (l.take k) := by
  have hl := h.len
  have hc := h.cap
  refine ⟨by rw [List.length_take]; omega, by omega, h.top, h.none0, fun h0 => ?_⟩
  obtain ⟨b, o, e, hb, hc⟩ := h.spot (by omega)
  refine ⟨b, o, e, hb, fun j hj i u hu => ?_⟩
  rw [List.length_take] at hj
  rw [List.getElem_take] at hu
  exact hc j (by omega) i u hu

theorem nd_size (w : World) : (Go.sizeOf 64).run Try.prog w = .ok 10 w := by kernel_rfl

theorem k_one : checkB [nInt] = 0 := by decide +kernel
theorem k_fun : checkB [nFun, nInt, nInt] = 0 := by decide +kernel
theorem k_cut : checkB [nFun, nInt] = 4 := by decide +kernel
theorem k_two : checkB [nInt, nInt] = 4 := by decide +kernel
theorem k_dep : depB [nFun, nInt, nInt] = [1, 2, 2] := by decide +kernel
theorem k_end : EndOf (depB [nFun, nInt, nInt]) 1 2 := by
  rw [k_dep]
  refine .inr ⟨1, rfl, by decide, by decide, fun j hj h1 h2 => by omega, fun h => by show (2 : Nat) ≤ 2; decide⟩
theorem k_same : sameB [nFun, nInt, nInt] [nFun, nInt, nInt] = true := by decide +kernel
theorem k_other : sameB [nInt] [nFun, nInt, nInt] = false := by decide +kernel

end Go.Proofs.Ytmiconjmeaammaa
