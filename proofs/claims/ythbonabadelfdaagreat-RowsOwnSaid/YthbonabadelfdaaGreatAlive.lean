/- Same; Tell; Alive: merged. -/
import Derived.Test.YthbonabadelfdaaGreatDepths
import Derived.Test.YthbonabadelfdaaGreatNdMay

/- What alike, slices.EqualFunc, Same and the document's Same tell. No condition but sizes. -/
namespace Go.Proofs.YthbonabadelfdaaGreat
open Go.RowKit

/-- Nodes are the same, but for their terms. -/
def alikeB (x y : Nd) : Bool := decide (x.k = y.k) && (decide (x.m = y.m) && (decide (x.s = y.s) && decide (x.n = y.n)))
def sameB : List Nd → List Nd → Bool
  | [], [] => true
  | x :: l, y :: m => alikeB x y && sameB l m
  | [], _ :: _ => false
  | _ :: _, [] => false

theorem same_iff : ∀ a b : List Nd, sameB a b = true ↔ a.length = b.length ∧ ∀ j (h : j < a.length) (h' : j < b.length), alikeB a[j] b[j] = true
  | [], [] => by simp [sameB]
  | x :: l, [] => by simp [sameB]
  | [], y :: m => by simp [sameB]
  | x :: l, y :: m => by
    rw [sameB, Bool.and_eq_true, same_iff l m]
    constructor
    · rintro ⟨h1, h2, h3⟩
      refine ⟨by simp [h2], fun j hj hj' => ?_⟩
      rcases j with _ | j
      · exact h1
      · exact h3 j (by simpa using hj) (by simpa using hj')
    · rintro ⟨h1, h2⟩
      refine ⟨h2 0 (by simp) (by simp), by simpa using h1, fun j hj hj' => h2 (j + 1) (by simpa using hj) (by simpa using hj')⟩
theorem same_no {a b : List Nd} (h : a.length ≠ b.length) : sameB a b = false := by
  rw [← Bool.not_eq_true, same_iff]
  exact fun k => h k.1
theorem same_at {a b : List Nd} {j : Nat} (h : j < a.length) (h' : j < b.length) (e : alikeB a[j] b[j] = false) : sameB a b = false := by
  rw [← Bool.not_eq_true, same_iff]
  intro k
  rw [k.2 j h h'] at e
  cases e


def EqRel (a b : List Nd) (w : World) (v17 : Value) (wr : World) : Prop := ∃ k : Nat, v17 = .int .i64 (k : Int) ∧ k ≤ a.length ∧ (∀ j (h : j < a.length) (h' : j < b.length), j < k → alikeB a[j] b[j] = true) ∧ Below w.heap.size w wr


end Go.Proofs.YthbonabadelfdaaGreat

/- What Check, Deep and End tell. No condition but sizes. -/
namespace Go.Proofs.YthbonabadelfdaaGreat
open Go.RowKit

theorem dep_small (l : List Nd) : (depB l).length ≤ 128 ∧ ∀ y ∈ depB l, y ≤ 16 := by
  by_cases h : checkB l = 0
  · obtain ⟨h1, h2, f, rfl, n, wf, ht⟩ := body_of h
    obtain ⟨_, e⟩ := body_is n wf ht h2
    rw [e]
    refine ⟨by rw [F.deps_len]; exact h2, fun y hy => ?_⟩
    have : y ≤ F.top (f.deps 1) := by
      obtain ⟨a, b, e⟩ := List.append_of_mem hy
      rw [e, F.top_append, F.top_cons]
      omega
    rw [F.top_deps f 0 (by rintro rfl; simp [F.num] at n)] at this
    omega
  · rw [show depB l = [] by unfold depB; rw [if_neg h]]
    exact ⟨by simp, by simp⟩

set_option maxRecDepth 100000 in
theorem check_any (A : Option Addr) (n c : Nat) (l : List Nd) (w : World) (h : Ns w w.heap.size A n c l) (hf : ∀ x ∈ l, x.Fits) :
    Calls Tryz.prog 34 #[.slice A n c] w fun e w' => e = .returned (.int .i64 (checkB l : Int)) ∧ Below w.heap.size w w' := by
  have hd := depths_any A n c l w h hf
  clear hf
  go_enter Tryz.func34, Tryz.ntmps34
  go_wp2_with fail
  refine hd.mono ?_
  rintro e w1 ⟨A', m, c', rfl, _, hb⟩
  go_wp2_with fail
  go_ret
  exact ⟨rfl, hb⟩



/-- Where the nodes below one end: the first place behind it that is no deeper. -/
structure EndIs (ds : List Nat) (k e : Nat) : Prop where
  lt : k < e
  le : e ≤ ds.length
  above : ∀ j (hj : j < ds.length), k < j → j < e → ds[k]'(by omega) < ds[j]
  stop : ∀ (h : e < ds.length), ds[e] ≤ ds[k]'(by omega)

theorem EndIs.uniq {ds : List Nat} {k e e' : Nat} (h : EndIs ds k e) (h' : EndIs ds k e') : e = e' := by
  rcases Nat.lt_trichotomy e e' with hl | hl | hl
  · have h1 := h'.above e (Nat.lt_of_lt_of_le hl h'.le) h.lt hl
    have h2 := h.stop (Nat.lt_of_lt_of_le hl h'.le)
    omega
  · exact hl
  · have h1 := h.above e' (Nat.lt_of_lt_of_le hl h.le) h'.lt hl
    have h2 := h'.stop (Nat.lt_of_lt_of_le hl h.le)
    omega

/-- What End tells. -/
def EndOf (ds : List Nat) (a : Int) (e : Nat) : Prop := ((a < 0 ∨ (ds.length : Int) ≤ a) ∧ e = 0) ∨ ∃ k : Nat, a = (k : Int) ∧ EndIs ds k e
theorem EndOf.uniq {ds : List Nat} {a : Int} {e e' : Nat} (h : EndOf ds a e) (h' : EndOf ds a e') : e = e' := by
  rcases h with ⟨h1, h2⟩ | ⟨k, rfl, h⟩ <;> rcases h' with ⟨h3, h4⟩ | ⟨k', e1, h'⟩
  · rw [h2, h4]
  · have := h'.lt; have := h'.le; omega
  · have := h.lt; have := h.le; omega
  · obtain rfl : k = k' := by omega
    exact h.uniq h'

def EnRel (ds : List Nat) (k : Nat) (hk : k < ds.length) (w : World) (v7 : Value) (wr : World) : Prop := ∃ e q : Nat, v7 = .int .i64 (e : Int) ∧ k < e ∧ e ≤ ds.length ∧ (∀ j (hj : j < ds.length), k < j → j < e → ds[k] < ds[j]) ∧ wr = w.drewN q

theorem below_drewN (w : World) (q : Nat) {B : Nat} : Below B w (w.drewN q) := ⟨rfl, rfl, rfl, Nat.le_refl _, fun _ _ => rfl⟩
theorem below_after {B : Nat} {w w1 : World} (h : Below B w w1) (q : Nat) : Below B w (w1.drewN q) := ⟨h.os, h.tape, h.output, h.size, h.block⟩

end Go.Proofs.YthbonabadelfdaaGreat

/- The nodes and the examples that the laws make. No condition but sizes. -/
namespace Go.Proofs.YthbonabadelfdaaGreat
open Go.RowKit

/-- A node int; one of a function. -/
def nInt : Nd := ⟨1, 0, [105, 110, 116], 0, false, 0, false, 0, false, 0⟩
def nFun : Nd := ⟨5, 0, [], 2, false, 0, false, 0, false, 0⟩
abbrev vInt : Value := .agg #[.int .u8 1, .int .i64 0, .string (str [105, 110, 116]), .int .i64 0, .bool false, .int .u64 0, .bool false, .int .u64 0, .bool false, .int .u64 0]
abbrev vFun : Value := .agg #[.int .u8 5, .int .i64 0, .string (str []), .int .i64 2, .bool false, .int .u64 0, .bool false, .int .u64 0, .bool false, .int .u64 0]
theorem fits_int : nInt.Fits := ⟨by decide, by decide, by decide, by decide, by decide, by decide, by decide⟩
theorem fits_fun : nFun.Fits := ⟨by decide, by decide, by decide, by decide, by decide, by decide, by decide⟩



abbrev oOne : Obj := .cells #[.int .u8 1, .int .i64 0, .string (str [105, 110, 116]), .int .i64 0, .bool false, .int .u64 0, .bool false, .int .u64 0, .bool false, .int .u64 0] 97
abbrev oFun : Obj := .cells #[.int .u8 5, .int .i64 0, .string (str []), .int .i64 2, .bool false, .int .u64 0, .bool false, .int .u64 0, .bool false, .int .u64 0, .int .u8 1, .int .i64 0, .string (str [105, 110, 116]), .int .i64 0, .bool false, .int .u64 0, .bool false, .int .u64 0, .bool false, .int .u64 0, .int .u8 1, .int .i64 0, .string (str [105, 110, 116]), .int .i64 0, .bool false, .int .u64 0, .bool false, .int .u64 0, .bool false, .int .u64 0] 97
abbrev oTwo : Obj := .cells #[.int .u8 1, .int .i64 0, .string (str [105, 110, 116]), .int .i64 0, .bool false, .int .u64 0, .bool false, .int .u64 0, .bool false, .int .u64 0, .int .u8 1, .int .i64 0, .string (str [105, 110, 116]), .int .i64 0, .bool false, .int .u64 0, .bool false, .int .u64 0, .bool false, .int .u64 0] 97

theorem check_lit (A : Option Addr) (n c : Nat) (l : List Nd) (r : Nat) (w : World) (h : Ns w w.heap.size A n c l) (hf : ∀ x ∈ l, x.Fits) (e : checkB l = r) :
    Calls Tryz.prog 34 #[.slice A n c] w fun e w' => e = .returned (.int .i64 (r : Int)) ∧ Below w.heap.size w w' := by
  have := check_any A n c l w h hf
  rwa [e] at this

theorem Rs.head {α : Type} {enc : α → List Value} {sz : Nat} {w : World} {B n c k : Nat} {A : Option Addr} {l : List α} (h : Rs enc sz w B A n c l) (hk : k ≤ n) : Rs enc sz w B A k c (l.take k) := by
  have hl := h.len
  have hc := h.cap
  refine ⟨by rw [List.length_take]; omega, by omega, h.top, h.none0, fun h0 => ?_⟩
  obtain ⟨b, o, e, hb, hc⟩ := h.spot (by omega)
  refine ⟨b, o, e, hb, fun j hj i u hu => ?_⟩
  rw [List.length_take] at hj
  rw [List.getElem_take] at hu
  exact hc j (by omega) i u hu

theorem nd_size (w : World) : (Go.sizeOf 97).run Tryz.prog w = .ok 10 w := by kernel_rfl

theorem k_one : checkB [nInt] = 0 := by decide +kernel
theorem k_fun : checkB [nFun, nInt, nInt] = 0 := by decide +kernel
theorem k_cut : checkB [nFun, nInt] = 4 := by decide +kernel
theorem k_two : checkB [nInt, nInt] = 4 := by decide +kernel
theorem k_dep : depB [nFun, nInt, nInt] = [1, 2, 2] := by decide +kernel
theorem k_end : EndOf (depB [nFun, nInt, nInt]) 1 2 := by
  rw [k_dep]
  refine .inr ⟨1, rfl, by decide, by decide, fun j hj h1 h2 => by omega, fun h => by show (2 : Nat) ≤ 2; decide⟩
theorem k_same : sameB [nFun, nInt, nInt] [nFun, nInt, nInt] = true := by decide +kernel
theorem k_other : sameB [nInt] [nFun, nInt, nInt] = false := by decide +kernel

end Go.Proofs.YthbonabadelfdaaGreat
