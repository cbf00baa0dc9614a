/- What alike, slices.EqualFunc, Same and the document's Same tell. No condition but sizes. -/
import Derived.Test.YtabfbelbcdbkaaaGreatDoorDepths
import Derived.Test.YtabfbelbcdbkaaaGreatDoorNdMay
namespace Go.Proofs.YtabfbelbcdbkaaaGreatDoor
open Go.RowKit

/-- Nodes are the same, but for their terms. -/
def alikeB (x y : Nd) : Bool := decide (x.k = y.k) && (decide (x.m = y.m) && (decide (x.s = y.s) && decide (x.n = y.n)))
def sameB : List Nd → List Nd → Bool
  | [], [] => true
  | x :: l, y :: m => alikeB x y && sameB l m
  | [], _ :: _ => false
  | _ :: _, [] => false

theorem same_iff : ∀ a b : List Nd, sameB a b = true ↔ a.length = b.length ∧ ∀ j (h : j < a.length) (h' : j < b.length), alikeB a[j] b[j] = true
  | [], [] => by simp [sameB]
  | x :: l, [] => by simp [sameB]
  | [], y :: m => by simp [sameB]
  | x :: l, y :: m => by
    rw [sameB, Bool.and_eq_true, same_iff l m]
    constructor
    · rintro ⟨h1, h2, h3⟩
      refine ⟨by simp [h2], fun j hj hj' => ?_⟩
      rcases j with _ | j
      · exact h1
      · exact h3 j (by simpa using hj) (by simpa using hj')
    · rintro ⟨h1, h2⟩
      refine ⟨h2 0 (by simp) (by simp), by simpa using h1, fun j hj hj' => h2 (j + 1) (by simpa using hj) (by simpa using hj')⟩
theorem same_no {a b : List Nd} (h : a.length ≠ b.length) : sameB a b = false := by
  rw [← Bool.not_eq_true, same_iff]
  exact fun k => h k.1
theorem same_at {a b : List Nd} {j : Nat} (h : j < a.length) (h' : j < b.length) (e : alikeB a[j] b[j] = false) : sameB a b = false := by
  rw [← Bool.not_eq_true, same_iff]
  intro k
  rw [k.2 j h h'] at e
  cases e




end Go.Proofs.YtabfbelbcdbkaaaGreatDoor
