/- What Of tells, its rows' lengths named. Condition: nodes can be read. -/
import Derived.Test.YtmiconjmeaammaaLaw
namespace Go.Proofs.Ytmiconjmeaammaa
open Go.RowKit

/-- Two rows of spots. -/
structure Two2 (w w' : World) (A1 : Option Addr) (n1 c1 : Nat) (ls : List Sp) (A2 : Option Addr) (n2 c2 : Nat) (es : List Sp) : Prop where
  o1 : w'.ownsRow w.heap.size 56 5 (.slice A1 n1 c1) n1 (ls.flatMap spc)
  o2 : w'.ownsRow w.heap.size 56 5 (.slice A2 n2 c2) n2 (es.flatMap spc)
  ap : ∀ q, (Value.slice A1 n1 c1).ownBlock = some q → (Value.slice A2 n2 c2).ownBlock ≠ some q
  bel : Below w.heap.size w w'

theorem Two2.r1 {w w' : World} {A1 A2 : Option Addr} {n1 c1 n2 c2 : Nat} {ls es : List Sp} (h : Two2 w w' A1 n1 c1 ls A2 n2 c2 es) : Rs spc 5 w' w'.heap.size A1 n1 c1 ls := Rs.of_own spc_len (by decide) h.o1
theorem Two2.r2 {w w' : World} {A1 A2 : Option Addr} {n1 c1 n2 c2 : Nat} {ls es : List Sp} (h : Two2 w w' A1 n1 c1 ls A2 n2 c2 es) : Rs spc 5 w' w'.heap.size A2 n2 c2 es := Rs.of_own spc_len (by decide) h.o2

theorem of_len (A : Option Addr) (m c : Nat) (l : List Nd) (ls es : List Sp) (kl ke : Nat) (w : World) (hr : Ns w w.heap.size A m c l) (hf : ∀ x ∈ l, x.Fits) (e1 : labB l = ls) (e2 : effB l = es) (e3 : ls.length = kl) (e4 : es.length = ke) :
    Calls Try.prog 16 #[.slice A m c] w fun e w' => ∃ A1 c1 A2 c2, e = .returned (.tuple #[.slice A1 kl c1, .slice A2 ke c2]) ∧ Two2 w w' A1 kl c1 ls A2 ke c2 es := by
  refine (of_lit A m c l ls es w hr hf e1 e2).mono ?_
  rintro e w1 ⟨Av, nv, cv, Au, nu, cu, rfl, ov, ou, ap, hb⟩
  have e1 := rs_own_len spc_len (by decide) ov
  have e2 := rs_own_len spc_len (by decide) ou
  rw [e3] at e1
  rw [e4] at e2
  subst e1
  subst e2
  exact ⟨Av, cv, Au, cu, rfl, ov, ou, ap, hb⟩
end Go.Proofs.Ytmiconjmeaammaa
