/- Bounds in memory; what some, may and value tell. No condition but sizes. -/
import Derived.Test.YtomokkpfkhfemaaGreatDoorLaHas
import Derived.Test.YtomokkpfkhfemaaGreatDoorRs
import Derived.LoopTactic
import Derived.Handy
namespace Go.Proofs.YtomokkpfkhfemaaGreatDoor
open Go.RowKit

/-- A bound: two terms, each a variable or a constant, and its number. -/
structure Bd where
  av : Bool
  an : Nat
  bv : Bool
  bn : Nat

/-- Its cells. -/
def bdc (b : Bd) : List Value := [.bool b.av, .int .u64 (b.an : Int), .bool b.bv, .int .u64 (b.bn : Int)]
theorem bdc_len (b : Bd) : (bdc b).length = 4 := rfl
def Bd.Fit (b : Bd) : Prop := b.an < 18446744073709551616 ∧ b.bn < 18446744073709551616
def tmv (v : Bool) (n : Nat) : Value := .agg #[.bool v, .int .u64 (n : Int)]

theorem bd_at {w : World} {B n c : Nat} {A : Option Addr} {l : List Bd} (h : Rs bdc 4 w B A n c l) {k : Nat} (hk : k < l.length) : ∃ b o, A = some ⟨b, o, none⟩ ∧ b < B ∧
    w.cell? ⟨b, o + k * 4, none⟩ = some (.bool l[k].av) ∧ w.cell? ⟨b, o + k * 4 + 1, none⟩ = some (.int .u64 (l[k].an : Int)) ∧ w.cell? ⟨b, o + k * 4 + 2, none⟩ = some (.bool l[k].bv) ∧ w.cell? ⟨b, o + k * 4 + 3, none⟩ = some (.int .u64 (l[k].bn : Int)) := by
  obtain ⟨b, o, e, hb, hc⟩ := h.spot (by have := h.len; omega)
  exact ⟨b, o, e, hb, hc k hk 0 _ rfl, hc k hk 1 _ rfl, hc k hk 2 _ rfl, hc k hk 3 _ rfl⟩

/-- A term's value among values; has it one? May it be, of so many variables? -/
def vl (u : List Nat) (v : Bool) (n : Nat) : Nat := cond v (u.getD n 0) n
def okT (u : List Nat) (v : Bool) (n : Nat) : Bool := !v || decide (n < u.length)

theorem wrap_small {k : Nat} (h : k < 18446744073709551616) : IntKind.u64.wrap (k : Int) = (k : Int) := by rw [IntKind.wrap_u64]; omega


end Go.Proofs.YtomokkpfkhfemaaGreatDoor
