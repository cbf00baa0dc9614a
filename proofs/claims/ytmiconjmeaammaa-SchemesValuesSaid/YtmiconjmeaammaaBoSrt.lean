/- A sort behind an interface: what its method Has tells. No condition but sizes. -/
import Derived.Test.YtmiconjmeaammaaLaLat
import Derived.Test.YtmiconjmeaammaaEfEff
namespace Go.Proofs.Ytmiconjmeaammaa.Bo
open Go.RowKit

/-- What a sort's methods tell. -/
structure Sr where
  has : Nat → Bool

/-- No values. -/
def dead : Sr := ⟨fun _ => false⟩
def laS (l : List Nat) : Sr := ⟨fun a => decide (a < l.length)⟩
def efS (m : Bool) (t : Nat) : Sr := ⟨Ef.hasE m t⟩

/-- What is asked of p, in every world behind w. -/
structure Ans (w : World) (fh : Nat) (p : Value) (S : Sr) : Prop where
  has : ∀ W, Below w.heap.size w W → ∀ x : Nat, x < 18446744073709551616 → Calls Try.prog fh #[p, .int .u64 (x : Int)] W fun e w' => e = .returned (.bool (S.has x)) ∧ Below W.heap.size W w'

theorem Ans.keep {w W : World} {fh : Nat} {p : Value} {S : Sr} (h : Ans w fh p S) (hb : Below w.heap.size w W) : Ans W fh p S :=
  ⟨fun V hV => h.has V (hb.trans (hV.mono hb.size))⟩

/-- A sort behind an interface that is something. -/
def Srt (w : World) (v : Value) (S : Sr) : Prop :=
  (∃ a, v = .iface 73 (.pointer a) ∧ Ans w 88 (.pointer a) S) ∨ (∃ a, v = .iface 76 (.pointer a) ∧ Ans w 94 (.pointer a) S) ∨ (v = .iface 118 (.agg #[]) ∧ Ans w 101 (.agg #[]) S)
theorem Srt.keep {w W : World} {v : Value} {S : Sr} (h : Srt w v S) (hb : Below w.heap.size w W) : Srt W v S := by
  rcases h with ⟨a, e, h⟩ | ⟨a, e, h⟩ | ⟨e, h⟩
  · exact .inl ⟨a, e, h.keep hb⟩
  · exact .inr (.inl ⟨a, e, h.keep hb⟩)
  · exact .inr (.inr ⟨e, h.keep hb⟩)

theorem same_below {w w' : World} (h : w = w') : Below w.heap.size w w' := h ▸ Below.refl _ _

theorem ans_la {w : World} {g : Nat} {l : List Nat} (h : La.LatAt w g l.length (La.pad l) (La.pad (La.turnedN l))) : Ans w 88 (.pointer (some ⟨g, 0, none⟩)) (laS l) := by
  constructor
  intro W hW x _
  exact (La.hasL_any g _ _ _ x W (h.keep hW)).mono fun _ _ k => ⟨k.1, same_below k.2⟩

theorem ans_la_nil (w : World) : Ans w 88 (.pointer none) dead := by
  constructor
  intro W _ x _
  exact (La.hasL_nil x W).mono fun _ _ k => ⟨k.1, same_below k.2⟩

theorem ans_ef {w : World} {a : Option Addr} {m : Bool} {t : Nat} (h : Ef.EffP w a m t) : Ans w 94 (.pointer a) (efS m t) :=
  ⟨fun W hW x hx => Ef.has_any a m t W (h.keep hW) x hx⟩

set_option maxRecDepth 100000 in
theorem ans_none (w : World) : Ans w 101 (.agg #[]) dead := by
  constructor
  intro W _ x _
  go_enter Try.func101, Try.ntmps101
  go_wp2
  go_ret
  exact ⟨rfl, (Below.refl _ W).alloc (Nat.le_refl _) _⟩
end Go.Proofs.Ytmiconjmeaammaa.Bo
