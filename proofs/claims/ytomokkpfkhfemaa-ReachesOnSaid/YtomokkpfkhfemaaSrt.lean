/- A lattice behind an interface: what its method Below tells. No condition but sizes. -/
import Derived.Test.YtomokkpfkhfemaaLaLatNew
namespace Go.Proofs.Ytomokkpfkhfemaa
open Go.RowKit

/-- What a sort's methods tell. -/
structure Sr where
  below : Nat → Nat → Bool

def laS (l : List Nat) : Sr := ⟨La.belowB l⟩

theorem la_below {l : List Nat} (h : La.LatOK l) {a b : Nat} : La.belowB l a b = true ↔ a < l.length ∧ b < l.length ∧ La.bt l a b = true := by
  have h64 := h.known.1.2
  unfold La.belowB
  rw [Bool.and_eq_true, decide_eq_true_eq]
  constructor
  · rintro ⟨⟨-, -, h1, h2⟩, h3⟩
    exact ⟨h1, h2, h3⟩
  · rintro ⟨h1, h2, h3⟩
    exact ⟨⟨by omega, by omega, h1, h2⟩, h3⟩

/-- Below leads on. -/
theorem la_on {l : List Nat} (h : La.LatOK l) {a b c : Nat} (h1 : La.belowB l a b = true) (h2 : La.belowB l b c = true) : La.belowB l a c = true := by
  obtain ⟨x1, x2, x3⟩ := (la_below h).1 h1
  obtain ⟨y1, y2, y3⟩ := (la_below h).1 h2
  exact (la_below h).2 ⟨x1, y2, h.ord.on _ _ _ x1 x2 y2 x3 y3⟩

/-- What is asked of p, in every world behind w. -/
structure Ans (w : World) (p : Value) (S : Sr) : Prop where
  below : ∀ W, Below w.heap.size w W → ∀ x y : Nat, x < 18446744073709551616 → y < 18446744073709551616 → Calls Try.prog 13 #[p, .int .u64 (x : Int), .int .u64 (y : Int)] W fun e w' => e = .returned (.bool (S.below x y)) ∧ Below W.heap.size W w'

theorem Ans.keep {w W : World} {p : Value} {S : Sr} (h : Ans w p S) (hb : Below w.heap.size w W) : Ans W p S :=
  ⟨fun V hV => h.below V (hb.trans (hV.mono hb.size))⟩

/-- A sort behind an interface that is something. -/
def Srt (w : World) (v : Value) (S : Sr) : Prop := ∃ a, v = .iface 40 (.pointer a) ∧ Ans w (.pointer a) S
theorem Srt.keep {w W : World} {v : Value} {S : Sr} (h : Srt w v S) (hb : Below w.heap.size w W) : Srt W v S := by
  obtain ⟨a, e, h⟩ := h
  exact ⟨a, e, h.keep hb⟩

theorem drawn_below {w w' : World} (h : La.Drawn w w') : Below w.heap.size w w' := by
  obtain ⟨n, rfl⟩ := h
  exact ⟨rfl, rfl, rfl, Nat.le_refl _, fun _ _ => rfl⟩

theorem ans_la {w : World} {g : Nat} {l : List Nat} (h : La.LatAt w g l.length (La.pad l) (La.pad (La.turnedN l))) : Ans w (.pointer (some ⟨g, 0, none⟩)) (laS l) := by
  constructor
  intro W hW x y hx hy
  refine (La.belowL_any g _ _ _ x y W (h.keep hW) hx hy).mono fun _ _ k => ⟨?_, drawn_below k.2⟩
  rw [k.1, La.pad_take]
  rfl
end Go.Proofs.Ytomokkpfkhfemaa
