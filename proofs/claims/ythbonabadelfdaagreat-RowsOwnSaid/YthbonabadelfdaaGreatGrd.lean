/- What schemes.Ground tells. Condition: what comes in can be read. -/
import Derived.Test.YthbonabadelfdaaGreatOps
namespace Go.Proofs.YthbonabadelfdaaGreat
open Go.RowKit

theorem own_baseN {w : World} {b b' E sz n : Nat} {v : Value} {xs : List Value} (h : w.ownsRow b E sz v n xs) (hb : b' ≤ b) : w.ownsRow b' E sz v n xs := by
  refine ⟨h.1, ?_⟩
  rcases h.2 with h | ⟨g, cap, cur, hv, hg, r⟩
  · exact .inl h
  · exact .inr ⟨g, cap, cur, hv, Nat.le_trans hb hg, r⟩

end Go.Proofs.YthbonabadelfdaaGreat
