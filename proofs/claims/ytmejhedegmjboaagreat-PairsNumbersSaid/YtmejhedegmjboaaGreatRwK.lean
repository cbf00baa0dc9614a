/- SpBelow; Fct; RwK: merged. -/
import Derived.Test.YtmejhedegmjboaaGreatFits
import Derived.Test.YtmejhedegmjboaaGreatOfs
import Derived.Test.YtmejhedegmjboaaGreatRwB
/- Where the spots of a body go below one more node. No condition. -/
namespace Go.Proofs.YtmejhedegmjboaaGreat

theorem lab_le : ∀ (l : List Nd) (k : Nat) (ss : List Nat), (∀ y ∈ ss, y ≤ 2) → ∀ p ∈ lab k l ss, p.s ≤ 2
  | [], _, _, _, p, h => by simp [lab] at h
  | _ :: _, _, [], _, p, h => by simp [lab] at h
  | x :: l, k, s :: ss, hs, p, h => by
    have h0 := hs s List.mem_cons_self
    simp only [lab, List.mem_append] at h
    rcases h with h | h
    · unfold labS at h
      split at h
      · simp only [List.mem_cons, List.not_mem_nil, or_false] at h
        rcases h with rfl | rfl
        · exact h0
        · exact turn_le s
      · simp only [List.mem_cons, List.not_mem_nil, or_false] at h
        subst h
        exact h0
    · exact lab_le l (k + 1) ss (fun y hy => hs y (List.mem_cons_of_mem _ hy)) p h
theorem labB_le (l : List Nd) : ∀ p ∈ labB l, p.s ≤ 2 := by
  unfold labB
  split
  · exact lab_le l 0 _ (sds_le l [0] (by simp))
  · simp

end Go.Proofs.YtmejhedegmjboaaGreat

/- What follows of senses of a scheme: by sides, and of who is below one that goes both. No condition. -/
namespace Go.Proofs.YtmejhedegmjboaaGreat

end Go.Proofs.YtmejhedegmjboaaGreat

/- What is fixed in a scheme's sense, and that the scheme says the same where fixed ones are constants. No condition. -/
namespace Go.Proofs.YtmejhedegmjboaaGreat
open Go.RowKit
open I (sd bb lw hg fixB valF)

/-- The same sense, of spots whose nodes are any numbers. -/
def toI (z : Sen) : I.Sen := ⟨z.p.map fun p => ⟨(p.n : Int), p.p, p.s, p.v, p.z⟩, z.lo, z.hi, z.be⟩
theorem Rs.mapped {α β : Type} {enc : α → List Value} {enc' : β → List Value} {f : α → β} (he : ∀ x, enc' (f x) = enc x) {sz : Nat} {w : World} {B : Nat} {A : Option Addr} {n c : Nat} {l : List α} (h : Rs enc sz w B A n c l) : Rs enc' sz w B A n c (l.map f) :=
  ⟨by rw [List.length_map]; exact h.len, h.cap, h.top, h.none0, fun hn => by
    obtain ⟨b, o, e, hb, hc⟩ := h.spot hn
    exact ⟨b, o, e, hb, fun j hj i u hu => hc j (by simpa using hj) i u (by rw [List.getElem_map, he] at hu; exact hu)⟩⟩
theorem SenAt.toI {w : World} {z : Sen} {A1 : Option Addr} {n1 c1 : Nat} {A2 : Option Addr} {n2 c2 : Nat} {A3 : Option Addr} {n3 c3 : Nat} {A4 : Option Addr} {n4 c4 : Nat} (h : SenAt w z A1 n1 c1 A2 n2 c2 A3 n3 c3 A4 n4 c4) : I.SenAt w (toI z) A1 n1 c1 A2 n2 c2 A3 n3 c3 A4 n4 c4 :=
  ⟨h.rp.mapped (f := fun p : Sp => (⟨(p.n : Int), p.p, p.s, p.v, p.z⟩ : I.Sp)) fun _ => rfl, h.rl, h.rh, h.rb, h.fl, h.fh⟩

section
variable {S : Bo.Sr} {lo hi : List Nat} {rc : Nat → Nat → Bool} {l : List Sp}
end

section
variable {S : Bo.Sr} {q : Nat} {b : List Bo.Bd} {lo hi : List Nat} {l : List Sp}

end

end Go.Proofs.YtmejhedegmjboaaGreat
