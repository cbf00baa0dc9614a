/- Senses as data: what a scheme says of its spots, what says no more, and what follows. No condition. -/
import Derived.Test.YtmejhedegmjboaaGreatBoApp
import Derived.Test.YtmejhedegmjboaaGreatBoGvn
import Derived.Test.YtmejhedegmjboaaGreatFits
namespace Go.Proofs.YtmejhedegmjboaaGreat
open Go.RowKit

/-- What is told of the spots of a sort. -/
structure Sen where
  p : List Sp
  lo : List Nat
  hi : List Nat
  be : List (List Bool)
def Sen.none : Sen := ⟨[], [], [], []⟩

/-- A term's least or greatest value. -/
def tmL (u : List Nat) (p : Sp) : Nat := Bo.vl u p.v p.z.toNat
/-- Is one term below another one, always? -/
def alw (S : Bo.Sr) (lo hi : List Nat) (rc : Nat → Nat → Bool) (p q : Sp) : Bool := (p.v && (q.v && rc p.z.toNat q.z.toNat)) || S.below (tmL hi p) (tmL lo q)
def belS (S : Bo.Sr) (lo hi : List Nat) (rc : Nat → Nat → Bool) (p q : Sp) : Bool := !decide (p.s = 0) && (!decide (q.s = 1) && alw S lo hi rc p q)
def lowS (S : Bo.Sr) (lo : List Nat) (p : Sp) : Nat := if p.s = 1 then S.bot else tmL lo p
def highS (S : Bo.Sr) (hi : List Nat) (p : Sp) : Nat := if p.s = 0 then S.top else tmL hi p
def senS (S : Bo.Sr) (lo hi : List Nat) (rc : Nat → Nat → Bool) (l : List Sp) : Sen :=
  ⟨l, l.map (lowS S lo), l.map (highS S hi), l.map fun p => l.map (belS S lo hi rc p)⟩

/-! ### Less -/
def wholeS (z : Sen) : Bool := decide (z.lo.length = z.p.length) && (decide (z.hi.length = z.p.length) && (decide (z.be.length = z.p.length) && (!z.p.any (fun p => decide (2 < p.s)) && !z.be.any (fun r => !decide (r.length = z.p.length)))))
theorem whole_iff {z : Sen} : wholeS z = true ↔ z.lo.length = z.p.length ∧ z.hi.length = z.p.length ∧ z.be.length = z.p.length ∧ (∀ p ∈ z.p, p.s ≤ 2) ∧ ∀ r ∈ z.be, r.length = z.p.length := by
  unfold wholeS
  simp only [Bool.and_eq_true, decide_eq_true_eq, Bool.not_eq_true', List.any_eq_false, decide_eq_false_iff_not, Nat.not_lt, Decidable.not_not]

/-! ### What a scheme's senses say -/
/-- What Solve and Of tell where they tell OK. -/
structure Got (S : Bo.Sr) (q : Nat) (l : List Bo.Bd) (lo hi : List Nat) : Prop where
  ok : S.Ok
  q64 : q ≤ 64
  may : ∀ b ∈ l, Bo.mayB S q b = true
  low : Bo.IsLow S q l lo
  high : Bo.IsLow S.turn q (l.map Bo.Bd.turn) hi
  hold : Bo.holdS S lo l = true

/-- Who reaches whom, as bounds of the same. -/
def rcB (q : Nat) (l : List Bo.Bd) (i j : Nat) : Bool := La.bt (Re.rchN q l) i j
theorem may_re {S : Bo.Sr} {q : Nat} {b : Bo.Bd} (h : Bo.mayB S q b = true) : Re.mayB q b = true := by
  unfold Bo.mayB Bo.mayT at h
  unfold Re.mayB Re.mayV
  rw [Bool.and_eq_true] at h ⊢
  obtain ⟨h1, h2⟩ := h
  constructor
  · cases hv : b.av with
    | false => rfl
    | true => rw [hv] at h1; simpa using h1
  · cases hv : b.bv with
    | false => rfl
    | true => rw [hv] at h2; simpa using h2

section
variable {S : Bo.Sr} {q : Nat} {l : List Bo.Bd} {lo hi : List Nat} (h : Got S q l lo hi)
include h

/-- A term that may stand at a spot. -/
theorem Got.has_lo {p : Sp} (hp : may1 S q p = true) : S.has (tmL lo p) = true := by
  unfold may1 Bo.mayT at hp
  unfold tmL Bo.vl
  rw [Int.toNat_natCast] at hp
  cases hv : p.v with
  | false => rw [hv] at hp; exact hp
  | true =>
    rw [hv] at hp
    exact h.low.has.2 _ (of_decide_eq_true hp)
theorem Got.has_hi {p : Sp} (hp : may1 S q p = true) : S.has (tmL hi p) = true := by
  unfold may1 Bo.mayT at hp
  unfold tmL Bo.vl
  rw [Int.toNat_natCast] at hp
  cases hv : p.v with
  | false => rw [hv] at hp; exact hp
  | true =>
    rw [hv] at hp
    exact h.high.has.2 _ (of_decide_eq_true hp)
/-- There is a bottom and a top, where something stands. -/
theorem Got.ends {p : Sp} (hp : may1 S q p = true) : S.has S.bot = true ∧ S.has S.top = true := by
  have := h.has_lo hp
  exact ⟨(h.ok.sub _ _ (h.ok.botl _ this)).1, (h.ok.sub _ _ (h.ok.topl _ this)).2⟩
theorem Got.lowH {p : Sp} (hp : may1 S q p = true) : S.has (lowS S lo p) = true := by
  unfold lowS
  split
  · exact (h.ends hp).1
  · exact h.has_lo hp
theorem Got.highH {p : Sp} (hp : may1 S q p = true) : S.has (highS S hi p) = true := by
  unfold highS
  split
  · exact (h.ends hp).2
  · exact h.has_hi hp
end

theorem sen_whole {S : Bo.Sr} {lo hi : List Nat} {rc : Nat → Nat → Bool} {l : List Sp} (hs : ∀ p ∈ l, p.s ≤ 2) : wholeS (senS S lo hi rc l) = true := by
  refine whole_iff.2 ⟨by simp [senS], by simp [senS], by simp [senS], hs, fun r hr => ?_⟩
  obtain ⟨p, -, rfl⟩ := List.mem_map.1 hr
  simp [senS]

end Go.Proofs.YtmejhedegmjboaaGreat
