/- What is sought of each variable: the least values that bounds lead to; what tells it from others. No condition. -/
import Derived.Test.YtnlgfiffhahpfaaGreatDoorTrn
namespace Go.Proofs.YtnlgfiffhahpfaaGreatDoor
open Go.RowKit

theorem getD_at {l : List Nat} {i : Nat} (h : i < l.length) : l.getD i 0 = l[i] := by rw [List.getD_eq_getElem?_getD, List.getElem?_eq_getElem h]; rfl
theorem getD_set {l : List Nat} {i j v : Nat} (h : i < l.length) : (l.set i v).getD j 0 = if i = j then v else l.getD j 0 := by
  rw [List.getD_eq_getElem?_getD, List.getElem?_set]
  by_cases e : i = j
  · subst e
    rw [if_pos rfl, if_pos rfl, if_pos h]
    rfl
  · rw [if_neg e, if_neg e, List.getD_eq_getElem?_getD]
theorem getD_rep {k i x : Nat} (h : i < k) : (List.replicate k x).getD i 0 = x := by
  rw [getD_at (by simpa using h)]
  simp

/-- Values to which the bounds of these rows have led. -/
def Led (S : Sr) (l : List Bd) (u : List Nat) : Prop := ∀ b ∈ l, b.bv = true → S.below (vl u b.av b.an) (u.getD b.bn 0) = true
def AllHas (S : Sr) (k : Nat) (u : List Nat) : Prop := u.length = k ∧ ∀ i, i < k → S.has (u.getD i 0) = true
/-- On the way there. -/
structure Under (S : Sr) (k : Nat) (l : List Bd) (v : List Nat) : Prop where
  has : AllHas S k v
  low : ∀ u, AllHas S k u → Led S l u → ∀ i, i < k → S.below (v.getD i 0) (u.getD i 0) = true
/-- There: the least. -/
structure IsLow (S : Sr) (k : Nat) (l : List Bd) (v : List Nat) : Prop extends Under S k l v where
  led : Led S l v

theorem Under.start {S : Sr} (h : S.Ok) {k : Nat} {l : List Bd} (hb : 0 < k → S.has S.bot = true) : Under S k l (List.replicate k S.bot) := by
  refine ⟨⟨by simp, fun i hi => ?_⟩, fun u hu _ i hi => ?_⟩
  · rw [getD_rep hi]
    exact hb (by omega)
  · rw [getD_rep hi]
    exact h.botl _ (hu.2 i hi)

/-- A bound that may be. -/
theorem may_from {S : Sr} {k : Nat} {b : Bd} {v : List Nat} (hm : mayB S k b = true) (hv : AllHas S k v) : S.has (vl v b.av b.an) = true := by
  obtain ⟨h1, _⟩ := Bool.and_eq_true_iff.1 hm
  unfold mayT at h1
  unfold vl
  cases hav : b.av with
  | true =>
    rw [hav] at h1
    exact hv.2 _ (of_decide_eq_true h1)
  | false =>
    rw [hav] at h1
    exact h1
theorem may_at {S : Sr} {k : Nat} {b : Bd} (hm : mayB S k b = true) (hb : b.bv = true) : b.bn < k := by
  obtain ⟨_, h2⟩ := Bool.and_eq_true_iff.1 hm
  unfold mayT at h2
  rw [hb] at h2
  exact of_decide_eq_true h2

/-- One bound more. -/
theorem Under.step {S : Sr} (h : S.Ok) {k : Nat} {l : List Bd} {v : List Nat} (hv : Under S k l v) {b : Bd} (hbl : b ∈ l) (hm : mayB S k b = true) (hb : b.bv = true) :
    Under S k l (v.set b.bn (S.join (v.getD b.bn 0) (vl v b.av b.an))) := by
  have hat := may_at hm hb
  have h1 := hv.has.2 _ hat
  have h2 := may_from hm hv.has
  have hj := h.joinA _ _ h1 h2
  have hl : b.bn < v.length := by rw [hv.has.1]; exact hat
  refine ⟨⟨by rw [List.length_set]; exact hv.has.1, fun i hi => ?_⟩, fun u hu hled i hi => ?_⟩
  · rw [getD_set hl]
    split
    · exact (h.sub _ _ hj).2
    · exact hv.has.2 i hi
  · rw [getD_set hl]
    split
    · rename_i e
      subst e
      refine h.joinL _ _ _ (hv.low u hu hled _ hat) (h.trans _ _ _ ?_ (hled b hbl hb))
      unfold vl
      cases hav : b.av with
      | true =>
        have ha : b.an < k := by
          obtain ⟨k1, _⟩ := Bool.and_eq_true_iff.1 hm
          unfold mayT at k1
          rw [hav] at k1
          exact of_decide_eq_true k1
        exact hv.low u hu hled _ ha
      | false =>
        have : S.has b.an = true := by
          obtain ⟨k1, _⟩ := Bool.and_eq_true_iff.1 hm
          unfold mayT at k1
          rw [hav] at k1
          exact k1
        exact h.refl _ this
    · exact hv.low u hu hled i hi

/-- How much room there is. -/
def room (r : Nat → Nat) (v : List Nat) : Nat := (v.map fun x => 64 - r x).sum
theorem room_set (r : Nat → Nat) : ∀ (v : List Nat) (i x : Nat), i < v.length → room r (v.set i x) + (64 - r (v.getD i 0)) = room r v + (64 - r x)
  | [], i, _, h => by simp at h
  | y :: v, 0, x, _ => by simp [room]; omega
  | y :: v, i + 1, x, h => by
    have := room_set r v i x (by simpa using h)
    simp [room] at this ⊢
    omega

theorem step_room {S : Sr} (h : S.Ok) {r : Nat → Nat} (hr : ∀ a, r a ≤ 64) (hs : ∀ a b, S.below a b = true → a ≠ b → r a < r b) {k : Nat} {l : List Bd} {v : List Nat} (hv : Under S k l v) {b : Bd} (hm : mayB S k b = true) (hb : b.bv = true)
    (hne : S.join (v.getD b.bn 0) (vl v b.av b.an) ≠ v.getD b.bn 0) : room r (v.set b.bn (S.join (v.getD b.bn 0) (vl v b.av b.an))) < room r v := by
  have hat := may_at hm hb
  have hj := h.joinA _ _ (hv.has.2 _ hat) (may_from hm hv.has)
  have h1 := hs _ _ hj (Ne.symm hne)
  have h2 := room_set r v b.bn (S.join (v.getD b.bn 0) (vl v b.av b.an)) (by rw [hv.has.1]; exact hat)
  have := hr (S.join (v.getD b.bn 0) (vl v b.av b.an))
  omega

theorem set_same {v : List Nat} {i : Nat} (h : i < v.length) : v.set i (v.getD i 0) = v := by
  rw [getD_at h, List.set_getElem_self]

/-- The first i bounds have led there already. -/
def LedTo (S : Sr) (l : List Bd) (i : Nat) (u : List Nat) : Prop := ∀ j (h : j < l.length), j < i → l[j].bv = true → S.below (vl u l[j].av l[j].an) (u.getD l[j].bn 0) = true
theorem LedTo.all {S : Sr} {l : List Bd} {u : List Nat} (h : LedTo S l l.length u) : Led S l u := fun b hb hv => by
  obtain ⟨j, hj, rfl⟩ := List.mem_iff_getElem.1 hb
  exact h j hj hj hv

/-- In a pass that began with v0: i bounds are gone through. -/
structure Pass (S : Sr) (r : Nat → Nat) (k : Nat) (l : List Bd) (v0 : List Nat) (i : Nat) (grew : Bool) (v : List Nat) : Prop where
  un : Under S k l v
  rm : room r v ≤ room r v0
  yes : grew = true → room r v < room r v0
  no : grew = false → v = v0 ∧ LedTo S l i v0

theorem Pass.start {S : Sr} {r : Nat → Nat} {k : Nat} {l : List Bd} {v : List Nat} (h : Under S k l v) : Pass S r k l v 0 false v :=
  ⟨h, Nat.le_refl _, (fun e => by cases e), fun _ => ⟨rfl, fun _ _ h => absurd h (Nat.not_lt_zero _)⟩⟩

theorem Pass.skip {S : Sr} {r : Nat → Nat} {k : Nat} {l : List Bd} {v0 : List Nat} {i : Nat} {grew : Bool} {v : List Nat} (h : Pass S r k l v0 i grew v) (hi : i < l.length) (hb : l[i].bv = false) : Pass S r k l v0 (i + 1) grew v :=
  ⟨h.un, h.rm, h.yes, fun e => ⟨(h.no e).1, fun j hj hlt hv => by
    by_cases hji : j = i
    · subst hji
      rw [hb] at hv
      cases hv
    · exact (h.no e).2 j hj (by omega) hv⟩⟩

theorem Pass.step {S : Sr} (hS : S.Ok) {r : Nat → Nat} (hr : ∀ a, r a ≤ 64) (hs : ∀ a b, S.below a b = true → a ≠ b → r a < r b) {k : Nat} {l : List Bd} {v0 : List Nat} {i : Nat} {grew : Bool} {v : List Nat} (h : Pass S r k l v0 i grew v) (hi : i < l.length) (hm : mayB S k l[i] = true) (hb : l[i].bv = true)
    {x : Nat} (hx : S.join (v.getD l[i].bn 0) (vl v l[i].av l[i].an) = x) : Pass S r k l v0 (i + 1) (grew || !(x == v.getD l[i].bn 0)) (v.set l[i].bn x) := by
  have hat := may_at hm hb
  have hl : l[i].bn < v.length := by rw [h.un.has.1]; exact hat
  have hu := h.un.step hS (List.getElem_mem hi) hm hb
  have h1 := h.rm
  by_cases e : x = v.getD l[i].bn 0
  · have e2 : v.set l[i].bn x = v := by rw [e]; exact set_same hl
    have eb : (x == v.getD l[i].bn 0) = true := by rw [e]; simp
    rw [e2, eb, Bool.not_true, Bool.or_false]
    refine ⟨h.un, h1, h.yes, fun eg => ⟨(h.no eg).1, fun j hj hlt hv => ?_⟩⟩
    by_cases hji : j = i
    · subst hji
      obtain ⟨ev, -⟩ := h.no eg
      subst ev
      have := hS.joinB _ _ (h.un.has.2 _ hat) (may_from hm h.un.has)
      rw [hx, e] at this
      exact this
    · exact (h.no eg).2 j hj (by omega) hv
  · have hlt := step_room hS hr hs h.un hm hb (by rw [hx]; exact e)
    rw [hx] at hu hlt
    have eb : (x == v.getD l[i].bn 0) = false := by simpa using e
    rw [eb, Bool.not_false, Bool.or_true]
    exact ⟨hu, by omega, fun _ => by omega, fun e => by cases e⟩

theorem Pass.done {S : Sr} {r : Nat → Nat} {k : Nat} {l : List Bd} {v0 v : List Nat} (h : Pass S r k l v0 l.length false v) : IsLow S k l v := by
  obtain ⟨e, hl⟩ := h.no rfl
  subst e
  exact ⟨h.un, hl.all⟩

theorem all_fit {S : Sr} (h : S.Ok) {k : Nat} {v : List Nat} (hv : AllHas S k v) : La.Fit v := fun x hx => by
  obtain ⟨i, hi, rfl⟩ := List.mem_iff_getElem.1 hx
  have := hv.2 i (by rw [← hv.1]; exact hi)
  rw [getD_at hi] at this
  exact h.fit _ this
end Go.Proofs.YtnlgfiffhahpfaaGreatDoor
