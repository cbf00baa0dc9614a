/- The document's check of rows, as lists: what it goes through, and that this tells an order just as the words do. No condition but sizes. -/
import Derived.Test.YtmiconjmeaammaaGreatDoorLaOrd
namespace Go.Proofs.YtmiconjmeaammaaGreatDoor.La

def lsAll (f : Nat → Nat → Bool) (s : List Nat) (x k : Nat) : Bool := (List.range k).all fun y => f x (s.getD y 0)
theorem lsAll_succ (f : Nat → Nat → Bool) (s : List Nat) (x k : Nat) : lsAll f s x (k + 1) = (lsAll f s x k && f x (s.getD k 0)) := by
  simp [lsAll, List.range_succ]
def lsK (f : Nat → Nat → Bool) (s : List Nat) (k : Nat) : Bool := (List.range k).any fun i => lsAll f s (s.getD i 0) s.length
theorem lsK_succ (f : Nat → Nat → Bool) (s : List Nat) (k : Nat) : lsK f s (k + 1) = (lsK f s k || lsAll f s (s.getD k 0) s.length) := by
  simp [lsK, List.range_succ]

theorem getD_mem2 {l : List Nat} {k : Nat} (h : k < l.length) : l.getD k 0 ∈ l := by
  rw [getD_at h]
  exact List.getElem_mem h

theorem lsK_iff (f : Nat → Nat → Bool) (s : List Nat) : lsK f s s.length = true ↔ ∃ x ∈ s, ∀ y ∈ s, f x y = true := by
  simp only [lsK, lsAll, List.any_eq_true, List.all_eq_true, List.mem_range]
  constructor
  · rintro ⟨i, hi, h⟩
    refine ⟨s.getD i 0, getD_mem2 hi, fun y hy => ?_⟩
    obtain ⟨j, hj, rfl⟩ := List.mem_iff_getElem.1 hy
    have := h j hj
    rwa [getD_at hj] at this
  · rintro ⟨x, hx, h⟩
    obtain ⟨i, hi, rfl⟩ := List.mem_iff_getElem.1 hx
    refine ⟨i, hi, fun j hj => ?_⟩
    rw [getD_at hi]
    exact h _ (getD_mem2 hj)

/-- Those that meet p, below k. -/
def pick (p : Nat → Bool) (k : Nat) : List Nat := (List.range k).filter p
theorem pick_succ (p : Nat → Bool) (k : Nat) : pick p (k + 1) = if p k then pick p k ++ [k] else pick p k := by
  unfold pick
  rw [List.range_succ, List.filter_append]
  by_cases h : p k = true <;> simp [h]
theorem pick_mem (p : Nat → Bool) (k x : Nat) : x ∈ pick p k ↔ x < k ∧ p x = true := by simp [pick]
theorem pick_len (p : Nat → Bool) (k : Nat) : (pick p k).length ≤ k := by
  have := List.length_filter_le p (List.range k)
  rwa [List.length_range] at this
theorem pick_fit (p : Nat → Bool) (k : Nat) (h : k ≤ 18446744073709551616) : Fit (pick p k) := fun x hx => by
  have := ((pick_mem p k x).1 hx).1
  omega

def upsL (l : List Nat) (a b : Nat) : List Nat := pick (fun i => belowB l a i && belowB l b i) l.length
def downsL (l : List Nat) (a b : Nat) : List Nat := pick (fun i => belowB l i a && belowB l i b) l.length
def leastB (l : List Nat) (s : List Nat) : Bool := lsK (belowB l) s s.length
def greatB (l : List Nat) (s : List Nat) : Bool := lsK (fun x y => belowB l y x) s s.length

def trB (l : List Nat) (i j k : Nat) : Bool := !(belowB l i j && belowB l j k && !belowB l i k)
def anB (l : List Nat) (i j : Nat) : Bool := !((i != j) && belowB l i j && belowB l j i)
def tr3 (l : List Nat) (i j k : Nat) : Bool := (List.range k).all fun k => trB l i j k
def tr2 (l : List Nat) (i j : Nat) : Bool := (List.range j).all fun j => anB l i j && tr3 l i j l.length
def tr1 (l : List Nat) (i : Nat) : Bool := (List.range i).all fun i => belowB l i i && tr2 l i l.length
def la2 (l : List Nat) (i j : Nat) : Bool := (List.range j).all fun j => leastB l (upsL l i j) && greatB l (downsL l i j)
def la1 (l : List Nat) (i : Nat) : Bool := (List.range i).all fun i => la2 l i l.length

theorem tr3_succ (l : List Nat) (i j k : Nat) : tr3 l i j (k + 1) = (tr3 l i j k && trB l i j k) := by simp [tr3, List.range_succ]
theorem tr2_succ (l : List Nat) (i j : Nat) : tr2 l i (j + 1) = (tr2 l i j && (anB l i j && tr3 l i j l.length)) := by simp [tr2, List.range_succ]
theorem tr1_succ (l : List Nat) (i : Nat) : tr1 l (i + 1) = (tr1 l i && (belowB l i i && tr2 l i l.length)) := by simp [tr1, List.range_succ]
theorem la2_succ (l : List Nat) (i j : Nat) : la2 l i (j + 1) = (la2 l i j && (leastB l (upsL l i j) && greatB l (downsL l i j))) := by simp [la2, List.range_succ]
theorem la1_succ (l : List Nat) (i : Nat) : la1 l (i + 1) = (la1 l i && la2 l i l.length) := by simp [la1, List.range_succ]

theorem belowB_bt {l : List Nat} (hn : l.length ≤ 64) {a b : Nat} (ha : a < l.length) (hb : b < l.length) : belowB l a b = bt l a b := by
  rw [belowB, decide_eq_true ⟨by omega, by omega, ha, hb⟩, Bool.true_and]

theorem belowB_lt {l : List Nat} {a b : Nat} (h : belowB l a b = true) : a < l.length ∧ b < l.length := by
  by_cases g : a < 64 ∧ b < 64 ∧ a < l.length ∧ b < l.length
  · exact g.2.2
  · rw [belowB_no g] at h
    cases h

theorem tr1_iff {l : List Nat} (hn : l.length ≤ 64) : tr1 l l.length = true ↔ IsOrd l.length (bt l) := by
  have e : ∀ {a b}, a < l.length → b < l.length → belowB l a b = bt l a b := belowB_bt hn
  simp only [tr1, tr2, tr3, trB, anB, List.all_eq_true, List.mem_range, Bool.and_eq_true, Bool.not_eq_true', Bool.and_eq_false_iff, Bool.not_eq_false', bne_eq_false_iff_eq]
  constructor
  · intro h
    refine ⟨fun i hi => by rw [← e hi hi]; exact (h i hi).1, fun i j hi hj h1 h2 => ?_, fun i j k hi hj hk h1 h2 => ?_⟩
    · rw [← e hi hj] at h1
      rw [← e hj hi] at h2
      rcases ((h i hi).2 j hj).1 with (g | g) | g
      · exact g
      · rw [h1] at g; cases g
      · rw [h2] at g; cases g
    · rw [← e hi hj] at h1
      rw [← e hj hk] at h2
      rw [← e hi hk]
      rcases ((h i hi).2 j hj).2 k hk with (g | g) | g
      · rw [h1] at g; cases g
      · rw [h2] at g; cases g
      · exact g
  · intro h i hi
    refine ⟨by rw [e hi hi]; exact h.refl i hi, fun j hj => ⟨?_, fun k hk => ?_⟩⟩
    · rw [e hi hj, e hj hi]
      cases h1 : bt l i j with
      | false => exact .inl (.inr rfl)
      | true =>
        cases h2 : bt l j i with
        | false => exact .inr rfl
        | true => exact .inl (.inl (h.anti i j hi hj h1 h2))
    · rw [e hi hj, e hj hk, e hi hk]
      cases h1 : bt l i j with
      | false => exact .inl (.inl rfl)
      | true =>
        cases h2 : bt l j k with
        | false => exact .inl (.inr rfl)
        | true => exact .inr (h.on i j k hi hj hk h1 h2)

theorem la1_iff {l : List Nat} (hn : l.length ≤ 64) : la1 l l.length = true ↔ Ups l.length (bt l) ∧ Ups l.length (turn (bt l)) := by
  have e : ∀ {a b}, a < l.length → b < l.length → belowB l a b = bt l a b := belowB_bt hn
  simp only [la1, la2, leastB, greatB, List.all_eq_true, List.mem_range, Bool.and_eq_true, lsK_iff, upsL, downsL, pick_mem]
  constructor
  · intro h
    refine ⟨fun a b ha hb => ?_, fun a b ha hb => ?_⟩
    · obtain ⟨⟨x, ⟨hx, h1, h2⟩, h3⟩, _⟩ := h a ha b hb
      refine ⟨x, hx, by rw [← e ha hx]; exact h1, by rw [← e hb hx]; exact h2, fun d hd g1 g2 => ?_⟩
      rw [← e hx hd]
      exact h3 d ⟨hd, by rw [e ha hd]; exact g1, by rw [e hb hd]; exact g2⟩
    · obtain ⟨_, x, ⟨hx, h1, h2⟩, h3⟩ := h a ha b hb
      refine ⟨x, hx, ?_, ?_, fun d hd g1 g2 => ?_⟩
      · show bt l x a = true
        rw [← e hx ha]; exact h1
      · show bt l x b = true
        rw [← e hx hb]; exact h2
      · show bt l d x = true
        rw [← e hd hx]
        exact h3 d ⟨hd, by rw [e hd ha]; exact g1, by rw [e hd hb]; exact g2⟩
  · rintro ⟨h, k⟩ a ha b hb
    obtain ⟨x, hx, h1, h2, h3⟩ := h a b ha hb
    obtain ⟨y, hy, k1, k2, k3⟩ := k a b ha hb
    have k1 : bt l y a = true := k1
    have k2 : bt l y b = true := k2
    refine ⟨⟨x, ⟨hx, by rw [e ha hx]; exact h1, by rw [e hb hx]; exact h2⟩, fun d ⟨hd, g1, g2⟩ => ?_⟩, y, ⟨hy, by rw [e hy ha]; exact k1, by rw [e hy hb]; exact k2⟩, fun d ⟨hd, g1, g2⟩ => ?_⟩
    · rw [e hx hd]
      exact h3 d hd (by rw [← e ha hd]; exact g1) (by rw [← e hb hd]; exact g2)
    · rw [e hd hy]
      exact k3 d hd (by rw [e hd ha] at g1; exact g1) (by rw [e hd hb] at g2; exact g2)

end Go.Proofs.YtmiconjmeaammaaGreatDoor.La
