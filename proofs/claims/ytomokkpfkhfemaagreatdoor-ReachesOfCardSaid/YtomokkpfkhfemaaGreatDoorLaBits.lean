/- Rows of bits alone: what an order is, and one in which each two have a least one above and a greatest one below; what the checks of the code tell; turned round and numbered anew. No condition but sizes. -/
namespace Go.Proofs.YtomokkpfkhfemaaGreatDoor.La

/-- Bit j of row i. -/
def bt (l : List Nat) (i j : Nat) : Bool := (l.getD i 0).testBit j

/-- The number of some bits. -/
def mk (f : Nat → Bool) : Nat → Nat
  | 0 => 0
  | n + 1 => if f n then mk f n ||| 2 ^ n else mk f n

theorem mk_bit (f : Nat → Bool) : ∀ n j, (mk f n).testBit j = (decide (j < n) && f j)
  | 0, j => by simp [mk]
  | n + 1, j => by
    unfold mk
    by_cases h : f n = true
    · rw [if_pos h, Nat.testBit_or, mk_bit f n j, Nat.testBit_two_pow]
      by_cases e : n = j
      · subst e
        simp [h]
      · have e1 : decide (n = j) = false := by simpa using e
        have e2 : decide (j < n + 1) = decide (j < n) := decide_eq_decide.2 (by omega)
        rw [e1, e2, Bool.or_false]
    · rw [if_neg h, mk_bit f n j]
      by_cases e : n = j
      · subst e
        simp [h]
      · have e2 : decide (j < n + 1) = decide (j < n) := decide_eq_decide.2 (by omega)
        rw [e2]

theorem mk_lt (f : Nat → Bool) : ∀ n, mk f n < 2 ^ n
  | 0 => by simp [mk]
  | n + 1 => by
    have h := mk_lt f n
    have h2 : 2 ^ n < 2 ^ (n + 1) := Nat.pow_lt_pow_right (by decide) (by omega)
    unfold mk
    split
    · exact Nat.or_lt_two_pow (by omega) h2
    · omega

theorem lt_of_bits {x n : Nat} (h : ∀ j, n ≤ j → x.testBit j = false) : x < 2 ^ n := Nat.lt_pow_two_of_testBit x h
theorem bits_of_lt {x n j : Nat} (h : x < 2 ^ n) (hj : n ≤ j) : x.testBit j = false := Nat.testBit_lt_two_pow (Nat.lt_of_lt_of_le h (Nat.pow_le_pow_right (by decide) hj))

theorem bt_lt {l : List Nat} {i j : Nat} (h : bt l i j = true) : i < l.length := by
  rcases Nat.lt_or_ge i l.length with h' | h'
  · exact h'
  · rw [bt, List.getD_eq_getElem?_getD, List.getElem?_eq_none h'] at h
    simp at h

theorem bt_get {l : List Nat} {i : Nat} (h : i < l.length) (j : Nat) : bt l i j = l[i].testBit j := by
  rw [bt, List.getD_eq_getElem?_getD, List.getElem?_eq_getElem h]
  rfl

theorem bt_ext {l l' : List Nat} (h : l.length = l'.length) (hb : ∀ i j, bt l i j = bt l' i j) : l = l' := by
  apply List.ext_getElem h
  intro i h1 h2
  apply Nat.eq_of_testBit_eq
  intro j
  rw [← bt_get h1, ← bt_get h2, hb]

/-- Of n rows none has a bit of no label. -/
def Small (l : List Nat) : Prop := ∀ i j, l.length ≤ j → bt l i j = false
def Known (l : List Nat) : Prop := (1 ≤ l.length ∧ l.length ≤ 64) ∧ Small l

structure IsOrd (n : Nat) (R : Nat → Nat → Bool) : Prop where
  refl : ∀ i, i < n → R i i = true
  anti : ∀ i j, i < n → j < n → R i j = true → R j i = true → i = j
  on : ∀ i j k, i < n → j < n → k < n → R i j = true → R j k = true → R i k = true

/-- Each two have a least one above both. -/
def Ups (n : Nat) (R : Nat → Nat → Bool) : Prop :=
  ∀ a b, a < n → b < n → ∃ c, c < n ∧ R a c = true ∧ R b c = true ∧ ∀ d, d < n → R a d = true → R b d = true → R c d = true

def turn (R : Nat → Nat → Bool) : Nat → Nat → Bool := fun i j => R j i

/-- What Check answers. -/
def ChkIs (l : List Nat) (e : Int) : Prop :=
  (¬ Known l ∧ e = 1) ∨ (Known l ∧ ¬ IsOrd l.length (bt l) ∧ e = 9) ∨ (Known l ∧ IsOrd l.length (bt l) ∧ ¬ (Ups l.length (bt l) ∧ Ups l.length (turn (bt l))) ∧ e = 7) ∨
    (Known l ∧ IsOrd l.length (bt l) ∧ (Ups l.length (bt l) ∧ Ups l.length (turn (bt l))) ∧ e = 0)

theorem ChkIs.uniq {l : List Nat} {e f : Int} (h : ChkIs l e) (k : ChkIs l f) : e = f := by
  rcases h with ⟨a, rfl⟩ | ⟨a, b, rfl⟩ | ⟨a, b, c, rfl⟩ | ⟨a, b, c, rfl⟩ <;> rcases k with ⟨a', rfl⟩ | ⟨a', b', rfl⟩ | ⟨a', b', c', rfl⟩ | ⟨a', b', c', rfl⟩ <;>
    first
      | rfl
      | exact absurd a' a
      | exact absurd a a'
      | exact absurd b' b
      | exact absurd b b'
      | exact absurd c' c
      | exact absurd c c'

theorem IsOrd.congr {n : Nat} {R R' : Nat → Nat → Bool} (h : IsOrd n R) (e : ∀ i j, i < n → j < n → R' i j = R i j) : IsOrd n R' := by
  refine ⟨fun i hi => (e i i hi hi).trans (h.refl i hi), fun i j hi hj h1 h2 => h.anti i j hi hj ?_ ?_, fun i j k hi hj hk h1 h2 => (e i k hi hk).trans (h.on i j k hi hj hk ?_ ?_)⟩
  · rw [← e i j hi hj]; exact h1
  · rw [← e j i hj hi]; exact h2
  · rw [← e i j hi hj]; exact h1
  · rw [← e j k hj hk]; exact h2

theorem Ups.congr {n : Nat} {R R' : Nat → Nat → Bool} (h : Ups n R) (e : ∀ i j, i < n → j < n → R' i j = R i j) : Ups n R' := by
  intro a b ha hb
  obtain ⟨c, hc, h1, h2, h3⟩ := h a b ha hb
  refine ⟨c, hc, (e a c ha hc).trans h1, (e b c hb hc).trans h2, fun d hd g1 g2 => (e c d hc hd).trans (h3 d hd ?_ ?_)⟩
  · rw [← e a d ha hd]; exact g1
  · rw [← e b d hb hd]; exact g2

theorem IsOrd.turn {n : Nat} {R : Nat → Nat → Bool} (h : IsOrd n R) : IsOrd n (turn R) :=
  ⟨h.refl, fun i j hi hj h1 h2 => h.anti i j hi hj h2 h1, fun i j k hi hj hk h1 h2 => h.on k j i hk hj hi h2 h1⟩

/-- Numbered anew. -/
theorem IsOrd.move {n : Nat} {R R' : Nat → Nat → Bool} (p : Nat → Nat) (hp : ∀ i, i < n → p i < n) (hinj : ∀ i j, i < n → j < n → p i = p j → i = j) (e : ∀ i j, i < n → j < n → R' i j = R (p i) (p j)) (h : IsOrd n R) : IsOrd n R' := by
  refine ⟨fun i hi => (e i i hi hi).trans (h.refl _ (hp i hi)), fun i j hi hj h1 h2 => hinj i j hi hj (h.anti _ _ (hp i hi) (hp j hj) ?_ ?_), fun i j k hi hj hk h1 h2 => (e i k hi hk).trans (h.on _ (p j) _ (hp i hi) (hp j hj) (hp k hk) ?_ ?_)⟩
  · rw [← e i j hi hj]; exact h1
  · rw [← e j i hj hi]; exact h2
  · rw [← e i j hi hj]; exact h1
  · rw [← e j k hj hk]; exact h2

theorem Ups.move {n : Nat} {R R' : Nat → Nat → Bool} (p q : Nat → Nat) (hp : ∀ i, i < n → p i < n) (hq : ∀ i, i < n → q i < n) (hpq : ∀ i, i < n → p (q i) = i) (e : ∀ i j, i < n → j < n → R' i j = R (p i) (p j)) (h : Ups n R) : Ups n R' := by
  intro a b ha hb
  obtain ⟨c, hc, h1, h2, h3⟩ := h (p a) (p b) (hp a ha) (hp b hb)
  have e1 : ∀ x, x < n → R' x (q c) = R (p x) c := fun x hx => by rw [e x _ hx (hq c hc), hpq c hc]
  have e2 : ∀ x, x < n → R' (q c) x = R c (p x) := fun x hx => by rw [e _ x (hq c hc) hx, hpq c hc]
  refine ⟨q c, hq c hc, (e1 a ha).trans h1, (e1 b hb).trans h2, fun d hd g1 g2 => (e2 d hd).trans (h3 _ (hp d hd) ?_ ?_)⟩
  · rw [← e a d ha hd]; exact g1
  · rw [← e b d hb hd]; exact g2

/-- Rows of the same meaning but for the numbers are told the same. -/
theorem ChkIs.move {l l' : List Nat} (p q : Nat → Nat) (hl : l'.length = l.length) (hk : Known l) (hk' : Known l') (hp : ∀ i, i < l.length → p i < l.length) (hq : ∀ i, i < l.length → q i < l.length) (hpq : ∀ i, i < l.length → p (q i) = i) (hqp : ∀ i, i < l.length → q (p i) = i)
    (e : ∀ i j, i < l.length → j < l.length → bt l' i j = bt l (p i) (p j)) {x : Int} (h : ChkIs l x) : ChkIs l' x := by
  have e' : ∀ i j, i < l.length → j < l.length → bt l i j = bt l' (q i) (q j) := fun i j hi hj => by rw [e _ _ (hq i hi) (hq j hj), hpq i hi, hpq j hj]
  have ip : ∀ i j, i < l.length → j < l.length → p i = p j → i = j := fun i j hi hj h => by rw [← hqp i hi, ← hqp j hj, h]
  have iq : ∀ i j, i < l.length → j < l.length → q i = q j → i = j := fun i j hi hj h => by rw [← hpq i hi, ← hpq j hj, h]
  have o1 : IsOrd l.length (bt l) → IsOrd l.length (bt l') := IsOrd.move p hp ip e
  have o2 : IsOrd l.length (bt l') → IsOrd l.length (bt l) := IsOrd.move q hq iq e'
  have u1 : Ups l.length (bt l) → Ups l.length (bt l') := Ups.move p q hp hq hpq e
  have u2 : Ups l.length (bt l') → Ups l.length (bt l) := Ups.move q p hq hp hqp e'
  have t1 : Ups l.length (turn (bt l)) → Ups l.length (turn (bt l')) := Ups.move p q hp hq hpq (fun i j hi hj => e j i hj hi)
  have t2 : Ups l.length (turn (bt l')) → Ups l.length (turn (bt l)) := Ups.move q p hq hp hqp (fun i j hi hj => e' j i hj hi)
  unfold ChkIs
  rw [hl]
  rcases h with ⟨a, rfl⟩ | ⟨a, b, rfl⟩ | ⟨a, b, c, rfl⟩ | ⟨a, b, c, rfl⟩
  · exact absurd hk a
  · exact .inr (.inl ⟨hk', fun h => b (o2 h), rfl⟩)
  · exact .inr (.inr (.inl ⟨hk', o1 b, fun h => c ⟨u2 h.1, t2 h.2⟩, rfl⟩))
  · exact .inr (.inr (.inr ⟨hk', o1 b, ⟨u1 c.1, t1 c.2⟩, rfl⟩))

/-- Turned round. -/
theorem ChkIs.turned {l l' : List Nat} (hl : l'.length = l.length) (hk : Known l) (hk' : Known l') (e : ∀ i j, i < l.length → j < l.length → bt l' i j = bt l j i) {x : Int} (h : ChkIs l x) : ChkIs l' x := by
  have o1 : IsOrd l.length (bt l) → IsOrd l.length (bt l') := fun h => h.turn.congr e
  have o2 : IsOrd l.length (bt l') → IsOrd l.length (bt l) := fun h => h.turn.congr fun i j hi hj => (e j i hj hi).symm
  have u1 : Ups l.length (bt l) → Ups l.length (turn (bt l')) := fun h => h.congr fun i j hi hj => e j i hj hi
  have u2 : Ups l.length (turn (bt l')) → Ups l.length (bt l) := fun h => h.congr fun i j hi hj => (e j i hj hi).symm
  have t1 : Ups l.length (turn (bt l)) → Ups l.length (bt l') := fun h => h.congr e
  have t2 : Ups l.length (bt l') → Ups l.length (turn (bt l)) := fun h => h.congr fun i j hi hj => (e i j hi hj).symm
  unfold ChkIs
  rw [hl]
  rcases h with ⟨a, rfl⟩ | ⟨a, b, rfl⟩ | ⟨a, b, c, rfl⟩ | ⟨a, b, c, rfl⟩
  · exact absurd hk a
  · exact .inr (.inl ⟨hk', fun h => b (o2 h), rfl⟩)
  · exact .inr (.inr (.inl ⟨hk', o1 b, fun h => c ⟨u2 h.2, t2 h.1⟩, rfl⟩))
  · exact .inr (.inr (.inr ⟨hk', o1 b, ⟨t1 c.2, u1 c.1⟩, rfl⟩))

/-! ### What the code's parts tell -/

/-- turned: of each label what is below it. -/
def turnedN (l : List Nat) : List Nat := (List.range l.length).map fun x => mk (fun i => bt l i x) l.length

theorem turnedN_len (l : List Nat) : (turnedN l).length = l.length := by simp [turnedN]

theorem turnedN_bt (l : List Nat) (i j : Nat) : bt (turnedN l) i j = (decide (i < l.length) && bt l j i) := by
  by_cases h : i < l.length
  · rw [bt_get (by rw [turnedN_len]; exact h)]
    simp only [turnedN, List.getElem_map, List.getElem_range, mk_bit, h, decide_true, Bool.true_and]
    by_cases hj : j < l.length
    · simp [hj]
    · have : bt l j i = false := by
        cases hb : bt l j i with
        | false => rfl
        | true => exact absurd (bt_lt hb) hj
      simp [this]
  · have : bt (turnedN l) i j = false := by
      cases hb : bt (turnedN l) i j with
      | false => rfl
      | true => exact absurd (by have := bt_lt hb; rwa [turnedN_len] at this) h
    simp [this, h]

/-- above: these, and all that k rows have above one of them. -/
def aboveN (l : List Nat) (t : Nat) : Nat → Nat
  | 0 => t
  | k + 1 => if t.testBit k then aboveN l t k ||| l.getD k 0 else aboveN l t k

theorem aboveN_bit (l : List Nat) (t : Nat) : ∀ k j, (aboveN l t k).testBit j = true ↔ t.testBit j = true ∨ ∃ i, i < k ∧ t.testBit i = true ∧ bt l i j = true
  | 0, j => by simp [aboveN]
  | k + 1, j => by
    have ih := aboveN_bit l t k j
    unfold aboveN
    by_cases h : t.testBit k = true
    · rw [if_pos h, Nat.testBit_or, Bool.or_eq_true, ih]
      constructor
      · rintro ((h1 | ⟨i, h1, h2, h3⟩) | h1)
        · exact .inl h1
        · exact .inr ⟨i, by omega, h2, h3⟩
        · exact .inr ⟨k, by omega, h, h1⟩
      · rintro (h1 | ⟨i, h1, h2, h3⟩)
        · exact .inl (.inl h1)
        · by_cases e : i = k
          · subst e
            exact .inr h3
          · exact .inl (.inr ⟨i, by omega, h2, h3⟩)
    · rw [if_neg h, ih]
      constructor
      · rintro (h1 | ⟨i, h1, h2, h3⟩)
        · exact .inl h1
        · exact .inr ⟨i, by omega, h2, h3⟩
      · rintro (h1 | ⟨i, h1, h2, h3⟩)
        · exact .inl h1
        · by_cases e : i = k
          · subst e
            exact absurd h2 h
          · exact .inr ⟨i, by omega, h2, h3⟩

theorem aboveN_lt {l : List Nat} {t m : Nat} (ht : t < 2 ^ m) (hl : ∀ x ∈ l, x < 2 ^ m) (k : Nat) : aboveN l t k < 2 ^ m := by
  induction k with
  | zero => exact ht
  | succ k ih =>
    unfold aboveN
    split
    · refine Nat.or_lt_two_pow ih ?_
      rw [List.getD_eq_getElem?_getD]
      rcases Nat.lt_or_ge k l.length with h | h
      · rw [List.getElem?_eq_getElem h]
        exact hl _ (List.getElem_mem h)
      · rw [List.getElem?_eq_none h]
        exact Nat.two_pow_pos m
    · exact ih

/-- What is above a row's own labels is in the row. -/
theorem aboveN_same (l : List Nat) (i : Nat) : aboveN l (l.getD i 0) l.length = l.getD i 0 ↔ ∀ j k, bt l i j = true → bt l j k = true → bt l i k = true := by
  constructor
  · intro e j k h1 h2
    show (l.getD i 0).testBit k = true
    rw [← e, aboveN_bit]
    exact .inr ⟨j, bt_lt h2, h1, h2⟩
  · intro h
    apply Nat.eq_of_testBit_eq
    intro j
    rw [Bool.eq_iff_iff, aboveN_bit]
    constructor
    · rintro (h1 | ⟨k, _, h2, h3⟩)
      · exact h1
      · exact h k j h2 h3
    · exact .inl

/-- ordered, up to label k. -/
def orderedK (l : List Nat) (k : Nat) : Bool := (List.range k).all fun i => (l.getD i 0 &&& (turnedN l).getD i 0 == 2 ^ i) && (aboveN l (l.getD i 0) l.length == l.getD i 0)

theorem orderedK_succ (l : List Nat) (k : Nat) : orderedK l (k + 1) = (orderedK l k && ((l.getD k 0 &&& (turnedN l).getD k 0 == 2 ^ k) && (aboveN l (l.getD k 0) l.length == l.getD k 0))) := by
  simp [orderedK, List.range_succ]

theorem orderedN_iff {l : List Nat} (hs : Small l) : orderedK l l.length = true ↔ IsOrd l.length (bt l) := by
  have hj : ∀ {i j}, bt l i j = true → j < l.length := fun {i j} h => by
    rcases Nat.lt_or_ge j l.length with h' | h'
    · exact h'
    · rw [hs i j h'] at h; cases h
  have key : ∀ i, i < l.length → (l.getD i 0 &&& (turnedN l).getD i 0 = 2 ^ i ↔ (bt l i i = true ∧ ∀ j, bt l i j = true → bt l j i = true → i = j)) := by
    intro i hi
    have hbit : ∀ j, (l.getD i 0 &&& (turnedN l).getD i 0).testBit j = (bt l i j && bt l j i) := by
      intro j
      rw [Nat.testBit_and]
      show (bt l i j && bt (turnedN l) i j) = _
      rw [turnedN_bt, decide_eq_true hi, Bool.true_and]
    constructor
    · intro e
      refine ⟨?_, fun j h1 h2 => ?_⟩
      · have := hbit i
        rw [e, Nat.testBit_two_pow] at this
        simpa using this.symm
      · have := hbit j
        rw [e, Nat.testBit_two_pow, h1, h2] at this
        simpa using this
    · rintro ⟨h1, h2⟩
      apply Nat.eq_of_testBit_eq
      intro j
      rw [hbit, Nat.testBit_two_pow, Bool.eq_iff_iff, Bool.and_eq_true, decide_eq_true_iff]
      constructor
      · rintro ⟨h3, h4⟩
        exact h2 j h3 h4
      · rintro rfl
        exact ⟨h1, h1⟩
  simp only [orderedK, List.all_eq_true, List.mem_range, Bool.and_eq_true, beq_iff_eq]
  constructor
  · intro h
    refine ⟨fun i hi => ((key i hi).1 (h i hi).1).1, fun i j hi _ h1 h2 => ((key i hi).1 (h i hi).1).2 j h1 h2, fun i j k hi _ _ h1 h2 => (aboveN_same l i).1 (h i hi).2 j k h1 h2⟩
  · intro h i hi
    exact ⟨(key i hi).2 ⟨h.refl i hi, fun j h1 h2 => h.anti i j hi (hj h1) h1 h2⟩, (aboveN_same l i).2 fun j k h1 h2 => h.on i j k hi (hj h1) (hj h2) h1 h2⟩

/-- One of these is below all of them. -/
def leastOf (l : List Nat) (t i : Nat) : Bool := t.testBit i && (t ^^^ (t &&& l.getD i 0) == 0)

theorem andnot_eq {t r : Nat} (ht : t < 2 ^ 64) (hr : r < 2 ^ 64) : t &&& (2 ^ 64 - 1 - r) = t ^^^ (t &&& r) := by
  apply Nat.eq_of_testBit_eq
  intro j
  have h := Nat.testBit_two_pow_sub_succ (x := r) (n := 64) hr j
  rw [Nat.testBit_and, Nat.testBit_xor, Nat.testBit_and, show 2 ^ 64 - 1 - r = 2 ^ 64 - (r + 1) by omega, h]
  by_cases hj : j < 64
  · rw [decide_eq_true hj, Bool.true_and]
    cases t.testBit j <;> cases r.testBit j <;> rfl
  · rw [bits_of_lt ht (by omega), Bool.false_and, Bool.false_and, Bool.xor_false]
def hasLeastK (l : List Nat) (t k : Nat) : Bool := (List.range k).any fun i => leastOf l t i

theorem hasLeastK_succ (l : List Nat) (t k : Nat) : hasLeastK l t (k + 1) = (hasLeastK l t k || leastOf l t k) := by
  simp [hasLeastK, List.range_succ]

theorem leastOf_iff (l : List Nat) (t i : Nat) : leastOf l t i = true ↔ t.testBit i = true ∧ ∀ j, t.testBit j = true → bt l i j = true := by
  have : t ^^^ (t &&& l.getD i 0) = 0 ↔ ∀ j, t.testBit j = true → bt l i j = true := by
    constructor
    · intro e j hj
      have := congrArg (·.testBit j) e
      simp only [Nat.testBit_xor, Nat.testBit_and, Nat.zero_testBit, hj, Bool.true_and] at this
      show (l.getD i 0).testBit j = true
      cases hb : (l.getD i 0).testBit j with
      | true => rfl
      | false => rw [hb] at this; cases this
    · intro h
      apply Nat.eq_of_testBit_eq
      intro j
      rw [Nat.testBit_xor, Nat.testBit_and, Nat.zero_testBit]
      cases hj : t.testBit j with
      | false => rfl
      | true =>
        have := h j hj
        rw [show (l.getD i 0).testBit j = true from this]
        rfl
  simp only [leastOf, Bool.and_eq_true, beq_iff_eq, this]

theorem hasLeast_iff (l : List Nat) (t : Nat) : hasLeastK l t l.length = true ↔ ∃ c, c < l.length ∧ t.testBit c = true ∧ ∀ j, t.testBit j = true → bt l c j = true := by
  simp only [hasLeastK, List.any_eq_true, List.mem_range, leastOf_iff]

/-- joined, in row i up to label j. -/
def joinRow (l : List Nat) (i j : Nat) : Bool := (List.range j).all fun x => hasLeastK l (l.getD i 0 &&& l.getD x 0) l.length
def joinedK (l : List Nat) (k : Nat) : Bool := (List.range k).all fun i => joinRow l i i

theorem joinRow_succ (l : List Nat) (i j : Nat) : joinRow l i (j + 1) = (joinRow l i j && hasLeastK l (l.getD i 0 &&& l.getD j 0) l.length) := by
  simp [joinRow, List.range_succ]
theorem joinedK_succ (l : List Nat) (k : Nat) : joinedK l (k + 1) = (joinedK l k && joinRow l k k) := by
  simp [joinedK, List.range_succ]

theorem joined_iff {l : List Nat} (hs : Small l) (ho : IsOrd l.length (bt l)) : joinedK l l.length = true ↔ Ups l.length (bt l) := by
  have hj : ∀ {i j}, bt l i j = true → j < l.length := fun {i j} h => by
    rcases Nat.lt_or_ge j l.length with h' | h'
    · exact h'
    · rw [hs i j h'] at h; cases h
  have hb : ∀ a b j, (l.getD a 0 &&& l.getD b 0).testBit j = true ↔ bt l a j = true ∧ bt l b j = true := fun a b j => by
    rw [Nat.testBit_and, Bool.and_eq_true]; rfl
  simp only [joinedK, joinRow, List.all_eq_true, List.mem_range, hasLeast_iff, hb]
  constructor
  · intro h a b ha hb'
    rcases Nat.lt_trichotomy a b with h1 | rfl | h1
    · obtain ⟨c, hc, ⟨g1, g2⟩, g3⟩ := h b hb' a h1
      exact ⟨c, hc, g2, g1, fun d hd k1 k2 => g3 d ⟨k2, k1⟩⟩
    · exact ⟨a, ha, ho.refl a ha, ho.refl a ha, fun d _ k1 _ => k1⟩
    · obtain ⟨c, hc, ⟨g1, g2⟩, g3⟩ := h a ha b h1
      exact ⟨c, hc, g1, g2, fun d hd k1 k2 => g3 d ⟨k1, k2⟩⟩
  · intro h a ha b hb'
    obtain ⟨c, hc, g1, g2, g3⟩ := h a b ha (by omega)
    exact ⟨c, hc, ⟨g1, g2⟩, fun d k => g3 d (hj k.1) k.1 k.2⟩

/-- known, up to row k. -/
def knownK (l : List Nat) (k : Nat) : Bool := (List.range k).all fun i => l.getD i 0 / 2 ^ l.length == 0
theorem knownK_succ (l : List Nat) (k : Nat) : knownK l (k + 1) = (knownK l k && (l.getD k 0 / 2 ^ l.length == 0)) := by
  simp [knownK, List.range_succ]
def knownN (l : List Nat) : Bool := decide (1 ≤ l.length ∧ l.length ≤ 64) && knownK l l.length

theorem small_iff (l : List Nat) : knownK l l.length = true ↔ Small l := by
  simp only [knownK, List.all_eq_true, List.mem_range, beq_iff_eq]
  constructor
  · intro h i j hj
    cases hb : bt l i j with
    | false => rfl
    | true =>
      have h1 := h i (bt_lt hb)
      have h2 : l.getD i 0 < 2 ^ l.length := by
        rcases Nat.lt_or_ge (l.getD i 0) (2 ^ l.length) with h' | h'
        · exact h'
        · have := Nat.div_pos h' (Nat.two_pow_pos l.length)
          omega
      rw [← hb]
      exact bits_of_lt h2 hj
  · intro h i _
    exact Nat.div_eq_of_lt (lt_of_bits fun j hj => h i j hj)

theorem knownN_iff (l : List Nat) : knownN l = true ↔ Known l := by
  simp only [knownN, Bool.and_eq_true, decide_eq_true_iff, small_iff, Known]

/-- What the code's Check answers. -/
def checkN (l : List Nat) : Int :=
  if knownN l = true then
    if orderedK l l.length = true then
      if joinedK l l.length = true ∧ joinedK (turnedN l) l.length = true then 0 else 7
    else 9
  else 1

theorem turned_small {l : List Nat} : Small (turnedN l) := by
  intro i j hj
  rw [turnedN_len] at hj
  rw [turnedN_bt]
  have : bt l j i = false := by
    cases hb : bt l j i with
    | false => rfl
    | true => have := bt_lt hb; omega
  rw [this, Bool.and_false]

theorem turned_joined {l : List Nat} (ho : IsOrd l.length (bt l)) : joinedK (turnedN l) l.length = true ↔ Ups l.length (turn (bt l)) := by
  have e : ∀ i j, i < l.length → j < l.length → bt (turnedN l) i j = turn (bt l) i j := fun i j hi _ => by
    rw [turnedN_bt, decide_eq_true hi, Bool.true_and]
    rfl
  have h := joined_iff (l := turnedN l) turned_small (by rw [turnedN_len]; exact ho.turn.congr e)
  rw [turnedN_len] at h
  rw [h]
  exact ⟨fun h => h.congr fun i j hi hj => (e i j hi hj).symm, fun h => h.congr e⟩

theorem checkN_is (l : List Nat) : ChkIs l (checkN l) := by
  unfold checkN ChkIs
  by_cases hk : knownN l = true
  · have hk' := (knownN_iff l).1 hk
    rw [if_pos hk]
    by_cases ho : orderedK l l.length = true
    · have ho' := (orderedN_iff hk'.2).1 ho
      have hj := (joined_iff hk'.2 ho')
      have ht := turned_joined ho'
      rw [if_pos ho]
      by_cases hu : Ups l.length (bt l) ∧ Ups l.length (turn (bt l))
      · rw [if_pos ⟨hj.2 hu.1, ht.2 hu.2⟩]
        exact .inr (.inr (.inr ⟨hk', ho', hu, rfl⟩))
      · rw [if_neg (fun g => hu ⟨hj.1 g.1, ht.1 g.2⟩)]
        exact .inr (.inr (.inl ⟨hk', ho', hu, rfl⟩))
    · rw [if_neg ho]
      exact .inr (.inl ⟨hk', fun h => ho ((orderedN_iff hk'.2).2 h), rfl⟩)
  · rw [if_neg hk]
    exact .inl ⟨fun h => hk ((knownN_iff l).2 h), rfl⟩

theorem checkN_of {l : List Nat} {e : Int} (h : ChkIs l e) : e = checkN l := h.uniq (checkN_is l)

end Go.Proofs.YtomokkpfkhfemaaGreatDoor.La
