/- Sets as numbers of 64 bits: what is part of what, by bits. No condition but sizes. -/
namespace Go.Proofs.YtnlgfiffhahpfaaGreatDoor.Ef

/-- Each bit of a is one of b. -/
def Sub (a b : Nat) : Prop := ∀ i, a.testBit i = true → b.testBit i = true

/-- As the document's answer tells it. -/
def subB (a b : Nat) : Bool := (a ||| b == b)

theorem subB_iff (a b : Nat) : subB a b = true ↔ Sub a b := by
  rw [subB, beq_iff_eq]
  constructor
  · intro h i hi
    rw [← h, Nat.testBit_or, hi]
    rfl
  · intro h
    apply Nat.eq_of_testBit_eq
    intro i
    rw [Nat.testBit_or]
    cases hi : a.testBit i with
    | true => rw [h i hi]; rfl
    | false => rfl

theorem and_iff (a b : Nat) : (a &&& b == a) = true ↔ Sub a b := by
  rw [beq_iff_eq]
  constructor
  · intro h i hi
    have : (a &&& b).testBit i = true := by rw [h]; exact hi
    rw [Nat.testBit_and, hi] at this
    simpa using this
  · intro h
    apply Nat.eq_of_testBit_eq
    intro i
    rw [Nat.testBit_and]
    cases hi : a.testBit i with
    | true => rw [h i hi]; rfl
    | false => rfl

theorem bool_iff {x y : Bool} (h : x = true ↔ y = true) : x = y := by
  cases x <;> cases y <;> simp_all

theorem and_sub (a b : Nat) : (a &&& b == a) = subB a b := bool_iff ((and_iff a b).trans (subB_iff a b).symm)

theorem not_bit {t : Nat} (ht : t < 18446744073709551616) (i : Nat) : (18446744073709551615 - t).testBit i = (decide (i < 64) && !t.testBit i) := by
  have := Nat.testBit_two_pow_sub_succ (n := 64) (x := t) ht i
  have e : 2 ^ 64 - (t + 1) = 18446744073709551615 - t := by omega
  rw [e] at this
  exact this

theorem not_sub {a t : Nat} (ha : a < 18446744073709551616) (ht : t < 18446744073709551616) : (a &&& (18446744073709551615 - t) == 0) = subB a t := by
  apply bool_iff
  rw [subB_iff, beq_iff_eq]
  constructor
  · intro h i hi
    have hlt : i < 64 := by
      rcases Nat.lt_or_ge i 64 with h' | h'
      · exact h'
      · rw [Nat.testBit_lt_two_pow (Nat.lt_of_lt_of_le (show a < 2 ^ 64 from ha) (Nat.pow_le_pow_right (by decide) h'))] at hi
        cases hi
    have h0 : (a &&& (18446744073709551615 - t)).testBit i = false := by rw [h]; simp
    rw [Nat.testBit_and, hi, not_bit ht] at h0
    cases ht' : t.testBit i with
    | true => rfl
    | false =>
      rw [ht'] at h0
      simp at h0
      omega
  · intro h
    apply Nat.eq_of_testBit_eq
    intro i
    rw [Nat.testBit_and, not_bit ht, Nat.zero_testBit]
    cases hi : a.testBit i with
    | true => rw [h i hi]; simp
    | false => rfl

/-- The set of the first n effects. -/
def topN (n : Nat) : Nat := 2 ^ n - 1

theorem topN_bit (n i : Nat) : (topN n).testBit i = decide (i < n) := by
  rw [topN, Nat.testBit_two_pow_sub_one]

theorem topN_lt {n : Nat} (h : n ≤ 64) : topN n < 18446744073709551616 := by
  have h1 : 2 ^ n ≤ 2 ^ 64 := Nat.pow_le_pow_right (by decide) h
  have h2 : 0 < 2 ^ n := Nat.pow_pos (by decide)
  have e : (2 : Nat) ^ 64 = 18446744073709551616 := by decide
  rw [topN]
  omega

theorem topN_succ (n : Nat) : topN n ||| 2 ^ n = topN (n + 1) := by
  apply Nat.eq_of_testBit_eq
  intro i
  rw [Nat.testBit_or, topN_bit, topN_bit, Nat.testBit_two_pow]
  by_cases h : n = i
  · subst h
    simp
  · have e1 : decide (n = i) = false := by simpa using h
    have e2 : decide (i < n + 1) = decide (i < n) := decide_eq_decide.2 (by omega)
    rw [e1, e2, Bool.or_false]

theorem sub_self (a : Nat) : subB a a = true := (subB_iff a a).2 fun _ h => h
theorem sub_zero (a : Nat) : subB 0 a = true := (subB_iff 0 a).2 fun i h => by simp at h
theorem sub_cut (a t : Nat) : subB (a &&& t) t = true := (subB_iff _ _).2 fun i h => by
  rw [Nat.testBit_and] at h
  cases h' : t.testBit i with
  | true => rfl
  | false => rw [h'] at h; simp at h

theorem sub_or {a b t : Nat} (h : subB a t = true) (k : subB b t = true) : subB (a ||| b) t = true := (subB_iff _ _).2 fun i hi => by
  rw [Nat.testBit_or] at hi
  rcases Bool.or_eq_true_iff.1 hi with hi | hi
  · exact (subB_iff _ _).1 h i hi
  · exact (subB_iff _ _).1 k i hi
theorem sub_and {a b t : Nat} (h : subB a t = true) : subB (a &&& b) t = true := (subB_iff _ _).2 fun i hi => by
  rw [Nat.testBit_and] at hi
  exact (subB_iff _ _).1 h i (by revert hi; cases a.testBit i <;> simp)

theorem join_bound (a b c : Nat) : (subB a c && subB b c) = subB (a ||| b) c := by
  apply bool_iff
  rw [Bool.and_eq_true, subB_iff, subB_iff, subB_iff]
  constructor
  · intro ⟨h, k⟩ i hi
    rw [Nat.testBit_or] at hi
    rcases Bool.or_eq_true_iff.1 hi with hi | hi
    · exact h i hi
    · exact k i hi
  · intro h
    exact ⟨fun i hi => h i (by rw [Nat.testBit_or, hi]; rfl), fun i hi => h i (by rw [Nat.testBit_or, hi, Bool.or_true])⟩

theorem meet_bound (a b c : Nat) : (subB c a && subB c b) = subB c (a &&& b) := by
  apply bool_iff
  rw [Bool.and_eq_true, subB_iff, subB_iff, subB_iff]
  constructor
  · intro ⟨h, k⟩ i hi
    rw [Nat.testBit_and, h i hi, k i hi]
    rfl
  · intro h
    refine ⟨fun i hi => ?_, fun i hi => ?_⟩
    · have := h i hi
      rw [Nat.testBit_and] at this
      exact (Bool.and_eq_true_iff.1 this).1
    · have := h i hi
      rw [Nat.testBit_and] at this
      exact (Bool.and_eq_true_iff.1 this).2

theorem or_lt {a b : Nat} (ha : a < 18446744073709551616) (hb : b < 18446744073709551616) : a ||| b < 18446744073709551616 := Nat.or_lt_two_pow (n := 64) ha hb
theorem and_lt {a b : Nat} (ha : a < 18446744073709551616) : a &&& b < 18446744073709551616 := Nat.lt_of_le_of_lt Nat.and_le_left ha
end Go.Proofs.YtnlgfiffhahpfaaGreatDoor.Ef
