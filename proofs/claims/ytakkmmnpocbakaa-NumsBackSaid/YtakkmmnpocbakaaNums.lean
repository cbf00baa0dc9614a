/- Plain facts on numbers' bytes: what is got of bytes, as a function on lists. No program, no memory. -/
import Derived.Lib.Varint
import Derived.Lib.VarintMem
import Derived.Laws.BitsAllLaws
import Derived.Laws.BitsLemmas
namespace Go.Proofs.Ytakkmmnpocbakaa

/-- What is got of bytes: the number, how many bytes it took, the error; i bytes have been read, their number is acc. -/
def getFrom : Nat → Nat → List UInt8 → Nat × Nat × Int
  | _, _, [] => (0, 0, 5)
  | i, acc, c :: r =>
    if (i = 9 ∧ 1 < c.toNat) ∨ (0 < i ∧ c.toNat = 0) then (0, 0, 4)
    else if c.toNat < 128 then (acc + c.toNat * 2 ^ (7 * i), i + 1, 0)
    else getFrom (i + 1) (acc + (c.toNat - 128) * 2 ^ (7 * i)) r

def getL (l : List UInt8) : Nat × Nat × Int := getFrom 0 0 l

theorem byte_lt (c : UInt8) : c.toNat < 256 := c.toBitVec.isLt

/-- The lowest seven bits. -/
theorem low7 (a : Int) (h0 : 0 ≤ a) (h1 : a < 256) : bits .andNot .u8 a 128 = a % 128 := by
  obtain ⟨n, rfl⟩ := Int.eq_ofNat_of_zero_le h0
  have h := u8_andNot_nat n 128 (by omega) (by decide)
  rw [show ((128 : Nat) : Int) = 128 from rfl] at h
  rw [h]
  have h2 : n &&& (255 - 128) = n % 2 ^ 7 := Nat.and_two_pow_sub_one_eq_mod n 7
  rw [h2]
  omega

/-- Bits beside bits. -/
theorem or_beside (acc m s : Nat) (ha : acc < 2 ^ s) (hb : acc + m * 2 ^ s < 18446744073709551616) : bits .or .u64 (acc : Int) ((m * 2 ^ s : Nat) : Int) = ((acc + m * 2 ^ s : Nat) : Int) := by
  rw [u64_or_nat acc (m * 2 ^ s) (by omega) (by omega)]
  congr 1
  have := Nat.two_pow_add_eq_or_of_lt ha m
  rw [Nat.or_comm, Nat.mul_comm m, ← this, Nat.add_comm]

theorem pow7_le (k : Nat) (h : k ≤ 9) : 2 ^ (7 * k) ≤ 9223372036854775808 := by
  have : (2 : Nat) ^ (7 * k) ≤ 2 ^ 63 := Nat.pow_le_pow_right (by decide) (by omega)
  exact Nat.le_trans this (by decide)

theorem pow7_succ (k : Nat) : 2 ^ (7 * (k + 1)) = 128 * 2 ^ (7 * k) := by
  rw [Nat.mul_add, Nat.pow_add, Nat.mul_comm]

/-- One more byte keeps within its bits. -/
theorem acc_next (acc m k : Nat) (ha : acc < 2 ^ (7 * k)) (hm : m < 128) : acc + m * 2 ^ (7 * k) < 2 ^ (7 * (k + 1)) := by
  rw [pow7_succ]
  have h : m * 2 ^ (7 * k) + 2 ^ (7 * k) ≤ 128 * 2 ^ (7 * k) := by
    rw [← Nat.succ_mul]
    exact Nat.mul_le_mul_right _ hm
  omega

theorem acc_64 (acc m k : Nat) (hk : k ≤ 9) (ha : acc < 2 ^ (7 * k)) (hm : m < 128) (h9 : k = 9 → m ≤ 1) : acc + m * 2 ^ (7 * k) < 18446744073709551616 := by
  by_cases h : k = 9
  · subst h
    have := h9 rfl
    have e : (2 : Nat) ^ (7 * 9) = 9223372036854775808 := by decide
    rw [e] at ha ⊢
    have : m * 9223372036854775808 ≤ 1 * 9223372036854775808 := Nat.mul_le_mul_right _ this
    omega
  · have h1 := acc_next acc m k ha hm
    have h2 := pow7_le (k + 1) (by omega)
    omega

/-- The shifted byte beside what is there: as the program computes it. -/
theorem or_shl (acc q k : Nat) (hk : k ≤ 9) (ha : acc < 2 ^ (7 * k)) (h9 : k = 9 → q % 128 ≤ 1) :
    bits .or .u64 (acc : Int) (IntKind.u64.wrap ((q : Int) % 128 * 2 ^ (7 * k))) = ((acc + q % 128 * 2 ^ (7 * k) : Nat) : Int) := by
  have hlt := acc_64 acc (q % 128) k hk ha (by omega) h9
  have e2 : (q : Int) % 128 * 2 ^ (7 * k) = ((q % 128 * 2 ^ (7 * k) : Nat) : Int) := by simp
  rw [e2]
  have e3 : IntKind.u64.wrap ((q % 128 * 2 ^ (7 * k) : Nat) : Int) = ((q % 128 * 2 ^ (7 * k) : Nat) : Int) := by
    rw [IntKind.wrap_u64]; omega
  rw [e3]
  exact or_beside acc (q % 128) (7 * k) ha hlt

/-- The number of four bytes. -/
def unfour (a b c d : Nat) : Nat := a + b * 256 + c * 65536 + d * 16777216

theorem or32 (a m s : Nat) (ha : a < 2 ^ s) (hb : a + m * 2 ^ s < 4294967296) : bits .or .u32 (a : Int) ((m * 2 ^ s : Nat) : Int) = ((a + m * 2 ^ s : Nat) : Int) := by
  rw [u32_or_nat a (m * 2 ^ s) (by omega) (by omega)]
  congr 1
  have := Nat.two_pow_add_eq_or_of_lt ha m
  rw [Nat.or_comm, Nat.mul_comm m, ← this, Nat.add_comm]

theorem or_four (a b c d : Nat) (ha : a < 256) (hb : b < 256) (hc : c < 256) (hd : d < 256) :
    bits .or .u32 (bits .or .u32 (bits .or .u32 (a : Int) ((b : Int) * 256)) ((c : Int) * 65536)) ((d : Int) * 16777216) = ((unfour a b c d : Nat) : Int) := by
  have e1 := or32 a b 8 ha (by omega)
  have e2 := or32 (a + b * 256) c 16 (by omega) (by omega)
  have e3 := or32 (a + b * 256 + c * 65536) d 24 (by omega) (by omega)
  have f1 : ((b * 2 ^ 8 : Nat) : Int) = (b : Int) * 256 := by rw [Int.natCast_mul]; simp
  have f2 : ((c * 2 ^ 16 : Nat) : Int) = (c : Int) * 65536 := by rw [Int.natCast_mul]; simp
  have f3 : ((d * 2 ^ 24 : Nat) : Int) = (d : Int) * 16777216 := by rw [Int.natCast_mul]; simp
  rw [f1] at e1
  rw [f2] at e2
  rw [f3] at e3
  rw [e1, e2, e3]
  rfl

theorem pow_split (i : Nat) (h : i ≤ 8) : 2 ^ (64 - 7 * i) = 128 * 2 ^ (64 - 7 * (i + 1)) := by
  rw [show 64 - 7 * i = 7 + (64 - 7 * (i + 1)) by omega, Nat.pow_add]

/-- What is got: its own bytes are the beginning. -/
theorem getFrom_ok : ∀ (l : List UInt8) (i acc m k : Nat), i ≤ 9 → getFrom i acc l = (m, k, 0) →
    ∃ y, m = acc + y * 2 ^ (7 * i) ∧ k = i + (Lib.uvarint y).length ∧ (∃ r, l = Lib.uvarint y ++ r) ∧ y < 2 ^ (64 - 7 * i) ∧ (0 < i → 0 < y)
  | [], i, acc, m, k, _, h => by
    rw [getFrom] at h
    injection h with _ h
    injection h with _ h
    exact absurd h (by decide)
  | c :: r, i, acc, m, k, hi, h => by
    rw [getFrom] at h
    by_cases h4 : (i = 9 ∧ 1 < c.toNat) ∨ (0 < i ∧ c.toNat = 0)
    · rw [if_pos h4] at h
      injection h with _ h
      injection h with _ h
      exact absurd h (by decide)
    · rw [if_neg h4] at h
      by_cases h7 : c.toNat < 128
      · rw [if_pos h7] at h
        injection h with h1 h
        injection h with h2 _
        refine ⟨c.toNat, h1.symm, ?_, ⟨r, ?_⟩, ?_, ?_⟩
        · rw [Lib.uvarint_small h7, ← h2]
          rfl
        · rw [Lib.uvarint_small h7]
          simp
        · by_cases h9 : i = 9
          · subst h9
            have : ¬ 1 < c.toNat := fun h => h4 (.inl ⟨rfl, h⟩)
            have e : (2 : Nat) ^ (64 - 7 * 9) = 2 := by decide
            omega
          · have : (2 : Nat) ^ 7 ≤ 2 ^ (64 - 7 * i) := Nat.pow_le_pow_right (by decide) (by omega)
            have e : (2 : Nat) ^ 7 = 128 := by decide
            omega
        · intro h0
          have : ¬ c.toNat = 0 := fun h => h4 (.inr ⟨h0, h⟩)
          omega
      · rw [if_neg h7] at h
        have hc := byte_lt c
        by_cases h9 : i = 9
        · exact absurd (.inl ⟨h9, by omega⟩) h4
        · obtain ⟨y, h1, h2, ⟨q, h3⟩, h5, h6⟩ := getFrom_ok r (i + 1) _ m k (by omega) h
          have hy := h6 (by omega)
          have hm : (c.toNat - 128 + 128 * y) % 128 + 128 = c.toNat := by omega
          have hd : (c.toNat - 128 + 128 * y) / 128 = y := by omega
          have hu : Lib.uvarint (c.toNat - 128 + 128 * y) = c :: Lib.uvarint y := by
            rw [Lib.uvarint_big (by omega), hm, hd]
            simp
          refine ⟨c.toNat - 128 + 128 * y, ?_, ?_, ⟨q, ?_⟩, ?_, by omega⟩
          · rw [h1, pow7_succ, Nat.add_mul, Nat.add_assoc, Nat.mul_left_comm y, Nat.mul_assoc]
          · rw [hu, h2, List.length_cons]
            omega
          · rw [hu, h3]
            rfl
          · rw [pow_split i (by omega)]
            omega

/-- What is put is got, whatever stands behind it. -/
theorem getFrom_put (r : List UInt8) : ∀ (d i acc y : Nat), i + d = 9 → y < 2 ^ (64 - 7 * i) → (0 < i → 0 < y) → getFrom i acc (Lib.uvarint y ++ r) = (acc + y * 2 ^ (7 * i), i + (Lib.uvarint y).length, 0) := by
  have small : ∀ (i acc y : Nat), y < 128 → y < 2 ^ (64 - 7 * i) → (0 < i → 0 < y) → getFrom i acc (Lib.uvarint y ++ r) = (acc + y * 2 ^ (7 * i), i + (Lib.uvarint y).length, 0) := by
    intro i acc y h hy h0
    rw [Lib.uvarint_small h]
    simp only [List.cons_append, List.nil_append, getFrom]
    rw [Lib.toUInt8_toNat (by omega)]
    rw [if_neg ?_, if_pos h]
    · rfl
    · rintro (⟨rfl, h1⟩ | ⟨h1, h2⟩)
      · have e : (2 : Nat) ^ (64 - 7 * 9) = 2 := by decide
        omega
      · have := h0 h1
        omega
  intro d
  induction d with
  | zero =>
    intro i acc y hi hy h0
    have hi9 : i = 9 := by omega
    refine small i acc y ?_ hy h0
    subst hi9
    have e : (2 : Nat) ^ (64 - 7 * 9) = 2 := by decide
    omega
  | succ d ih =>
    intro i acc y hi hy h0
    by_cases h : y < 128
    · exact small i acc y h hy h0
    · rw [Lib.uvarint_big (by omega)]
      simp only [List.cons_append, getFrom]
      rw [Lib.toUInt8_toNat (by omega), if_neg (by omega), if_neg (by omega), show y % 128 + 128 - 128 = y % 128 by omega, ih (i + 1) _ (y / 128) (by omega) (by rw [pow_split i (by omega)] at hy; omega) (fun _ => by omega)]
      simp only [List.length_cons, Prod.mk.injEq, and_true]
      constructor
      · rw [pow7_succ, Nat.add_assoc, Nat.mul_left_comm, ← Nat.mul_assoc, ← Nat.add_mul]
        congr 2
        omega
      · omega

/-- Cut, it is too short. -/
theorem getFrom_cut : ∀ (d i acc y j : Nat), i + d = 9 → y < 2 ^ (64 - 7 * i) → j < (Lib.uvarint y).length → getFrom i acc ((Lib.uvarint y).take j) = (0, 0, 5) := by
  have small : ∀ (i acc y j : Nat), y < 128 → j < (Lib.uvarint y).length → getFrom i acc ((Lib.uvarint y).take j) = (0, 0, 5) := by
    intro i acc y j h hj
    rw [Lib.uvarint_small h] at hj ⊢
    have : j = 0 := by simpa using hj
    subst this
    rfl
  intro d
  induction d with
  | zero =>
    intro i acc y j hi hy hj
    have hi9 : i = 9 := by omega
    refine small i acc y j ?_ hj
    subst hi9
    have e : (2 : Nat) ^ (64 - 7 * 9) = 2 := by decide
    omega
  | succ d ih =>
    intro i acc y j hi hy hj
    by_cases h : y < 128
    · exact small i acc y j h hj
    · rw [Lib.uvarint_big (by omega)] at hj ⊢
      rcases j with _ | j
      · rfl
      · simp only [List.take_succ_cons, getFrom]
        rw [Lib.toUInt8_toNat (by omega), if_neg (by omega), if_neg (by omega), ih (i + 1) _ (y / 128) j (by omega) (by rw [pow_split i (by omega)] at hy; omega) (by simpa using hj)]

/-- An error: nothing is got. -/
theorem getFrom_err : ∀ (l : List UInt8) (i acc m k : Nat) (e : Int), getFrom i acc l = (m, k, e) → e ≠ 0 → m = 0 ∧ k = 0 ∧ (e = 4 ∨ e = 5)
  | [], i, acc, m, k, e, h, _ => by
    rw [getFrom] at h
    injection h with h1 h
    injection h with h2 h
    exact ⟨h1.symm, h2.symm, .inr h.symm⟩
  | c :: r, i, acc, m, k, e, h, he => by
    rw [getFrom] at h
    split at h
    · injection h with h1 h
      injection h with h2 h
      exact ⟨h1.symm, h2.symm, .inl h.symm⟩
    · split at h
      · injection h with _ h
        injection h with _ h
        exact absurd h.symm he
      · exact getFrom_err r _ _ m k e h he

theorem two64 : (2 : Nat) ^ (64 - 7 * 0) = 18446744073709551616 := by decide

theorem getL_ok {l : List UInt8} {m k : Nat} (h : getL l = (m, k, 0)) : k = (Lib.uvarint m).length ∧ (∃ r, l = Lib.uvarint m ++ r) ∧ m < 18446744073709551616 := by
  obtain ⟨y, h1, h2, h3, h4, _⟩ := getFrom_ok l 0 0 m k (by decide) h
  have : m = y := by rw [h1]; simp
  subst this
  rw [two64] at h4
  exact ⟨by omega, h3, h4⟩

theorem getL_put (m : Nat) (r : List UInt8) (h : m < 18446744073709551616) : getL (Lib.uvarint m ++ r) = (m, (Lib.uvarint m).length, 0) := by
  have := getFrom_put r 9 0 0 m rfl (by rw [two64]; exact h) (fun h => absurd h (by decide))
  rw [getL, this]
  simp

theorem getL_cut (m j : Nat) (h : m < 18446744073709551616) (hj : j < (Lib.uvarint m).length) : getL ((Lib.uvarint m).take j) = (0, 0, 5) :=
  getFrom_cut 9 0 0 m j rfl (by rw [two64]; exact h) hj

theorem getL_err {l : List UInt8} {m k : Nat} {e : Int} (h : getL l = (m, k, e)) (he : e ≠ 0) : m = 0 ∧ k = 0 ∧ (e = 4 ∨ e = 5) := getFrom_err l 0 0 m k e h he

end Go.Proofs.Ytakkmmnpocbakaa
