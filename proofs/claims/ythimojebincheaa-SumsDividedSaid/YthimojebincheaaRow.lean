/- Numbers and rows of bits alone: the row of bytes' bits, divided bit by bit, leaves what the steps leave. No condition but sizes. -/
import Derived.Test.YthimojebincheaaCrc
namespace Go.Proofs.Ythimojebincheaa

/-- The bits of bytes, the lowest of each first; noughts behind. -/
def raw (l : List UInt8) (j : Nat) : Bool := match l[j / 8]? with
  | some c => c.toNat.testBit (j % 8)
  | none => false

/-- What is left when j bits are divided. -/
def st (s : Nat) (l : List UInt8) : Nat → Nat
  | 0 => s
  | j + 1 => bs (st s l j ^^^ (raw l j).toNat)

theorem st_lt {s : Nat} (l : List UInt8) (h : s < 4294967296) : ∀ j, st s l j < 4294967296
  | 0 => h
  | j + 1 => bs_lt (xor_lt (st_lt l h j) (by cases raw l j <;> decide))

theorem bs_in (s d : Nat) : bs (s ^^^ d) = bs (s ^^^ d % 2) ^^^ d / 2 := by
  rw [bs_xor, bs_xor, bs_split d, Nat.xor_assoc, Nat.xor_comm (bs (d % 2))]

theorem raw_at (l : List UInt8) (k i : Nat) (hk : k < l.length) (hi : i < 8) : (raw l (8 * k + i)).toNat = l[k].toNat / 2 ^ i % 2 := by
  have e1 : (8 * k + i) / 8 = k := by omega
  have e2 : (8 * k + i) % 8 = i := by omega
  unfold raw
  rw [e1, e2, List.getElem?_eq_getElem hk]
  simp only [Nat.testBit, Nat.shiftRight_eq_div_pow, Nat.one_and_eq_mod_two]
  rcases Nat.mod_two_eq_zero_or_one (l[k].toNat / 2 ^ i) with h | h <;> rw [h] <;> rfl

theorem st_byte (s : Nat) (l : List UInt8) (k : Nat) (hk : k < l.length) : ∀ i, i ≤ 8 → it (8 - i) (st s l (8 * k + i) ^^^ l[k].toNat / 2 ^ i) = bt (st s l (8 * k)) l[k].toNat
  | 0, _ => by
    rw [Nat.pow_zero, Nat.div_one, Nat.add_zero]
    rfl
  | i + 1, h => by
    rw [← st_byte s l k hk i (by omega), show 8 - i = (8 - (i + 1)) + 1 by omega]
    show _ = it (8 - (i + 1)) (bs _)
    rw [bs_in, ← raw_at l k i hk (by omega), Nat.div_div_eq_div_mul, ← Nat.pow_succ]
    rfl

theorem st_bytes (s : Nat) (l : List UInt8) : ∀ k, k ≤ l.length → st s l (8 * k) = crc s (l.take k)
  | 0, _ => rfl
  | k + 1, h => by
    have e := st_byte s l k (by omega) 8 (by omega)
    have hc := byte_lt l[k]
    rw [Nat.sub_self, show l[k].toNat / 2 ^ 8 = 0 by omega, Nat.xor_zero] at e
    rw [show 8 * (k + 1) = 8 * k + 8 by omega, List.take_succ_eq_append_getElem (by omega), crc_append, ← st_bytes s l k (by omega)]
    exact e

theorem st_all (s : Nat) (l : List UInt8) : st s l (8 * l.length) = crc s l := by
  rw [st_bytes s l _ (Nat.le_refl _), List.take_length]

theorem bs_bit (x i : Nat) : (bs x).testBit i = (x.testBit (i + 1) ^^ (decide (x % 2 = 1) && dv.testBit i)) := by
  unfold bs
  split
  · rename_i h
    rw [Nat.testBit_xor, ← Nat.testBit_succ, decide_eq_true h, Bool.true_and]
  · rename_i h
    rw [← Nat.testBit_succ, decide_eq_false h, Bool.false_and, Bool.xor_false]

theorem bit_zero (x : Nat) : x.testBit 0 = decide (x % 2 = 1) := Nat.testBit_zero x

/-- The row at a place: from there on it is the bits, and what is left ahead of them. -/
def RowIs (R : Nat → Bool) (l : List UInt8) (x i : Nat) : Prop := ∀ j, i ≤ j → R j = (raw l j ^^ x.testBit (j - i))

theorem RowIs.bit {R : Nat → Bool} {l : List UInt8} {x i : Nat} (h : RowIs R l x i) : R i = decide ((x ^^^ (raw l i).toNat) % 2 = 1) := by
  rw [h i (Nat.le_refl _), Nat.sub_self, ← bit_zero, Nat.testBit_xor, Bool.xor_comm]
  cases raw l i <;> rfl

theorem bool_bit (b : Bool) (i : Nat) : b.toNat.testBit (i + 1) = false := by
  cases b
  · exact Nat.zero_testBit _
  · rw [Nat.testBit_succ]
    exact Nat.zero_testBit _

theorem RowIs.zero {R : Nat → Bool} {l : List UInt8} {s i : Nat} (h : RowIs R l (st s l i) i) (h0 : R i = false) : RowIs R l (st s l (i + 1)) (i + 1) := by
  intro j hj
  have hb := h.bit
  rw [h0] at hb
  rw [h j (by omega)]
  show _ = (_ ^^ (bs _).testBit _)
  rw [bs_bit, ← hb, Bool.false_and, Bool.xor_false, Nat.testBit_xor, show j - (i + 1) + 1 = j - i by omega, show j - i = (j - i - 1) + 1 by omega, bool_bit, Bool.xor_false]

theorem RowIs.one {R R' : Nat → Bool} {l : List UInt8} {s i : Nat} (h : RowIs R l (st s l i) i) (h1 : R i = true) (hR : ∀ j, i < j → R' j = (R j ^^ dv.testBit (j - i - 1))) : RowIs R' l (st s l (i + 1)) (i + 1) := by
  intro j hj
  have hb := h.bit
  rw [h1] at hb
  rw [hR j (by omega), h j (by omega)]
  show _ = (_ ^^ (bs _).testBit _)
  rw [bs_bit, ← hb, Bool.true_and, Nat.testBit_xor, show j - (i + 1) + 1 = j - i by omega, show j - (i + 1) = j - i - 1 by omega, show (raw l i).toNat.testBit (j - i) = false by rw [show j - i = (j - i - 1) + 1 by omega, bool_bit], Bool.xor_false, Bool.xor_assoc]

/-- Turned where the sum has a 0. -/
theorem not_bit {x : Nat} (h : x < 4294967296) (j : Nat) : (4294967295 - x).testBit j = (decide (j < 32) && !x.testBit j) := by
  have := Nat.testBit_two_pow_sub_succ (x := x) (n := 32) h j
  rw [← this]
  congr 1
  omega

theorem dv_none (j : Nat) (h : 32 ≤ j) : dv.testBit j = false := Nat.testBit_lt_two_pow (Nat.lt_of_lt_of_le (show dv < 2 ^ 32 by decide) (Nat.pow_le_pow_right (by decide) h))

/-- The divisor's bits as a text. -/
def dvText : ByteArray := ⟨#[48, 48, 48, 48, 48, 49, 48, 48, 49, 49, 48, 48, 48, 48, 48, 49, 48, 48, 48, 49, 49, 49, 48, 49, 49, 48, 49, 49, 48, 49, 49, 49]⟩
theorem dv_text : ∀ i : Fin 32, (dvText.data[i.val]!.toNat = if dv.testBit i.val then 49 else 48) := by decide

/-- Half a number's bits from the top. -/
theorem back_bit {y k : Nat} : y / 2 ^ k = 2 * (y / 2 ^ (k + 1)) + (y.testBit k).toNat := by
  have h1 : y / 2 ^ (k + 1) = y / 2 ^ k / 2 := by rw [Nat.pow_succ, Nat.div_div_eq_div_mul]
  rw [h1]
  have h2 : (y.testBit k).toNat = y / 2 ^ k % 2 := by
    simp only [Nat.testBit, Nat.shiftRight_eq_div_pow, Nat.one_and_eq_mod_two]
    rcases Nat.mod_two_eq_zero_or_one (y / 2 ^ k) with h | h <;> rw [h] <;> rfl
  rw [h2]
  omega

end Go.Proofs.Ythimojebincheaa
