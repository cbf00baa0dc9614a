/- Numbers alone: one step of the division, many steps, a byte, bytes; that steps go bit by bit, tell apart, and go back. No condition but sizes. -/
namespace Go.Proofs.Ythimojebincheaa

/-- The divisor's bits behind its first one, the first of them lowest. -/
def dv : Nat := 3988292384

/-- One bit is divided. -/
def bs (x : Nat) : Nat := if x % 2 = 1 then x / 2 ^^^ dv else x / 2

/-- k bits are divided. -/
def it : Nat → Nat → Nat
  | 0, x => x
  | k + 1, x => it k (bs x)

theorem dv_lt : dv < 4294967296 := by decide

theorem xor_lt {a b : Nat} (ha : a < 4294967296) (hb : b < 4294967296) : a ^^^ b < 4294967296 :=
  Nat.xor_lt_two_pow (n := 32) ha hb

theorem bs_lt {x : Nat} (h : x < 4294967296) : bs x < 4294967296 := by
  unfold bs
  split
  · exact xor_lt (by omega) dv_lt
  · omega

theorem it_lt : ∀ (k : Nat) {x : Nat}, x < 4294967296 → it k x < 4294967296
  | 0, _, h => h
  | k + 1, _, h => it_lt k (bs_lt h)

theorem xor_div (a b : Nat) : (a ^^^ b) / 2 = a / 2 ^^^ b / 2 := Nat.xor_div_two

theorem xor_mod (a b : Nat) : (a ^^^ b) % 2 = (a + b) % 2 := by
  have h1 : (a ^^^ b) % 2 = (a % 2 ^^^ b % 2) := Nat.xor_mod_two_pow (n := 1)
  rw [h1]
  rcases Nat.mod_two_eq_zero_or_one a with ha | ha <;> rcases Nat.mod_two_eq_zero_or_one b with hb | hb <;> rw [ha, hb] <;> simp <;> omega

theorem xor4 (a b c d : Nat) : (a ^^^ b) ^^^ (c ^^^ d) = (a ^^^ c) ^^^ (b ^^^ d) := by
  rw [Nat.xor_assoc, Nat.xor_assoc, ← Nat.xor_assoc b, Nat.xor_comm b c, Nat.xor_assoc]

theorem xor_back (a b : Nat) : a ^^^ b ^^^ b = a := by rw [Nat.xor_assoc, Nat.xor_self, Nat.xor_zero]

theorem xor_none {a b : Nat} (h : a ^^^ b = 0) : a = b := by rw [← xor_back a b, h, Nat.zero_xor]

theorem bs_xor (x y : Nat) : bs (x ^^^ y) = bs x ^^^ bs y := by
  have h := xor_mod x y
  unfold bs
  rw [xor_div]
  rcases Nat.mod_two_eq_zero_or_one x with hx | hx <;> rcases Nat.mod_two_eq_zero_or_one y with hy | hy
  · rw [if_neg (by omega), if_neg (by omega), if_neg (by omega)]
  · rw [if_pos (by omega), if_neg (by omega), if_pos (by omega), Nat.xor_assoc]
  · rw [if_pos (by omega), if_pos (by omega), if_neg (by omega), Nat.xor_assoc, Nat.xor_comm (y / 2), Nat.xor_assoc]
  · rw [if_neg (by omega), if_pos (by omega), if_pos (by omega), xor4, Nat.xor_self, Nat.xor_zero]

theorem it_xor : ∀ (k x y : Nat), it k (x ^^^ y) = it k x ^^^ it k y
  | 0, _, _ => rfl
  | k + 1, x, y => by
    show it k (bs (x ^^^ y)) = it k (bs x) ^^^ it k (bs y)
    rw [bs_xor, it_xor k]

theorem it_add : ∀ (j k x : Nat), it (j + k) x = it k (it j x)
  | 0, k, x => by rw [Nat.zero_add]; rfl
  | j + 1, k, x => by
    rw [show j + 1 + k = (j + k) + 1 by omega]
    show it (j + k) (bs x) = it k (it j (bs x))
    exact it_add j k (bs x)

theorem bs_zero : bs 0 = 0 := rfl
theorem it_zero : ∀ k, it k 0 = 0
  | 0 => rfl
  | k + 1 => it_zero k

theorem bs_split (x : Nat) : bs x = x / 2 ^^^ bs (x % 2) := by
  unfold bs
  rcases Nat.mod_two_eq_zero_or_one x with h | h
  · rw [if_neg (by omega), if_neg (by omega), h, Nat.zero_div, Nat.xor_zero]
  · rw [if_pos h, if_pos (by omega), h, show 1 / 2 = 0 from rfl, Nat.zero_xor]

theorem it_split : ∀ (k x : Nat), it k x = x / 2 ^ k ^^^ it k (x % 2 ^ k)
  | 0, x => by
    rw [Nat.pow_zero, Nat.mod_one, it_zero, Nat.xor_zero, Nat.div_one]
    rfl
  | k + 1, x => by
    have e1 : x % 2 ^ (k + 1) / 2 = x / 2 % 2 ^ k := by
      rw [Nat.pow_succ, Nat.mul_comm, Nat.mod_mul, Nat.add_mul_div_left _ _ (by decide : 0 < 2), Nat.div_eq_of_lt (Nat.mod_lt _ (by decide)), Nat.zero_add]
    have e2 : x % 2 ^ (k + 1) % 2 = x % 2 := by
      rw [Nat.pow_succ, Nat.mul_comm, Nat.mod_mul_right_mod]
    show it k (bs x) = _ ^^^ it k (bs (x % 2 ^ (k + 1)))
    rw [bs_split x, bs_split (x % 2 ^ (k + 1)), e1, e2, it_xor, it_xor, it_split k (x / 2), Nat.xor_assoc, Nat.div_div_eq_div_mul, ← Nat.pow_succ']

theorem it_shift (k y : Nat) : it k (2 ^ k * y) = y := by
  rw [it_split, Nat.mul_div_cancel_left _ (Nat.two_pow_pos k), Nat.mul_mod_right, it_zero, Nat.xor_zero]

/-- Dividing tells apart. -/
theorem bs_none {x : Nat} (h : x < 4294967296) (e : bs x = 0) : x = 0 := by
  unfold bs at e
  split at e
  · have : x / 2 = dv := xor_none e
    unfold dv at this
    omega
  · omega

theorem it_none : ∀ (k : Nat) {x : Nat}, x < 4294967296 → it k x = 0 → x = 0
  | 0, _, _, e => e
  | k + 1, _, h, e => bs_none h (it_none k (bs_lt h) e)

theorem it_inj (k : Nat) {x y : Nat} (hx : x < 4294967296) (hy : y < 4294967296) (e : it k x = it k y) : x = y :=
  xor_none (it_none k (xor_lt hx hy) (by rw [it_xor, e, Nat.xor_self]))

/-- One bit back. -/
def bk (x : Nat) : Nat := if 2147483648 ≤ x then (x ^^^ dv) * 2 + 1 else x * 2

theorem top_xor {x : Nat} (h0 : 2147483648 ≤ x) (h : x < 4294967296) : x ^^^ dv < 2147483648 := by
  have e : (x ^^^ dv) >>> 31 = x >>> 31 ^^^ dv >>> 31 := Nat.shiftRight_xor_distrib
  rw [Nat.shiftRight_eq_div_pow, Nat.shiftRight_eq_div_pow, Nat.shiftRight_eq_div_pow] at e
  have h1 : x / 2 ^ 31 = 1 := by omega
  rw [h1, show dv / 2 ^ 31 = 1 from rfl, Nat.xor_self] at e
  omega

theorem bk_lt {x : Nat} (h : x < 4294967296) : bk x < 4294967296 := by
  unfold bk
  split
  · have := top_xor (by assumption) h
    omega
  · omega

theorem bs_bk {x : Nat} : bs (bk x) = x := by
  unfold bk
  split
  · unfold bs
    rw [if_pos (by omega), show ((x ^^^ dv) * 2 + 1) / 2 = x ^^^ dv by omega, xor_back]
  · unfold bs
    rw [if_neg (by omega)]
    omega

/-- k bits back. -/
def bki : Nat → Nat → Nat
  | 0, x => x
  | k + 1, x => bki k (bk x)

theorem bki_lt : ∀ (k : Nat) {x : Nat}, x < 4294967296 → bki k x < 4294967296
  | 0, _, h => h
  | k + 1, _, h => bki_lt k (bk_lt h)

theorem it_bki : ∀ (k x : Nat), it k (bki k x) = x
  | 0, _ => rfl
  | k + 1, x => by
    have e : it (k + 1) (bki k (bk x)) = bs (it k (bki k (bk x))) := by
      rw [it_add k 1]
      rfl
    show it (k + 1) (bki k (bk x)) = x
    rw [e, it_bki k, bs_bk]

/-- A byte is divided. -/
def bt (s c : Nat) : Nat := it 8 (s ^^^ c)

/-- Bytes are divided. -/
def crc (s : Nat) (l : List UInt8) : Nat := l.foldl (fun s c => bt s c.toNat) s

theorem byte_lt (c : UInt8) : c.toNat < 256 := by have := c.toNat_lt; omega

theorem bt_lt {s : Nat} (c : UInt8) (h : s < 4294967296) : bt s c.toNat < 4294967296 :=
  it_lt 8 (xor_lt h (by have := byte_lt c; omega))

theorem crc_lt : ∀ (l : List UInt8) {s : Nat}, s < 4294967296 → crc s l < 4294967296
  | [], _, h => h
  | c :: l, _, h => crc_lt l (bt_lt c h)

theorem crc_append (s : Nat) (l m : List UInt8) : crc s (l ++ m) = crc (crc s l) m := List.foldl_append

theorem crc_inj : ∀ (l : List UInt8) {s t : Nat}, s < 4294967296 → t < 4294967296 → crc s l = crc t l → s = t
  | [], _, _, _, _, e => e
  | c :: l, s, t, hs, ht, e => by
    have h1 := crc_inj l (bt_lt c hs) (bt_lt c ht) e
    have hc : c.toNat < 4294967296 := by have := byte_lt c; omega
    have h2 := it_inj 8 (xor_lt hs hc) (xor_lt ht hc) h1
    rw [← xor_back s c.toNat, h2, xor_back]

/-- What On answers. -/
def sumOf (s : Nat) (l : List UInt8) : Nat := 4294967295 - crc (4294967295 - s) l

theorem sumOf_lt (s : Nat) (l : List UInt8) : sumOf s l < 4294967296 := by unfold sumOf; omega

theorem sumOf_nil {s : Nat} (h : s < 4294967296) : sumOf s [] = s := by
  show 4294967295 - (4294967295 - s) = s
  omega

theorem sumOf_inj {a b : Nat} (l : List UInt8) (ha : a < 4294967296) (hb : b < 4294967296) : sumOf a l = sumOf b l ↔ a = b := by
  refine ⟨fun e => ?_, fun e => by rw [e]⟩
  have h1 := crc_lt l (s := 4294967295 - a) (by omega)
  have h2 := crc_lt l (s := 4294967295 - b) (by omega)
  unfold sumOf at e
  have := crc_inj l (by omega) (by omega) (show crc (4294967295 - a) l = crc (4294967295 - b) l by omega)
  omega

/-- A half of a byte, as the program divides it: by what is left of each of the sixteen. -/
def hstep (s h : Nat) : Nat := s / 16 ^^^ it 4 ((s ^^^ h) % 16)

theorem hstep_eq (s : Nat) {h : Nat} (hh : h < 16) : hstep s h = it 4 (s ^^^ h) := by
  have e : (s ^^^ h) / 16 = s / 16 := by
    have := Nat.shiftRight_xor_distrib (a := s) (b := h) (i := 4)
    rw [Nat.shiftRight_eq_div_pow, Nat.shiftRight_eq_div_pow, Nat.shiftRight_eq_div_pow, show h / 2 ^ 4 = 0 by omega, Nat.xor_zero] at this
    exact this
  rw [it_split 4, show 2 ^ 4 = 16 from rfl, e]
  rfl

theorem hstep_byte (s : Nat) {c : Nat} (hc : c < 256) : hstep (hstep s (c % 16)) (c / 16) = bt s c := by
  rw [hstep_eq s (by omega), hstep_eq _ (by omega)]
  unfold bt
  rw [it_add 4 4]
  congr 1
  rw [it_xor, it_xor, it_split 4 c, show 2 ^ 4 = 16 from rfl, Nat.xor_assoc, Nat.xor_comm (it 4 (c % 16))]

theorem hstep_lt {s : Nat} (h : Nat) (hs : s < 4294967296) : hstep s h < 4294967296 :=
  xor_lt (by omega) (it_lt 4 (by omega))

/-- The halves of bytes, the lower one first. -/
def hv : List UInt8 → List UInt8
  | [] => []
  | c :: l => (c.toNat % 16).toUInt8 :: (c.toNat / 16).toUInt8 :: hv l

theorem u8_of {n : Nat} (h : n < 256) : n.toUInt8.toNat = n := by
  show (UInt8.ofNat n).toNat = n
  rw [UInt8.toNat_ofNat']
  exact Nat.mod_eq_of_lt h

theorem hv_crc : ∀ (l : List UInt8) (s : Nat), (hv l).foldl (fun s h => hstep s h.toNat) s = crc s l
  | [], _ => rfl
  | c :: l, s => by
    have hc := byte_lt c
    show (hv l).foldl _ (hstep (hstep s _) _) = crc (bt s c.toNat) l
    rw [u8_of (by omega), u8_of (by omega), hstep_byte s hc]
    exact hv_crc l _

theorem hv_append : ∀ (l m : List UInt8), hv (l ++ m) = hv l ++ hv m
  | [], _ => rfl
  | c :: l, m => by
    show _ :: _ :: hv (l ++ m) = _ :: _ :: (hv l ++ hv m)
    rw [hv_append l m]

theorem hv_length : ∀ (l : List UInt8), (hv l).length = 2 * l.length
  | [] => rfl
  | c :: l => by
    show (hv l).length + 1 + 1 = 2 * (l.length + 1)
    rw [hv_length l]
    omega

/-- Four bytes of a number. -/
def fourB (n : Nat) : List UInt8 := [(n % 256).toUInt8, (n / 256 % 256).toUInt8, (n / 65536 % 256).toUInt8, (n / 16777216 % 256).toUInt8]

theorem bt_in (s n : Nat) : it 8 (s ^^^ n) = bt s (n % 256) ^^^ n / 256 := by
  unfold bt
  rw [it_xor, it_xor, it_split 8 n, show 2 ^ 8 = 256 from rfl, Nat.xor_assoc, Nat.xor_comm (n / 256)]

theorem crc_four (s : Nat) {n : Nat} (h : n < 4294967296) : crc s (fourB n) = it 32 (s ^^^ n) := by
  show bt (bt (bt (bt s _) _) _) _ = _
  rw [u8_of (by omega), u8_of (by omega), u8_of (by omega), u8_of (by omega)]
  have a1 : n / 256 / 256 = n / 65536 := by omega
  have a2 : n / 65536 / 256 = n / 16777216 := by omega
  have a3 : n / 16777216 / 256 = 0 := by omega
  rw [it_add 8 24, bt_in s n, it_add 8 16, bt_in _ (n / 256), it_add 8 8, a1, bt_in _ (n / 65536), a2, bt_in _ (n / 16777216), a3, Nat.xor_zero]

/-- The number whose four bytes hit a sum. -/
theorem hit (s t n : Nat) (hs : s < 4294967296) (ht : t < 4294967296) (hn : n < 4294967296) : 4294967295 - crc s (fourB n) = t ↔ s ^^^ bki 32 (4294967295 - t) = n := by
  have hb := bki_lt 32 (x := 4294967295 - t) (by omega)
  have h0 := it_lt 32 (xor_lt hs hn)
  rw [crc_four s hn]
  constructor
  · intro e
    have e1 : it 32 (s ^^^ n) = it 32 (bki 32 (4294967295 - t)) := by rw [it_bki]; omega
    rw [← it_inj 32 (xor_lt hs hn) hb e1, ← Nat.xor_assoc, Nat.xor_self, Nat.zero_xor]
  · intro e
    rw [← e, ← Nat.xor_assoc, Nat.xor_self, Nat.zero_xor, it_bki]
    omega

/-- Two neighbours that change their places. -/
theorem swap2 (s x y : Nat) (hs : s < 4294967296) (hx : x < 256) (hy : y < 256) (e : bt (bt s x) y = bt (bt s y) x) : x = y := by
  unfold bt at e
  have e1 := it_inj 8 (xor_lt (it_lt 8 (xor_lt hs (by omega))) (by omega)) (xor_lt (it_lt 8 (xor_lt hs (by omega))) (by omega)) e
  rw [it_xor, it_xor, Nat.xor_assoc, Nat.xor_assoc] at e1
  have e2 : it 8 x ^^^ y = it 8 y ^^^ x := by
    have := congrArg (fun z => it 8 s ^^^ z) e1
    simpa only [← Nat.xor_assoc, Nat.xor_self, Nat.zero_xor] using this
  have hd : x ^^^ y < 256 := Nat.xor_lt_two_pow (n := 8) hx hy
  have e3 : it 8 (x ^^^ y) = x ^^^ y := by
    have a1 : it 8 x = it 8 y ^^^ x ^^^ y := by rw [← e2, xor_back]
    rw [it_xor, a1, Nat.xor_comm (it 8 y ^^^ x ^^^ y), Nat.xor_assoc, ← Nat.xor_assoc, Nat.xor_self, Nat.zero_xor]
  have e4 : x ^^^ y = 256 * (x ^^^ y) := it_inj 8 (by omega) (by omega) (by rw [e3]; exact (it_shift 8 (x ^^^ y)).symm)
  exact xor_none (by omega)

theorem crc_noughts : ∀ k, crc 0 (List.replicate k 0) = 0
  | 0 => rfl
  | k + 1 => crc_noughts k

theorem crc_255 : crc 4294967295 [255, 255, 255, 255] = 0 := by decide

end Go.Proofs.Ythimojebincheaa
