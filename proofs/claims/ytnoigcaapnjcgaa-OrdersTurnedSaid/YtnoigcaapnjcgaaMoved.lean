/- Rows whose labels are numbered anew, by how far they are moved: told the same. No condition but sizes. -/
import Derived.Test.YtnoigcaapnjcgaaTurned
namespace Go.Proofs.Ytnoigcaapnjcgaa

def pp (n m x : Nat) : Nat := (x + m) % n
def qq (n m x : Nat) : Nat := (x + (n - m)) % n

theorem mod_two {n y : Nat} (h : y < 2 * n) : y % n = if y < n then y else y - n := by
  split
  · exact Nat.mod_eq_of_lt (by omega)
  · rw [Nat.mod_eq_sub_mod (by omega), Nat.mod_eq_of_lt (by omega)]

theorem pp_eq {n m x : Nat} (hm : m < n) (hx : x < n) : pp n m x = if x + m < n then x + m else x + m - n := mod_two (by omega)
theorem qq_eq {n m x : Nat} (hm : m < n) (hx : x < n) : qq n m x = if x + (n - m) < n then x + (n - m) else x + (n - m) - n := mod_two (by omega)
theorem pp_lt {n m x : Nat} (h : 0 < n) : pp n m x < n := Nat.mod_lt _ h
theorem qq_lt {n m x : Nat} (h : 0 < n) : qq n m x < n := Nat.mod_lt _ h
theorem qq_pp {n m x : Nat} (hm : m < n) (hx : x < n) : qq n m (pp n m x) = x := by
  rw [qq_eq hm (pp_lt (by omega)), pp_eq hm hx]
  split <;> split <;> omega
theorem pp_qq {n m x : Nat} (hm : m < n) (hx : x < n) : pp n m (qq n m x) = x := by
  rw [pp_eq hm (qq_lt (by omega)), qq_eq hm hx]
  split <;> split <;> omega

theorem mk_ext {f g : Nat → Bool} {n : Nat} (h : ∀ z, z < n → f z = g z) : mk f n = mk g n := by
  apply Nat.eq_of_testBit_eq
  intro j
  rw [mk_bit, mk_bit]
  by_cases hj : j < n
  · rw [h j hj]
  · simp [hj]
theorem mk_none {f : Nat → Bool} {n : Nat} (h : ∀ z, z < n → f z = false) : mk f n = 0 := by
  apply Nat.eq_of_testBit_eq
  intro j
  rw [mk_bit, Nat.zero_testBit]
  by_cases hj : j < n
  · rw [h j hj, Bool.and_false]
  · simp [hj]

theorem bit_pow (b : Bool) (k j : Nat) : (b.toNat * 2 ^ k).testBit j = (b && decide (k = j)) := by
  cases b
  · simp
  · simp [Nat.testBit_two_pow]

/-- One bit more. -/
theorem mk_more {f g : Nat → Bool} {n Z : Nat} {b : Bool} (hZ : Z < n) (h1 : ∀ z, z < n → z ≠ Z → g z = f z) (h2 : g Z = (f Z || b)) : mk f n ||| b.toNat * 2 ^ Z = mk g n := by
  apply Nat.eq_of_testBit_eq
  intro j
  rw [Nat.testBit_or, mk_bit, mk_bit, bit_pow]
  by_cases e : j = Z
  · subst e
    simp [hZ, h2]
  · have e' : decide (Z = j) = false := by simp; omega
    rw [e', Bool.and_false, Bool.or_false]
    by_cases hj : j < n
    · rw [h1 j hj e]
    · simp [hj]

/-- Moved: rows below i are there, and of row i its bits below j. -/
def movF (l : List Nat) (m i j x z : Nat) : Bool := (decide (qq l.length m x < i) || (decide (qq l.length m x = i) && decide (qq l.length m z < j))) && bt l (qq l.length m x) (qq l.length m z)
def movI (l : List Nat) (m i j : Nat) : List Nat := (List.range l.length).map fun x => mk (movF l m i j x) l.length

theorem movI_len (l : List Nat) (m i j : Nat) : (movI l m i j).length = l.length := by simp [movI]
theorem movI_get (l : List Nat) (m i j x : Nat) (h : x < (movI l m i j).length) : (movI l m i j)[x] = mk (movF l m i j x) l.length := by simp [movI]

theorem movI_zero (l : List Nat) (m : Nat) : movI l m 0 0 = List.replicate l.length 0 := by
  apply List.ext_getElem (by simp [movI])
  intro x h1 h2
  rw [movI_get, List.getElem_replicate]
  exact mk_none fun z _ => by simp [movF]

theorem movI_row (l : List Nat) (m i : Nat) (hl : 0 < l.length) : movI l m i l.length = movI l m (i + 1) 0 := by
  apply List.ext_getElem (by simp [movI])
  intro x h1 h2
  rw [movI_get, movI_get]
  refine mk_ext fun z hz => ?_
  have hq := qq_lt (m := m) (x := z) hl
  unfold movF
  rw [decide_eq_true hq, Bool.and_true]
  by_cases h : qq l.length m x < i
  · simp [h, show qq l.length m x < i + 1 by omega]
  · by_cases e : qq l.length m x = i
    · simp [e]
    · simp [h, e, show ¬ qq l.length m x < i + 1 by omega]

theorem movI_fit (l : List Nat) (m i j : Nat) (hl : l.length ≤ 64) : Fit (movI l m i j) := by
  intro y hy
  obtain ⟨x, _, rfl⟩ := List.mem_map.1 hy
  refine Nat.lt_of_lt_of_le (mk_lt _ _) ?_
  show _ ≤ 2 ^ 64
  exact Nat.pow_le_pow_right (by decide) hl

theorem movI_step (l : List Nat) (m i j : Nat) (hm : m < l.length) (hi : i < l.length) (hj : j < l.length) (hX : pp l.length m i < (movI l m i j).length) :
    (movI l m i j).set (pp l.length m i) ((movI l m i j)[pp l.length m i] ||| (bt l i j).toNat * 2 ^ pp l.length m j) = movI l m i (j + 1) := by
  apply List.ext_getElem (by simp [movI])
  intro x h1 h2
  have hx : x < l.length := by simpa [movI] using h2
  by_cases e : x = pp l.length m i
  · subst e
    rw [List.getElem_set_self, movI_get, movI_get]
    refine mk_more (pp_lt (by omega)) (fun z hz hne => ?_) ?_
    · unfold movF
      rw [qq_pp hm hi]
      have : qq l.length m z ≠ j := fun e => hne (by rw [← e, pp_qq hm hz])
      rw [show decide (qq l.length m z < j + 1) = decide (qq l.length m z < j) from decide_eq_decide.2 (by omega)]
    · unfold movF
      rw [qq_pp hm hi, qq_pp hm hj]
      simp
  · rw [List.getElem_set_ne (fun h => e h.symm), movI_get, movI_get]
    refine mk_ext fun z _ => ?_
    unfold movF
    have : ¬ qq l.length m x = i := fun h => e (by rw [← h, pp_qq hm hx])
    simp [this]

theorem movI_bt (l : List Nat) (m : Nat) (i j : Nat) (hi : i < l.length) (hj : j < l.length) : bt (movI l m l.length 0) i j = bt l (qq l.length m i) (qq l.length m j) := by
  rw [bt_get (by rw [movI_len]; exact hi), movI_get, mk_bit]
  unfold movF
  simp [hj, qq_lt (m := m) (x := i) (show 0 < l.length by omega)]

theorem movI_small (l : List Nat) (m i j : Nat) : Small (movI l m i j) := by
  intro a b hb
  rw [movI_len] at hb
  by_cases ha : a < l.length
  · rw [bt_get (by rw [movI_len]; exact ha), movI_get, mk_bit]
    simp; omega
  · cases h : bt (movI l m i j) a b with
    | false => rfl
    | true => exact absurd (by have := bt_lt h; rwa [movI_len] at this) ha

/-- What Check tells of rows, it tells of them turned round, and moved. -/
theorem check_moved {l : List Nat} {m : Nat} (hk : Known l) (hm : m < l.length) : checkN (movI l m l.length 0) = checkN l := by
  have hk' : Known (movI l m l.length 0) := ⟨by rw [movI_len]; exact hk.1, movI_small _ _ _ _⟩
  exact (checkN_of ((checkN_is l).move (qq l.length m) (pp l.length m) (movI_len _ _ _ _) hk hk' (fun i _ => qq_lt (by omega)) (fun i _ => pp_lt (by omega)) (fun i hi => qq_pp hm hi) (fun i hi => pp_qq hm hi) fun i j hi hj => movI_bt l m i j hi hj)).symm

theorem check_turned {l : List Nat} (hk : Known l) : checkN (turnedN l) = checkN l := by
  have hk' : Known (turnedN l) := ⟨by rw [turnedN_len]; exact hk.1, turned_small⟩
  exact (checkN_of ((checkN_is l).turned (turnedN_len l) hk hk' fun i j hi _ => by rw [turnedN_bt, decide_eq_true hi, Bool.true_and])).symm

theorem turnI_step (l : List Nat) (i j : Nat) (hj : j < (turnI l i j).length) : (turnI l i j).set j ((turnI l i j)[j] ||| (bt l i j).toNat * 2 ^ i) = turnI l i (j + 1) := by
  cases h : bt l i j with
  | true => rw [turnI_yes l i j hj h]; simp
  | false =>
    rw [turnI_no l i j h]
    simp

end Go.Proofs.Ytnoigcaapnjcgaa
