/- Texts as lists of bytes: how they lie in a cell, what the tests of Go say of them; the texts sorted, each once: rising, the same texts, one list for each set. No condition. -/
import Derived.Test.YtkjeejaecagbaaaGreatDoorVals
import Derived.Sort.Walk0
import Derived.Sort.EncStr
import Derived.Lib.SlicesCompact
import Derived.Lib.RowBridge
namespace Go.Proofs.YtkjeejaecagbaaaGreatDoor
open Go.RowKit

/-- The text of bytes. -/
def str (l : List UInt8) : ByteArray := ⟨l.toArray⟩
/-- .. in a cell. -/
def txt (l : List UInt8) : Value := .string (str l)

theorem str_size (l : List UInt8) : (str l).size = l.length := rfl
theorem str_data (l : List UInt8) : (str l).data.toList = l := by simp [str]
theorem txt_enc : txt = encStr := rfl
theorem txt_one (l : List UInt8) : (txt l).oneCell' = true := rfl
theorem str_list (l : List UInt8) : (str l).toList = l := by rw [Lib.toList_data, str_data]
theorem str_of (s : ByteArray) : str s.data.toList = s := by cases s; simp [str]

theorem less_str (a b : List UInt8) : Op.bytesLess (str a).toList (str b).toList = decide (a < b) := by rw [bytesLess_eq, str_list, str_list]
theorem same_str (a b : List UInt8) : ((str a).toList == (str b).toList) = decide (a = b) := by rw [str_list, str_list]; by_cases h : a = b <;> simp [h]

/-! ### The order -/

theorem lt_irrefl' (a : List UInt8) : ¬ a < a := List.lt_irrefl a
theorem lt_trans' {a b c : List UInt8} (h : a < b) (k : b < c) : a < c := List.lt_trans h k
theorem lt_asymm' {a b : List UInt8} (h : a < b) : ¬ b < a := fun k => List.lt_irrefl a (List.lt_trans h k)
theorem lt_or {a b : List UInt8} : a < b ∨ a = b ∨ b < a := by
  by_cases h : a < b
  · exact .inl h
  · by_cases k : b < a
    · exact .inr (.inr k)
    · exact .inr (.inl (List.le_antisymm (List.not_lt.1 k) (List.not_lt.1 h)))

/-- Each is ahead of all that stand behind it. -/
abbrev Up (l : List (List UInt8)) : Prop := l.Pairwise (· < ·)

/-- Two that rise and have the same texts are the same. -/
theorem Up.eq : ∀ {l m : List (List UInt8)}, Up l → Up m → (∀ x, x ∈ l ↔ x ∈ m) → l = m
  | [], [], _, _, _ => rfl
  | [], b :: m, _, _, h => by have := (h b).2 List.mem_cons_self; cases this
  | a :: l, [], _, _, h => by have := (h a).1 List.mem_cons_self; cases this
  | a :: l, b :: m, hl, hm, h => by
    obtain ⟨h1, h2⟩ := List.pairwise_cons.1 hl
    obtain ⟨k1, k2⟩ := List.pairwise_cons.1 hm
    have e : a = b := by
      rcases List.mem_cons.1 ((h a).1 List.mem_cons_self) with e | ha
      · exact e
      · rcases List.mem_cons.1 ((h b).2 List.mem_cons_self) with e | hb
        · exact e.symm
        · exact absurd (k1 a ha) (lt_asymm' (h1 b hb))
    subst e
    rw [Up.eq h2 k2 fun x => ?_]
    constructor
    · intro hx
      rcases List.mem_cons.1 ((h x).1 (List.mem_cons_of_mem _ hx)) with e | hy
      · exact absurd (h1 x hx) (by rw [e]; exact lt_irrefl' a)
      · exact hy
    · intro hx
      rcases List.mem_cons.1 ((h x).2 (List.mem_cons_of_mem _ hx)) with e | hy
      · exact absurd (k1 x hx) (by rw [e]; exact lt_irrefl' a)
      · exact hy

/-- The texts, each once, rising. -/
def su (l : List (List UInt8)) : List (List UInt8) := Lib.compact (l.mergeSort fun x y => decide (x ≤ y))

theorem sorted_merge (l : List (List UInt8)) : (l.mergeSort fun x y => decide (x ≤ y)).Pairwise (· ≤ ·) := by
  have := List.pairwise_mergeSort (le := fun x y : List UInt8 => decide (x ≤ y)) (fun a b c h k => by simp only [decide_eq_true_eq] at *; exact List.le_trans h k) (fun a b => by simp only [Bool.or_eq_true, decide_eq_true_eq]; exact List.le_total a b) l
  exact this.imp fun h => by simpa using h

section
variable (z : List (List UInt8))

theorem up_prefix (h : z.Pairwise (· ≤ ·)) : ∀ m, m ≤ z.length → Up (Lib.compactUpTo z.toArray m) ∧ (∀ x, x ∈ Lib.compactUpTo z.toArray m ↔ x ∈ z.take m) ∧ (0 < m → ∀ x ∈ Lib.compactUpTo z.toArray m, x ≤ z[m - 1]!)
  | 0, _ => ⟨by simp [Lib.compactUpTo], by simp [Lib.compactUpTo], fun h => absurd h (by omega)⟩
  | m + 1, hm => by
    obtain ⟨h1, h2, h3⟩ := up_prefix h m (by omega)
    have hz : z.toArray[m]! = z[m]'(by omega) := by simp [show m < z.length by omega]
    have hz' : z[m]! = z[m]'(by omega) := by simp [show m < z.length by omega]
    have hle : ∀ j, (hj : j < m) → z[j]'(by omega) ≤ z[m]'(by omega) := fun j hj => List.pairwise_iff_getElem.1 h j m (by omega) (by omega) hj
    have htake : z.take (m + 1) = z.take m ++ [z[m]'(by omega)] := List.take_succ_eq_append_getElem (by omega)
    rw [Lib.compactUpTo_succ, hz, htake, Nat.add_sub_cancel, hz']
    have hall : ∀ x ∈ Lib.compactUpTo z.toArray m, x ≤ z[m]'(by omega) := by
      intro x hx
      obtain ⟨j, hj, rfl⟩ := List.mem_iff_getElem.1 ((h2 x).1 hx)
      rw [List.length_take] at hj
      rw [List.getElem_take]
      exact hle j (by omega)
    by_cases hk : Lib.keeps z.toArray m = true
    · rw [if_pos hk]
      have hne : m = 0 ∨ z[m]'(by omega) ≠ z[m - 1]! := by
        have := hk
        simp only [Lib.keeps, decide_eq_true_eq] at this
        rw [hz] at this
        simpa using this
      refine ⟨?_, ?_, ?_⟩
      · refine List.pairwise_append.2 ⟨h1, by simp, fun x hx y hy => ?_⟩
        obtain rfl : y = z[m]'(by omega) := by simpa using hy
        rcases Nat.eq_zero_or_pos m with h0 | h0
        · subst h0
          simp [Lib.compactUpTo] at hx
        · rcases hne with e | hne
          · omega
          · have hx1 := h3 h0 x hx
            have hx2 : z[m - 1]! ≤ z[m]'(by omega) := by
              have := hle (m - 1) (by omega)
              rwa [show z[m - 1]! = z[m - 1]'(by omega) by simp [show m - 1 < z.length by omega]]
            rcases lt_or (a := x) (b := z[m]'(by omega)) with h' | h' | h'
            · exact h'
            · rw [← h'] at hx2
              exact absurd (h'.symm.trans (List.le_antisymm hx1 hx2)) hne
            · exact absurd h' (List.not_lt.2 (hall x hx))
      · intro x
        rw [List.mem_append, List.mem_append, h2]
      · intro _ x hx
        rcases List.mem_append.1 hx with hx | hx
        · exact hall x hx
        · obtain rfl : x = z[m]'(by omega) := by simpa using hx
          exact List.le_refl _
    · rw [if_neg hk, List.append_nil]
      have heq : 0 < m ∧ z[m]'(by omega) = z[m - 1]! := by
        have := hk
        simp only [Lib.keeps, decide_eq_true_eq] at this
        rw [hz] at this
        have h' : ¬ (m = 0 ∨ z[m]'(by omega) ≠ z[m - 1]!) := by simpa using this
        constructor
        · rcases Nat.eq_zero_or_pos m with e | e
          · exact absurd (.inl e) h'
          · exact e
        · by_cases e : z[m]'(by omega) = z[m - 1]!
          · exact e
          · exact absurd (.inr e) h'
      refine ⟨h1, fun x => ?_, fun _ => hall⟩
      rw [h2, List.mem_append]
      refine ⟨.inl, fun hx => ?_⟩
      rcases hx with hx | hx
      · exact hx
      · obtain rfl : x = z[m]'(by omega) := by simpa using hx
        rw [heq.2, show z[m - 1]! = z[m - 1]'(by omega) by simp [show m - 1 < z.length by omega]]
        exact List.mem_iff_getElem.2 ⟨m - 1, by rw [List.length_take]; omega, by rw [List.getElem_take]⟩
end

theorem su_up (l : List (List UInt8)) : Up (su l) := (up_prefix _ (sorted_merge l) _ (Nat.le_refl _)).1
theorem su_mem (l : List (List UInt8)) (x : List UInt8) : x ∈ su l ↔ x ∈ l := by
  have h := (up_prefix _ (sorted_merge l) _ (Nat.le_refl _)).2.1 x
  rw [List.take_length] at h
  exact h.trans (List.mem_mergeSort)
theorem su_length_le (l : List (List UInt8)) : (su l).length ≤ l.length := by
  have h1 := Lib.compact_length_le (l.mergeSort fun x y => decide (x ≤ y))
  rw [List.length_mergeSort] at h1
  exact h1
theorem su_eq {l m : List (List UInt8)} (hm : Up m) (h : ∀ x, x ∈ l ↔ x ∈ m) : su l = m := Up.eq (su_up l) hm fun x => (su_mem l x).trans (h x)
theorem su_su (l : List (List UInt8)) : su (su l) = su l := su_eq (su_up l) fun _ => Iff.rfl
theorem su_same {l m : List (List UInt8)} (h : ∀ x, x ∈ l ↔ x ∈ m) : su l = su m := su_eq (su_up m) fun x => (h x).trans (su_mem m x).symm
end Go.Proofs.YtkjeejaecagbaaaGreatDoor
