/- Rows of bits alone: the least rows that lead on and have some pairs; how they come about by going through the rows again and again, and by going through each label. No condition but sizes. -/
import Derived.Test.YtomokkpfkhfemaaGreatDoorLaBits
namespace Go.Proofs.YtomokkpfkhfemaaGreatDoor.La

/-- S is the least that has R and leads on. -/
structure Clos (R S : Nat → Nat → Bool) : Prop where
  has : ∀ i j, R i j = true → S i j = true
  on : ∀ i j k, S i j = true → S j k = true → S i k = true
  least : ∀ T : Nat → Nat → Prop, (∀ i j, R i j = true → T i j) → (∀ i j k, T i j → T j k → T i k) → ∀ i j, S i j = true → T i j

theorem Clos.uniq {R S S' : Nat → Nat → Bool} (h : Clos R S) (k : Clos R S') (i j : Nat) : S i j = S' i j := by
  rw [Bool.eq_iff_iff]
  exact ⟨h.least (fun i j => S' i j = true) k.has k.on i j, k.least (fun i j => S i j = true) h.has h.on i j⟩

/-- On the way: it has R, and no more than what leads on has. -/
structure Way (n : Nat) (R : Nat → Nat → Bool) (l : List Nat) : Prop where
  len : l.length = n
  lt : ∀ x ∈ l, x < 2 ^ n
  has : ∀ i j, R i j = true → bt l i j = true
  least : ∀ T : Nat → Nat → Prop, (∀ i j, R i j = true → T i j) → (∀ i j k, T i j → T j k → T i k) → ∀ i j, bt l i j = true → T i j

theorem Way.clos {n : Nat} {R : Nat → Nat → Bool} {l : List Nat} (h : Way n R l) (on : ∀ i j k, bt l i j = true → bt l j k = true → bt l i k = true) : Clos R (bt l) := ⟨h.has, on, h.least⟩

theorem Way.small {n : Nat} {R : Nat → Nat → Bool} {l : List Nat} (h : Way n R l) : Small l := by
  intro i j hj
  rw [h.len] at hj
  cases hb : bt l i j with
  | false => rfl
  | true =>
    have hi := bt_lt hb
    rw [bt_get hi] at hb
    rw [bits_of_lt (h.lt _ (List.getElem_mem hi)) hj] at hb
    cases hb

theorem set_bt {l : List Nat} {k : Nat} (hk : k < l.length) (v i j : Nat) : bt (l.set k v) i j = if i = k then v.testBit j else bt l i j := by
  by_cases e : i = k
  · subst e
    rw [if_pos rfl, bt_get (by rw [List.length_set]; exact hk), List.getElem_set_self]
  · rw [if_neg e, bt, bt, List.getD_eq_getElem?_getD, List.getD_eq_getElem?_getD, List.getElem?_set_ne (fun h => e h.symm)]

theorem getD_mem {l : List Nat} {k : Nat} (h : k < l.length) : l.getD k 0 ∈ l := by
  rw [List.getD_eq_getElem?_getD, List.getElem?_eq_getElem h]
  exact List.getElem_mem h

/-- A row is put that has no more than leads on from it. -/
theorem Way.put {n : Nat} {R : Nat → Nat → Bool} {l : List Nat} (h : Way n R l) {k v : Nat} (hk : k < n) (hv : v < 2 ^ n) (h1 : ∀ j, bt l k j = true → v.testBit j = true) (h2 : ∀ j, v.testBit j = true → bt l k j = true ∨ ∃ i, bt l k i = true ∧ bt l i j = true) : Way n R (l.set k v) := by
  have hk' : k < l.length := by rw [h.len]; exact hk
  refine ⟨by rw [List.length_set]; exact h.len, fun x hx => ?_, fun i j hr => ?_, fun T t1 t2 i j hb => ?_⟩
  · rcases List.mem_or_eq_of_mem_set hx with hx | rfl
    · exact h.lt x hx
    · exact hv
  · rw [set_bt hk']
    have := h.has i j hr
    split
    · rename_i e
      subst e
      exact h1 j this
    · exact this
  · have hl := h.least T t1 t2
    rw [set_bt hk'] at hb
    split at hb
    · rename_i e
      subst e
      rcases h2 j hb with g | ⟨x, g1, g2⟩
      · exact hl _ _ g
      · exact t2 _ _ _ (hl _ _ g1) (hl _ _ g2)
    · exact hl _ _ hb

/-- One row gone through. -/
theorem Way.above {n : Nat} {R : Nat → Nat → Bool} {l : List Nat} (h : Way n R l) {k : Nat} (hk : k < n) : Way n R (l.set k (aboveN l (l.getD k 0) l.length)) := by
  have hk' : k < l.length := by rw [h.len]; exact hk
  refine h.put hk (aboveN_lt (h.lt _ (getD_mem hk')) h.lt _) (fun j hj => ?_) (fun j hj => ?_)
  · rw [aboveN_bit]
    exact .inl hj
  · rw [aboveN_bit] at hj
    rcases hj with g | ⟨i, _, g1, g2⟩
    · exact .inl g
    · exact .inr ⟨i, g1, g2⟩

/-- None grew: they lead on. -/
theorem Way.done {n : Nat} {R : Nat → Nat → Bool} {l : List Nat} (h : Way n R l) (hd : ∀ i, i < n → aboveN l (l.getD i 0) l.length = l.getD i 0) : Clos R (bt l) :=
  h.clos fun i j k h1 h2 => (aboveN_same l i).1 (hd i (by have := bt_lt h1; rwa [h.len] at this)) j k h1 h2

/-- How much may be put yet. -/
def room (n : Nat) (l : List Nat) : Nat := n * 2 ^ n - l.sum

theorem sum_set : ∀ {l : List Nat} {k : Nat} (h : k < l.length) (v : Nat), (l.set k v).sum + l[k] = l.sum + v
  | [], k, h, _ => by simp at h
  | a :: l, 0, _, v => by simp; omega
  | a :: l, k + 1, h, v => by
    have := sum_set (l := l) (k := k) (by simpa using h) v
    simp only [List.set_cons_succ, List.sum_cons, List.getElem_cons_succ]
    omega

theorem sum_le : ∀ {l : List Nat} {m : Nat}, (∀ x ∈ l, x < m) → l.sum ≤ l.length * m
  | [], _, _ => by simp
  | a :: l, m, h => by
    have h1 := h a (by simp)
    have h2 := sum_le (l := l) (m := m) (fun x hx => h x (by simp [hx]))
    simp only [List.sum_cons, List.length_cons, Nat.add_mul, Nat.one_mul]
    omega

theorem testBit_le {x y : Nat} (h : ∀ j, x.testBit j = true → y.testBit j = true) : x ≤ y := by
  have : x ||| y = y := by
    apply Nat.eq_of_testBit_eq
    intro j
    rw [Nat.testBit_or]
    cases hx : x.testBit j with
    | false => rfl
    | true => rw [h j hx]; rfl
  rw [← this]
  exact Nat.left_le_or

theorem aboveN_le (l : List Nat) (t k : Nat) : t ≤ aboveN l t k := testBit_le fun j hj => (aboveN_bit l t k j).2 (.inl hj)

/-- A row that grew takes room. -/
theorem room_lt {n : Nat} {l : List Nat} (hl : l.length = n) {k v : Nat} (hk : k < n) (hlt : ∀ x ∈ l.set k v, x < 2 ^ n) (h : l.getD k 0 < v) : room n (l.set k v) < room n l := by
  have hk' : k < l.length := by omega
  have h1 := sum_set hk' v
  have h2 := sum_le hlt
  rw [List.length_set, hl] at h2
  rw [List.getD_eq_getElem?_getD, List.getElem?_eq_getElem hk'] at h
  have h : l[k] < v := h
  unfold room
  omega

theorem set_getD {l : List Nat} {k : Nat} (hk : k < l.length) : l.set k (l.getD k 0) = l := by
  rw [List.getD_eq_getElem?_getD, List.getElem?_eq_getElem hk]
  exact List.set_getElem_self hk

/-! ### The start: each is below itself, and the pairs -/

def idN (n : Nat) : List Nat := (List.range n).map fun i => 2 ^ i
def put1 (l : List Nat) (p : Int × Int) : List Nat := l.set p.1.toNat (l.getD p.1.toNat 0 ||| 2 ^ p.2.toNat)
def startN (n : Nat) (ps : List (Int × Int)) : List Nat := ps.foldl put1 (idN n)

/-- The pairs have numbers of n labels. -/
def Within (n : Nat) (ps : List (Int × Int)) : Prop := ∀ p ∈ ps, (0 ≤ p.1 ∧ p.1 < n) ∧ (0 ≤ p.2 ∧ p.2 < n)

theorem idN_bt (n i j : Nat) : bt (idN n) i j = (decide (i < n) && decide (i = j)) := by
  by_cases h : i < n
  · rw [bt_get (by simpa [idN] using h)]
    simp [idN, Nat.testBit_two_pow, h]
  · have : bt (idN n) i j = false := by
      cases hb : bt (idN n) i j with
      | false => rfl
      | true => exact absurd (by have := bt_lt hb; simpa [idN] using this) h
    simp [this, h]

theorem fold_bt (n : Nat) : ∀ (ps : List (Int × Int)) (l : List Nat), l.length = n → Within n ps → (ps.foldl put1 l).length = n ∧ ∀ i j, bt (ps.foldl put1 l) i j = true ↔ bt l i j = true ∨ ((i : Int), (j : Int)) ∈ ps
  | [], l, hl, _ => ⟨hl, by simp⟩
  | p :: ps, l, hl, hw => by
    obtain ⟨⟨h1, h2⟩, h3, h4⟩ := hw p (by simp)
    have hk : p.1.toNat < l.length := by omega
    obtain ⟨g1, g2⟩ := fold_bt n ps (put1 l p) (by rw [put1, List.length_set]; exact hl) (fun q hq => hw q (by simp [hq]))
    refine ⟨g1, fun i j => ?_⟩
    rw [List.foldl_cons, g2, put1, set_bt hk, List.mem_cons]
    have hp : ((i : Int), (j : Int)) = p ↔ i = p.1.toNat ∧ j = p.2.toNat := by
      rw [Prod.ext_iff]
      constructor
      · rintro ⟨e1, e2⟩
        simp only at e1 e2
        omega
      · rintro ⟨e1, e2⟩
        simp only
        omega
    rw [hp]
    by_cases e : i = p.1.toNat
    · rw [if_pos e, Nat.testBit_or, Nat.testBit_two_pow, Bool.or_eq_true, decide_eq_true_iff]
      subst e
      show ((bt l _ j = true ∨ _) ∨ _) ↔ _
      constructor
      · rintro ((h | h) | h)
        · exact .inl h
        · exact .inr (.inl ⟨rfl, h.symm⟩)
        · exact .inr (.inr h)
      · rintro (h | ⟨_, h⟩ | h)
        · exact .inl (.inl h)
        · exact .inl (.inr h.symm)
        · exact .inr h
    · rw [if_neg e]
      constructor
      · rintro (h | h)
        · exact .inl h
        · exact .inr (.inr h)
      · rintro (h | ⟨h, _⟩ | h)
        · exact .inl h
        · exact absurd h e
        · exact .inr h

theorem startN_len {n : Nat} {ps : List (Int × Int)} (hw : Within n ps) : (startN n ps).length = n := (fold_bt n ps (idN n) (by simp [idN]) hw).1
theorem startN_bt {n : Nat} {ps : List (Int × Int)} (hw : Within n ps) (i j : Nat) : bt (startN n ps) i j = true ↔ (i < n ∧ i = j) ∨ ((i : Int), (j : Int)) ∈ ps := by
  rw [startN, (fold_bt n ps (idN n) (by simp [idN]) hw).2, idN_bt, Bool.and_eq_true, decide_eq_true_iff, decide_eq_true_iff]

theorem put1_lt {n : Nat} {l : List Nat} {p : Int × Int} (hl : l.length = n) (h : ∀ x ∈ l, x < 2 ^ n) (h1 : p.1.toNat < n) (h2 : p.2.toNat < n) : ∀ x ∈ put1 l p, x < 2 ^ n := by
  intro x hx
  rcases List.mem_or_eq_of_mem_set hx with hx | rfl
  · exact h x hx
  · exact Nat.or_lt_two_pow (h _ (getD_mem (by omega))) (Nat.pow_lt_pow_right (by decide) h2)

theorem idN_lt (n : Nat) : ∀ x ∈ idN n, x < 2 ^ n := by
  intro x hx
  obtain ⟨i, hi, rfl⟩ := List.mem_map.1 hx
  exact Nat.pow_lt_pow_right (by decide) (List.mem_range.1 hi)

theorem fold_lt (n : Nat) : ∀ (ps : List (Int × Int)) (l : List Nat), l.length = n → (∀ x ∈ l, x < 2 ^ n) → Within n ps → ∀ x ∈ ps.foldl put1 l, x < 2 ^ n
  | [], _, _, h, _ => h
  | p :: ps, l, hl, h, hw => by
    obtain ⟨⟨h1, h2⟩, h3, h4⟩ := hw p (by simp)
    exact fold_lt n ps _ (by rw [put1, List.length_set]; exact hl) (put1_lt hl h (by omega) (by omega)) fun q hq => hw q (by simp [hq])

theorem start_way {n : Nat} {ps : List (Int × Int)} (hw : Within n ps) : Way n (bt (startN n ps)) (startN n ps) :=
  ⟨startN_len hw, fold_lt n ps _ (by simp [idN]) (idN_lt n) hw, fun _ _ h => h, fun _ t1 _ i j h => t1 i j h⟩

theorem start_refl {n : Nat} {ps : List (Int × Int)} (hw : Within n ps) (i : Nat) (h : i < n) : bt (startN n ps) i i = true := (startN_bt hw i i).2 (.inl ⟨h, rfl⟩)

/-- No two are below one another. -/
def Anti (S : Nat → Nat → Bool) : Prop := ∀ i j, S i j = true → S j i = true → i = j

/-- What Close answers. -/
def CloseIs (n : Int) (ps : List (Int × Int)) (rows : List Nat) (e : Int) : Prop :=
  (¬ ((1 ≤ n ∧ n ≤ 64) ∧ Within n.toNat ps) ∧ rows = [] ∧ e = 1) ∨
    ((1 ≤ n ∧ n ≤ 64) ∧ Within n.toNat ps ∧ ∃ S, Way n.toNat (bt (startN n.toNat ps)) S ∧ Clos (bt (startN n.toNat ps)) (bt S) ∧ ((Anti (bt S) ∧ rows = S ∧ e = 0) ∨ (¬ Anti (bt S) ∧ rows = [] ∧ e = 9)))

theorem CloseIs.uniq {n : Int} {ps : List (Int × Int)} {r r' : List Nat} {e e' : Int} (h : CloseIs n ps r e) (k : CloseIs n ps r' e') : r = r' ∧ e = e' := by
  rcases h with ⟨a, rfl, rfl⟩ | ⟨a, b, S, hw, hc, h⟩ <;> rcases k with ⟨a', rfl, rfl⟩ | ⟨a', b', S', hw', hc', h'⟩
  · exact ⟨rfl, rfl⟩
  · exact absurd ⟨a', b'⟩ a
  · exact absurd ⟨a, b⟩ a'
  · have e : S = S' := bt_ext (hw.len.trans hw'.len.symm) (hc.uniq hc')
    subst e
    rcases h with ⟨h1, rfl, rfl⟩ | ⟨h1, rfl, rfl⟩ <;> rcases h' with ⟨h1', rfl, rfl⟩ | ⟨h1', rfl, rfl⟩
    · exact ⟨rfl, rfl⟩
    · exact absurd h1 h1'
    · exact absurd h1' h1
    · exact ⟨rfl, rfl⟩

/-- Rows that lead on, of which each is below itself, are an order just if no two are below one another. -/
theorem ord_anti {n : Nat} {R : Nat → Nat → Bool} {l : List Nat} (hw : Way n R l) (hc : Clos R (bt l)) (hr : ∀ i, i < n → R i i = true) : orderedK l l.length = true ↔ Anti (bt l) := by
  have hl := hw.len
  rw [orderedN_iff hw.small, hl]
  have lt : ∀ {i j}, bt l i j = true → i < n := fun h => by have := bt_lt h; rwa [hl] at this
  constructor
  · intro h i j h1 h2
    exact h.anti i j (lt h1) (lt h2) h1 h2
  · intro h
    exact ⟨fun i hi => hc.has _ _ (hr i hi), fun i j _ _ => h i j, fun i j k _ _ _ => hc.on i j k⟩

/-! ### Gone through by each label -/

/-- Behind label k i rows are gone through. -/
def stepW (l : List Nat) (k i : Nat) : List Nat := (List.range l.length).map fun x => if x < i ∧ bt l x k = true then l.getD x 0 ||| l.getD k 0 else l.getD x 0

theorem stepW_len (l : List Nat) (k i : Nat) : (stepW l k i).length = l.length := by simp [stepW]

theorem stepW_get (l : List Nat) (k i x : Nat) (hx : x < l.length) : (stepW l k i).getD x 0 = if x < i ∧ bt l x k = true then l.getD x 0 ||| l.getD k 0 else l.getD x 0 := by
  rw [List.getD_eq_getElem?_getD, List.getElem?_eq_getElem (by rw [stepW_len]; exact hx)]
  simp only [stepW, List.getElem_map, List.getElem_range, Option.getD_some]

theorem getD_none {l : List Nat} {x : Nat} (h : ¬ x < l.length) : l.getD x 0 = 0 := by
  rw [List.getD_eq_getElem?_getD, List.getElem?_eq_none (by omega)]
  rfl

theorem stepW_bt (l : List Nat) (k i x j : Nat) : bt (stepW l k i) x j = true ↔ bt l x j = true ∨ (x < i ∧ bt l x k = true ∧ bt l k j = true) := by
  by_cases hx : x < l.length
  · rw [bt, stepW_get l k i x hx]
    by_cases h : x < i ∧ bt l x k = true
    · rw [if_pos h, Nat.testBit_or, Bool.or_eq_true]
      constructor
      · rintro (h1 | h1)
        · exact .inl h1
        · exact .inr ⟨h.1, h.2, h1⟩
      · rintro (h1 | h1)
        · exact .inl h1
        · exact .inr h1.2.2
    · rw [if_neg h]
      exact ⟨.inl, fun h' => h'.elim id fun h' => absurd ⟨h'.1, h'.2.1⟩ h⟩
  · constructor
    · intro h
      exact absurd (by have := bt_lt h; rwa [stepW_len] at this) hx
    · rintro (h | ⟨_, h, _⟩) <;> exact absurd (bt_lt h) hx

/-- The row of k stays. -/
theorem stepW_self (l : List Nat) (k i : Nat) : (stepW l k i).getD k 0 = l.getD k 0 := by
  by_cases hk : k < l.length
  · rw [stepW_get l k i k hk]
    split
    · exact Nat.or_self _
    · rfl
  · rw [getD_none hk, getD_none (by rw [stepW_len]; exact hk)]

/-- One more row. -/
theorem stepW_next (l : List Nat) (k i : Nat) (hi : i < l.length) : stepW l k (i + 1) = if ((stepW l k i).getD i 0).testBit k then (stepW l k i).set i ((stepW l k i).getD i 0 ||| (stepW l k i).getD k 0) else stepW l k i := by
  have e0 : (stepW l k i).getD i 0 = l.getD i 0 := by
    rw [stepW_get l k i i hi, if_neg (fun h => absurd h.1 (by omega))]
  rw [stepW_self, e0]
  apply List.ext_getElem?
  intro x
  by_cases hx : x < l.length
  · have a1 : (stepW l k (i + 1))[x]? = some (if x < i + 1 ∧ bt l x k = true then l.getD x 0 ||| l.getD k 0 else l.getD x 0) := by simp [stepW, hx]
    have a2 : (stepW l k i)[x]? = some (if x < i ∧ bt l x k = true then l.getD x 0 ||| l.getD k 0 else l.getD x 0) := by simp [stepW, hx]
    by_cases e : x = i
    · subst e
      by_cases h : bt l x k = true
      · rw [if_pos (show (l.getD x 0).testBit k = true from h), List.getElem?_set_self (by rw [stepW_len]; exact hx), a1, if_pos ⟨by omega, h⟩]
      · rw [if_neg (show ¬ (l.getD x 0).testBit k = true from h), a1, a2, if_neg (fun g => h g.2), if_neg (fun g => h g.2)]
    · have e3 : (x < i + 1 ∧ bt l x k = true) ↔ (x < i ∧ bt l x k = true) := ⟨fun h => ⟨by omega, h.2⟩, fun h => ⟨by omega, h.2⟩⟩
      have a3 : (stepW l k (i + 1))[x]? = (stepW l k i)[x]? := by
        rw [a1, a2]
        by_cases h : x < i ∧ bt l x k = true
        · rw [if_pos h, if_pos (e3.2 h)]
        · rw [if_neg h, if_neg (fun g => h (e3.1 g))]
      rw [a3]
      split
      · rw [List.getElem?_set_ne (by omega)]
      · rfl
  · rw [List.getElem?_eq_none (by rw [stepW_len]; omega)]
    split
    · rw [List.getElem?_eq_none (by rw [List.length_set, stepW_len]; omega)]
    · rw [List.getElem?_eq_none (by rw [stepW_len]; omega)]

theorem stepW_zero (l : List Nat) (k : Nat) : stepW l k 0 = l := by
  apply List.ext_getElem?
  intro x
  by_cases hx : x < l.length
  · simp [stepW, hx, List.getD_eq_getElem?_getD]
  · rw [List.getElem?_eq_none (by rw [stepW_len]; omega), List.getElem?_eq_none (by omega)]

/-- They lead on by labels below k. -/
def OnTo (l : List Nat) (k : Nat) : Prop := ∀ m, m < k → ∀ i j, bt l i m = true → bt l m j = true → bt l i j = true

theorem Way.step {n : Nat} {R : Nat → Nat → Bool} {l : List Nat} (h : Way n R l) (k : Nat) : Way n R (stepW l k n) := by
  refine ⟨by rw [stepW_len]; exact h.len, fun x hx => ?_, fun i j hr => (stepW_bt _ _ _ _ _).2 (.inl (h.has i j hr)), fun T t1 t2 i j hb => ?_⟩
  · obtain ⟨y, hy, rfl⟩ := List.mem_map.1 hx
    have hy := List.mem_range.1 hy
    split
    · refine Nat.or_lt_two_pow (h.lt _ (getD_mem hy)) ?_
      by_cases hk : k < l.length
      · exact h.lt _ (getD_mem hk)
      · rw [getD_none hk]
        exact Nat.two_pow_pos n
    · exact h.lt _ (getD_mem hy)
  · have hl := h.least T t1 t2
    rcases (stepW_bt _ _ _ _ _).1 hb with g | ⟨_, g1, g2⟩
    · exact hl _ _ g
    · exact t2 _ _ _ (hl _ _ g1) (hl _ _ g2)

theorem onTo_step {l : List Nat} {k : Nat} (h : OnTo l k) : OnTo (stepW l k l.length) (k + 1) := by
  have key : ∀ x j, bt (stepW l k l.length) x j = true ↔ bt l x j = true ∨ (bt l x k = true ∧ bt l k j = true) := fun x j => by
    rw [stepW_bt]
    exact ⟨fun h => h.elim .inl fun h => .inr h.2, fun h => h.elim .inl fun h => .inr ⟨bt_lt h.1, h⟩⟩
  intro m hm i j h1 h2
  rw [key] at h1 h2 ⊢
  by_cases e : m = k
  · subst e
    have g1 : bt l i m = true := h1.elim id (·.1)
    have g2 : bt l m j = true := h2.elim id (·.2)
    exact .inr ⟨g1, g2⟩
  · have hm' : m < k := by omega
    rcases h1 with h1 | ⟨h1, h1'⟩ <;> rcases h2 with h2 | ⟨h2, h2'⟩
    · exact .inl (h m hm' i j h1 h2)
    · exact .inr ⟨h m hm' i k h1 h2, h2'⟩
    · exact .inr ⟨h1, h m hm' k j h1' h2⟩
    · exact .inr ⟨h1, h2'⟩

theorem Way.wdone {n : Nat} {R : Nat → Nat → Bool} {l : List Nat} (h : Way n R l) (ho : OnTo l n) : Clos R (bt l) :=
  h.clos fun i j k h1 h2 => ho j (by have := bt_lt h2; rwa [h.len] at this) i k h1 h2

/-! ### What follows -/

theorem within_snoc {n : Nat} {ps : List (Int × Int)} {a b : Nat} (hw : Within n ps) (ha : a < n) (hb : b < n) : Within n (ps ++ [((a : Int), (b : Int))]) := by
  intro p hp
  rcases List.mem_append.1 hp with hp | hp
  · exact hw p hp
  · obtain rfl : p = _ := by simpa using hp
    exact ⟨⟨by simp, by simpa using ha⟩, by simp, by simpa using hb⟩

theorem start_snoc {n : Nat} {ps : List (Int × Int)} {a b : Nat} (hw : Within n ps) (ha : a < n) (hb : b < n) (i j : Nat) : bt (startN n (ps ++ [((a : Int), (b : Int))])) i j = true ↔ bt (startN n ps) i j = true ∨ (i = a ∧ j = b) := by
  rw [startN_bt (within_snoc hw ha hb), startN_bt hw, List.mem_append, List.mem_singleton, Prod.mk.injEq]
  have : ((i : Int) = a ∧ (j : Int) = b) ↔ (i = a ∧ j = b) := by omega
  rw [this, or_assoc]

/-- A pair that is there already changes nothing. -/
theorem Clos.same {R R' S S' : Nat → Nat → Bool} {a b : Nat} (h : Clos R S) (h' : Clos R' S') (hR : ∀ i j, R' i j = true ↔ R i j = true ∨ (i = a ∧ j = b)) (hab : S a b = true) (i j : Nat) : S' i j = S i j := by
  rw [Bool.eq_iff_iff]
  constructor
  · refine h'.least (fun i j => S i j = true) (fun i j g => ?_) h.on i j
    rcases (hR i j).1 g with g | ⟨rfl, rfl⟩
    · exact h.has _ _ g
    · exact hab
  · exact h.least (fun i j => S' i j = true) (fun i j g => h'.has _ _ ((hR i j).2 (.inl g))) h'.on i j

/-- A new pair whose back is not there: no two are below one another still. -/
theorem Clos.more {R R' S S' : Nat → Nat → Bool} {a b : Nat} (h : Clos R S) (h' : Clos R' S') (hR : ∀ i j, R' i j = true ↔ R i j = true ∨ (i = a ∧ j = b)) (hr : ∀ i, (i = a ∨ i = b) → S i i = true) (hba : S b a = false) (hA : Anti S) : Anti S' := by
  have hT : ∀ i j, S' i j = true → S i j = true ∨ (S i a = true ∧ S b j = true) := by
    refine h'.least (fun i j => S i j = true ∨ (S i a = true ∧ S b j = true)) (fun i j g => ?_) (fun i j k g1 g2 => ?_)
    · rcases (hR i j).1 g with g | ⟨rfl, rfl⟩
      · exact .inl (h.has _ _ g)
      · exact .inr ⟨hr _ (.inl rfl), hr _ (.inr rfl)⟩
    · rcases g1 with g1 | ⟨g1, g1'⟩ <;> rcases g2 with g2 | ⟨g2, g2'⟩
      · exact .inl (h.on _ _ _ g1 g2)
      · exact .inr ⟨h.on _ _ _ g1 g2, g2'⟩
      · exact .inr ⟨g1, h.on _ _ _ g1' g2⟩
      · exact .inr ⟨g1, g2'⟩
  intro i j h1 h2
  have no : S b a = true → i = j := fun g => by rw [hba] at g; cases g
  rcases hT i j h1 with g1 | ⟨g1, g1'⟩ <;> rcases hT j i h2 with g2 | ⟨g2, g2'⟩
  · exact hA i j g1 g2
  · exact no (h.on _ _ _ g2' (h.on _ _ _ g1 g2))
  · exact no (h.on _ _ _ g1' (h.on _ _ _ g2 g1))
  · exact no (h.on _ _ _ g1' g2)

end Go.Proofs.YtomokkpfkhfemaaGreatDoor.La
