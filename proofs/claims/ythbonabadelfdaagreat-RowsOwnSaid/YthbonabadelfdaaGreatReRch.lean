/- Who reaches whom by bounds, as rows of bits: what leads to what at once, and over others; what follows. No condition but sizes. -/
import Derived.Test.YthbonabadelfdaaGreatLaOrd
import Derived.Test.YthbonabadelfdaaGreatBoChk
namespace Go.Proofs.YthbonabadelfdaaGreat.Re
open Go.Proofs.YthbonabadelfdaaGreat.Bo (Bd bdc bdc_len bd_at tmv wrap_small AllRel all_step all_off)
open La (bt Clos stepW OnTo)

/-- May a bound stand, of so many variables? -/
def mayV (n : Nat) (v : Bool) (k : Nat) : Bool := !v || decide (k < n)
def mayB (n : Nat) (b : Bd) : Bool := mayV n b.av b.an && mayV n b.bv b.bn
def ofE (k : Int) (l : List Bd) : Int := if k < 0 ∨ 64 < k ∨ 256 < l.length then 3 else if l.all (mayB k.toNat) then 0 else 1

/-- A bound between two variables. -/
def Edge (l : List Bd) (i j : Nat) : Prop := ∃ b ∈ l, b.av = true ∧ b.bv = true ∧ b.an = i ∧ b.bn = j

/-- The first k rows are each their own bit, all others none. -/
def idK (k : Nat) : List Nat := (List.range 64).map fun i => if i < k then 2 ^ i else 0
theorem idK_len (k : Nat) : (idK k).length = 64 := by simp [idK]
theorem idK_zero : idK 0 = List.replicate 64 0 := by
  apply List.ext_getElem (by simp [idK])
  intro x h1 h2
  rw [List.getElem_replicate]
  simp only [idK, List.getElem_map, List.getElem_range]
  rw [if_neg (Nat.not_lt_zero x)]
theorem idK_set {k : Nat} : (idK k).set k (2 ^ k) = idK (k + 1) := by
  apply List.ext_getElem (by simp [idK])
  intro x h1 h2
  by_cases e : x = k
  · subst e
    rw [List.getElem_set_self]
    simp [idK]
  · have : (x < k + 1) = (x < k) := propext ⟨fun h => by omega, fun h => by omega⟩
    rw [List.getElem_set_ne (by omega)]
    simp [idK, this]
theorem idK_bt {n : Nat} (h : n ≤ 64) (i j : Nat) : bt (idK n) i j = true ↔ i < n ∧ i = j := by
  by_cases hi : i < 64
  · rw [La.bt_get (by simpa [idK] using hi)]
    by_cases hn : i < n
    · simp [idK, Nat.testBit_two_pow, hn]
    · simp [idK, hn]
  · constructor
    · intro hb
      exact absurd (by have := La.bt_lt hb; simpa [idK] using this) hi
    · rintro ⟨h1, -⟩
      omega
theorem idK_lt (n : Nat) : ∀ x ∈ idK n, x < 2 ^ 64 := by
  intro x hx
  obtain ⟨i, hi, rfl⟩ := List.mem_map.1 hx
  have hi := List.mem_range.1 hi
  split
  · exact Nat.pow_lt_pow_right (by decide) hi
  · exact Nat.two_pow_pos 64

/-- One bound is put in. -/
def putB (t : List Nat) (b : Bd) : List Nat := cond (b.av && b.bv) (t.set b.an (t.getD b.an 0 ||| 2 ^ b.bn)) t
def dirN (n : Nat) (l : List Bd) : List Nat := l.foldl putB (idK n)

theorem may_var {n k : Nat} (h : mayV n true k = true) : k < n := by simpa [mayV] using h
theorem mayB_edge {n : Nat} {b : Bd} (h : mayB n b = true) (ha : b.av = true) (hb : b.bv = true) : b.an < n ∧ b.bn < n := by
  rw [mayB, Bool.and_eq_true, ha, hb] at h
  exact ⟨may_var h.1, may_var h.2⟩

theorem putB_len (t : List Nat) (b : Bd) : (putB t b).length = t.length := by
  unfold putB
  cases b.av && b.bv <;> simp
theorem putB_lt {n : Nat} (hn : n ≤ 64) {t : List Nat} {b : Bd} (hm : mayB n b = true) (ht : t.length = 64) (h : ∀ x ∈ t, x < 2 ^ 64) : ∀ x ∈ putB t b, x < 2 ^ 64 := by
  unfold putB
  cases ha : b.av with
  | false => simpa using h
  | true =>
    cases hb : b.bv with
    | false => simpa using h
    | true =>
      obtain ⟨h1, h2⟩ := mayB_edge hm ha hb
      intro x hx
      rcases List.mem_or_eq_of_mem_set hx with hx | rfl
      · exact h x hx
      · exact Nat.or_lt_two_pow (h _ (La.getD_mem (by omega))) (Nat.pow_lt_pow_right (by decide) (by omega))
theorem putB_bt {n : Nat} (hn : n ≤ 64) {t : List Nat} {b : Bd} (hm : mayB n b = true) (ht : t.length = 64) (i j : Nat) : bt (putB t b) i j = true ↔ bt t i j = true ∨ (b.av = true ∧ b.bv = true ∧ b.an = i ∧ b.bn = j) := by
  unfold putB
  cases ha : b.av with
  | false => simp
  | true =>
    cases hb : b.bv with
    | false => simp
    | true =>
      obtain ⟨h1, h2⟩ := mayB_edge hm ha hb
      rw [Bool.true_and, cond_true, La.set_bt (by omega)]
      by_cases e : i = b.an
      · subst e
        rw [if_pos rfl, Nat.testBit_or, Nat.testBit_two_pow, Bool.or_eq_true, decide_eq_true_iff]
        simp [bt]
      · have : ¬ b.an = i := fun h => e h.symm
        rw [if_neg e]
        simp [this]

theorem fold_facts {n : Nat} (hn : n ≤ 64) : ∀ (l : List Bd) (t : List Nat), t.length = 64 → (∀ x ∈ t, x < 2 ^ 64) → (∀ b ∈ l, mayB n b = true) →
    (l.foldl putB t).length = 64 ∧ (∀ x ∈ l.foldl putB t, x < 2 ^ 64) ∧ ∀ i j, bt (l.foldl putB t) i j = true ↔ bt t i j = true ∨ Edge l i j
  | [], t, h1, h2, _ => ⟨h1, h2, fun i j => ⟨.inl, fun h => h.elim id fun ⟨b, hb, _⟩ => by cases hb⟩⟩
  | b :: l, t, h1, h2, h3 => by
    have hm := h3 b (List.mem_cons_self ..)
    obtain ⟨g1, g2, g3⟩ := fold_facts hn l (putB t b) (by rw [putB_len]; exact h1) (putB_lt hn hm h1 h2) fun c hc => h3 c (List.mem_cons_of_mem _ hc)
    refine ⟨g1, g2, fun i j => ?_⟩
    rw [List.foldl_cons, g3, putB_bt hn hm h1, or_assoc]
    refine or_congr Iff.rfl ?_
    unfold Edge
    simp only [List.mem_cons, exists_eq_or_imp]

/-- Whom each reaches, by the first k in the midst. -/
def thrN (n : Nat) (t : List Nat) : Nat → List Nat
  | 0 => t
  | k + 1 => stepW (thrN n t k) k n
def rchN (n : Nat) (l : List Bd) : List Nat := thrN n (dirN n l) n

section
variable {n : Nat} {l : List Bd} (hn : n ≤ 64) (hm : ∀ b ∈ l, mayB n b = true)
include hn hm

theorem dir_len : (dirN n l).length = 64 := (fold_facts hn l _ (idK_len n) (idK_lt n) hm).1
theorem dir_lt : ∀ x ∈ dirN n l, x < 2 ^ 64 := (fold_facts hn l _ (idK_len n) (idK_lt n) hm).2.1
theorem dir_bt (i j : Nat) : bt (dirN n l) i j = true ↔ (i < n ∧ i = j) ∨ Edge l i j := by
  rw [dirN, (fold_facts hn l _ (idK_len n) (idK_lt n) hm).2.2, idK_bt hn]
theorem dir_low {i j : Nat} (h : bt (dirN n l) i j = true) : i < n ∧ j < n := by
  rcases (dir_bt hn hm i j).1 h with ⟨h1, rfl⟩ | ⟨b, hb, h1, h2, rfl, rfl⟩
  · exact ⟨h1, h1⟩
  · exact mayB_edge (hm b hb) h1 h2
theorem thr_way : ∀ k, La.Way 64 (bt (dirN n l)) (thrN n (dirN n l) k)
  | 0 => ⟨dir_len hn hm, dir_lt hn hm, fun _ _ h => h, fun _ t1 _ i j h => t1 i j h⟩
  | k + 1 => by
    have h := thr_way k
    refine ⟨by rw [thrN, La.stepW_len]; exact h.len, fun x hx => ?_, fun i j hr => (La.stepW_bt _ _ _ _ _).2 (.inl (h.has i j hr)), fun T t1 t2 i j hb => ?_⟩
    · obtain ⟨y, hy, rfl⟩ := List.mem_map.1 hx
      have hy := List.mem_range.1 hy
      split
      · refine Nat.or_lt_two_pow (h.lt _ (La.getD_mem hy)) ?_
        by_cases hk : k < (thrN n (dirN n l) k).length
        · exact h.lt _ (La.getD_mem hk)
        · rw [La.getD_none hk]
          exact Nat.two_pow_pos 64
      · exact h.lt _ (La.getD_mem hy)
    · have hl := h.least T t1 t2
      rcases (La.stepW_bt _ _ _ _ _).1 hb with g | ⟨_, g1, g2⟩
      · exact hl _ _ g
      · exact t2 _ _ _ (hl _ _ g1) (hl _ _ g2)
theorem thr_low {k i j : Nat} (h : bt (thrN n (dirN n l) k) i j = true) : i < n ∧ j < n :=
  (thr_way hn hm k).least (fun i j => i < n ∧ j < n) (fun _ _ g => dir_low hn hm g) (fun _ _ _ g1 g2 => ⟨g1.1, g2.2⟩) i j h
theorem thr_on : ∀ k, OnTo (thrN n (dirN n l) k) k
  | 0 => fun m hm => absurd hm (Nat.not_lt_zero m)
  | k + 1 => by
    have h := thr_on k
    have key : ∀ x j, bt (thrN n (dirN n l) (k + 1)) x j = true ↔ bt (thrN n (dirN n l) k) x j = true ∨ (bt (thrN n (dirN n l) k) x k = true ∧ bt (thrN n (dirN n l) k) k j = true) := fun x j => by
      rw [thrN, La.stepW_bt]
      exact ⟨fun h => h.elim .inl fun h => .inr h.2, fun h => h.elim .inl fun h => .inr ⟨(thr_low hn hm h.1).1, h⟩⟩
    intro m hmk i j h1 h2
    rw [key] at h1 h2 ⊢
    by_cases e : m = k
    · subst e
      exact .inr ⟨h1.elim id (·.1), h2.elim id (·.2)⟩
    · have hm' : m < k := by omega
      rcases h1 with h1 | ⟨h1, h1'⟩ <;> rcases h2 with h2 | ⟨h2, h2'⟩
      · exact .inl (h m hm' i j h1 h2)
      · exact .inr ⟨h m hm' i k h1 h2, h2'⟩
      · exact .inr ⟨h1, h m hm' k j h1' h2⟩
      · exact .inr ⟨h1, h2'⟩
theorem rch_clos : Clos (bt (dirN n l)) (bt (rchN n l)) :=
  (thr_way hn hm n).clos fun i j k h1 h2 => thr_on hn hm n j (thr_low hn hm h2).1 i k h1 h2
theorem rch_low {i j : Nat} (h : bt (rchN n l) i j = true) : i < n ∧ j < n := thr_low hn hm h

/-! ### What follows -/
theorem rch_self {i : Nat} (h : i < n) : bt (rchN n l) i i = true := (rch_clos hn hm).has _ _ ((dir_bt hn hm i i).2 (.inl ⟨h, rfl⟩))
theorem rch_edge {i j : Nat} (h : Edge l i j) : bt (rchN n l) i j = true := (rch_clos hn hm).has _ _ ((dir_bt hn hm i j).2 (.inr h))
theorem rch_on {i j k : Nat} (h1 : bt (rchN n l) i j = true) (h2 : bt (rchN n l) j k = true) : bt (rchN n l) i k = true := (rch_clos hn hm).on i j k h1 h2
/-- What holds of each bound between two, and leads on, holds of all that reach one another. -/
theorem rch_least {T : Nat → Nat → Prop} (t0 : ∀ i, i < n → T i i) (t1 : ∀ i j, Edge l i j → T i j) (t2 : ∀ i j k, T i j → T j k → T i k) {i j : Nat} (h : bt (rchN n l) i j = true) : T i j := by
  refine (rch_clos hn hm).least T (fun i j g => ?_) t2 i j h
  rcases (dir_bt hn hm i j).1 g with ⟨h1, rfl⟩ | h1
  · exact t0 _ h1
  · exact t1 _ _ h1
/-- A bound leads out of it. -/
theorem rch_first {i j : Nat} (h : bt (rchN n l) i j = true) : i = j ∨ ∃ b ∈ l, b.av = true ∧ b.an = i ∧ b.bv = true ∧ b.bn < n ∧ bt (rchN n l) b.bn j = true := by
  refine rch_least hn hm (T := fun i j => i = j ∨ ∃ b ∈ l, b.av = true ∧ b.an = i ∧ b.bv = true ∧ b.bn < n ∧ bt (rchN n l) b.bn j = true) (fun _ _ => .inl rfl) ?_ ?_ h
  · rintro i j ⟨b, hb, h1, h2, rfl, rfl⟩
    have h3 := (mayB_edge (hm b hb) h1 h2).2
    exact .inr ⟨b, hb, h1, rfl, h2, h3, rch_self hn hm h3⟩
  · rintro i j k (rfl | ⟨b, hb, h1, h2, h3, h4, h5⟩) g
    · exact g
    · refine .inr ⟨b, hb, h1, h2, h3, h4, ?_⟩
      rcases g with rfl | ⟨c, hc, g1, g2, g3, g4, g5⟩
      · exact h5
      · exact rch_on hn hm h5 (rch_on hn hm (rch_edge hn hm ⟨c, hc, g1, g3, g2, rfl⟩) g5)
end

/-- The same bounds between two: the same. -/
theorem rch_same {n : Nat} {l l' : List Bd} (hn : n ≤ 64) (hm : ∀ b ∈ l, mayB n b = true) (hm' : ∀ b ∈ l', mayB n b = true) (h : ∀ i j, Edge l i j ↔ Edge l' i j) (i j : Nat) : bt (rchN n l) i j = bt (rchN n l') i j := by
  have e : bt (dirN n l) = bt (dirN n l') := by
    funext i j
    rw [Bool.eq_iff_iff, dir_bt hn hm, dir_bt hn hm', h]
  have h1 := rch_clos hn hm
  rw [e] at h1
  exact h1.uniq (rch_clos hn hm') i j
theorem rch_more {n : Nat} {l l' : List Bd} (hn : n ≤ 64) (hm : ∀ b ∈ l, mayB n b = true) (hm' : ∀ b ∈ l', mayB n b = true) (h : ∀ i j, Edge l i j → Edge l' i j) {i j : Nat} (hr : bt (rchN n l) i j = true) : bt (rchN n l') i j = true :=
  rch_least hn hm (T := fun i j => bt (rchN n l') i j = true) (fun _ h => rch_self hn hm' h) (fun _ _ g => rch_edge hn hm' (h _ _ g)) (fun _ _ _ g1 g2 => rch_on hn hm' g1 g2) hr

/-! ### One bound more -/
theorem edge_snoc (l : List Bd) (b : Bd) (i j : Nat) : Edge (l ++ [b]) i j ↔ Edge l i j ∨ (b.av = true ∧ b.bv = true ∧ b.an = i ∧ b.bn = j) := by
  unfold Edge
  constructor
  · rintro ⟨c, hc, h⟩
    rcases List.mem_append.1 hc with hc | hc
    · exact .inl ⟨c, hc, h⟩
    · obtain rfl := List.mem_singleton.1 hc
      exact .inr h
  · rintro (⟨c, hc, h⟩ | h)
    · exact ⟨c, List.mem_append_left _ hc, h⟩
    · exact ⟨b, List.mem_append_right _ (List.mem_singleton_self b), h⟩

/-- Each two are told alike. -/
def sameSq (n : Nat) (P Q : Nat → Nat → Bool) : Bool := (List.range n).all fun i => (List.range n).all fun j => P i j == Q i j
theorem sameSq_iff {n : Nat} {P Q : Nat → Nat → Bool} : sameSq n P Q = true ↔ ∀ i, i < n → ∀ j, j < n → P i j = Q i j := by
  simp [sameSq]

def knownB (n : Nat) (l : List Bd) (b : Bd) : Bool := !b.av || (!b.bv || (decide (b.an < n) && (decide (b.bn < n) && bt (rchN n l) b.an b.bn)))
theorem known_is {n : Nat} {l : List Bd} {b : Bd} (hn : n ≤ 64) (hm : ∀ c ∈ l ++ [b], mayB n c = true) : knownB n l b = sameSq n (bt (rchN n l)) (bt (rchN n (l ++ [b]))) := by
  have hm0 : ∀ c ∈ l, mayB n c = true := fun c hc => hm c (List.mem_append_left _ hc)
  have hb := hm b (List.mem_append_right _ (List.mem_singleton_self b))
  rw [Bool.eq_iff_iff, sameSq_iff]
  unfold knownB
  cases ha : b.av with
  | false =>
    simp only [Bool.not_false, Bool.true_or, true_iff]
    intro i _ j _
    refine rch_same hn hm0 hm (fun i j => ?_) i j
    rw [edge_snoc, ha]
    simp
  | true =>
    cases hv : b.bv with
    | false =>
      simp only [Bool.not_false, Bool.true_or, Bool.or_true, true_iff]
      intro i _ j _
      refine rch_same hn hm0 hm (fun i j => ?_) i j
      rw [edge_snoc, hv]
      simp
    | true =>
      obtain ⟨h1, h2⟩ := mayB_edge hb ha hv
      simp only [Bool.not_true, Bool.false_or, h1, h2, decide_true, Bool.true_and]
      constructor
      · intro hr i _ j _
        rw [Bool.eq_iff_iff]
        constructor
        · exact rch_more hn hm0 hm fun i j g => (edge_snoc l b i j).2 (.inl g)
        · refine rch_least hn hm (T := fun i j => bt (rchN n l) i j = true) (fun _ h => rch_self hn hm0 h) (fun i j g => ?_) (fun _ _ _ g1 g2 => rch_on hn hm0 g1 g2)
          rcases (edge_snoc l b i j).1 g with g | ⟨_, _, rfl, rfl⟩
          · exact rch_edge hn hm0 g
          · exact hr
      · intro h
        rw [h _ h1 _ h2]
        exact rch_edge hn hm ((edge_snoc l b _ _).2 (.inr ⟨ha, hv, rfl, rfl⟩))

/-- What ofE says. -/
theorem ofE_ok {k : Int} {l : List Bd} (h : ofE k l = 0) : ∃ q : Nat, k = (q : Int) ∧ q ≤ 64 ∧ l.length ≤ 256 ∧ ∀ b ∈ l, mayB q b = true := by
  unfold ofE at h
  split at h
  · cases h
  · rename_i hc
    refine ⟨k.toNat, by omega, by omega, by omega, ?_⟩
    split at h
    · rename_i ha
      exact fun b hb => List.all_eq_true.1 ha b hb
    · cases h
theorem ofE_is {q : Nat} {l : List Bd} (h1 : q ≤ 64) (h2 : l.length ≤ 256) (h3 : ∀ b ∈ l, mayB q b = true) : ofE (q : Int) l = 0 := by
  unfold ofE
  rw [if_neg (by omega), Int.toNat_natCast, if_pos (List.all_eq_true.2 h3)]
end Go.Proofs.YthbonabadelfdaaGreat.Re
