/- Joins and meets, bottom and top of rows of bits alone: what the code's search finds, and that it is what the words ask. No condition but those that each line names. -/
import Derived.Test.YtomokkpfkhfemaaLaBits
namespace Go.Proofs.Ytomokkpfkhfemaa.La

/-- Of n rows the first one that is just t; 0: there is none. -/
def whoN (l : List Nat) (n t : Nat) : Nat := ((List.range n).find? fun i => l.getD i 0 == t).getD 0

theorem whoN_at {l : List Nat} {n t k : Nat} (h : ∀ i, i < k → l.getD i 0 ≠ t) (hk : k < n) (e : l.getD k 0 = t) : whoN l n t = k := by
  have : (List.range n).find? (fun i => l.getD i 0 == t) = some k := by
    rw [List.find?_eq_some_iff_getElem]
    refine ⟨by simpa using e, k, by simpa using hk, by simp, fun j hj => ?_⟩
    simpa using h j hj
  rw [whoN, this]
  rfl

theorem whoN_none {l : List Nat} {n t : Nat} (h : ∀ i, i < n → l.getD i 0 ≠ t) : whoN l n t = 0 := by
  have : (List.range n).find? (fun i => l.getD i 0 == t) = none := by
    rw [List.find?_eq_none]
    intro i hi
    simpa using h i (List.mem_range.1 hi)
  rw [whoN, this]
  rfl

def nearN (l : List Nat) (n a b : Nat) : Nat := if a < n ∧ b < n then whoN l n (l.getD a 0 &&& l.getD b 0) else 0
def endN (l : List Nat) (n : Nat) : Nat := whoN l n (2 ^ n - 1)

theorem whoN_congr {l l' : List Nat} {n t : Nat} (h : ∀ i, i < n → l.getD i 0 = l'.getD i 0) : whoN l n t = whoN l' n t := by
  by_cases hx : ∃ i, i < n ∧ l.getD i 0 = t
  · have key : ∀ m, m < n → l.getD m 0 = t → ∃ k, k < n ∧ l.getD k 0 = t ∧ ∀ i, i < k → l.getD i 0 ≠ t := by
      intro m
      induction m using Nat.strongRecOn with
      | ind m ih =>
        intro hm he
        by_cases hy : ∃ i, i < m ∧ l.getD i 0 = t
        · obtain ⟨i, hi, e⟩ := hy
          exact ih i hi (by omega) e
        · exact ⟨m, hm, he, fun i hi e => hy ⟨i, hi, e⟩⟩
    obtain ⟨m, hm, he⟩ := hx
    obtain ⟨k, hk, hek, hlow⟩ := key m hm he
    rw [whoN_at hlow hk hek, whoN_at (fun i hi e => hlow i hi (by rw [h i (by omega)]; exact e)) hk (by rw [← h k hk]; exact hek)]
  · rw [whoN_none fun i hi e => hx ⟨i, hi, e⟩, whoN_none fun i hi e => hx ⟨i, hi, by rw [h i hi]; exact e⟩]

theorem nearN_congr {l l' : List Nat} {n a b : Nat} (h : ∀ i, i < n → l.getD i 0 = l'.getD i 0) : nearN l n a b = nearN l' n a b := by
  unfold nearN
  by_cases hab : a < n ∧ b < n
  · rw [if_pos hab, if_pos hab, h a hab.1, h b hab.2, whoN_congr h]
  · rw [if_neg hab, if_neg hab]

theorem endN_congr {l l' : List Nat} {n : Nat} (h : ∀ i, i < n → l.getD i 0 = l'.getD i 0) : endN l n = endN l' n := whoN_congr h

theorem whoN_lt {l : List Nat} {n t : Nat} (hn : 0 < n) : whoN l n t < n := by
  unfold whoN
  cases h : (List.range n).find? fun i => l.getD i 0 == t with
  | none => exact hn
  | some x => exact List.mem_range.1 (List.mem_of_find?_eq_some h)

/-- Rows of which Check tells no error. -/
structure LatOK (l : List Nat) : Prop where
  known : Known l
  ord : IsOrd l.length (bt l)
  ups : Ups l.length (bt l)
  downs : Ups l.length (turn (bt l))

theorem latOK_of {l : List Nat} (h : checkN l = 0) : LatOK l := by
  have k := checkN_is l
  rw [h] at k
  rcases k with ⟨_, e⟩ | ⟨_, _, e⟩ | ⟨_, _, _, e⟩ | ⟨a, b, c, _⟩
  · cases e
  · cases e
  · cases e
  · exact ⟨a, b, c.1, c.2⟩

theorem LatOK.back {l : List Nat} (h : LatOK l) : LatOK (turnedN l) := by
  have e : ∀ i j, i < l.length → j < l.length → bt (turnedN l) i j = turn (bt l) i j := fun i j hi _ => by
    rw [turnedN_bt, decide_eq_true hi, Bool.true_and]
    rfl
  refine ⟨⟨?_, fun i j hj => ?_⟩, ?_, ?_, ?_⟩
  · rw [turnedN_len]
    exact h.known.1
  · rw [turnedN_len] at hj
    rw [turnedN_bt]
    have : bt l j i = false := by
      cases hb : bt l j i with
      | false => rfl
      | true => exact absurd (bt_lt hb) (by omega)
    rw [this, Bool.and_false]
  · rw [turnedN_len]
    exact h.ord.turn.congr e
  · rw [turnedN_len]
    exact h.downs.congr e
  · rw [turnedN_len]
    exact h.ups.congr fun i j hi hj => e j i hj hi

/-- The least above both. -/
structure IsJoin (n : Nat) (R : Nat → Nat → Bool) (a b j : Nat) : Prop where
  lt : j < n
  fst : R a j = true
  snd : R b j = true
  least : ∀ d, d < n → R a d = true → R b d = true → R j d = true

structure IsBot (n : Nat) (R : Nat → Nat → Bool) (c : Nat) : Prop where
  lt : c < n
  all : ∀ j, j < n → R c j = true

section
variable {n : Nat} {R : Nat → Nat → Bool} {a b c j k x y z : Nat}

theorem IsJoin.uniq (o : IsOrd n R) (h : IsJoin n R a b j) (k' : IsJoin n R a b k) : j = k := o.anti _ _ h.lt k'.lt (h.least _ k'.lt k'.fst k'.snd) (k'.least _ h.lt h.fst h.snd)
theorem IsJoin.comm (h : IsJoin n R a b j) : IsJoin n R b a j := ⟨h.lt, h.snd, h.fst, fun d hd h1 h2 => h.least d hd h2 h1⟩
theorem IsJoin.self (o : IsOrd n R) (ha : a < n) : IsJoin n R a a a := ⟨ha, o.refl a ha, o.refl a ha, fun _ _ h _ => h⟩
theorem IsJoin.of_below (o : IsOrd n R) (_ : a < n) (hb : b < n) (h : R a b = true) : IsJoin n R a b b := ⟨hb, h, o.refl b hb, fun _ _ _ h => h⟩
theorem IsJoin.assoc (o : IsOrd n R) (ha : a < n) (hb : b < n) (hc : c < n) (h1 : IsJoin n R a b x) (h2 : IsJoin n R b c y) (h3 : IsJoin n R x c z) : IsJoin n R a y z :=
  ⟨h3.lt, o.on _ _ _ ha h1.lt h3.lt h1.fst h3.fst, h2.least _ h3.lt (o.on _ _ _ hb h1.lt h3.lt h1.snd h3.fst) h3.snd,
    fun d hd g1 g2 => h3.least d hd (h1.least d hd g1 (o.on _ _ _ hb h2.lt hd h2.fst g2)) (o.on _ _ _ hc h2.lt hd h2.snd g2)⟩
theorem IsBot.uniq (o : IsOrd n R) (h : IsBot n R c) (k : IsBot n R b) : c = b := o.anti _ _ h.lt k.lt (h.all _ k.lt) (k.all _ h.lt)
end

section
variable {l : List Nat} (h : LatOK l)
include h

theorem rows_inj {i c : Nat} (hi : i < l.length) (hc : c < l.length) (e : l.getD i 0 = l.getD c 0) : i = c := by
  have hb : ∀ j, bt l i j = bt l c j := fun j => by rw [bt, bt, e]
  exact h.ord.anti i c hi hc ((hb c).trans (h.ord.refl c hc)) ((hb i).symm.trans (h.ord.refl i hi))

theorem who_of {c t : Nat} (hc : c < l.length) (e : l.getD c 0 = t) : whoN l l.length t = c :=
  whoN_at (fun i hi e' => by
    have := rows_inj h (by omega) hc (e'.trans e.symm)
    omega) hc e

theorem join_is {a b : Nat} (ha : a < l.length) (hb : b < l.length) : IsJoin l.length (bt l) a b (nearN l l.length a b) := by
  obtain ⟨c, hc, h1, h2, h3⟩ := h.ups a b ha hb
  have e : l.getD c 0 = l.getD a 0 &&& l.getD b 0 := by
    apply Nat.eq_of_testBit_eq
    intro j
    rw [Nat.testBit_and]
    show bt l c j = (bt l a j && bt l b j)
    rw [Bool.eq_iff_iff, Bool.and_eq_true]
    have hj : ∀ {i}, bt l i j = true → j < l.length := fun {i} hb => by
      rcases Nat.lt_or_ge j l.length with h' | h'
      · exact h'
      · rw [h.known.2 i j h'] at hb
        cases hb
    constructor
    · intro g
      exact ⟨h.ord.on _ _ _ ha hc (hj g) h1 g, h.ord.on _ _ _ hb hc (hj g) h2 g⟩
    · rintro ⟨g1, g2⟩
      exact h3 j (hj g1) g1 g2
  rw [nearN, if_pos ⟨ha, hb⟩, who_of h hc e]
  exact ⟨hc, h1, h2, h3⟩

theorem bot_ex : ∀ k, k ≤ l.length → ∃ c, c < l.length ∧ ∀ j, j < k → bt l c j = true
  | 0, _ => ⟨0, h.known.1.1, fun j hj => absurd hj (by omega)⟩
  | k + 1, hk => by
    obtain ⟨c, hc, g⟩ := bot_ex k (by omega)
    obtain ⟨m, hm, h1, h2, _⟩ := h.downs c k hc (by omega)
    have h1 : bt l m c = true := h1
    have h2 : bt l m k = true := h2
    refine ⟨m, hm, fun j hj => ?_⟩
    by_cases e : j = k
    · rw [e]
      exact h2
    · exact h.ord.on _ _ _ hm hc (by omega) h1 (g j (by omega))

theorem bot_is : IsBot l.length (bt l) (endN l l.length) := by
  obtain ⟨c, hc, g⟩ := bot_ex h l.length (Nat.le_refl _)
  have e : l.getD c 0 = 2 ^ l.length - 1 := by
    apply Nat.eq_of_testBit_eq
    intro j
    rw [Nat.testBit_two_pow_sub_one]
    show bt l c j = _
    by_cases hj : j < l.length
    · rw [g j hj, decide_eq_true hj]
    · rw [h.known.2 c j (by omega), decide_eq_false hj]
  rw [endN, who_of h hc e]
  exact ⟨hc, g⟩

omit h in
theorem turned_eq {i j : Nat} (hi : i < l.length) : bt (turnedN l) i j = turn (bt l) i j := by
  rw [turnedN_bt, decide_eq_true hi, Bool.true_and]
  rfl

theorem meet_is {a b : Nat} (ha : a < l.length) (hb : b < l.length) : IsJoin l.length (turn (bt l)) a b (nearN (turnedN l) l.length a b) := by
  have k := join_is h.back (a := a) (b := b) (by rw [turnedN_len]; exact ha) (by rw [turnedN_len]; exact hb)
  rw [turnedN_len] at k
  exact ⟨k.lt, by rw [← turned_eq ha]; exact k.fst, by rw [← turned_eq hb]; exact k.snd, fun d hd g1 g2 => by
    rw [← turned_eq k.lt]
    exact k.least d hd (by rw [turned_eq ha]; exact g1) (by rw [turned_eq hb]; exact g2)⟩

theorem top_is : IsBot l.length (turn (bt l)) (endN (turnedN l) l.length) := by
  have k := bot_is h.back
  rw [turnedN_len] at k
  exact ⟨k.lt, fun j hj => by rw [← turned_eq k.lt]; exact k.all j hj⟩

theorem join_uniq {a b j : Nat} (ha : a < l.length) (hb : b < l.length) (k : IsJoin l.length (bt l) a b j) : nearN l l.length a b = j := (join_is h ha hb).uniq h.ord k
theorem meet_uniq {a b j : Nat} (ha : a < l.length) (hb : b < l.length) (k : IsJoin l.length (turn (bt l)) a b j) : nearN (turnedN l) l.length a b = j := (meet_is h ha hb).uniq h.ord.turn k
theorem bot_uniq {j : Nat} (k : IsBot l.length (bt l) j) : endN l l.length = j := (bot_is h).uniq h.ord k
theorem top_uniq {j : Nat} (k : IsBot l.length (turn (bt l)) j) : endN (turnedN l) l.length = j := (top_is h).uniq h.ord.turn k

/-! ### What follows -/

theorem join_comm {a b : Nat} (ha : a < l.length) (hb : b < l.length) : nearN l l.length a b = nearN l l.length b a := join_uniq h ha hb (join_is h hb ha).comm
theorem meet_comm {a b : Nat} (ha : a < l.length) (hb : b < l.length) : nearN (turnedN l) l.length a b = nearN (turnedN l) l.length b a := meet_uniq h ha hb (meet_is h hb ha).comm
theorem join_self {a : Nat} (ha : a < l.length) : nearN l l.length a a = a := join_uniq h ha ha (IsJoin.self h.ord ha)
theorem meet_self {a : Nat} (ha : a < l.length) : nearN (turnedN l) l.length a a = a := meet_uniq h ha ha (IsJoin.self h.ord.turn ha)
theorem join_assoc {a b c : Nat} (ha : a < l.length) (hb : b < l.length) (hc : c < l.length) : nearN l l.length (nearN l l.length a b) c = nearN l l.length a (nearN l l.length b c) := by
  have h1 := join_is h ha hb
  have h2 := join_is h hb hc
  have h3 := join_is h h1.lt hc
  exact (join_uniq h ha h2.lt (IsJoin.assoc h.ord ha hb hc h1 h2 h3)).symm
theorem meet_assoc {a b c : Nat} (ha : a < l.length) (hb : b < l.length) (hc : c < l.length) : nearN (turnedN l) l.length (nearN (turnedN l) l.length a b) c = nearN (turnedN l) l.length a (nearN (turnedN l) l.length b c) := by
  have h1 := meet_is h ha hb
  have h2 := meet_is h hb hc
  have h3 := meet_is h h1.lt hc
  exact (meet_uniq h ha h2.lt (IsJoin.assoc h.ord.turn ha hb hc h1 h2 h3)).symm
theorem join_meet {a b : Nat} (ha : a < l.length) (hb : b < l.length) : nearN l l.length a (nearN (turnedN l) l.length a b) = a := by
  have h1 := meet_is h ha hb
  exact join_uniq h ha h1.lt (IsJoin.of_below h.ord h1.lt ha h1.fst).comm
theorem meet_join {a b : Nat} (ha : a < l.length) (hb : b < l.length) : nearN (turnedN l) l.length a (nearN l l.length a b) = a := by
  have h1 := join_is h ha hb
  exact meet_uniq h ha h1.lt (IsJoin.of_below h.ord.turn h1.lt ha h1.fst).comm

theorem join_below {a b : Nat} (ha : a < l.length) (hb : b < l.length) : bt l a b = (nearN l l.length a b == b) := by
  rw [Bool.eq_iff_iff, beq_iff_eq]
  constructor
  · intro g
    exact join_uniq h ha hb (IsJoin.of_below h.ord ha hb g)
  · intro e
    have := (join_is h ha hb).fst
    rwa [e] at this
theorem meet_below {a b : Nat} (ha : a < l.length) (hb : b < l.length) : bt l a b = (nearN (turnedN l) l.length a b == a) := by
  rw [Bool.eq_iff_iff, beq_iff_eq]
  constructor
  · intro g
    exact meet_uniq h ha hb (IsJoin.of_below h.ord.turn hb ha g).comm
  · intro e
    have := (meet_is h ha hb).snd
    rwa [e] at this

theorem join_bot {a : Nat} (ha : a < l.length) : nearN l l.length a (endN l l.length) = a := by
  have k := bot_is h
  exact join_uniq h ha k.lt (IsJoin.of_below h.ord k.lt ha (k.all a ha)).comm
theorem meet_top {a : Nat} (ha : a < l.length) : nearN (turnedN l) l.length a (endN (turnedN l) l.length) = a := by
  have k := top_is h
  exact meet_uniq h ha k.lt (IsJoin.of_below h.ord.turn k.lt ha (k.all a ha)).comm
theorem join_top {a : Nat} (ha : a < l.length) : nearN l l.length a (endN (turnedN l) l.length) = endN (turnedN l) l.length := by
  have k := top_is h
  exact join_uniq h ha k.lt (IsJoin.of_below h.ord ha k.lt (k.all a ha))
theorem meet_bot {a : Nat} (ha : a < l.length) : nearN (turnedN l) l.length a (endN l l.length) = endN l l.length := by
  have k := bot_is h
  exact meet_uniq h ha k.lt (IsJoin.of_below h.ord.turn ha k.lt (k.all a ha))

/-- Below a join's, and above a meet's. -/
theorem join_all {a b c : Nat} (ha : a < l.length) (hb : b < l.length) (hc : c < l.length) : (bt l a c && bt l b c) = bt l (nearN l l.length a b) c := by
  have k := join_is h ha hb
  rw [Bool.eq_iff_iff, Bool.and_eq_true]
  exact ⟨fun g => k.least c hc g.1 g.2, fun g => ⟨h.ord.on _ _ _ ha k.lt hc k.fst g, h.ord.on _ _ _ hb k.lt hc k.snd g⟩⟩
theorem meet_all {a b c : Nat} (ha : a < l.length) (hb : b < l.length) (hc : c < l.length) : (bt l c a && bt l c b) = bt l c (nearN (turnedN l) l.length a b) := by
  have k := meet_is h ha hb
  rw [Bool.eq_iff_iff, Bool.and_eq_true]
  exact ⟨fun g => k.least c hc g.1 g.2, fun g => ⟨h.ord.on _ _ _ hc k.lt ha g k.fst, h.ord.on _ _ _ hc k.lt hb g k.snd⟩⟩
end
end Go.Proofs.Ytomokkpfkhfemaa.La
