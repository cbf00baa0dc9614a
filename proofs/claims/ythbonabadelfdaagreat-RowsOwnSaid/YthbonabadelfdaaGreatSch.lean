/- Schemes as data: what Check tells, what Ground makes, and what follows. No condition. -/
import Derived.Test.YthbonabadelfdaaGreatPutB
import Derived.Test.YthbonabadelfdaaGreatLaw2
import Derived.Test.YthbonabadelfdaaGreatBoChk
namespace Go.Proofs.YthbonabadelfdaaGreat
open Go.RowKit

/-- A scheme: how many variables, its body, its bounds. -/
structure Sch where
  lv : Int
  ev : Int
  b : List Nd
  l : List Bo.Bd
  e : List Bo.Bd

/-- A bound of a spot's term with itself. -/
def bnd (p : Sp) : Bo.Bd := ⟨p.v, p.z.toNat, p.v, p.z.toNat⟩
def orE (a b : Int) : Int := if a = 0 then b else a
/-- What Check tells. -/
def Sch.check (S X : Bo.Sr) (s : Sch) : Int :=
  if checkB s.b = 0 then orE (Bo.chkS S s.lv s.l) (orE (Bo.chkS X s.ev s.e) (orE (Bo.chkS S s.lv ((labB s.b).map bnd)) (Bo.chkS X s.ev ((effB s.b).map bnd)))) else (checkB s.b : Int)

theorem orE_zero {a b : Int} : orE a b = 0 ↔ a = 0 ∧ b = 0 := by
  unfold orE
  split
  · simp_all
  · simp_all

/-- Where a term may stand. -/
def may1 (S : Bo.Sr) (k : Int) (p : Sp) : Bool := Bo.mayT S k.toNat p.v p.z.toNat
theorem mayB_bnd (S : Bo.Sr) (k : Nat) (p : Sp) : Bo.mayB S k (bnd p) = Bo.mayT S k p.v p.z.toNat := by
  simp [Bo.mayB, bnd]
theorem chk_zero {S : Bo.Sr} {k : Int} {l : List Bo.Bd} : Bo.chkS S k l = 0 ↔ 0 ≤ k ∧ k ≤ 64 ∧ l.length ≤ 256 ∧ ∀ b ∈ l, Bo.mayB S k.toNat b = true := by
  unfold Bo.chkS
  split
  · rename_i h
    constructor
    · intro e; cases e
    · rintro ⟨h1, h2, h3, -⟩; omega
  · rename_i h
    split
    · rename_i h2
      exact ⟨fun _ => ⟨by omega, by omega, by omega, fun b hb => List.all_eq_true.1 h2 b hb⟩, fun _ => rfl⟩
    · rename_i h2
      constructor
      · intro e; cases e
      · rintro ⟨-, -, -, h3⟩
        exact absurd (List.all_eq_true.2 h3) h2
theorem chk_bnd {S : Bo.Sr} {k : Int} {l : List Sp} (hl : l.length ≤ 256) : Bo.chkS S k (l.map bnd) = 0 ↔ 0 ≤ k ∧ k ≤ 64 ∧ ∀ p ∈ l, may1 S k p = true := by
  rw [chk_zero, List.length_map]
  constructor
  · rintro ⟨h1, h2, -, h3⟩
    refine ⟨h1, h2, fun p hp => ?_⟩
    have := h3 (bnd p) (List.mem_map_of_mem hp)
    rwa [mayB_bnd] at this
  · rintro ⟨h1, h2, h3⟩
    refine ⟨h1, h2, hl, fun b hb => ?_⟩
    obtain ⟨p, hp, rfl⟩ := List.mem_map.1 hb
    rw [mayB_bnd]
    exact h3 p hp

theorem Sch.check_is {S X : Bo.Sr} {s : Sch} : s.check S X = 0 ↔ checkB s.b = 0 ∧ Bo.chkS S s.lv s.l = 0 ∧ Bo.chkS X s.ev s.e = 0 ∧ (∀ p ∈ labB s.b, may1 S s.lv p = true) ∧ ∀ p ∈ effB s.b, may1 X s.ev p = true := by
  have h1 := labB_len s.b
  have h2 : (effB s.b).length ≤ 256 := Nat.le_trans (effB_len s.b) (by decide)
  unfold Sch.check
  split
  · rename_i h0
    rw [orE_zero, orE_zero, orE_zero, chk_bnd h1, chk_bnd h2]
    constructor
    · rintro ⟨a, b, ⟨-, -, c⟩, -, -, d⟩
      exact ⟨h0, a, b, c, d⟩
    · rintro ⟨-, a, b, c, d⟩
      obtain ⟨a1, a2, -⟩ := chk_zero.1 a
      obtain ⟨b1, b2, -⟩ := chk_zero.1 b
      exact ⟨a, b, ⟨a1, a2, c⟩, b1, b2, d⟩
  · rename_i h0
    constructor
    · intro e; omega
    · rintro ⟨a, -⟩; exact absurd a h0

/-! ### Ground -/
def lackS (u : List Nat) (p : Sp) : Bool := p.v && decide (u.length ≤ p.z.toNat)
def fitS (u : List Nat) (k : Int) (l : List Sp) : Bool := decide ((u.length : Int) = k) && !l.any (lackS u)
/-- A spot's term, ground. -/
def grT (u : List Nat) (p : Sp) : Tm := (false, cond p.v ((u.getD p.z.toNat 0 : Nat) : Int) p.z)
def Sch.grE (s : Sch) (u x : List Nat) : Nat := if checkB s.b = 0 then (if fitS u s.lv (labB s.b) && fitS x s.ev (effB s.b) then 0 else 1) else checkB s.b
def Sch.grN (s : Sch) (u x : List Nat) : List Nd := if s.grE u x = 0 then putB s.b ((labB s.b).map (grT u)) ((effB s.b).map (grT x)) else []

theorem fitS_is {u : List Nat} {k : Int} {l : List Sp} : fitS u k l = true ↔ (u.length : Int) = k ∧ ∀ p ∈ l, lackS u p = false := by
  unfold fitS
  simp only [Bool.and_eq_true, decide_eq_true_eq, Bool.not_eq_true', List.any_eq_false, Bool.not_eq_true]
theorem Sch.grE_is {s : Sch} {u x : List Nat} : s.grE u x = 0 ↔ checkB s.b = 0 ∧ fitS u s.lv (labB s.b) = true ∧ fitS x s.ev (effB s.b) = true := by
  unfold Sch.grE
  split
  · rename_i h0
    split
    · rename_i h
      rw [Bool.and_eq_true] at h
      simp [h0, h]
    · rename_i h
      rw [Bool.and_eq_true] at h
      simp only [h0, true_and, h, iff_false]
      decide
  · rename_i h0
    simp [h0]

theorem zip_map (f : Sp → Tm) : ∀ l : List Sp, List.zipWith Sp.re l (l.map f) = l.map fun p => p.re (f p)
  | [] => rfl
  | p :: l => by simp [zip_map f l]

/-- What is ground. -/
structure GrIs (s : Sch) (u x : List Nat) (g : List Nd) : Prop where
  chk : checkB g = 0
  lab : labB g = (labB s.b).map fun p => p.re (grT u p)
  eff : effB g = (effB s.b).map fun p => p.re (grT x p)
  same : sameB s.b g = true
theorem Sch.gr_is {s : Sch} {u x : List Nat} (h : s.grE u x = 0) : GrIs s u x (s.grN u x) := by
  obtain ⟨h0, -, -⟩ := Sch.grE_is.1 h
  have e : s.grN u x = putB s.b ((labB s.b).map (grT u)) ((effB s.b).map (grT x)) := by unfold Sch.grN; rw [if_pos h]
  rw [e]
  exact ⟨by rw [putB_check, h0], by rw [putB_lab h0 (by simp), zip_map], by rw [putB_eff h0 (by simp), zip_map], putB_same _ _ _⟩

theorem GrIs.still {s : Sch} {u x : List Nat} {g : List Nd} (h : GrIs s u x g) : (∀ p ∈ labB g, p.v = false) ∧ ∀ p ∈ effB g, p.v = false := by
  rw [h.lab, h.eff]
  constructor
  all_goals
    intro p hp
    obtain ⟨q, -, rfl⟩ := List.mem_map.1 hp
    rfl

/-- A body without variables is ground to itself. -/
theorem ground_self {g : List Nd} (h0 : checkB g = 0) (h1 : ∀ p ∈ labB g, p.v = false) (h2 : ∀ p ∈ effB g, p.v = false) : Sch.grE ⟨0, 0, g, [], []⟩ [] [] = 0 ∧ Sch.grN ⟨0, 0, g, [], []⟩ [] [] = g := by
  have f : ∀ l : List Sp, (∀ p ∈ l, p.v = false) → fitS [] 0 l = true ∧ l.map (grT []) = l.map Sp.t := fun l h => by
    refine ⟨fitS_is.2 ⟨rfl, fun p hp => by rw [lackS, h p hp]; rfl⟩, List.map_congr_left fun p hp => ?_⟩
    rw [grT, Sp.t, h p hp]
    rfl
  have e : Sch.grE ⟨0, 0, g, [], []⟩ [] [] = 0 := Sch.grE_is.2 ⟨h0, (f _ h1).1, (f _ h2).1⟩
  refine ⟨e, ?_⟩
  unfold Sch.grN
  rw [if_pos e]
  show putB g ((labB g).map (grT [])) ((effB g).map (grT [])) = g
  rw [(f _ h1).2, (f _ h2).2]
  exact putB_own h0

/-- Of a scheme that may be there is a ground of as many values; of more, or fewer, there is none. -/
theorem Sch.gr_all {S X : Bo.Sr} {s : Sch} (h : s.check S X = 0) {u x : List Nat} (hu : (u.length : Int) = s.lv) (hx : (x.length : Int) = s.ev) : s.grE u x = 0 := by
  obtain ⟨h0, -, -, h1, h2⟩ := Sch.check_is.1 h
  have f : ∀ (S : Bo.Sr) (k : Int) (u : List Nat) (l : List Sp), (u.length : Int) = k → (∀ p ∈ l, may1 S k p = true) → fitS u k l = true := fun S k u l hu h => by
    refine fitS_is.2 ⟨hu, fun p hp => ?_⟩
    have := h p hp
    unfold may1 Bo.mayT at this
    unfold lackS
    cases hv : p.v with
    | false => rfl
    | true =>
      rw [hv] at this
      have := of_decide_eq_true this
      simp
      omega
  exact Sch.grE_is.2 ⟨h0, f S _ _ _ hu h1, f X _ _ _ hx h2⟩
theorem Sch.gr_no {S X : Bo.Sr} {s : Sch} (h : s.check S X = 0) {u x : List Nat} (hn : (u.length : Int) ≠ s.lv ∨ (x.length : Int) ≠ s.ev) : s.grE u x = 1 := by
  obtain ⟨h0, -⟩ := Sch.check_is.1 h
  unfold Sch.grE
  rw [if_pos h0, if_neg]
  rw [Bool.and_eq_true, fitS_is, fitS_is]
  rintro ⟨⟨a, -⟩, b, -⟩
  rcases hn with h | h
  · exact h a
  · exact h b

/-- Values that are such. -/
theorem Sch.gr_hold {S X : Bo.Sr} {s : Sch} (h : s.check S X = 0) {u x : List Nat} (he : s.grE u x = 0) (hu : ∀ a ∈ u, S.has a = true) (hx : ∀ a ∈ x, X.has a = true) : Sch.check S X ⟨0, 0, s.grN u x, [], []⟩ = 0 := by
  obtain ⟨-, -, -, h1, h2⟩ := Sch.check_is.1 h
  obtain ⟨-, f1, f2⟩ := Sch.grE_is.1 he
  have g := Sch.gr_is he
  have f : ∀ (S : Bo.Sr) (k : Int) (u : List Nat) (l : List Sp), (∀ a ∈ u, S.has a = true) → fitS u k l = true → (∀ p ∈ l, may1 S k p = true) → ∀ p ∈ l.map (fun p => p.re (grT u p)), may1 S 0 p = true := fun S k u l ha hf hm p hp => by
    obtain ⟨q, hq, rfl⟩ := List.mem_map.1 hp
    have hl := (fitS_is.1 hf).2 q hq
    have hm := hm q hq
    unfold may1 Bo.mayT at hm ⊢
    show S.has (cond q.v ((u.getD q.z.toNat 0 : Nat) : Int) q.z).toNat = true
    unfold lackS at hl
    cases hv : q.v with
    | false =>
      rw [hv] at hm
      exact hm
    | true =>
      rw [hv] at hl
      simp only [Bool.true_and, decide_eq_false_iff_not, Nat.not_le] at hl
      simp only [cond_true, Int.toNat_natCast]
      rw [List.getD_eq_getElem?_getD, List.getElem?_eq_getElem hl]
      exact ha _ (List.getElem_mem hl)
  refine Sch.check_is.2 ⟨g.chk, chk_zero.2 ⟨Int.le_refl 0, show (0 : Int) ≤ 64 by decide, Nat.zero_le _, fun _ hb => by cases hb⟩, chk_zero.2 ⟨Int.le_refl 0, show (0 : Int) ≤ 64 by decide, Nat.zero_le _, fun _ hb => by cases hb⟩, ?_, ?_⟩
  · show ∀ p ∈ labB (s.grN u x), may1 S 0 p = true
    rw [g.lab]
    exact f S _ u _ hu f1 h1
  · show ∀ p ∈ effB (s.grN u x), may1 X 0 p = true
    rw [g.eff]
    exact f X _ x _ hx f2 h2

/-! ### One variable more, or fewer -/
theorem mayT_up {S : Bo.Sr} {k : Nat} {v : Bool} {n : Nat} (h : Bo.mayT S k v n = true) : Bo.mayT S (k + 1) v n = true := by
  unfold Bo.mayT at h ⊢
  cases v with
  | false => exact h
  | true =>
    have := of_decide_eq_true h
    exact decide_eq_true (by omega)
theorem chk_up {S : Bo.Sr} {k : Int} {l : List Bo.Bd} (h : Bo.chkS S k l = 0) : Bo.chkS S (k + 1) l = if k < 64 then 0 else 3 := by
  obtain ⟨h1, h2, h3, h4⟩ := chk_zero.1 h
  split
  · refine chk_zero.2 ⟨by omega, by omega, h3, fun b hb => ?_⟩
    have := h4 b hb
    unfold Bo.mayB at this ⊢
    rw [Bool.and_eq_true] at this ⊢
    rw [show (k + 1).toNat = k.toNat + 1 by omega]
    exact ⟨mayT_up this.1, mayT_up this.2⟩
  · unfold Bo.chkS
    rw [if_pos (by omega)]
theorem Sch.check_up {S X : Bo.Sr} {s : Sch} (h : s.check S X = 0) : Sch.check S X ⟨s.lv + 1, s.ev + 1, s.b, s.l, s.e⟩ = if s.lv < 64 ∧ s.ev < 64 then 0 else 3 := by
  obtain ⟨h0, h1, h2, h3, h4⟩ := Sch.check_is.1 h
  have up : ∀ (S : Bo.Sr) (k : Int) (l : List Sp), 0 ≤ k → (∀ p ∈ l, may1 S k p = true) → ∀ p ∈ l, may1 S (k + 1) p = true := fun S k l hk h p hp => by
    have := h p hp
    unfold may1 at this ⊢
    rw [show (k + 1).toNat = k.toNat + 1 by omega]
    exact mayT_up this
  have k1 := (chk_zero.1 h1).1
  have k2 := (chk_zero.1 h2).1
  split
  · rename_i hlt
    exact Sch.check_is.2 ⟨h0, by rw [chk_up h1, if_pos hlt.1], by rw [chk_up h2, if_pos hlt.2], up S _ _ k1 h3, up X _ _ k2 h4⟩
  · rename_i hlt
    unfold Sch.check
    rw [if_pos h0]
    show orE (Bo.chkS S (s.lv + 1) s.l) (orE (Bo.chkS X (s.ev + 1) s.e) _) = 3
    rw [chk_up h1, chk_up h2]
    by_cases hl : s.lv < 64
    · rw [if_pos hl, if_neg (by omega)]
      rfl
    · rw [if_neg hl]
      rfl

/-- Is a term just this variable? -/
def isV (m : Nat) (v : Bool) (n : Nat) : Bool := v && decide (n = m)
def askB (m : Nat) (b : Bo.Bd) : Bool := isV m b.av b.an || isV m b.bv b.bn
def askP (m : Nat) (p : Sp) : Bool := isV m p.v p.z.toNat
theorem mayT_down {S : Bo.Sr} {k : Nat} {v : Bool} {n : Nat} (h : Bo.mayT S (k + 1) v n = true) : Bo.mayT S k v n = !isV k v n := by
  unfold Bo.mayT at h ⊢
  unfold isV
  cases v with
  | false => exact h
  | true =>
    have := of_decide_eq_true h
    simp only [cond_true, Bool.true_and]
    rw [← decide_not]
    exact decide_eq_decide.2 (by omega)
theorem chk_down {S : Bo.Sr} {k : Nat} {l : List Bo.Bd} (h : Bo.chkS S ((k : Int) + 1) l = 0) : Bo.chkS S (k : Int) l = 0 ↔ l.any (askB k) = false := by
  obtain ⟨h1, h2, h3, h4⟩ := chk_zero.1 h
  rw [chk_zero, List.any_eq_false]
  rw [show ((k : Int) + 1).toNat = k + 1 by omega] at h4
  rw [Int.toNat_natCast]
  have e : ∀ b ∈ l, Bo.mayB S k b = !askB k b := fun b hb => by
    have := h4 b hb
    unfold Bo.mayB at this ⊢
    rw [Bool.and_eq_true] at this
    rw [mayT_down this.1, mayT_down this.2, askB, Bool.not_or]
  constructor
  · rintro ⟨-, -, -, h5⟩ b hb
    have := h5 b hb
    rw [e b hb] at this
    simpa using this
  · intro h5
    refine ⟨by omega, by omega, h3, fun b hb => ?_⟩
    rw [e b hb]
    have := h5 b hb
    simpa using this
theorem Sch.check_down {S X : Bo.Sr} {s : Sch} {k : Nat} (hk : s.lv = (k : Int) + 1) (h : s.check S X = 0) : Sch.check S X ⟨(k : Int), s.ev, s.b, s.l, s.e⟩ = 0 ↔ (s.l.any (askB k) || (labB s.b).any (askP k)) = false := by
  obtain ⟨h0, h1, h2, h3, h4⟩ := Sch.check_is.1 h
  rw [hk] at h1 h3
  rw [Sch.check_is, Bool.or_eq_false_iff, ← chk_down h1]
  have e : (∀ p ∈ labB s.b, may1 S (k : Int) p = true) ↔ (labB s.b).any (askP k) = false := by
    rw [List.any_eq_false]
    have e : ∀ p ∈ labB s.b, may1 S (k : Int) p = !askP k p := fun p hp => by
      have := h3 p hp
      unfold may1 at this ⊢
      rw [show ((k : Int) + 1).toNat = k + 1 by omega] at this
      rw [Int.toNat_natCast, mayT_down this, askP]
    constructor
    · intro h p hp
      have := h p hp
      rw [e p hp] at this
      simpa using this
    · intro h p hp
      rw [e p hp]
      have := h p hp
      simpa using this
  rw [← e]
  exact ⟨fun ⟨_, a, _, b, _⟩ => ⟨a, b⟩, fun ⟨a, b⟩ => ⟨h0, a, h2, b, h4⟩⟩
end Go.Proofs.YthbonabadelfdaaGreat
