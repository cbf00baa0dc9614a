/- Senses as data: what a scheme says of its spots, what says no more, and what follows. No condition. -/
import Derived.Test.YthbonabadelfdaaGreatSch
import Derived.Test.YthbonabadelfdaaGreatBoUniq
import Derived.Test.YthbonabadelfdaaGreatReRch
namespace Go.Proofs.YthbonabadelfdaaGreat
open Go.RowKit

/-- What is told of the spots of a sort. -/
structure Sen where
  p : List Sp
  lo : List Nat
  hi : List Nat
  be : List (List Bool)
def Sen.none : Sen := ⟨[], [], [], []⟩

/-- A term's least or greatest value. -/
def tmL (u : List Nat) (p : Sp) : Nat := Bo.vl u p.v p.z.toNat
/-- Is one term below another one, always? -/
def alw (S : Bo.Sr) (lo hi : List Nat) (rc : Nat → Nat → Bool) (p q : Sp) : Bool := (p.v && (q.v && rc p.z.toNat q.z.toNat)) || S.below (tmL hi p) (tmL lo q)
def belS (S : Bo.Sr) (lo hi : List Nat) (rc : Nat → Nat → Bool) (p q : Sp) : Bool := !decide (p.s = 0) && (!decide (q.s = 1) && alw S lo hi rc p q)
def lowS (S : Bo.Sr) (lo : List Nat) (p : Sp) : Nat := if p.s = 1 then S.bot else tmL lo p
def highS (S : Bo.Sr) (hi : List Nat) (p : Sp) : Nat := if p.s = 0 then S.top else tmL hi p
def senS (S : Bo.Sr) (lo hi : List Nat) (rc : Nat → Nat → Bool) (l : List Sp) : Sen :=
  ⟨l, l.map (lowS S lo), l.map (highS S hi), l.map fun p => l.map (belS S lo hi rc p)⟩

/-! ### Less -/
def samePl (a b : Sp) : Bool := decide (a.n = b.n) && (decide (a.p = b.p) && decide (a.s = b.s))
def eqF {α : Type} (f : α → α → Bool) : List α → List α → Bool
  | [], [] => true
  | x :: l, y :: m => f x y && eqF f l m
  | _, _ => false
def withinB (a b : List Bool) : Bool := (a.zip b).all fun x => !x.1 || x.2
def wholeS (z : Sen) : Bool := decide (z.lo.length = z.p.length) && (decide (z.hi.length = z.p.length) && (decide (z.be.length = z.p.length) && (!z.p.any (fun p => decide (2 < p.s)) && !z.be.any (fun r => !decide (r.length = z.p.length)))))
def allBel (S : Bo.Sr) (a b : List Nat) : Bool := (a.zip b).all fun x => S.below x.1 x.2
def lessS (S : Bo.Sr) (a b : Sen) : Bool :=
  eqF samePl a.p b.p && (wholeS a && (wholeS b && (allBel S a.lo b.lo && (allBel S b.hi a.hi && eqF withinB a.be b.be))))

theorem eqF_iff {α : Type} {f : α → α → Bool} : ∀ {l m : List α}, eqF f l m = true ↔ l.length = m.length ∧ ∀ i (h : i < l.length) (h' : i < m.length), f l[i] m[i] = true
  | [], [] => by simp [eqF]
  | [], _ :: _ => by simp [eqF]
  | _ :: _, [] => by simp [eqF]
  | x :: l, y :: m => by
    rw [eqF, Bool.and_eq_true, eqF_iff (l := l) (m := m)]
    constructor
    · rintro ⟨h0, h1, h2⟩
      refine ⟨by simp [h1], fun i h h' => ?_⟩
      cases i with
      | zero => exact h0
      | succ i => exact h2 i (by simpa using h) (by simpa using h')
    · rintro ⟨h1, h2⟩
      exact ⟨h2 0 (by simp) (by simp), by simpa using h1, fun i h h' => h2 (i + 1) (by simpa using h) (by simpa using h')⟩
theorem zip_all {α β : Type} {f : α × β → Bool} {l : List α} {m : List β} (e : l.length = m.length) : (l.zip m).all f = true ↔ ∀ i (h : i < l.length) (h' : i < m.length), f (l[i], m[i]) = true := by
  rw [List.all_eq_true]
  constructor
  · intro h i h1 h2
    have : (l.zip m)[i]'(by simp; omega) = (l[i], m[i]) := by simp
    exact this ▸ h _ (List.getElem_mem _)
  · intro h x hx
    obtain ⟨i, hi, rfl⟩ := List.mem_iff_getElem.1 hx
    simp only [List.length_zip] at hi
    have : (l.zip m)[i]'(by simp; omega) = (l[i]'(by omega), m[i]'(by omega)) := by simp
    rw [this]
    exact h i (by omega) (by omega)
theorem whole_iff {z : Sen} : wholeS z = true ↔ z.lo.length = z.p.length ∧ z.hi.length = z.p.length ∧ z.be.length = z.p.length ∧ (∀ p ∈ z.p, p.s ≤ 2) ∧ ∀ r ∈ z.be, r.length = z.p.length := by
  unfold wholeS
  simp only [Bool.and_eq_true, decide_eq_true_eq, Bool.not_eq_true', List.any_eq_false, decide_eq_false_iff_not, Nat.not_lt, Decidable.not_not]

/-- What it says that one says no more than another one. -/
structure LessIs (S : Bo.Sr) (a b : Sen) : Prop where
  wa : wholeS a = true
  wb : wholeS b = true
  len : a.p.length = b.p.length
  at' : ∀ i (h : i < a.p.length) (h' : i < b.p.length), samePl a.p[i] b.p[i] = true
  low : ∀ i (h : i < a.lo.length) (h' : i < b.lo.length), S.below a.lo[i] b.lo[i] = true
  high : ∀ i (h : i < b.hi.length) (h' : i < a.hi.length), S.below b.hi[i] a.hi[i] = true
  bel : ∀ i (h : i < a.be.length) (h' : i < b.be.length) k (g : k < a.be[i].length) (g' : k < b.be[i].length), a.be[i][k] = true → b.be[i][k] = true

theorem less_is {S : Bo.Sr} {a b : Sen} : lessS S a b = true ↔ LessIs S a b := by
  unfold lessS
  simp only [Bool.and_eq_true]
  constructor
  · rintro ⟨h1, h2, h3, h4, h5, h6⟩
    obtain ⟨a1, a2, a3, a4, a5⟩ := whole_iff.1 h2
    obtain ⟨b1, b2, b3, b4, b5⟩ := whole_iff.1 h3
    obtain ⟨hl, h1⟩ := eqF_iff.1 h1
    obtain ⟨_, h6⟩ := eqF_iff.1 h6
    refine ⟨h2, h3, hl, h1, (zip_all (by omega)).1 h4, (zip_all (by omega)).1 h5, fun i h h' k g g' e => ?_⟩
    have hw := h6 i h h'
    have ea := a5 _ (List.getElem_mem h)
    have eb := b5 _ (List.getElem_mem h')
    have := (zip_all (by omega)).1 hw k g g'
    simp only [e, Bool.not_true, Bool.false_or] at this
    exact this
  · rintro ⟨h2, h3, hl, h1, h4, h5, h6⟩
    obtain ⟨a1, a2, a3, a4, a5⟩ := whole_iff.1 h2
    obtain ⟨b1, b2, b3, b4, b5⟩ := whole_iff.1 h3
    refine ⟨eqF_iff.2 ⟨hl, h1⟩, h2, h3, (zip_all (by omega)).2 h4, (zip_all (by omega)).2 h5, eqF_iff.2 ⟨by omega, fun i h h' => ?_⟩⟩
    have ea := a5 _ (List.getElem_mem h)
    have eb := b5 _ (List.getElem_mem h')
    refine (zip_all (by omega)).2 fun k g g' => ?_
    have := h6 i h h' k g g'
    cases e : a.be[i][k] with
    | false => rfl
    | true => simpa using this e
theorem less_trans {S : Bo.Sr} (hS : S.Ok) {a b c : Sen} (h1 : lessS S a b = true) (h2 : lessS S b c = true) : lessS S a c = true := by
  obtain ⟨wa, wb, l1, p1, lo1, hi1, be1⟩ := less_is.1 h1
  obtain ⟨_, wc, l2, p2, lo2, hi2, be2⟩ := less_is.1 h2
  obtain ⟨a1, a2, a3, a4, a5⟩ := whole_iff.1 wa
  obtain ⟨b1, b2, b3, b4, b5⟩ := whole_iff.1 wb
  obtain ⟨c1, c2, c3, c4, c5⟩ := whole_iff.1 wc
  refine less_is.2 ⟨wa, wc, l1.trans l2, fun i h h' => ?_, fun i h h' => ?_, fun i h h' => ?_, fun i h h' k g g' e => ?_⟩
  · have x := p1 i h (by omega)
    have y := p2 i (by omega) h'
    unfold samePl at x y ⊢
    simp only [Bool.and_eq_true, decide_eq_true_eq] at x y ⊢
    exact ⟨x.1.trans y.1, x.2.1.trans y.2.1, x.2.2.trans y.2.2⟩
  · exact hS.trans _ _ _ (lo1 i h (by omega)) (lo2 i (by omega) h')
  · exact hS.trans _ _ _ (hi2 i h (by omega)) (hi1 i (by omega) h')
  · have hb : i < b.be.length := by omega
    have eb := b5 _ (List.getElem_mem hb)
    have ea := a5 _ (List.getElem_mem h)
    exact be2 i hb h' k (by omega) g' (be1 i h hb k g (by omega) e)

/-! ### What a scheme's senses say -/
/-- What Solve and Of tell where they tell OK. -/
structure Got (S : Bo.Sr) (q : Nat) (l : List Bo.Bd) (lo hi : List Nat) : Prop where
  ok : S.Ok
  q64 : q ≤ 64
  may : ∀ b ∈ l, Bo.mayB S q b = true
  low : Bo.IsLow S q l lo
  high : Bo.IsLow S.turn q (l.map Bo.Bd.turn) hi
  hold : Bo.holdS S lo l = true

/-- Who reaches whom, as bounds of the same. -/
def rcB (q : Nat) (l : List Bo.Bd) (i j : Nat) : Bool := La.bt (Re.rchN q l) i j
theorem may_re {S : Bo.Sr} {q : Nat} {b : Bo.Bd} (h : Bo.mayB S q b = true) : Re.mayB q b = true := by
  unfold Bo.mayB Bo.mayT at h
  unfold Re.mayB Re.mayV
  rw [Bool.and_eq_true] at h ⊢
  obtain ⟨h1, h2⟩ := h
  constructor
  · cases hv : b.av with
    | false => rfl
    | true => rw [hv] at h1; simpa using h1
  · cases hv : b.bv with
    | false => rfl
    | true => rw [hv] at h2; simpa using h2

section
variable {S : Bo.Sr} {q : Nat} {l : List Bo.Bd} {lo hi : List Nat} (h : Got S q l lo hi)
include h

theorem Got.mayR : ∀ b ∈ l, Re.mayB q b = true := fun b hb => may_re (h.may b hb)
/-- A term that may stand at a spot. -/
theorem Got.has_lo {p : Sp} (hp : may1 S q p = true) : S.has (tmL lo p) = true := by
  unfold may1 Bo.mayT at hp
  unfold tmL Bo.vl
  rw [Int.toNat_natCast] at hp
  cases hv : p.v with
  | false => rw [hv] at hp; exact hp
  | true =>
    rw [hv] at hp
    exact h.low.has.2 _ (of_decide_eq_true hp)
theorem Got.has_hi {p : Sp} (hp : may1 S q p = true) : S.has (tmL hi p) = true := by
  unfold may1 Bo.mayT at hp
  unfold tmL Bo.vl
  rw [Int.toNat_natCast] at hp
  cases hv : p.v with
  | false => rw [hv] at hp; exact hp
  | true =>
    rw [hv] at hp
    exact h.high.has.2 _ (of_decide_eq_true hp)
theorem Got.holdH : Bo.holdS S hi l = true := Bo.high_hold h.ok h.may h.high h.low.has h.hold
/-- Values that hold lie between. -/
theorem Got.betw {u : List Nat} (hu : Bo.AllHas S q u) (hh : Bo.holdS S u l = true) {p : Sp} (hp : may1 S q p = true) : S.below (tmL lo p) (tmL u p) = true ∧ S.below (tmL u p) (tmL hi p) = true := by
  unfold may1 Bo.mayT at hp
  unfold tmL Bo.vl
  rw [Int.toNat_natCast] at hp
  cases hv : p.v with
  | false => rw [hv] at hp; exact ⟨h.ok.refl _ hp, h.ok.refl _ hp⟩
  | true =>
    rw [hv] at hp
    exact Bo.between h.low h.high hu hh _ (of_decide_eq_true hp)
theorem Got.lohi {p : Sp} (hp : may1 S q p = true) : S.below (tmL lo p) (tmL hi p) = true := (h.betw h.low.has h.hold hp).2
/-- Who reaches another one is below it, of any values that hold. -/
theorem Got.reach {u : List Nat} (hu : Bo.AllHas S q u) (hh : Bo.holdS S u l = true) {i j : Nat} (hr : rcB q l i j = true) : S.below (u.getD i 0) (u.getD j 0) = true := by
  have := Re.rch_least h.q64 h.mayR (T := fun i j => S.below (u.getD i 0) (u.getD j 0) = true) (fun i hi => h.ok.refl _ (hu.2 i hi)) (fun i j g => ?_) (fun i j k => h.ok.trans _ _ _) hr
  · exact this
  · obtain ⟨b, hb, h1, h2, rfl, rfl⟩ := g
    have := List.all_eq_true.1 hh b hb
    unfold Bo.okB at this
    rw [Bool.and_eq_true, h1, h2] at this
    exact this.2
theorem Got.alw {u : List Nat} (hu : Bo.AllHas S q u) (hh : Bo.holdS S u l = true) {p r : Sp} (hp : may1 S q p = true) (hr : may1 S q r = true) (ha : alw S lo hi (rcB q l) p r = true) : S.below (tmL u p) (tmL u r) = true := by
  unfold Go.Proofs.YthbonabadelfdaaGreat.alw at ha
  rw [Bool.or_eq_true] at ha
  rcases ha with ha | ha
  · simp only [Bool.and_eq_true] at ha
    obtain ⟨h1, h2, h3⟩ := ha
    unfold tmL Bo.vl
    rw [h1, h2]
    exact h.reach hu hh h3
  · exact h.ok.trans _ _ _ (h.betw hu hh hp).2 (h.ok.trans _ _ _ ha (h.betw hu hh hr).1)
theorem Got.self {p : Sp} (hp : may1 S q p = true) : Go.Proofs.YthbonabadelfdaaGreat.alw S lo hi (rcB q l) p p = true := by
  unfold Go.Proofs.YthbonabadelfdaaGreat.alw
  unfold may1 Bo.mayT at hp
  rw [Int.toNat_natCast] at hp
  cases hv : p.v with
  | true =>
    rw [hv] at hp
    rw [show rcB q l p.z.toNat p.z.toNat = true from Re.rch_self h.q64 h.mayR (of_decide_eq_true hp)]
    rfl
  | false =>
    rw [hv] at hp
    unfold tmL Bo.vl
    rw [hv]
    simpa using h.ok.refl _ hp
theorem Got.on {p r s : Sp} (hp : may1 S q p = true) (hr : may1 S q r = true) (hs : may1 S q s = true) (h1 : Go.Proofs.YthbonabadelfdaaGreat.alw S lo hi (rcB q l) p r = true) (h2 : Go.Proofs.YthbonabadelfdaaGreat.alw S lo hi (rcB q l) r s = true) : Go.Proofs.YthbonabadelfdaaGreat.alw S lo hi (rcB q l) p s = true := by
  have g1 := h.alw h.high.has h.holdH hp hr h1
  have g2 := h.alw h.low.has h.hold hr hs h2
  have g3 := h.lohi hr
  unfold Go.Proofs.YthbonabadelfdaaGreat.alw at h1 h2 ⊢
  rw [Bool.or_eq_true] at h1 h2 ⊢
  rcases h1 with h1 | h1
  · rcases h2 with h2 | h2
    · simp only [Bool.and_eq_true] at h1 h2 ⊢
      exact .inl ⟨h1.1, h2.2.1, Re.rch_on h.q64 h.mayR h1.2.2 h2.2.2⟩
    · exact .inr (h.ok.trans _ _ _ g1 h2)
  · exact .inr (h.ok.trans _ _ _ h1 g2)
/-- There is a bottom and a top, where something stands. -/
theorem Got.ends {p : Sp} (hp : may1 S q p = true) : S.has S.bot = true ∧ S.has S.top = true := by
  have := h.has_lo hp
  exact ⟨(h.ok.sub _ _ (h.ok.botl _ this)).1, (h.ok.sub _ _ (h.ok.topl _ this)).2⟩
theorem Got.lowH {p : Sp} (hp : may1 S q p = true) : S.has (lowS S lo p) = true := by
  unfold lowS
  split
  · exact (h.ends hp).1
  · exact h.has_lo hp
theorem Got.highH {p : Sp} (hp : may1 S q p = true) : S.has (highS S hi p) = true := by
  unfold highS
  split
  · exact (h.ends hp).2
  · exact h.has_hi hp
end

theorem sen_whole {S : Bo.Sr} {lo hi : List Nat} {rc : Nat → Nat → Bool} {l : List Sp} (hs : ∀ p ∈ l, p.s ≤ 2) : wholeS (senS S lo hi rc l) = true := by
  refine whole_iff.2 ⟨by simp [senS], by simp [senS], by simp [senS], hs, fun r hr => ?_⟩
  obtain ⟨p, -, rfl⟩ := List.mem_map.1 hr
  simp [senS]

/-- Two schemes' senses of the same spots, of which one's bounds say no less. -/
theorem sen_less {S : Bo.Sr} {lo hi lo' hi' : List Nat} {rc rc' : Nat → Nat → Bool} {l : List Sp} (hs : ∀ p ∈ l, p.s ≤ 2)
    (h1 : ∀ p ∈ l, S.below (lowS S lo p) (lowS S lo' p) = true) (h2 : ∀ p ∈ l, S.below (highS S hi' p) (highS S hi p) = true) (h3 : ∀ p ∈ l, ∀ r ∈ l, alw S lo hi rc p r = true → alw S lo' hi' rc' p r = true) : lessS S (senS S lo hi rc l) (senS S lo' hi' rc' l) = true := by
  refine less_is.2 ⟨sen_whole hs, sen_whole hs, rfl, fun i h h' => ?_, fun i h h' => ?_, fun i h h' => ?_, fun i h h' k g g' e => ?_⟩
  · show samePl l[i] l[i] = true
    simp [samePl]
  · simp only [senS, List.getElem_map]
    exact h1 _ (List.getElem_mem _)
  · simp only [senS, List.getElem_map]
    exact h2 _ (List.getElem_mem _)
  · simp only [senS, List.getElem_map] at e ⊢
    unfold belS at e ⊢
    rw [Bool.and_eq_true, Bool.and_eq_true] at e ⊢
    exact ⟨e.1, e.2.1, h3 _ (List.getElem_mem _) _ (List.getElem_mem _) e.2.2⟩
theorem Got.refl {S : Bo.Sr} {q : Nat} {b : List Bo.Bd} {lo hi : List Nat} (h : Got S q b lo hi) {l : List Sp} (hs : ∀ p ∈ l, p.s ≤ 2) (hm : ∀ p ∈ l, may1 S q p = true) : lessS S (senS S lo hi (rcB q b) l) (senS S lo hi (rcB q b) l) = true :=
  sen_less hs (fun p hp => h.ok.refl _ (h.lowH (hm p hp))) (fun p hp => h.ok.refl _ (h.highH (hm p hp))) fun _ _ _ _ e => e
/-- With more bounds no less is said. -/
theorem Got.more {S : Bo.Sr} {q : Nat} {b b' : List Bo.Bd} {lo hi lo' hi' : List Nat} (h : Got S q b lo hi) (h' : Got S q b' lo' hi') (hb : ∀ x ∈ b, x ∈ b') {l : List Sp} (hs : ∀ p ∈ l, p.s ≤ 2) (hm : ∀ p ∈ l, may1 S q p = true) : lessS S (senS S lo hi (rcB q b) l) (senS S lo' hi' (rcB q b') l) = true := by
  have hh : Bo.holdS S lo' b = true := Bo.hold_mem hb h'.hold
  have hh2 : Bo.holdS S hi' b = true := Bo.hold_mem hb h'.holdH
  have kl : ∀ p ∈ l, S.below (tmL lo p) (tmL lo' p) = true := fun p hp => (h.betw h'.low.has hh (hm p hp)).1
  have kh : ∀ p ∈ l, S.below (tmL hi' p) (tmL hi p) = true := fun p hp => (h.betw h'.high.has hh2 (hm p hp)).2
  refine sen_less hs (fun p hp => ?_) (fun p hp => ?_) fun p hp r hr e => ?_
  · unfold lowS
    split
    · exact h.ok.refl _ (h.ends (hm p hp)).1
    · exact kl p hp
  · unfold highS
    split
    · exact h.ok.refl _ (h.ends (hm p hp)).2
    · exact kh p hp
  · unfold Go.Proofs.YthbonabadelfdaaGreat.alw at e ⊢
    rw [Bool.or_eq_true] at e ⊢
    rcases e with e | e
    · simp only [Bool.and_eq_true] at e ⊢
      exact .inl ⟨e.1, e.2.1, Re.rch_more h.q64 h.mayR h'.mayR (fun i j ⟨x, hx, g⟩ => ⟨x, hb x hx, g⟩) e.2.2⟩
    · exact .inr (h.ok.trans _ _ _ (kh p hp) (h.ok.trans _ _ _ e (kl r hr)))
end Go.Proofs.YthbonabadelfdaaGreat
