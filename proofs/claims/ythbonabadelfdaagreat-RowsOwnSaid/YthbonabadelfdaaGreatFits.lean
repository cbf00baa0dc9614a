/- Numbers of 64 bits: of spots, and of what is ground. No condition. -/
import Derived.Test.YthbonabadelfdaaGreatSch
import Derived.Test.YthbonabadelfdaaGreatTerms
namespace Go.Proofs.YthbonabadelfdaaGreat
open Go.RowKit

theorem lab_u64 : ∀ (l : List Nd) (k : Nat) (ss : List Nat), (∀ x ∈ l, x.TFits) → ∀ p ∈ lab k l ss, U64 p.z
  | [], _, _, _, p, h => by simp [lab] at h
  | _ :: _, _, [], _, p, h => by simp [lab] at h
  | x :: l, k, s :: ss, hs, p, h => by
    have h0 := hs x List.mem_cons_self
    simp only [lab, List.mem_append] at h
    rcases h with h | h
    · unfold labS at h
      split at h
      · simp only [List.mem_cons, List.not_mem_nil, or_false] at h
        rcases h with rfl | rfl
        · exact h0.l
        · exact h0.p
      · simp only [List.mem_cons, List.not_mem_nil, or_false] at h
        subst h
        exact h0.l
    · exact lab_u64 l (k + 1) ss (fun y hy => hs y (List.mem_cons_of_mem _ hy)) p h
theorem eff_u64 : ∀ (l : List Nd) (k : Nat) (ss : List Nat), (∀ x ∈ l, x.TFits) → ∀ p ∈ eff k l ss, U64 p.z
  | [], _, _, _, p, h => by simp [eff] at h
  | _ :: _, _, [], _, p, h => by simp [eff] at h
  | x :: l, k, s :: ss, hs, p, h => by
    have h0 := hs x List.mem_cons_self
    simp only [eff, List.mem_append] at h
    rcases h with h | h
    · unfold effS at h
      split at h
      · simp only [List.mem_cons, List.not_mem_nil, or_false] at h
        subst h
        exact h0.e
      · simp at h
    · exact eff_u64 l (k + 1) ss (fun y hy => hs y (List.mem_cons_of_mem _ hy)) p h
theorem labB_u64 {l : List Nd} (h : ∀ x ∈ l, x.TFits) : ∀ p ∈ labB l, U64 p.z := by
  unfold labB
  split
  · exact lab_u64 l 0 _ h
  · simp
theorem effB_u64 {l : List Nd} (h : ∀ x ∈ l, x.TFits) : ∀ p ∈ effB l, U64 p.z := by
  unfold effB
  split
  · exact eff_u64 l 0 _ h
  · simp

theorem tfits_put {x : Nd} (h : x.TFits) {t : Tm} (ht : U64 t.2) (p : Nat) : (x.put p t).TFits := by
  unfold Nd.put
  split
  · exact ⟨ht, h.p, h.e⟩
  · split
    · exact ⟨h.l, ht, h.e⟩
    · exact ⟨h.l, h.p, ht⟩
theorem tfits_putL : ∀ (l : List Nd) (ts : List Tm), (∀ x ∈ l, x.TFits) → (∀ t ∈ ts, U64 t.2) → ∀ x ∈ putL l ts, x.TFits
  | [], _, _, _ => by simp [putL]
  | x :: l, [], h, _ => by simpa [putL] using h
  | x :: l, t :: ts, h, k => by
    have hx := h x List.mem_cons_self
    have hl := fun y hy => h y (List.mem_cons_of_mem x hy)
    have kt := k t List.mem_cons_self
    have ks := fun y hy => k y (List.mem_cons_of_mem t hy)
    unfold putL
    split
    · cases ts with
      | nil =>
        intro y hy
        rcases List.mem_cons.1 hy with rfl | hy
        · exact tfits_put hx kt 0
        · exact hl y hy
      | cons u us =>
        intro y hy
        rcases List.mem_cons.1 hy with rfl | hy
        · exact tfits_put (tfits_put hx kt 0) (ks u List.mem_cons_self) 1
        · exact tfits_putL l us hl (fun z hz => ks z (List.mem_cons_of_mem _ hz)) y hy
    · intro y hy
      rcases List.mem_cons.1 hy with rfl | hy
      · exact tfits_put hx kt 0
      · exact tfits_putL l ts hl ks y hy
theorem tfits_putE : ∀ (l : List Nd) (ts : List Tm), (∀ x ∈ l, x.TFits) → (∀ t ∈ ts, U64 t.2) → ∀ x ∈ putE l ts, x.TFits
  | [], _, _, _ => by simp [putE]
  | x :: l, ts, h, k => by
    have hx := h x List.mem_cons_self
    have hl := fun y hy => h y (List.mem_cons_of_mem x hy)
    unfold putE
    split
    · cases ts with
      | nil => exact h
      | cons u us =>
        intro y hy
        rcases List.mem_cons.1 hy with rfl | hy
        · exact tfits_put hx (k u List.mem_cons_self) 2
        · exact tfits_putE l us hl (fun z hz => k z (List.mem_cons_of_mem _ hz)) y hy
    · intro y hy
      rcases List.mem_cons.1 hy with rfl | hy
      · exact hx
      · exact tfits_putE l ts hl k y hy

theorem grT_u64 {u : List Nat} (hu : La.Fit u) {p : Sp} (h : U64 p.z) : U64 (grT u p).2 := by
  unfold grT
  cases p.v with
  | false => exact h
  | true =>
    show U64 ((u.getD p.z.toNat 0 : Nat) : Int)
    by_cases hl : p.z.toNat < u.length
    · have := hu.get _ hl
      rw [List.getD_eq_getElem?_getD, List.getElem?_eq_getElem hl]
      exact ⟨by simp, by simp only [Option.getD_some]; omega⟩
    · rw [List.getD_eq_getElem?_getD, List.getElem?_eq_none (Nat.le_of_not_lt hl)]
      exact ⟨by decide, by decide⟩

/-- What is ground fits. -/
theorem gr_fits {s : Sch} {u x : List Nat} (h : ∀ x ∈ s.b, x.Fits) : ∀ y ∈ s.grN u x, y.Fits := by
  unfold Sch.grN
  split
  · exact fits_putB _ _ h
  · simp
theorem gr_tfits {s : Sch} {u x : List Nat} (h : ∀ x ∈ s.b, x.TFits) (hu : La.Fit u) (hx : La.Fit x) : ∀ y ∈ s.grN u x, y.TFits := by
  unfold Sch.grN
  split
  · refine tfits_putE _ _ (tfits_putL _ _ h fun t ht => ?_) fun t ht => ?_
    · obtain ⟨p, hp, rfl⟩ := List.mem_map.1 ht
      exact grT_u64 hu (labB_u64 h p hp)
    · obtain ⟨p, hp, rfl⟩ := List.mem_map.1 ht
      exact grT_u64 hx (effB_u64 h p hp)
  · simp

theorem bnd_fit {p : Sp} (h : U64 p.z) : (bnd p).Fit := by
  have := h.hi
  have := h.lo
  exact ⟨by show p.z.toNat < _; omega, by show p.z.toNat < _; omega⟩
theorem bnds_fit {l : List Sp} (h : ∀ p ∈ l, U64 p.z) : ∀ b ∈ l.map bnd, b.Fit := fun b hb => by
  obtain ⟨p, hp, rfl⟩ := List.mem_map.1 hb
  exact bnd_fit (h p hp)
end Go.Proofs.YthbonabadelfdaaGreat
