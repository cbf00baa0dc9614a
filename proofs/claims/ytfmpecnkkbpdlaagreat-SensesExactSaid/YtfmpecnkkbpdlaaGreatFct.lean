/- What follows of senses of a scheme: by sides, and of who is below one that goes both. No condition. -/
import Derived.Test.YtfmpecnkkbpdlaaGreatSid
import Derived.Test.YtfmpecnkkbpdlaaGreatSpBelow
namespace Go.Proofs.YtfmpecnkkbpdlaaGreat

theorem eff_le : ∀ (l : List Nd) (k : Nat) (ss : List Nat), (∀ y ∈ ss, y ≤ 2) → ∀ p ∈ eff k l ss, p.s ≤ 2
  | [], _, _, _, p, h => by simp [eff] at h
  | _ :: _, _, [], _, p, h => by simp [eff] at h
  | x :: l, k, s :: ss, hs, p, h => by
    have h0 := hs s List.mem_cons_self
    simp only [eff, List.mem_append] at h
    rcases h with h | h
    · unfold effS at h
      split at h
      · simp only [List.mem_cons, List.not_mem_nil, or_false] at h
        subst h
        exact h0
      · cases h
    · exact eff_le l (k + 1) ss (fun y hy => hs y (List.mem_cons_of_mem _ hy)) p h
theorem effB_le (l : List Nd) : ∀ p ∈ effB l, p.s ≤ 2 := by
  unfold effB
  split
  · exact eff_le l 0 _ (sds_le l [0] (by simp))
  · simp

section
variable {S : Bo.Sr} {q : Nat} {b : List Bo.Bd} {lo hi : List Nat}
theorem sided_of (h : Got S q b lo hi) {l : List Sp} (hs : ∀ p ∈ l, p.s ≤ 2) (hm : ∀ p ∈ l, may1 S q p = true) : SidedIs (senS S lo hi (rcB q b) l) l := by
  refine ⟨rfl, by simp [senS], by simp [senS], by simp [senS], fun r hr => ?_, fun i hi k hk h' g' e => ?_, fun i hi h' g' => ?_⟩
  · obtain ⟨p, -, rfl⟩ := List.mem_map.1 hr
    simp
  · simp only [senS, List.getElem_map] at e
    unfold belS at e
    simp only [Bool.and_eq_true, Bool.not_eq_true', decide_eq_false_iff_not] at e
    exact ⟨e.1, e.2.1⟩
  · simp only [senS, List.getElem_map]
    have hself := h.self (hm _ (List.getElem_mem hi))
    have h2 := hs _ (List.getElem_mem hi)
    unfold belS
    rw [hself, Bool.and_true]
    generalize l[i].s = s at *
    have : s = 0 ∨ s = 1 ∨ s = 2 := by omega
    rcases this with rfl | rfl | rfl <;> rfl

/-- Who is below one that goes both. -/
structure OnIs (S : Bo.Sr) (z : Sen) : Prop where
  lo : z.lo.length = z.p.length
  hi : z.hi.length = z.p.length
  be : z.be.length = z.p.length
  row : ∀ r ∈ z.be, r.length = z.p.length
  on : ∀ i (hi : i < z.be.length) k (hk : k < z.be.length) m (_hm : m < z.be.length) (h1 : k < z.be[i].length) (h2 : m < z.be[k].length) (h3 : m < z.be[i].length), z.be[i][k] = true → z.be[k][m] = true → z.be[i][m] = true
  low : ∀ i (hi : i < z.be.length) k (_hk : k < z.be.length) (h1 : k < z.be[i].length) (g : i < z.p.length) (g1 : i < z.lo.length) (g2 : k < z.lo.length), z.be[i][k] = true → z.p[i].s = 2 → S.below z.lo[i] z.lo[k] = true
  high : ∀ i (hi : i < z.be.length) k (_hk : k < z.be.length) (h1 : k < z.be[i].length) (g : k < z.p.length) (g1 : i < z.hi.length) (g2 : k < z.hi.length), z.be[i][k] = true → z.p[k].s = 2 → S.below z.hi[i] z.hi[k] = true
theorem on_of (h : Got S q b lo hi) {l : List Sp} (hm : ∀ p ∈ l, may1 S q p = true) : OnIs S (senS S lo hi (rcB q b) l) := by
  have bel : ∀ p ∈ l, ∀ r ∈ l, belS S lo hi (rcB q b) p r = true ↔ p.s ≠ 0 ∧ r.s ≠ 1 ∧ alw S lo hi (rcB q b) p r = true := fun p _ r _ => by
    unfold belS
    simp only [Bool.and_eq_true, Bool.not_eq_true', decide_eq_false_iff_not, ne_eq]
  refine ⟨by simp [senS], by simp [senS], by simp [senS], fun r hr => ?_, fun i hi k hk m hm' h1 h2 h3 e1 e2 => ?_, fun i hi k hk h1 g g1 g2 e hs => ?_, fun i hi k hk h1 g g1 g2 e hs => ?_⟩
  · obtain ⟨p, -, rfl⟩ := List.mem_map.1 hr
    simp [senS]
  · simp only [senS, List.getElem_map] at e1 e2 ⊢
    have il : i < l.length := by simpa [senS] using hi
    have kl : k < l.length := by simpa [senS] using hk
    have ml : m < l.length := by simpa [senS] using hm'
    rw [bel _ (List.getElem_mem il) _ (List.getElem_mem kl)] at e1
    rw [bel _ (List.getElem_mem kl) _ (List.getElem_mem ml)] at e2
    rw [bel _ (List.getElem_mem il) _ (List.getElem_mem ml)]
    exact ⟨e1.1, e2.2.1, h.on (hm _ (List.getElem_mem il)) (hm _ (List.getElem_mem kl)) (hm _ (List.getElem_mem ml)) e1.2.2 e2.2.2⟩
  · simp only [senS, List.getElem_map] at e hs ⊢
    have il : i < l.length := by simpa [senS] using hi
    have kl : k < l.length := by simpa [senS] using hk
    rw [bel _ (List.getElem_mem il) _ (List.getElem_mem kl)] at e
    have := h.alw h.low.has h.hold (hm _ (List.getElem_mem il)) (hm _ (List.getElem_mem kl)) e.2.2
    unfold lowS
    rw [if_neg e.2.1, if_neg (by rw [hs]; decide)]
    exact this
  · simp only [senS, List.getElem_map] at e hs ⊢
    have il : i < l.length := by simpa [senS] using hi
    have kl : k < l.length := by simpa [senS] using hk
    rw [bel _ (List.getElem_mem il) _ (List.getElem_mem kl)] at e
    have := h.alw h.high.has h.holdH (hm _ (List.getElem_mem il)) (hm _ (List.getElem_mem kl)) e.2.2
    unfold highS
    rw [if_neg e.1, if_neg (by rw [hs]; decide)]
    exact this
end
end Go.Proofs.YtfmpecnkkbpdlaaGreat
