/- Rows of terms that came in; bodies that are the same but for their terms may both be, or neither. Condition: they can be read. -/
import Derived.Test.YtmiconjmeaammaaNdLaw
import Derived.Test.YtmiconjmeaammaaOpenNd
namespace Go.Proofs.Ytmiconjmeaammaa
open Go.ChangeShapes Go.WideShapes Go.ChangeAt Go.RowKit Go.Deep

/-- The cells of a term. -/
def tmc (t : Bool × Int) : List Value := [.bool t.1, .int .u64 t.2]
theorem tmc_len (t : Bool × Int) : (tmc t).length = 2 := rfl

theorem opened_terms {H : Type} {enc : TypeId × Value → H} {W : World} {a0 : Option Addr} {len0 cap0 : Nat} {d : DataW H} {p : List MemPlace} (h : DataW.Trod enc Try.prog W 0 (fun _ => true) true 68 (.slice a0 len0 cap0) d p) :
    ∃ l : List (Bool × Int), Rs tmc 2 W W.heap.size a0 len0 cap0 l := by
  obtain ⟨fuel, hf⟩ := h
  rcases open_slice Try.underlying68 hf with ⟨hcs, _⟩ | ⟨x, l, c, m, n, D, Pl, hcs, _, hl, hm, hmm, _, hx⟩
  · simp [Value.cells] at hcs
    obtain ⟨rfl, rfl, rfl⟩ := hcs
    exact ⟨[], Rs.nil _ _⟩
  · simp [Value.cells] at hcs
    obtain ⟨rfl, rfl, rfl⟩ := hcs
    have hm' : m = cap0 := by simpa using hmm
    have each : ∀ i, i < len0 → ∃ y : Bool × Int, ∀ j u, (tmc y)[j]? = some u → W.cell? ((x.add (i * 2)).add j) = some u := by
      intro i hi
      obtain ⟨cs', h1, h2⟩ := hx i (by omega)
      obtain ⟨b, z, rfl, _⟩ := open_term h2
      rw [c34] at h1
      obtain ⟨_, _, hc⟩ := World.cells?_some h1
      refine ⟨(b, z), fun j u hu => ?_⟩
      have hj : j < (tmc (b, z)).length := (List.getElem?_eq_some_iff.1 hu).1
      have := hc j (by rw [tmc_len] at hj; exact hj)
      rw [this]
      exact hu
    obtain ⟨f, hf⟩ : ∃ f : Nat → Bool × Int, ∀ i, i < len0 → ∀ j u, (tmc (f i))[j]? = some u → W.cell? ((x.add (i * 2)).add j) = some u :=
      ⟨fun i => if h : i < len0 then Classical.choose (each i h) else (false, 0), fun i h => by
        simp only [dif_pos h]
        exact Classical.choose_spec (each i h)⟩
    refine ⟨(List.range len0).map f, ⟨by simp, hl, hm, (fun h => by cases h), fun h0 => ?_⟩⟩
    obtain ⟨b, o, spot⟩ := x
    have hc0 := hf 0 (by omega) 0 _ rfl
    have hspot : spot = none := by simpa [Addr.add] using World.cell?_spot hc0
    subst hspot
    refine ⟨b, o, rfl, ?_, fun j hj i u hu => ?_⟩
    · exact World.block_lt_of_cell? W ⟨b, o, none⟩ (by simpa [Addr.add] using hc0)
    · rw [List.length_map, List.length_range] at hj
      simp only [List.getElem_map, List.getElem_range] at hu
      have := hf j hj i u hu
      rwa [Addr.add_lit, Addr.add_lit] at this

/-- The cells of one of them. -/
theorem term_at {w : World} {B n c : Nat} {A : Option Addr} {l : List (Bool × Int)} (h : Rs tmc 2 w B A n c l) {k : Nat} (hk : k < l.length) : ∃ b o, A = some ⟨b, o, none⟩ ∧ b < B ∧
    w.cell? ⟨b, o + k * 2, none⟩ = some (.bool l[k].1) ∧ w.cell? ⟨b, o + k * 2 + 1, none⟩ = some (.int .u64 l[k].2) := by
  obtain ⟨b, o, e, hb, hc⟩ := h.spot (by have := h.len; omega)
  have hc := hc k hk
  exact ⟨b, o, e, hb, hc 0 _ rfl, hc 1 _ rfl⟩

/-- The same but for terms that may stand there. -/
structure Alk (x y : Nd) : Prop where
  k : x.k = y.k
  m : x.m = y.m
  s : x.s = y.s
  n : x.n = y.n
  may : x.may = y.may
theorem Alk.refl (x : Nd) : Alk x x := ⟨rfl, rfl, rfl, rfl, rfl⟩
theorem Alk.alike {x y : Nd} (h : Alk x y) : alikeB x y = true := by simp [alikeB, h.k, h.m, h.s, h.n]

theorem chk_alk : ∀ (a b : List Nd) (st : List Nat), a.length = b.length → (∀ j (h : j < a.length) (h' : j < b.length), Alk a[j] b[j]) → chk a st = chk b st
  | [], [], _, _, _ => rfl
  | [], _ :: _, _, h, _ => by simp at h
  | _ :: _, [], _, h, _ => by simp at h
  | x :: a, y :: b, [], _, _ => rfl
  | x :: a, y :: b, d :: st, h, hj => by
    have h0 : Alk x y := hj 0 (by simp) (by simp)
    have hr : ∀ st, chk a st = chk b st := fun st => chk_alk a b st (by simpa using h) fun j h1 h2 => hj (j + 1) (by simpa using h1) (by simpa using h2)
    rw [chk_one, chk_one, h0.may, h0.n, hr]
    unfold opens
    rw [h0.n]

theorem check_alk {a b : List Nd} (h : a.length = b.length) (hj : ∀ j (h : j < a.length) (h' : j < b.length), Alk a[j] b[j]) : checkB a = checkB b := by
  unfold checkB
  rw [chk_alk a b [1] h hj]
  by_cases h0 : a = []
  · have : b = [] := List.eq_nil_of_length_eq_zero (by rw [← h, h0]; rfl)
    rw [if_pos h0, if_pos this]
  · have : b ≠ [] := by rintro rfl; exact h0 (List.eq_nil_of_length_eq_zero (by rw [h]; rfl))
    rw [if_neg h0, if_neg this, h]

theorem same_alk {a b : List Nd} (h : a.length = b.length) (hj : ∀ j (h : j < a.length) (h' : j < b.length), Alk a[j] b[j]) : sameB a b = true :=
  (same_iff a b).2 ⟨h, fun j h1 h2 => (hj j h1 h2).alike⟩

/-- Another label. -/
def withL (x : Nd) (t : Bool × Int) : Nd := { x with lv := t.1, ln := t.2 }
/-- Other terms of a function. -/
def withF (x : Nd) (t u : Bool × Int) : Nd := { x with pv := t.1, pn := t.2, ev := u.1, en := u.2 }
theorem alk_L (x : Nd) (t : Bool × Int) : Alk x (withL x t) := ⟨rfl, rfl, rfl, rfl, rfl⟩
theorem alk_F (x : Nd) (t u : Bool × Int) (h : x.k = 5) : Alk x (withF x t u) := ⟨rfl, rfl, rfl, rfl, by
  obtain ⟨k, m, s, n, lv, ln, pv, pn, ev, en⟩ := x
  simp only at h
  subst h
  rfl⟩

theorem set_cells {l : List Nd} {k : Nat} (h : k < l.length) {u : Value} {i : Nat} (hi : i < 10) {y : Nd} (hy : ndc y = (ndc l[k]).set i u) {tl : List Value} :
    (l.flatMap ndc ++ tl).set (k * 10 + i) u = (l.set k y).flatMap ndc ++ tl := by
  have h10 : (l.flatMap ndc).length = l.length * 10 := flat_len ndc_len l
  rw [List.set_append_left _ _ (by rw [h10]; omega)]
  congr 1
  induction l generalizing k with
  | nil => simp at h
  | cons x l ih =>
    cases k with
    | zero =>
      simp only [List.getElem_cons_zero] at hy
      rw [List.set_cons_zero, List.flatMap_cons, List.flatMap_cons, hy, Nat.zero_mul, Nat.zero_add, List.set_append_left _ _ (by rw [ndc_len]; exact hi)]
    | succ k =>
      simp only [List.getElem_cons_succ] at hy
      rw [List.set_cons_succ, List.flatMap_cons, List.flatMap_cons, List.set_append_right _ _ (by rw [ndc_len, Nat.add_mul]; omega), ndc_len, show (k + 1) * 10 + i - 10 = k * 10 + i by rw [Nat.add_mul]; omega]
      rw [ih (by simpa using h) hy (flat_len ndc_len l)]

/-- A node of a row of one's own is set anew. -/
theorem own_set {w : World} {base g n c : Nat} {l : List Nd} (h : w.ownsRow base 64 10 (.slice (some ⟨g, 0, none⟩) n c) n (l.flatMap ndc)) {k : Nat} (hk : k < l.length) {u : Value} {i : Nat} (hi : i < 10) {y : Nd} (hy : ndc y = (ndc l[k]).set i u) :
    (w.setCell ⟨g, k * 10 + i, none⟩ u).ownsRow base 64 10 (.slice (some ⟨g, 0, none⟩) n c) n ((l.set k y).flatMap ndc) := by
  have hl : (l.flatMap ndc).length = l.length * 10 := flat_len ndc_len l
  have hn : l.length = n := rs_own_len ndc_len (by decide) h
  rcases h.2 with ⟨hv, _⟩ | ⟨g', cap, cur, hv, hb, hg, hnc, hcm, hcs, htake⟩
  · cases hv
  · injection hv with h1 h2 h3
    injection h1 with h1
    injection h1 with h1
    subst h1
    subst h3
    refine ⟨by rw [flat_len ndc_len, List.length_set, hn], .inr ⟨g, c, cur.setIfInBounds (k * 10 + i) u, rfl, hb, set_blk hg u, hnc, hcm, by simpa using hcs, ?_⟩⟩
    rw [Array.toList_setIfInBounds, List.take_set, htake]
    have := set_cells hk hi hy (tl := [])
    simpa using this

theorem own_node {w : World} {base n c : Nat} {A : Option Addr} {l : List Nd} (h : w.ownsRow base 64 10 (.slice A n c) n (l.flatMap ndc)) {k : Nat} (hk : k < l.length) :
    ∃ g, A = some ⟨g, 0, none⟩ ∧ base ≤ g ∧ g < w.heap.size ∧ (∀ i u, (ndc l[k])[i]? = some u → w.cell? ⟨g, k * 10 + i, none⟩ = some u) ∧ ∀ i, w.frozen? ⟨g, i, none⟩ = false := by
  rcases h.2 with ⟨hv, hn⟩ | ⟨g, cap, cur, hv, hb, hg, hnc, hcm, hcs, htake⟩
  · have := rs_own_len ndc_len (by decide) h
    omega
  · injection hv with h1 h2 h3
    subst h1
    refine ⟨g, rfl, hb, lt_blk hg, fun i u hu => ?_, fun i => frozen_blk hg⟩
    have hi : i < 10 := by
      have := (List.getElem?_eq_some_iff.1 hu).1
      rwa [ndc_len] at this
    have := h.cells (g := g) rfl (k * 10 + i) u (by rw [flat_get ndc_len l k hk i hi]; exact hu)
    rwa [Addr.add_lit, Nat.zero_add] at this

end Go.Proofs.Ytmiconjmeaammaa
