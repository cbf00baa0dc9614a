/- The least values are told by what they are: there is one list of them, whatever order bounds stand in; and what follows of what Solve tells. No condition. -/
import Derived.Test.YthbonabadelfdaaGreatBoSlv
namespace Go.Proofs.YthbonabadelfdaaGreat.Bo
open Go.RowKit

theorem low_uniq {S : Sr} (hS : S.Ok) {k : Nat} {l : List Bd} {v u : List Nat} (h : IsLow S k l v) (h' : IsLow S k l u) : v = u := by
  apply List.ext_getElem (h.has.1.trans h'.has.1.symm)
  intro i h1 h2
  have hi : i < k := by rw [← h.has.1]; exact h1
  have a := h.low u h'.has h'.led i hi
  have b := h'.low v h.has h.led i hi
  rw [getD_at h1, getD_at h2] at a b
  exact hS.anti _ _ a b
theorem IsLow.congr {S : Sr} {k : Nat} {l l' : List Bd} {v : List Nat} (h : IsLow S k l v) (hm : ∀ b, b ∈ l ↔ b ∈ l') : IsLow S k l' v :=
  ⟨⟨h.has, fun u hu hl i hi => h.low u hu (fun b hb => hl b ((hm b).1 hb)) i hi⟩, fun b hb => h.led b ((hm b).2 hb)⟩
theorem mem_turn {l l' : List Bd} (hm : ∀ b, b ∈ l ↔ b ∈ l') : ∀ b, b ∈ l.map Bd.turn ↔ b ∈ l'.map Bd.turn := fun b => by
  constructor
  · intro h
    obtain ⟨c, hc, rfl⟩ := List.mem_map.1 h
    exact List.mem_map.2 ⟨c, (hm c).1 hc, rfl⟩
  · intro h
    obtain ⟨c, hc, rfl⟩ := List.mem_map.1 h
    exact List.mem_map.2 ⟨c, (hm c).2 hc, rfl⟩
theorem hold_mem {S : Sr} {u : List Nat} {l l' : List Bd} (hm : ∀ b, b ∈ l' → b ∈ l) (h : holdS S u l = true) : holdS S u l' = true :=
  List.all_eq_true.2 fun b hb => List.all_eq_true.1 h b (hm b hb)
theorem chk_is {S : Sr} {q : Nat} {l : List Bd} (hq : q ≤ 64) (hl : l.length ≤ 256) (hm : ∀ b ∈ l, mayB S q b = true) : chkS S (q : Int) l = 0 := by
  unfold chkS
  rw [if_neg (show ¬ ((q : Int) < 0 ∨ 64 < (q : Int) ∨ 256 < l.length) by omega), Int.toNat_natCast, List.all_eq_true.2 hm]
  rfl
theorem chk_congr {S : Sr} {k : Int} {l l' : List Bd} (hl : l.length ≤ 256) (hl' : l'.length ≤ 256) (hm : ∀ b, b ∈ l ↔ b ∈ l') : chkS S k l = chkS S k l' := by
  have e : l.all (mayB S k.toNat) = l'.all (mayB S k.toNat) := Bool.eq_iff_iff.2 ⟨fun h => List.all_eq_true.2 fun b hb => List.all_eq_true.1 h b ((hm b).2 hb), fun h => List.all_eq_true.2 fun b hb => List.all_eq_true.1 h b ((hm b).1 hb)⟩
  have e2 : (k < 0 ∨ 64 < k ∨ 256 < l.length) ↔ (k < 0 ∨ 64 < k ∨ 256 < l'.length) := by omega
  unfold chkS
  rw [e]
  by_cases h : k < 0 ∨ 64 < k ∨ 256 < l.length
  · rw [if_pos h, if_pos (e2.1 h)]
  · rw [if_neg h, if_neg fun h' => h (e2.2 h')]

/-- In whatever order bounds stand, and however often. -/
theorem solve_same {S : Sr} (hS : S.Ok) {k : Int} {l l' : List Bd} {x y : Int} {lo hi lo' hi' : List Nat} (hl : l.length ≤ 256) (hl' : l'.length ≤ 256) (hm : ∀ b, b ∈ l ↔ b ∈ l') (h : SolveIs S k l x lo hi) (h' : SolveIs S k l' y lo' hi') : x = y ∧ lo = lo' ∧ hi = hi' := by
  have ec := chk_congr (S := S) (k := k) hl hl' hm
  have hms : ∀ b, b ∈ l' ↔ b ∈ l := fun b => (hm b).symm
  rcases h with ⟨c1, n1, rfl, rfl⟩ | ⟨q, e, c1, rfl, rfl, rfl, no⟩ | ⟨q, e, c1, rfl, h1, h2, h3⟩
  · rcases h' with ⟨c2, n2, rfl, rfl⟩ | ⟨q2, e2, c2, rfl, rfl, rfl, no2⟩ | ⟨q2, e2, c2, rfl, g1, g2, g3⟩
    · exact ⟨c1.symm.trans (ec.trans c2), rfl, rfl⟩
    · exact absurd (c1.symm.trans (ec.trans c2)) n1
    · exact absurd (c1.symm.trans (ec.trans c2)) n1
  · rcases h' with ⟨c2, n2, rfl, rfl⟩ | ⟨q2, e2, c2, rfl, rfl, rfl, no2⟩ | ⟨q2, e2, c2, rfl, g1, g2, g3⟩
    · exact absurd (c2.symm.trans (ec.symm.trans c1)) n2
    · exact ⟨rfl, rfl, rfl⟩
    · obtain rfl : q2 = q := by omega
      have := no _ g1.has
      rw [hold_mem (fun b hb => (hm b).1 hb) g3] at this
      cases this
  · rcases h' with ⟨c2, n2, rfl, rfl⟩ | ⟨q2, e2, c2, rfl, rfl, rfl, no2⟩ | ⟨q2, e2, c2, rfl, g1, g2, g3⟩
    · exact absurd (c2.symm.trans (ec.symm.trans c1)) n2
    · obtain rfl : q2 = q := by omega
      have := no2 _ h1.has
      rw [hold_mem (fun b hb => (hms b).1 hb) h3] at this
      cases this
    · obtain rfl : q2 = q := by omega
      exact ⟨rfl, low_uniq hS h1 (g1.congr hms), low_uniq hS.turn h2 (g2.congr (mem_turn hms))⟩

theorem solve_lens {S : Sr} {k : Int} {l : List Bd} {x : Int} {lo hi : List Nat} (h : SolveIs S k l x lo hi) : lo.length ≤ 64 ∧ hi.length ≤ 64 := by
  rcases h with ⟨c1, n1, rfl, rfl⟩ | ⟨q, e, c1, rfl, rfl, rfl, no⟩ | ⟨q, e, c1, rfl, h1, h2, h3⟩
  · simp
  · simp
  · obtain ⟨p, e', hp, -⟩ := chk_ok c1
    have h1 := h1.has.1
    have h2 := h2.has.1
    omega

theorem solve_fit {S : Sr} (hS : S.Ok) {k : Int} {l : List Bd} {x : Int} {lo hi : List Nat} (h : SolveIs S k l x lo hi) : La.Fit lo ∧ La.Fit hi := by
  rcases h with ⟨c1, n1, rfl, rfl⟩ | ⟨q, e, c1, rfl, rfl, rfl, no⟩ | ⟨q, e, c1, rfl, h1, h2, h3⟩
  · exact ⟨(fun _ h => by cases h), fun _ h => by cases h⟩
  · exact ⟨(fun _ h => by cases h), fun _ h => by cases h⟩
  · exact ⟨all_fit hS h1.has, all_fit hS.turn h2.has⟩

/-- The greatest ones hold where any values do. -/
theorem high_hold {S : Sr} (hS : S.Ok) {k : Nat} {l : List Bd} {v u : List Nat} (hl : ∀ b ∈ l, mayB S k b = true) (hv : IsLow S.turn k (l.map Bd.turn) v) (hu : AllHas S k u) (h : holdS S u l = true) : holdS S v l = true := by
  have ht : ∀ z, holdS S.turn z (l.map Bd.turn) = holdS S z l := fun z => by
    unfold holdS
    rw [List.all_map]
    congr 1
    funext b
    simp only [Function.comp, okB, Bd.turn, Sr.turn]
    rw [Bool.and_comm (okT z b.bv b.bn)]
  rw [← ht]
  exact low_hold hS.turn (may_turn hl) hv hu (by rw [ht]; exact h)
theorem hold_turn {S : Sr} {z : List Nat} {l : List Bd} : holdS S.turn z (l.map Bd.turn) = holdS S z l := by
  unfold holdS
  rw [List.all_map]
  congr 1
  funext b
  simp only [Function.comp, okB, Bd.turn, Sr.turn]
  rw [Bool.and_comm (okT z b.bv b.bn)]

/-- Values that hold are no less than the least ones, and no more than the greatest ones. -/
theorem between {S : Sr} {k : Nat} {l : List Bd} {lo hi u : List Nat} (h1 : IsLow S k l lo) (h2 : IsLow S.turn k (l.map Bd.turn) hi) (hu : AllHas S k u) (h : holdS S u l = true) : ∀ i, i < k → S.below (lo.getD i 0) (u.getD i 0) = true ∧ S.below (u.getD i 0) (hi.getD i 0) = true := fun i hi' =>
  ⟨h1.low u hu (hold_led h) i hi', h2.low u hu (hold_led (by rw [hold_turn]; exact h)) i hi'⟩

theorem led_of {S : Sr} {l : List Bd} {u : List Nat} (h : l.all (fun b => !b.bv || S.below (vl u b.av b.an) (u.getD b.bn 0)) = true) : Led S l u := fun b hb hv => by
  have := List.all_eq_true.1 h b hb
  rw [hv] at this
  exact this
end Go.Proofs.YthbonabadelfdaaGreat.Bo
