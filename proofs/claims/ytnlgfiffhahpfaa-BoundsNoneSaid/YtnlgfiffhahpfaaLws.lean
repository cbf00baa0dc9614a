/- What follows for more bounds, bounds in another order, bounds to given values, joins and meets of values that hold, and for a sort of no values. No condition. -/
import Derived.Test.YtnlgfiffhahpfaaUniq
namespace Go.Proofs.Ytnlgfiffhahpfaa
open Go.RowKit

theorem all_more {S : Sr} {vs : List Nat} {i : Nat} (hi : i < vs.length) : (vs.take (i + 1)).all S.has = ((vs.take i).all S.has && S.has (vs.getD i 0)) := by
  rw [List.take_succ_eq_append_getElem hi, List.all_append, getD_at hi]
  simp
theorem all_has {S : Sr} {q : Nat} {vs : List Nat} (hl : vs.length = q) (h : vs.all S.has = true) : AllHas S q vs := ⟨hl, fun i hi => by
  rw [getD_at (by omega)]
  exact List.all_eq_true.1 h _ (List.getElem_mem _)⟩
theorem err_facts {S : Sr} {q : Nat} {l : List Bd} {x : Int} {lo hi vs : List Nat} (h : SolveIs S (q : Int) l x lo hi) (hx : x = 10) (hl : vs.length = q) (ha : vs.all S.has = true) : holdS S vs l = false := by
  subst hx
  rcases h with ⟨c1, n1, rfl, rfl⟩ | ⟨q2, e, c1, _, rfl, rfl, no⟩ | ⟨q2, e, c1, e0, h1, h2, h3⟩
  · unfold chkS at c1
    split at c1
    · cases c1
    · split at c1 <;> cases c1
  · obtain rfl : q2 = q := by omega
    exact no vs (all_has hl ha)
  · cases e0
theorem ok_facts {S : Sr} (hS : S.Ok) {q : Nat} {l : List Bd} {lo hi : List Nat} (h : SolveIs S (q : Int) l 0 lo hi) : lo.length = q ∧ hi.length = q ∧ holdS S lo l = true ∧ holdS S hi l = true ∧ (∀ i, i < q → S.below (lo.getD i 0) (hi.getD i 0) = true) ∧
    ∀ vs : List Nat, vs.length = q → vs.all S.has = true → holdS S vs l = true → ∀ i, i < q → S.below (lo.getD i 0) (vs.getD i 0) = true ∧ S.below (vs.getD i 0) (hi.getD i 0) = true := by
  rcases h with ⟨c1, n1, rfl, rfl⟩ | ⟨q2, e, c1, e0, rfl, rfl, no⟩ | ⟨q2, e, c1, _, h1, h2, h3⟩
  · exact absurd rfl n1
  · cases e0
  · obtain rfl : q2 = q := by omega
    obtain ⟨q3, e3, -, -, hm⟩ := chk_ok c1
    obtain rfl : q3 = q2 := by omega
    refine ⟨h1.has.1, h2.has.1, h3, high_hold hS hm h2 h1.has h3, fun i hi' => (between h1 h2 h1.has h3 i hi').2, fun vs hl ha hh => between h1 h2 (all_has hl ha) hh⟩

/-! ### One bound more -/
theorem more_up {S : Sr} {k : Int} {l l' : List Bd} {x y : Int} {lo hi a d : List Nat} (hm : ∀ b, b ∈ l → b ∈ l') (hl : l.length ≤ l'.length) (h : SolveIs S k l x lo hi) (h' : SolveIs S k l' y a d) (hy : y = 0) : x = 0 := by
  subst hy
  rcases h' with ⟨c1, n1, rfl, rfl⟩ | ⟨q, e, c1, e0, rfl, rfl, no⟩ | ⟨q, e, c1, _, h1, h2, h3⟩
  · exact absurd rfl n1
  · cases e0
  obtain ⟨q3, e3, h64, h256, hmay⟩ := chk_ok c1
  obtain rfl : q3 = q := by omega
  have hc : chkS S k l = 0 := by
    rw [e]
    exact chk_is h64 (by omega) fun b hb => hmay b (hm b hb)
  rcases h with ⟨c2, n1, rfl, rfl⟩ | ⟨q2, e2, c2, rfl, rfl, rfl, no⟩ | ⟨q2, e2, c2, rfl, g1, g2, g3⟩
  · exact absurd (c2.symm.trans hc) n1
  · obtain rfl : q2 = q3 := by omega
    have := no a h1.has
    rw [hold_mem hm h3] at this
    cases this
  · rfl
theorem more_facts {S : Sr} {k : Int} {l l' : List Bd} {lo hi a d : List Nat} (hm : ∀ b, b ∈ l → b ∈ l') (h : SolveIs S k l 0 lo hi) (h' : SolveIs S k l' 0 a d) :
    ∃ q : Nat, lo.length = q ∧ hi.length = q ∧ a.length = q ∧ d.length = q ∧ ∀ i, i < q → S.below (lo.getD i 0) (a.getD i 0) = true ∧ S.below (d.getD i 0) (hi.getD i 0) = true := by
  rcases h' with ⟨c1, n1, rfl, rfl⟩ | ⟨q, e, c1, e0, rfl, rfl, no⟩ | ⟨q, e, c1, _, h1, h2, h3⟩
  · exact absurd rfl n1
  · cases e0
  rcases h with ⟨c2, n1, rfl, rfl⟩ | ⟨q2, e2, c2, e0, rfl, rfl, no⟩ | ⟨q2, e2, c2, _, g1, g2, g3⟩
  · exact absurd rfl n1
  · cases e0
  obtain rfl : q2 = q := by omega
  refine ⟨q2, g1.has.1, g2.has.1, h1.has.1, h2.has.1, fun i hi' => ⟨g1.low a h1.has (fun b hb => h1.led b (hm b hb)) i hi', g2.low d h2.has (fun b hb => h2.led b ?_) i hi'⟩⟩
  obtain ⟨c, hc, rfl⟩ := List.mem_map.1 hb
  exact List.mem_map.2 ⟨c, hm c hc, rfl⟩

/-! ### Bounds to given values -/
/-- The bounds of the first i values, from both sides. -/
def pts (vs : List Nat) (i : Nat) : List Bd := (List.range i).flatMap fun j => [⟨false, vs.getD j 0, true, j⟩, ⟨true, j, false, vs.getD j 0⟩]
theorem pts_succ (vs : List Nat) (i : Nat) : pts vs (i + 1) = pts vs i ++ [⟨false, vs.getD i 0, true, i⟩, ⟨true, i, false, vs.getD i 0⟩] := by
  unfold pts
  rw [List.range_succ, List.flatMap_append]
  rfl
theorem pts_len (vs : List Nat) : ∀ i, (pts vs i).length = 2 * i
  | 0 => rfl
  | i + 1 => by
    rw [pts_succ, List.length_append, pts_len vs i]
    simp
    omega
theorem pts_mem {vs : List Nat} {i : Nat} {b : Bd} : b ∈ pts vs i ↔ ∃ j, j < i ∧ (b = ⟨false, vs.getD j 0, true, j⟩ ∨ b = ⟨true, j, false, vs.getD j 0⟩) := by
  unfold pts
  rw [List.mem_flatMap]
  constructor
  · rintro ⟨j, hj, hb⟩
    exact ⟨j, List.mem_range.1 hj, by simpa using hb⟩
  · rintro ⟨j, hj, hb⟩
    exact ⟨j, List.mem_range.2 hj, by simpa using hb⟩
theorem pts_fit {vs : List Nat} (hf : La.Fit vs) (hl : vs.length ≤ 64) {i : Nat} (hi : i ≤ vs.length) : ∀ b ∈ pts vs i, b.Fit := fun b hb => by
  obtain ⟨j, hj, hb⟩ := pts_mem.1 hb
  have h1 : vs.getD j 0 < 18446744073709551616 := by
    rw [getD_at (by omega)]
    exact hf.get j (by omega)
  rcases hb with rfl | rfl
  · exact ⟨h1, by show j < _; omega⟩
  · exact ⟨by show j < _; omega, h1⟩

theorem given_chk {S : Sr} {q : Nat} {l : List Bd} {vs : List Nat} (hq : q ≤ 64) (hv : AllHas S q vs) (hc : chkS S (q : Int) l = 0) (hn : l.length + 2 * q ≤ 256) : chkS S (q : Int) (l ++ pts vs q) = 0 := by
  obtain ⟨q2, e, -, -, hm⟩ := chk_ok hc
  obtain rfl : q2 = q := by omega
  refine chk_is hq (by rw [List.length_append, pts_len]; exact hn) fun b hb => ?_
  rcases List.mem_append.1 hb with hb | hb
  · exact hm b hb
  · obtain ⟨j, hj, hb⟩ := pts_mem.1 hb
    have h1 : decide (j < q2) = true := decide_eq_true hj
    have h2 := hv.2 j hj
    rcases hb with rfl | rfl
    · show (S.has _ && decide (j < q2)) = true
      rw [h1, h2]
      rfl
    · show (decide (j < q2) && S.has _) = true
      rw [h1, h2]
      rfl

theorem given_yes {S : Sr} (hS : S.Ok) {q : Nat} {l : List Bd} {vs lo hi : List Nat} {x : Int} (hq : q ≤ 64) (hv : AllHas S q vs) (hc : chkS S (q : Int) l = 0) (hn : l.length + 2 * q ≤ 256) (hh : holdS S vs l = true) (h : SolveIs S (q : Int) (l ++ pts vs q) x lo hi) : x = 0 ∧ lo = vs ∧ hi = vs := by
  have hc2 := given_chk hq hv hc hn
  have hh2 : holdS S vs (l ++ pts vs q) = true := List.all_eq_true.2 fun b hb => by
    rcases List.mem_append.1 hb with hb | hb
    · exact List.all_eq_true.1 hh b hb
    · obtain ⟨j, hj, hb⟩ := pts_mem.1 hb
      have h1 : decide (j < vs.length) = true := decide_eq_true (by rw [hv.1]; exact hj)
      have h2 := hS.refl _ (hv.2 j hj)
      rcases hb with rfl | rfl
      · show (true && decide (j < vs.length) && S.below (vs.getD j 0) (vs.getD j 0)) = true
        rw [h1, h2]
        rfl
      · show (decide (j < vs.length) && true && S.below (vs.getD j 0) (vs.getD j 0)) = true
        rw [h1, h2]
        rfl
  have low : IsLow S q (l ++ pts vs q) vs := ⟨⟨hv, fun u hu hl i hi' => hl ⟨false, vs.getD i 0, true, i⟩ (List.mem_append.2 (.inr (pts_mem.2 ⟨i, hi', .inl rfl⟩))) rfl⟩, hold_led hh2⟩
  have high : IsLow S.turn q ((l ++ pts vs q).map Bd.turn) vs := ⟨⟨hv, fun u hu hl i hi' => hl ⟨false, vs.getD i 0, true, i⟩ (List.mem_map.2 ⟨⟨true, i, false, vs.getD i 0⟩, List.mem_append.2 (.inr (pts_mem.2 ⟨i, hi', .inr rfl⟩)), rfl⟩) rfl⟩, hold_led (by rw [hold_turn]; exact hh2)⟩
  rcases h with ⟨c1, n1, rfl, rfl⟩ | ⟨q2, e, c1, rfl, rfl, rfl, no⟩ | ⟨q2, e, c1, rfl, h1, h2, h3⟩
  · exact absurd (c1.symm.trans hc2) n1
  · obtain rfl : q2 = q := by omega
    rw [no vs hv] at hh2
    cases hh2
  · obtain rfl : q2 = q := by omega
    exact ⟨rfl, low_uniq hS h1 low, low_uniq hS.turn h2 high⟩
theorem given_no {S : Sr} (hS : S.Ok) {q : Nat} {l : List Bd} {vs lo hi : List Nat} {x : Int} (hq : q ≤ 64) (hv : AllHas S q vs) (hc : chkS S (q : Int) l = 0) (hn : l.length + 2 * q ≤ 256) (hh : holdS S vs l = false) (h : SolveIs S (q : Int) (l ++ pts vs q) x lo hi) : x = 10 := by
  have hc2 := given_chk hq hv hc hn
  rcases h with ⟨c1, n1, rfl, rfl⟩ | ⟨q2, e, c1, rfl, rfl, rfl, no⟩ | ⟨q2, e, c1, rfl, h1, h2, h3⟩
  · exact absurd (c1.symm.trans hc2) n1
  · rfl
  · obtain rfl : q2 = q := by omega
    exfalso
    have hlo : lo = vs := by
      apply List.ext_getElem (h1.has.1.trans hv.1.symm)
      intro i k1 k2
      have hi' : i < q2 := by rw [← hv.1]; exact k2
      have a1 := List.all_eq_true.1 h3 ⟨false, vs.getD i 0, true, i⟩ (List.mem_append.2 (.inr (pts_mem.2 ⟨i, hi', .inl rfl⟩)))
      have a2 := List.all_eq_true.1 h3 ⟨true, i, false, vs.getD i 0⟩ (List.mem_append.2 (.inr (pts_mem.2 ⟨i, hi', .inr rfl⟩)))
      have b1 : S.below (vs.getD i 0) (lo.getD i 0) = true := (Bool.and_eq_true_iff.1 a1).2
      have b2 : S.below (lo.getD i 0) (vs.getD i 0) = true := (Bool.and_eq_true_iff.1 a2).2
      have := hS.anti _ _ b2 b1
      rwa [getD_at k1, getD_at k2] at this
    subst hlo
    rw [hold_mem (fun b hb => List.mem_append.2 (.inl hb)) h3] at hh
    cases hh

/-! ### Joins and meets -/
/-- The joins, place by place, of the first i. -/
def jns (f : Nat → Nat → Nat) (p q : List Nat) (i : Nat) : List Nat := (List.range i).map fun j => f (p.getD j 0) (q.getD j 0)
theorem jns_succ (f : Nat → Nat → Nat) (p q : List Nat) (i : Nat) : jns f p q (i + 1) = jns f p q i ++ [f (p.getD i 0) (q.getD i 0)] := by
  unfold jns
  rw [List.range_succ, List.map_append]
  rfl
theorem jns_len (f : Nat → Nat → Nat) (p q : List Nat) (i : Nat) : (jns f p q i).length = i := by simp [jns]
theorem jns_at {f : Nat → Nat → Nat} {p q : List Nat} {i j : Nat} (h : j < i) : (jns f p q i).getD j 0 = f (p.getD j 0) (q.getD j 0) := by
  rw [getD_at (by rw [jns_len]; exact h)]
  simp [jns]
theorem two_hold {S : Sr} (hS : S.Ok) {n : Nat} {l : List Bd} {p q : List Nat} (hp : AllHas S n p) (h1 : holdS S p l = true) (h2 : holdS S q l = true) : holdS S (jns S.join p q n) l = true :=
  List.all_eq_true.2 fun b hb => by
    have a1 := List.all_eq_true.1 h1 b hb
    have a2 := List.all_eq_true.1 h2 b hb
    obtain ⟨o1, b1⟩ := Bool.and_eq_true_iff.1 a1
    obtain ⟨o1, o2⟩ := Bool.and_eq_true_iff.1 o1
    obtain ⟨-, b2⟩ := Bool.and_eq_true_iff.1 a2
    have ok : ∀ v m, okT p v m = okT (jns S.join p q n) v m := fun v m => by
      unfold okT
      rw [jns_len, hp.1]
    have hva : ∀ v m, okT p v m = true → S.has (vl p v m) = true → S.has (vl q v m) = true → S.below (vl (jns S.join p q n) v m) (S.join (vl p v m) (vl q v m)) = true ∧ S.below (S.join (vl p v m) (vl q v m)) (vl (jns S.join p q n) v m) = true := fun v m hk ha hb => by
      cases v with
      | true =>
        have hm : m < n := by
          unfold okT at hk
          rw [hp.1] at hk
          exact of_decide_eq_true hk
        show S.below ((jns S.join p q n).getD m 0) (S.join (p.getD m 0) (q.getD m 0)) = true ∧ S.below (S.join (p.getD m 0) (q.getD m 0)) ((jns S.join p q n).getD m 0) = true
        rw [jns_at hm]
        have := hS.refl _ (hS.sub _ _ (hS.joinA _ _ ha hb)).2
        exact ⟨this, this⟩
      | false =>
        show S.below m (S.join m m) = true ∧ S.below (S.join m m) m = true
        have hm : S.has m = true := ha
        exact ⟨hS.joinA _ _ hm hm, hS.joinL _ _ _ (hS.refl _ hm) (hS.refl _ hm)⟩
    have s1 := hS.sub _ _ b1
    have s2 := hS.sub _ _ b2
    have u1 := (hva b.av b.an o1 s1.1 s2.1).1
    have u2 := (hva b.bv b.bn o2 s1.2 s2.2).2
    have u3 : S.below (S.join (vl p b.av b.an) (vl q b.av b.an)) (S.join (vl p b.bv b.bn) (vl q b.bv b.bn)) = true :=
      hS.joinL _ _ _ (hS.trans _ _ _ b1 (hS.joinA _ _ s1.2 s2.2)) (hS.trans _ _ _ b2 (hS.joinB _ _ s1.2 s2.2))
    unfold okB
    rw [← ok, ← ok, o1, o2, hS.trans _ _ _ u1 (hS.trans _ _ _ u3 u2)]
    rfl
theorem two_meet {S : Sr} (hS : S.Ok) {n : Nat} {l : List Bd} {p q : List Nat} (hp : AllHas S n p) (h1 : holdS S p l = true) (h2 : holdS S q l = true) : holdS S (jns S.meet p q n) l = true := by
  have := two_hold hS.turn (l := l.map Bd.turn) hp (by rw [hold_turn]; exact h1) (by rw [hold_turn]; exact h2)
  rwa [hold_turn] at this
theorem jns_fit {S : Sr} (hS : S.Ok) {n : Nat} {p q : List Nat} (hp : AllHas S n p) (hq : AllHas S n q) {i : Nat} (hi : i ≤ n) : La.Fit (jns S.join p q i) ∧ La.Fit (jns S.meet p q i) := by
  constructor
  · intro x hx
    obtain ⟨j, hj, rfl⟩ := List.mem_map.1 hx
    have hj := List.mem_range.1 hj
    exact hS.fit _ (hS.sub _ _ (hS.joinA _ _ (hp.2 j (by omega)) (hq.2 j (by omega)))).2
  · intro x hx
    obtain ⟨j, hj, rfl⟩ := List.mem_map.1 hx
    have hj := List.mem_range.1 hj
    exact hS.fit _ (hS.sub _ _ (hS.meetA _ _ (hp.2 j (by omega)) (hq.2 j (by omega)))).1

/-! ### No values -/
theorem hold_dead (u : List Nat) (l : List Bd) : holdS dead u l = decide (l.length = 0) := by
  cases l with
  | nil => rfl
  | cons b l =>
    have : okB dead u b = false := by
      unfold okB
      exact Bool.and_false _
    unfold holdS
    rw [List.all_cons, this]
    rfl
theorem solve_dead {k : Int} {l : List Bd} {x : Int} {lo hi : List Nat} (h : SolveIs dead k l x lo hi) : (chkS dead k l ≠ 0 → x = chkS dead k l) ∧ (chkS dead k l = 0 → x = if k = 0 then 0 else 10) := by
  refine ⟨fun hc => ?_, fun hc => ?_⟩
  · rcases h with ⟨c1, n1, rfl, rfl⟩ | ⟨q, e, c1, rfl, rfl, rfl, no⟩ | ⟨q, e, c1, rfl, h1, h2, h3⟩
    · exact c1.symm
    · exact absurd c1 hc
    · exact absurd c1 hc
  · obtain ⟨q, rfl, -, -, hm⟩ := chk_ok hc
    rcases h with ⟨c1, n1, rfl, rfl⟩ | ⟨q2, e, c1, rfl, rfl, rfl, no⟩ | ⟨q2, e, c1, rfl, h1, h2, h3⟩
    · exact absurd (c1.symm.trans hc) n1
    · by_cases h0 : q = 0
      · subst h0
        obtain rfl : q2 = 0 := by omega
        have hl : l = [] := by
          cases l with
          | nil => rfl
          | cons b l =>
            have := hm b (List.mem_cons_self ..)
            unfold mayB mayT at this
            cases hb : b.av <;> rw [hb] at this <;> simp [dead] at this
        have := no [] ⟨rfl, fun i hi => by omega⟩
        rw [hl] at this
        cases this
      · rw [if_neg (by omega)]
    · by_cases h0 : q = 0
      · rw [if_pos (by omega)]
      · have := h1.has.2 0 (by omega)
        cases this
end Go.Proofs.Ytnlgfiffhahpfaa
