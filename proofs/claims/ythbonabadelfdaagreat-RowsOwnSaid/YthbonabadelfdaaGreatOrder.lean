/- A region that draws its order, walked in one order: operations that yield the same in every world that meets S are taken as they come, the others one by one where nothing else may come up; behind the operation 'stop', for which all taken ones are waited, S is asked no more. Condition: the order fits the region (a closed check). -/
import Derived.Deep.RegionHeld3
namespace Go.Proofs.YthbonabadelfdaaGreat
open Go

/-- The operations in the given order, each with its number. -/
def steps (l : List Oper) : List Nat → List (Nat × Oper)
  | [] => []
  | i :: r => match l[i]? with
    | some o => (i, o) :: steps l r
    | none => steps l r

theorem steps_mem (l : List Oper) : ∀ (r : List Nat) (x : Nat × Oper), x ∈ steps l r → l[x.1]? = some x.2
  | [], x, h => by simp [steps] at h
  | i :: r, x, h => by
    unfold steps at h
    split at h
    · rename_i o ho
      rcases List.mem_cons.1 h with rfl | h
      · exact ho
      · exact steps_mem l r x h
    · exact steps_mem l r x h

section
variable (P : Program) (ops : Array Oper) (Q : Exit → Act → World → Prop) (S : World → Prop) (stop : Nat) (hards : List Nat)

/-- Whatever comes up: behind each operation but 'stop' S holds. -/
def wpAnyG : Nat → Array Bool → Act → World → Prop
  | 0, listed, a, w => Region.ready .any ops listed = [] ∧ Q .normal a w
  | fuel + 1, listed, a, w =>
    (Region.ready .any ops listed = [] → Q .normal a w) ∧
    ∀ i ∈ Region.ready .any ops listed, wpOp P ops Q i (fun a' w' => (i ≠ stop → S w') ∧ wpAnyG fuel (listed.setIfInBounds i true) a' w') a w

/-- In the given order, what each operation leaves. -/
def wpOrd : List (Nat × Oper) → Act → World → Prop
  | [], a, w => Q .normal a w
  | (i, o) :: r, a, w =>
      (Region.wanted o (yielded ops a.tmps) = true ∧ hards.contains i = false ∧ ∃ v, (∀ w', S w' → (execOp a.eval o).run P w' = .ok (.value v) w') ∧ wpOrd r (a.put o.dst v) w) ∨
      (Region.wanted o (yielded ops a.tmps) = false ∧ wpOrd r (a.put o.dst undef) w) ∨
      (hards.contains i = true ∧ Region.wanted o (yielded ops a.tmps) = true ∧ Oper.wp P o a w (fun a' w' => (i ≠ stop → S w') ∧ wpOrd r a' w') Q)

/-- 'stop' waits for i. -/
def waits (i : Nat) : Bool := match ops[stop]? with
  | some o => o.after.any fun e => Region.binds .any e && e.on == i
  | none => true

/-- The order fits: each may come up, the hard ones alone; 'stop' waits for the others. -/
def okOrd : List (Nat × Oper) → Array Bool → Bool
  | [], listed => (Region.ready .any ops listed).isEmpty
  | x :: r, listed =>
    (Region.ready .any ops listed).contains x.1 && (if hards.contains x.1 then Region.ready .any ops listed == [x.1] && (x.1 != stop || r.isEmpty) else Region.free .any ops listed x.1 && waits ops stop x.1 && x.1 != stop) && okOrd r (listed.setIfInBounds x.1 true)
end

section
variable {P : Program} {ops : Array Oper} {Q : Exit → Act → World → Prop} {S : World → Prop} {stop : Nat} {hards : List Nat}

theorem anyG_any : ∀ (fuel : Nat) (listed : Array Bool) (a : Act) (w : World), wpAnyG P ops Q S stop fuel listed a w → wpAny P .any ops Q fuel listed a w
  | 0, _, _, _, h => h
  | fuel + 1, _, _, _, h => ⟨h.1, fun i hi => wpOp_mono (fun a' w' h' => anyG_any fuel _ a' w' h'.2) (h.2 i hi)⟩

/-- One that yields the same in every world that meets S may be taken first, if 'stop' waits for it. -/
theorem anyG_first {i : Nat} {oi : Oper} {v : Value} (hi : ops[i]? = some oi) (hsel : ∀ (j : Nat) (o : Oper) cs b, ops[j]? = some o → o.op ≠ .select cs b)
    (hQ : ∀ c a w, Q (.panic c) (a.put oi.dst v) w → Q (.panic c) a w) (his : i ≠ stop) (hwait : ∀ o, ops[stop]? = some o → ∃ e ∈ o.after, Region.binds .any e = true ∧ e.on = i) :
    ∀ (fuel : Nat) (listed : Array Bool) (a : Act) (w : World),
      (∀ j oj, ops[j]? = some oj → j ≠ i → listed.getD j true = false → (∀ e ∈ oj.after, Region.binds .any e = true → e.on ≠ i) → oi.apart ops oj = true) →
      i ∈ Region.ready .any ops listed → YieldsIf P ops S oi v a → S w →
      wpAnyG P ops Q S stop fuel (listed.setIfInBounds i true) (a.put oi.dst v) w → wpAnyG P ops Q S stop (fuel + 1) listed a w := by
  intro fuel
  induction fuel with
  | zero =>
    intro listed a w _ hr hy hS H
    refine ⟨fun h => (by rw [h] at hr; cases hr), fun j hj => ?_⟩
    by_cases hji : j = i
    · subst hji
      exact hy.wpOp hi hS ⟨fun _ => hS, H⟩
    · have := ready_mono hj hji
      rw [H.1] at this
      cases this
  | succ fuel ih =>
    intro listed a w hfree hr hy hS H
    refine ⟨fun h => (by rw [h] at hr; cases hr), fun j hj => ?_⟩
    by_cases hji : j = i
    · subst hji
      exact hy.wpOp hi hS ⟨fun _ => hS, H⟩
    · have h1 := H.2 j (ready_mono hj hji)
      obtain ⟨hjun, oj, hoj, hall⟩ := mem_ready.1 hj
      have hnot : ∀ e ∈ oj.after, Region.binds .any e = true → e.on ≠ i := fun e he hb heq => by
        have h1 := hall e he hb
        have h0 := (mem_ready.1 hr).1
        rw [heq] at h1
        rcases Nat.lt_or_ge i listed.size with h' | h'
        · simp [h'] at h0 h1
          rw [h0] at h1
          cases h1
        · simp [Array.getElem?_eq_none h'] at h1
      have hjs : j ≠ stop := by
        rintro rfl
        obtain ⟨e, he, hb, heq⟩ := hwait oj hoj
        exact hnot e he hb heq
      have h2 := wpOp_putIf hoj (hfree j oj hoj hji hjun hnot) (fun cs b => hsel i oi cs b hi) (fun cs b => hsel j oj cs b hoj) hQ hy h1
      have hfree' : ∀ k ok, ops[k]? = some ok → k ≠ i → (listed.setIfInBounds j true).getD k true = false →
          (∀ e ∈ ok.after, Region.binds .any e = true → e.on ≠ i) → oi.apart ops ok = true := fun k ok hk hki hun hno => by
        refine hfree k ok hk hki ?_ hno
        by_cases hjk : j = k
        · subst hjk
          exact hjun
        · rw [getD_set_ne true hjk] at hun
          exact hun
      refine wpOp_mono (fun a' w' h3 => ⟨h3.2.1, ih (listed.setIfInBounds j true) a' w' hfree' (ready_mono hr (Ne.symm hji)) h3.1 (h3.2.1 hjs) ?_⟩) h2
      rw [Array.setIfInBounds_comm _ _ hji]
      exact h3.2.2

theorem put_any_dst (hQ : ∀ c a d v w, Q (.panic c) (Act.put a (some d) v) w → Q (.panic c) a w) : ∀ c a d v w, Q (.panic c) (Act.put a d v) w → Q (.panic c) a w
  | _, _, none, _, _, h => h
  | c, a, some d, v, w, h => hQ c a d v w h

theorem waits_spec {i : Nat} (h : waits ops stop i = true) : ∀ o, ops[stop]? = some o → ∃ e ∈ o.after, Region.binds .any e = true ∧ e.on = i := by
  intro o ho
  unfold waits at h
  rw [ho] at h
  simp only [Array.any_eq_true, Bool.and_eq_true, beq_iff_eq] at h
  obtain ⟨k, hk, h1, h2⟩ := h
  exact ⟨o.after[k], Array.getElem_mem hk, h1, h2⟩

theorem ord_any (hsel : Region.noSelect ops = true) (hQ : ∀ c a d v w, Q (.panic c) (Act.put a (some d) v) w → Q (.panic c) a w) :
    ∀ (order : List (Nat × Oper)) (fuel : Nat) (listed : Array Bool) (a : Act) (w : World), (∀ x ∈ order, ops[x.1]? = some x.2) → order.length ≤ fuel → okOrd ops stop hards order listed = true → (order ≠ [] → S w) → wpOrd P ops Q S stop hards order a w → wpAnyG P ops Q S stop fuel listed a w
  | [], fuel, listed, a, w, _, _, hok, _, h => by
    have hr : Region.ready .any ops listed = [] := by simpa [okOrd] using hok
    cases fuel with
    | zero => exact ⟨hr, h⟩
    | succ n => exact ⟨fun _ => h, by rw [hr]; simp⟩
  | x :: r, 0, listed, a, w, _, hf, _, _, _ => by simp at hf
  | (i, o) :: r, fuel + 1, listed, a, w, hm, hf, hok, hS', h => by
    simp only [okOrd, Bool.and_eq_true] at hok
    obtain ⟨⟨hc, hk⟩, hrest⟩ := hok
    have hS := hS' (by simp)
    have ho : ops[i]? = some o := hm (i, o) List.mem_cons_self
    have hm' : ∀ x ∈ r, ops[x.1]? = some x.2 := fun x hx => hm x (List.mem_cons_of_mem _ hx)
    have hf' : r.length ≤ fuel := by simpa using hf
    have soft : ∀ v, hards.contains i = false → YieldsIf P ops S o v a → wpOrd P ops Q S stop hards r (a.put o.dst v) w → wpAnyG P ops Q S stop (fuel + 1) listed a w := by
      intro v hh hy h
      rw [hh] at hk
      simp only [Bool.false_eq_true, if_false, Bool.and_eq_true, bne_iff_ne, ne_eq] at hk
      exact anyG_first ho (Region.noSelect_spec hsel) (fun c a w => put_any_dst hQ c a _ _ w) hk.2 (waits_spec hk.1.2) fuel listed a w (Region.free_spec ho hk.1.1) (by simpa using hc) hy hS (ord_any hsel hQ r fuel _ _ _ hm' hf' hrest (fun _ => hS) h)
    rcases h with ⟨hw, hh, v, hy, h⟩ | ⟨hw, h⟩ | ⟨hh, hw, h⟩
    · exact soft v hh (.inl ⟨hw, hy⟩) h
    · by_cases hh : hards.contains i = true
      · rw [hh] at hk
        simp only [if_true, Bool.and_eq_true, beq_iff_eq] at hk
        refine ⟨fun h0 => (by rw [hk.1] at h0; cases h0), fun j hj => ?_⟩
        rw [hk.1] at hj
        obtain rfl : j = i := by simpa using hj
        unfold wpOp
        simp only [ho, hw]
        exact ⟨fun _ => hS, ord_any hsel hQ r fuel _ _ _ hm' hf' hrest (fun _ => hS) h⟩
      · rw [Bool.not_eq_true] at hh
        exact soft undef hh (.inr ⟨hw, rfl⟩) h
    · rw [hh] at hk
      simp only [if_true, Bool.and_eq_true, beq_iff_eq, Bool.or_eq_true, bne_iff_ne, ne_eq, List.isEmpty_iff] at hk
      refine ⟨fun h0 => (by rw [hk.1] at h0; cases h0), fun j hj => ?_⟩
      rw [hk.1] at hj
      obtain rfl : j = i := by simpa using hj
      unfold wpOp
      simp only [ho, hw, if_true]
      refine .inl (Oper.wp_mono (fun a' w' ⟨h1, h2⟩ => ⟨h1, ord_any hsel hQ r fuel _ _ _ hm' hf' hrest (fun hne => ?_) h2⟩) h)
      rcases hk.2 with e | e
      · exact h1 e
      · exact absurd e hne

/-- The beginning. -/
theorem wp_region_ord {id : Nat} {l : List Oper} {a : Act} {w : World} (order : List Nat) (hards : List Nat) (stop : Nat) (S : World → Prop) (hm : P.follows .mixedOrders = true) (hsel : Region.noSelect l.toArray = true)
    (hlen : ((steps l order).length == l.length) = true) (hok : okOrd l.toArray stop hards (steps l order) (Array.replicate l.length false) = true) (hQ : ∀ c a d v w, Q (.panic c) (Act.put a (some d) v) w → Q (.panic c) a w)
    (hS : S w.drew) (h : wpOrd P l.toArray Q S stop hards (steps l order) a w.drew) : (Code.region id l.toArray true).wp P Q a w :=
  wp_region_any hm (anyG_any _ _ _ _ (ord_any hsel hQ (steps l order) _ _ a w.drew (fun x hx => by rw [List.getElem?_toArray]; exact steps_mem l order x hx) (by rw [List.size_toArray]; exact Nat.le_of_eq (by simpa using hlen)) hok (fun _ => hS) h))

theorem ord_yes {i : Nat} {r : List (Nat × Oper)} {a : Act} {w : World} {o : Oper} {v : Value} (hh : hards.contains i = false) (hw : Region.wanted o (yielded ops a.tmps) = true)
    (hy : ∀ w', S w' → (execOp a.eval o).run P w' = .ok (.value v) w') (h : wpOrd P ops Q S stop hards r (a.put o.dst v) w) : wpOrd P ops Q S stop hards ((i, o) :: r) a w :=
  .inl ⟨hw, hh, v, hy, h⟩

theorem ord_no {i : Nat} {r : List (Nat × Oper)} {a : Act} {w : World} {o : Oper} (hw : Region.wanted o (yielded ops a.tmps) = false)
    (h : wpOrd P ops Q S stop hards r (a.put o.dst undef) w) : wpOrd P ops Q S stop hards ((i, o) :: r) a w :=
  .inr (.inl ⟨hw, h⟩)

/-- A hard one: what follows is handed over behind a name. -/
theorem ord_hard {i : Nat} {r : List (Nat × Oper)} {a : Act} {w : World} {o : Oper} (hh : hards.contains i = true) (hw : Region.wanted o (yielded ops a.tmps) = true)
    (h : ∀ K : Act → World → Prop, Shut (∀ a' w', (i ≠ stop → S w') → wpOrd P ops Q S stop hards r a' w' → K a' w') → Oper.wp P o a w K Q) : wpOrd P ops Q S stop hards ((i, o) :: r) a w :=
  .inr (.inr ⟨hh, hw, h _ (fun _ _ h1 h2 => ⟨h1, h2⟩)⟩)

theorem ord_end {a : Act} {w : World} (h : Q .normal a w) : wpOrd P ops Q S stop hards [] a w := h
end

end Go.Proofs.YthbonabadelfdaaGreat
