/- A region that draws its order, walked in one order: operations that yield the same in every world that meets S are taken as they come, the others one by one where nothing else may come up. Condition: the order fits the region (a closed check). -/
import Derived.Deep.RegionHeld3
namespace Go.Proofs.Ytakkmmnpocbakaa
open Go

/-- The operations in the given order, each with its number. -/
def steps (l : List Oper) : List Nat → List (Nat × Oper)
  | [] => []
  | i :: r => match l[i]? with
    | some o => (i, o) :: steps l r
    | none => steps l r

theorem steps_some {l : List Oper} {i : Nat} {o : Oper} (r : List Nat) (h : l[i]? = some o) : steps l (i :: r) = (i, o) :: steps l r := by
  simp [steps, h]

theorem steps_mem (l : List Oper) : ∀ (r : List Nat) (x : Nat × Oper), x ∈ steps l r → l[x.1]? = some x.2
  | [], x, h => by simp [steps] at h
  | i :: r, x, h => by
    unfold steps at h
    split at h
    · rename_i o ho
      rcases List.mem_cons.1 h with rfl | h
      · exact ho
      · exact steps_mem l r x h
    · exact steps_mem l r x h

section
variable (P : Program) (ops : Array Oper) (Q : Exit → Act → World → Prop) (S : World → Prop) (hards : List Nat)

/-- In the given order, what each operation leaves. -/
def wpOrd : List (Nat × Oper) → Act → World → Prop
  | [], a, w => Q .normal a w
  | (i, o) :: r, a, w =>
      (Region.wanted o (yielded ops a.tmps) = true ∧ hards.contains i = false ∧ ∃ v, (∀ w', S w' → (execOp a.eval o).run P w' = .ok (.value v) w') ∧ wpOrd r (a.put o.dst v) w) ∨
      (Region.wanted o (yielded ops a.tmps) = false ∧ wpOrd r (a.put o.dst undef) w) ∨
      (hards.contains i = true ∧ Region.wanted o (yielded ops a.tmps) = true ∧ Oper.wp P o a w (fun a' w' => S w' ∧ wpOrd r a' w') Q)

/-- The order fits: each may come up, the hard ones alone. -/
def okOrd : List (Nat × Oper) → Array Bool → Bool
  | [], listed => (Region.ready .any ops listed).isEmpty
  | x :: r, listed =>
    (Region.ready .any ops listed).contains x.1 && (if hards.contains x.1 then Region.ready .any ops listed == [x.1] else Region.free .any ops listed x.1) && okOrd r (listed.setIfInBounds x.1 true)
end

section
variable {P : Program} {ops : Array Oper} {Q : Exit → Act → World → Prop} {S : World → Prop} {hards : List Nat}

theorem put_any_dst (hQ : ∀ c a d v w, Q (.panic c) (Act.put a (some d) v) w → Q (.panic c) a w) : ∀ c a d v w, Q (.panic c) (Act.put a d v) w → Q (.panic c) a w
  | _, _, none, _, _, h => h
  | c, a, some d, v, w, h => hQ c a d v w h

theorem ord_any (hsel : Region.noSelect ops = true) (hQ : ∀ c a d v w, Q (.panic c) (Act.put a (some d) v) w → Q (.panic c) a w) :
    ∀ (order : List (Nat × Oper)) (fuel : Nat) (listed : Array Bool) (a : Act) (w : World), (∀ x ∈ order, ops[x.1]? = some x.2) → order.length ≤ fuel → okOrd ops hards order listed = true → S w → wpOrd P ops Q S hards order a w → wpAnyH P .any ops Q S fuel listed a w
  | [], fuel, listed, a, w, _, _, hok, _, h => by
    have hr : Region.ready .any ops listed = [] := by simpa [okOrd] using hok
    exact wpAnyH_done hr h fuel
  | x :: r, 0, listed, a, w, _, hf, _, _, _ => by simp at hf
  | (i, o) :: r, fuel + 1, listed, a, w, hm, hf, hok, hS, h => by
    simp only [okOrd, Bool.and_eq_true] at hok
    obtain ⟨⟨hc, hk⟩, hrest⟩ := hok
    have ho : ops[i]? = some o := hm (i, o) List.mem_cons_self
    have hm' : ∀ x ∈ r, ops[x.1]? = some x.2 := fun x hx => hm x (List.mem_cons_of_mem _ hx)
    have hf' : r.length ≤ fuel := by simpa using hf
    rcases h with ⟨hw, hh, v, hy, h⟩ | ⟨hw, h⟩ | ⟨hh, hw, h⟩
    · rw [hh] at hk
      exact wpAnyH_take ho hsel hk hc (fun c a w => put_any_dst hQ c a _ _ w) (.inl ⟨hw, hy⟩) hS (ord_any hsel hQ r fuel _ _ _ hm' hf' hrest hS h)
    · by_cases hh : hards.contains i = true
      · rw [hh] at hk
        have hr : Region.ready .any ops listed = [i] := by simpa using hk
        refine wpAnyH_ready hr (by simp) (AllReadyH.cons ho (fun K hK => ?_) AllReadyH.nil)
        rw [if_neg (by rw [hw]; decide)]
        exact hK.out _ _ hS (fun _ => ord_any hsel hQ r fuel _ _ _ hm' hf' hrest hS h)
      · rw [Bool.not_eq_true] at hh
        rw [hh] at hk
        exact wpAnyH_take ho hsel hk hc (fun c a w => put_any_dst hQ c a _ _ w) (.inr ⟨hw, rfl⟩) hS (ord_any hsel hQ r fuel _ _ _ hm' hf' hrest hS h)
    · rw [hh] at hk
      have hr : Region.ready .any ops listed = [i] := by simpa using hk
      refine wpAnyH_all hr (by simp) fun j hj => ?_
      obtain rfl : j = i := by simpa using hj
      unfold wpOp
      simp only [ho, hw, if_true]
      exact .inl (Oper.wp_mono (fun a' w' ⟨h1, h2⟩ => ⟨h1, ord_any hsel hQ r fuel _ _ _ hm' hf' hrest h1 h2⟩) h)

/-- The beginning. -/
theorem wp_region_ord {id : Nat} {l : List Oper} {a : Act} {w : World} (order : List Nat) (hards : List Nat) (S : World → Prop) (hm : P.follows .mixedOrders = true) (hsel : Region.noSelect l.toArray = true)
    (hlen : ((steps l order).length == l.length) = true) (hok : okOrd l.toArray hards (steps l order) (Array.replicate l.length false) = true) (hQ : ∀ c a d v w, Q (.panic c) (Act.put a (some d) v) w → Q (.panic c) a w)
    (hS : S w.drew) (h : wpOrd P l.toArray Q S hards (steps l order) a w.drew) : (Code.region id l.toArray true).wp P Q a w :=
  wp_region_held hm (ord_any hsel hQ (steps l order) _ _ a w.drew (fun x hx => by rw [List.getElem?_toArray]; exact steps_mem l order x hx) (by rw [List.size_toArray]; exact Nat.le_of_eq (by simpa using hlen)) hok hS h)

theorem ord_yes {i : Nat} {r : List (Nat × Oper)} {a : Act} {w : World} {o : Oper} {v : Value} (hh : hards.contains i = false) (hw : Region.wanted o (yielded ops a.tmps) = true)
    (hy : ∀ w', S w' → (execOp a.eval o).run P w' = .ok (.value v) w') (h : wpOrd P ops Q S hards r (a.put o.dst v) w) : wpOrd P ops Q S hards ((i, o) :: r) a w :=
  .inl ⟨hw, hh, v, hy, h⟩

theorem ord_no {i : Nat} {r : List (Nat × Oper)} {a : Act} {w : World} {o : Oper} (hw : Region.wanted o (yielded ops a.tmps) = false)
    (h : wpOrd P ops Q S hards r (a.put o.dst undef) w) : wpOrd P ops Q S hards ((i, o) :: r) a w :=
  .inr (.inl ⟨hw, h⟩)

/-- A hard one: what follows is handed over behind a name. -/
theorem ord_hard {i : Nat} {r : List (Nat × Oper)} {a : Act} {w : World} {o : Oper} (hh : hards.contains i = true) (hw : Region.wanted o (yielded ops a.tmps) = true)
    (h : ∀ K : Act → World → Prop, Shut (∀ a' w', S w' → wpOrd P ops Q S hards r a' w' → K a' w') → Oper.wp P o a w K Q) : wpOrd P ops Q S hards ((i, o) :: r) a w :=
  .inr (.inr ⟨hh, hw, h _ (fun _ _ h1 h2 => ⟨h1, h2⟩)⟩)

theorem ord_end {a : Act} {w : World} (h : Q .normal a w) : wpOrd P ops Q S hards [] a w := h
end

end Go.Proofs.Ytakkmmnpocbakaa
