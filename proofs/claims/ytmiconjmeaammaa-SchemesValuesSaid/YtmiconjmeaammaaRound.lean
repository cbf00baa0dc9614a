/- A region that draws its order, within a range over a function (in a round, or in what is ranged over): walked in one order, as outside. Condition: the order fits the region, and it defers nothing (closed checks). -/
import Derived.Test.YtmiconjmeaammaaOrder
import Derived.OrdersIn
import Derived.RangeFuncCalls
import Derived.OwnWalkIn
namespace Go.Proofs.Ytmiconjmeaammaa
open Go

/-- A fence that lets all calls by. -/
structure Open (F : Fence) (P : Program) : Prop where
  fn : ∀ f, F.fn f
  depth : F.depth = none
  calls : ∀ {n : Nat} {f : FuncId} {args : Array Value} {w : World} {R : Ending → World → Prop}, Calls P f args w R → CallsIn F n P f args w R
  rows : ∀ {n : Nat} {row : String} {args : Array Value} {w : World} {R : Value → World → Prop}, Rows P row args w R → RowsIn F n P row args w R

theorem open_round (P : Program) (l : Nat) : Open (Fence.wide.inRound l) P :=
  ⟨fun _ => trivial, rfl, fun h => CallsIn.inRound l (callsIn_wide.2 h), fun h c cs _ => let ⟨v, w', r, s⟩ := h c cs; ⟨v, w', r, stepsIn_wide.2 s⟩⟩
theorem open_wide (P : Program) : Open Fence.wide P :=
  ⟨fun _ => trivial, rfl, fun h => callsIn_wide.2 h, fun h c cs _ => let ⟨v, w', r, s⟩ := h c cs; ⟨v, w', r, stepsIn_wide.2 s⟩⟩

section
variable {P : Program} {Q : Exit → Act → World → Prop} {n : Nat} {F : Fence}

theorem oper_in (hF : Open F P) {o : Oper} {a : Act} {w : World} {K : Act → World → Prop} (hd : ∀ c, o.op ≠ .defer c) (h : o.wp P a w K Q) : o.wpIn F n P a w K Q := by
  refine ⟨fun _ _ => hF.fn _, ?_⟩
  unfold Oper.wp at h
  rw [Oper.semAt_eq _ _ _ hd]
  generalize (execOp a.eval o).run P w = r at *
  cases r with
  | ok x w' =>
    cases x <;> simp only [Oper.upon, Oper.uponIn] at h ⊢ <;>
      first
        | exact h
        | exact ⟨fun e => (by rw [hF.depth] at e; cases e), hF.calls h⟩
        | exact ⟨fun e => (by rw [hF.depth] at e; cases e), hF.rows h⟩
        | exact h.elim
  | halt x w' => cases x <;> simp only [Oper.upon, Oper.uponIn] at h ⊢ <;> exact h

/-- Nothing is deferred. -/
def noDefer (ops : List Oper) : Bool := ops.all fun o => match o.op with
  | .defer _ => false
  | _ => true

theorem noDefer_spec {ops : List Oper} (h : noDefer ops = true) {i : Nat} {o : Oper} (ho : ops[i]? = some o) : ∀ c, o.op ≠ .defer c := by
  intro c e
  have := List.all_eq_true.1 h o (List.mem_of_getElem? ho)
  rw [e] at this
  cases this

theorem wpOp_in (hF : Open F P) {ops : List Oper} (hd : noDefer ops = true) (hout : ¬ LetsOut Q) {i : Nat} {K : Act → World → Prop} {a : Act} {w : World} (h : wpOp P ops.toArray Q i K a w) : wpOpIn F n P ops.toArray Q i K a w := by
  unfold wpOp at h
  unfold wpOpIn
  cases ho : ops.toArray[i]? with
  | none => simpa only [ho] using h
  | some o =>
    simp only [ho] at h ⊢
    split
    · rename_i hw
      simp only [hw, if_true] at h
      rcases h with h | h
      · exact oper_in hF (noDefer_spec hd (by simpa using ho)) h
      · exact absurd h.2 hout
    · rename_i hw
      simp only [hw] at h
      exact ⟨fun _ _ => hF.fn _, h⟩

theorem any_in (hF : Open F P) {md : Region.Mode} {ops : List Oper} (hd : noDefer ops = true) (hout : ¬ LetsOut Q) : ∀ (fuel : Nat) (listed : Array Bool) (a : Act) (w : World), wpAny P md ops.toArray Q fuel listed a w → wpAnyIn F n P md ops.toArray Q fuel listed a w
  | 0, _, _, _, h => h
  | fuel + 1, _, _, _, h => ⟨h.1, fun i hi => wpOp_in hF hd hout (wpOp_mono (fun a' w' h' => any_in hF hd hout fuel _ a' w' h') (h.2 i hi))⟩

/-- But for what outgrows the machine, or panics. -/
def Tame (Q : Exit → Act → World → Prop) : Exit → Act → World → Prop
  | .outgrown, _, _ => False
  | .panic _, _, _ => False
  | e, a, w => Q e a w

theorem tame_out {Q : Exit → Act → World → Prop} : ¬ LetsOut (Tame Q) := fun ⟨_, _, h⟩ => h
theorem tame_le {Q : Exit → Act → World → Prop} : ∀ e a w, Tame Q e a w → Q e a w
  | .normal, _, _, h => h
  | .ret, _, _, h => h
  | .exit _, _, _, h => h
  | .goto _, _, _, h => h

theorem wpIn_region_ord (hF : Open F P) {id : Nat} {ops : List Oper} {a : Act} {w : World} (order : List Nat) (hards : List Nat) (stop : Nat) (S : World → Prop) (hm : P.follows .mixedOrders = true) (hsel : Region.noSelect ops.toArray = true) (hd : noDefer ops = true)
    (hlen : ((steps ops order).length == ops.length) = true) (hok : okOrd ops.toArray stop hards (steps ops order) (Array.replicate ops.length false) = true)
    (hS : S w.drew) (h : wpOrd P ops.toArray (Tame Q) S stop hards (steps ops order) a w.drew) : (Code.region id ops.toArray true).wpIn F n P Q a w := by
  refine (fun h1 : (Code.region id ops.toArray true).wpIn F n P (Tame Q) a w => ?_) ?_
  rotate_left
  · refine wpIn_region_any hm (any_in hF hd tame_out _ _ _ _ ?_)
    refine anyG_any _ _ _ _ (ord_any (Q := Tame Q) hsel (fun _ _ _ _ _ h => h) (steps ops order) _ _ a w.drew (fun x hx => by rw [List.getElem?_toArray]; exact steps_mem ops order x hx) (by rw [List.size_toArray]; exact Nat.le_of_eq (by simpa using hlen)) hok (fun _ => hS) h)
  · exact wpIn_mono h1 tame_le

theorem ord_endT {S : World → Prop} {stop : Nat} {hards : List Nat} {ops : Array Oper} {a : Act} {w : World} (h : Q .normal a w) : wpOrd P ops (Tame Q) S stop hards [] a w := h
end
end Go.Proofs.Ytmiconjmeaammaa
