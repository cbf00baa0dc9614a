/- Round; Range: merged. -/
import Derived.Test.YthbonabadelfdaaGreatOrder
import Derived.OrdersIn
import Derived.RangeFuncCalls
import Derived.OwnWalkIn
import Derived.RangeFuncNested
import Derived.RangeFuncBound
import Derived.RangeFuncLeaves
import Derived.Shelf.Abstract
import Derived.WalkKit
import Derived.TacticsInMore
import Derived.LoopNIn
import Derived.LoopIn

/- A region that draws its order, within a range over a function (in a round, or in what is ranged over): walked in one order, as outside. Condition: the order fits the region, and it defers nothing (closed checks). -/
namespace Go.Proofs.YthbonabadelfdaaGreat
open Go

/-- A fence that lets all calls by. -/
structure Open (F : Fence) (P : Program) : Prop where
  fn : ∀ f, F.fn f
  depth : F.depth = none
  calls : ∀ {n : Nat} {f : FuncId} {args : Array Value} {w : World} {R : Ending → World → Prop}, Calls P f args w R → CallsIn F n P f args w R
  rows : ∀ {n : Nat} {row : String} {args : Array Value} {w : World} {R : Value → World → Prop}, Rows P row args w R → RowsIn F n P row args w R

theorem open_round (P : Program) (l : Nat) : Open (Fence.wide.inRound l) P :=
  ⟨fun _ => trivial, rfl, fun h => CallsIn.inRound l (callsIn_wide.2 h), fun h c cs _ => let ⟨v, w', r, s⟩ := h c cs; ⟨v, w', r, stepsIn_wide.2 s⟩⟩
theorem open_wide (P : Program) : Open Fence.wide P :=
  ⟨fun _ => trivial, rfl, fun h => callsIn_wide.2 h, fun h c cs _ => let ⟨v, w', r, s⟩ := h c cs; ⟨v, w', r, stepsIn_wide.2 s⟩⟩

section
variable {P : Program} {Q : Exit → Act → World → Prop} {n : Nat} {F : Fence}

theorem oper_in (hF : Open F P) {o : Oper} {a : Act} {w : World} {K : Act → World → Prop} (hd : ∀ c, o.op ≠ .defer c) (h : o.wp P a w K Q) : o.wpIn F n P a w K Q := by
  refine ⟨fun _ _ => hF.fn _, ?_⟩
  unfold Oper.wp at h
  rw [Oper.semAt_eq _ _ _ hd]
  generalize (execOp a.eval o).run P w = r at *
  cases r with
  | ok x w' =>
    cases x <;> simp only [Oper.upon, Oper.uponIn] at h ⊢ <;>
      first
        | exact h
        | exact ⟨fun e => (by rw [hF.depth] at e; cases e), hF.calls h⟩
        | exact ⟨fun e => (by rw [hF.depth] at e; cases e), hF.rows h⟩
        | exact h.elim
  | halt x w' => cases x <;> simp only [Oper.upon, Oper.uponIn] at h ⊢ <;> exact h

/-- Nothing is deferred. -/
def noDefer (ops : List Oper) : Bool := ops.all fun o => match o.op with
  | .defer _ => false
  | _ => true

theorem noDefer_spec {ops : List Oper} (h : noDefer ops = true) {i : Nat} {o : Oper} (ho : ops[i]? = some o) : ∀ c, o.op ≠ .defer c := by
  intro c e
  have := List.all_eq_true.1 h o (List.mem_of_getElem? ho)
  rw [e] at this
  cases this

theorem wpOp_in (hF : Open F P) {ops : List Oper} (hd : noDefer ops = true) (hout : ¬ LetsOut Q) {i : Nat} {K : Act → World → Prop} {a : Act} {w : World} (h : wpOp P ops.toArray Q i K a w) : wpOpIn F n P ops.toArray Q i K a w := by
  unfold wpOp at h
  unfold wpOpIn
  cases ho : ops.toArray[i]? with
  | none => simpa only [ho] using h
  | some o =>
    simp only [ho] at h ⊢
    split
    · rename_i hw
      simp only [hw, if_true] at h
      rcases h with h | h
      · exact oper_in hF (noDefer_spec hd (by simpa using ho)) h
      · exact absurd h.2 hout
    · rename_i hw
      simp only [hw] at h
      exact ⟨fun _ _ => hF.fn _, h⟩

theorem any_in (hF : Open F P) {md : Region.Mode} {ops : List Oper} (hd : noDefer ops = true) (hout : ¬ LetsOut Q) : ∀ (fuel : Nat) (listed : Array Bool) (a : Act) (w : World), wpAny P md ops.toArray Q fuel listed a w → wpAnyIn F n P md ops.toArray Q fuel listed a w
  | 0, _, _, _, h => h
  | fuel + 1, _, _, _, h => ⟨h.1, fun i hi => wpOp_in hF hd hout (wpOp_mono (fun a' w' h' => any_in hF hd hout fuel _ a' w' h') (h.2 i hi))⟩

/-- But for what outgrows the machine, or panics. -/
def Tame (Q : Exit → Act → World → Prop) : Exit → Act → World → Prop
  | .outgrown, _, _ => False
  | .panic _, _, _ => False
  | e, a, w => Q e a w

theorem tame_out {Q : Exit → Act → World → Prop} : ¬ LetsOut (Tame Q) := fun ⟨_, _, h⟩ => h
theorem tame_le {Q : Exit → Act → World → Prop} : ∀ e a w, Tame Q e a w → Q e a w
  | .normal, _, _, h => h
  | .ret, _, _, h => h
  | .exit _, _, _, h => h
  | .goto _, _, _, h => h

theorem wpIn_region_ord (hF : Open F P) {id : Nat} {ops : List Oper} {a : Act} {w : World} (order : List Nat) (hards : List Nat) (stop : Nat) (S : World → Prop) (hm : P.follows .mixedOrders = true) (hsel : Region.noSelect ops.toArray = true) (hd : noDefer ops = true)
    (hlen : ((steps ops order).length == ops.length) = true) (hok : okOrd ops.toArray stop hards (steps ops order) (Array.replicate ops.length false) = true)
    (hS : S w.drew) (h : wpOrd P ops.toArray (Tame Q) S stop hards (steps ops order) a w.drew) : (Code.region id ops.toArray true).wpIn F n P Q a w := by
  refine (fun h1 : (Code.region id ops.toArray true).wpIn F n P (Tame Q) a w => ?_) ?_
  rotate_left
  · refine wpIn_region_any hm (any_in hF hd tame_out _ _ _ _ ?_)
    refine anyG_any _ _ _ _ (ord_any (Q := Tame Q) hsel (fun _ _ _ _ _ h => h) (steps ops order) _ _ a w.drew (fun x hx => by rw [List.getElem?_toArray]; exact steps_mem ops order x hx) (by rw [List.size_toArray]; exact Nat.le_of_eq (by simpa using hlen)) hok (fun _ => hS) h)
  · exact wpIn_mono h1 tame_le

theorem ord_endT {S : World → Prop} {stop : Nat} {hards : List Nat} {ops : Array Oper} {a : Act} {w : World} (h : Q .normal a w) : wpOrd P ops (Tame Q) S stop hards [] a w := h
end
end Go.Proofs.YthbonabadelfdaaGreat

/- A range over a function whose iterator keeps a row of its own in memory and writes it between two rounds; the body never leaves. Condition: the iterator's steps (St) keep what the body owns, the body's rounds (Kp) what the iterator reads. -/
namespace Go.Proofs.YthbonabadelfdaaGreat
open Go Go.RowKit

/-- All of ys come, whatever the body does that keeps its word. -/
def Comes {α : Type} (P : Program) (n gf : Nat) (lb : Array Value) (encs : α → Array Value) (St Kp : World → World → Prop) (ys : List α) (w : World) : Prop :=
  ∀ (l : Nat) (J : List α → World → Prop) (W : World), Below w.heap.size w W → (∀ pre A B, J pre A → St A B → J pre B) →
    (∀ pre x W1, J pre W1 → pre.length < ys.length → YieldAt Fence.wide (n - 1) P l (encs x) W1 fun e W' => e = .returned (.bool true) ∧ J (pre ++ [x]) W' ∧ Kp W1 W') →
    J [] W → CallsIn Fence.wide n P gf (#[.func (.yield l) #[] #[]] ++ lb) W fun e W' => (∃ v, e = .returned v) ∧ J ys W'

/-- How a round ends. -/
def Goes {α : Type} (Kp : World → World → Prop) (I : List α → World → Prop) (xs : List α) (W : World) : Exit → Act → World → Prop
  | .normal, _, W' => KeepsOthers W W' ∧ Kp W W' ∧ I xs W'
  | _, _, _ => False

theorem goes_out {α : Type} {Kp : World → World → Prop} {I : List α → World → Prop} {xs : List α} {W : World} : ¬ LetsOut (Goes Kp I xs W) := fun ⟨_, _, h⟩ => h

theorem range_all {α : Type} {P : Program} {n : Nat} {g : Operand} {ps : Array Tmp} {assign body : Code} {Q : Exit → Act → World → Prop} {a : Act} {w : World} {gf : Nat} {lb : Array Value}
    (hg : a.eval g = .func (.func gf) #[] lb) (eg : ∀ args w, (callFunc gf args).run P w = .ok (.enter gf args) w) {encs : α → Array Value} {St Kp : World → World → Prop} {ys : List α} (hseq : Comes P (n - 1) gf lb encs St Kp ys w)
    (ht : ∀ {A B C : World}, Kp A B → Kp B C → Kp A C) (hb : ∀ (W : World) (l : Nat) (o o' : Obj), w.heap.size ≤ l → W.heap[l]? = some o → o.isCells = false → Kp W (W.putObj l o')) (hs : ∀ {A B : World}, St A B → KeepsOthers A B) (hsz : ∀ x, (encs x).size = ps.size)
    (I : List α → World → Prop) (hI : OwnFrom w.heap.size I) (hIs : ∀ pre A B, I pre A → St A B → I pre B) (h0 : I [] w) (a₁ : α → Act)
    (hassign : ∀ (l : Nat) (x : α) (W : World) (K : Act → World → Prop), K (a₁ x) W →
      assign.wpIn (Fence.wide.inRound l) (n - 1 - 1) P (Exit.then K (fun _ _ _ => False)) { tmps := (ps.zip (encs x)).foldl (fun t (p, v) => t.setIfInBounds p v) a.tmps, defers := [] } W)
    (hbody : ∀ (l : Nat) (pre : List α) (x : α) (W : World), I pre W → pre.length < ys.length → body.wpIn (Fence.wide.inRound l) (n - 1 - 1) P (Goes Kp I (pre ++ [x]) W) (a₁ x) W)
    (hdone : ∀ (D : Nat) (W : World), w.heap.size ≤ D → I ys W → W.heap[D]? = some (.deferred (some [])) → Q .normal { a with defers := { target := .collected D, args := #[] } :: a.defers } W) :
    (Code.rangeFunc g ps assign body).wpIn Fence.wide n P Q a w := by
  refine wpIn_rangeFunc fun fn hfn => ?_
  have hlaid : ∀ st : LoopState, ∃ r : Loop, r = { state := st, pending := none, fn, tmps := a.tmps, params := ps, assign, body, defers := w.heap.size } := fun _ => ⟨_, rfl⟩
  obtain ⟨r, hr⟩ := hlaid .ready
  obtain ⟨rb, hrb⟩ := hlaid .busy
  obtain ⟨W1, hW1⟩ : ∃ W1, W1 = (w.alloc (.deferred (some []))).alloc (.loop r) := ⟨_, rfl⟩
  have hl1 : W1.heap[w.heap.size + 1]? = some (.loop r) := by
    have := heap_alloc_new (w.alloc (.deferred (some []))) (.loop r)
    rw [World.size_alloc] at this
    rw [hW1]
    exact this
  have hd1 : W1.heap[w.heap.size]? = some (.deferred (some [])) := by
    rw [hW1]
    exact (Below.heap_alloc _ _ _ (by simp)).trans (heap_alloc_new w _)
  have hb1 : Below w.heap.size w W1 := by
    rw [hW1]
    exact ((Below.refl _ w).alloc (Nat.le_refl _) _).alloc (by simp) _
  refine ⟨w.heap.size + 1, [{ target := .collected w.heap.size, args := #[] }], W1, { target := .fn (.func gf) lb, args := #[.func (.yield (w.heap.size + 1)) #[] #[]] }, W1, gf, #[.func (.yield (w.heap.size + 1)) #[] #[]] ++ lb, W1, ?_, ?_, fun _ _ => trivial, ?_, fun e => (by cases e), ?_⟩
  · rw [hW1, hr]
    exact run_enterLoop_outer _ _ _ _ _
  · simp only [resolve, hg]
    simp [go_sem]
  · simp [invoke, go_sem, eg]
  refine (hseq (w.heap.size + 1) (fun pre W => I pre W ∧ W.heap[w.heap.size + 1]? = some (.loop r) ∧ W.heap[w.heap.size]? = some (.deferred (some []))) W1 hb1
    (fun pre A B h k => ⟨hIs pre A B h.1 k, (hs k).same _ _ h.2.1 rfl, (hs k).same _ _ h.2.2 rfl⟩) ?_ ⟨by rw [hW1]; exact hI.alloc _ (hI.alloc _ h0), hl1, hd1⟩).mono ?_
  · rintro pre x W ⟨hi, hl, hd⟩ hlen
    have hlt : w.heap.size + 1 < W.heap.size := (Array.getElem?_eq_some_iff.1 hl).1
    have hy := run_yield (P := P) (args := encs x) hl (by rw [hr]; exact hsz x)
    have hst : r.state = .ready := by rw [hr]
    have hbz : { r with state := .busy } = rb := by rw [hr, hrb]
    have hbeg := run_beginRound (P := P) hl hst
    rw [hbz] at hbeg
    have e1 : r.fn = fn := by rw [hr]
    have e2 : r.assign = assign := by rw [hr]
    have e3 : r.body = body := by rw [hr]
    have e4 : r.tmps = a.tmps := by rw [hr]
    have e5 : r.params = ps := by rw [hr]
    rw [e1, e2, e3, e4, e5] at hy
    have hl2 : (W.putObj (w.heap.size + 1) (.loop rb)).heap[w.heap.size + 1]? = some (.loop rb) := World.putObj_heap_same hlt
    have hd2 : (W.putObj (w.heap.size + 1) (.loop rb)).heap[w.heap.size]? = some (.deferred (some [])) := (World.putObj_heap_other (by omega)).trans hd
    refine ⟨fn, _, assign, body, hy, roundIn_of_wpIn hfn (hassign _ x W _ ⟨_, hbeg, ?_⟩)⟩
    refine wpIn_mono (hbody _ pre x _ (hI.putObj _ hi (by omega) hl rfl) hlen) ?_
    rintro e a3 W3 hp
    cases e with
    | normal =>
      obtain ⟨k1, k2, k3⟩ := hp
      have hl3 := k1.same _ _ hl2 rfl
      have hd3 := k1.same _ _ hd2 rfl
      have hend := run_endRound (P := P) none hl3
      have hrd : ({ rb with state := if (none : Option Code).isNone then .ready else .done, pending := none } : Loop) = r := by rw [hr, hrb]; rfl
      rw [hrd] at hend
      exact ⟨_, _, hend, rfl, ⟨hI.putObj _ k3 (by omega) hl3 rfl, World.putObj_heap_same (Array.getElem?_eq_some_iff.1 hl3).1, (World.putObj_heap_other (by omega)).trans hd3⟩, ht (ht (hb _ _ _ _ (by omega) hl rfl) k2) (hb _ _ _ _ (by omega) hl3 rfl)⟩
    | ret => exact hp.elim
    | exit id => exact hp.elim
    | goto t => exact hp.elim
    | panic ch => exact hp.elim
    | outgrown => exact hp.elim
  · rintro e W2 ⟨⟨v, rfl⟩, hi, hl, hd⟩
    have hfin := run_endLoop (P := P) hl (by rw [hr]; simp)
    have hpe : r.pending = none := by rw [hr]
    rw [hpe] at hfin
    exact ⟨none, _, hfin, hdone _ _ (Nat.le_refl _) (hI.putObj _ hi (by omega) hl rfl) ((World.putObj_heap_other (by omega)).trans hd)⟩
end Go.Proofs.YthbonabadelfdaaGreat
