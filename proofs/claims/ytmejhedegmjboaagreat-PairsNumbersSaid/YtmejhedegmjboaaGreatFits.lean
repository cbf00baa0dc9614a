/- Rows2; Law; Law2: merged. -/
/- Schemes as data: what Check tells, what Ground makes, and what follows. No condition. -/
/- Numbers of 64 bits: of spots, and of what is ground. No condition. -/
import Derived.Test.YtmejhedegmjboaaGreatBoChk
import Derived.Test.YtmejhedegmjboaaGreatPutB
import Derived.Test.YtmejhedegmjboaaGreatTerms
/- Rows of sides and of terms, and what the laws' helpers do: sides and terms of spots, rows that are the same. Condition: rows can be read. -/
namespace Go.Proofs.YtmejhedegmjboaaGreat
open Go.RowKit
theorem tmc_one (l : List Tm) : ∀ u ∈ l.flatMap tmc, u.oneCell' = true := by
  intro u hu
  obtain ⟨x, _, hx⟩ := List.mem_flatMap.1 hu
  simp only [tmc, List.mem_cons, List.not_mem_nil, or_false] at hx
  rcases hx with rfl | rfl <;> rfl
theorem tm_inf : (Tryz.prog.info? 62).map (fun i => (i.zero, i.size, i.bytes)) = some (some (.agg #[.bool false, .int .u64 0]), 2, 16) := by kernel_rfl
/-- append(own, xs...), as one operation. -/
theorem wpList_append_rs {α : Type} {enc : α → List Value} {sz bytes : Nat} {t E : TypeId} {z : Value} (he : ∀ x, (enc x).length = sz) (hsz : 0 < sz) (h1 : ∀ l : List α, ∀ u ∈ l.flatMap enc, u.oneCell' = true) (ht : Tryz.prog.underlying t = some (.slice E)) (hinf : (Tryz.prog.info? E).map (fun i => (i.zero, i.size, i.bytes)) = some (some z, sz, bytes)) (hzs : z.cells.size = sz) (hby : bytes ≤ 1000)
    {w : World} {ops : Array Oper} {rest : List Oper} {o : Oper} {a : Act} {Q : Exit → Act → World → Prop} (hgd : o.guard = none) (s x : Operand)
    (ho : o.op = .call { callee := .builtin .append, args := #[s, x], argTypes := #[t, t] })
    (base : Nat) (v : Value) (n : Nat) (vs : List α) (hs : a.eval s = v) (hown : w.ownsRow base E sz v n (vs.flatMap enc)) (B : Nat) (A : Option Addr) (m c : Nat) (ms : List α) (hx : a.eval x = .slice A m c) (hr : Rs enc sz w B A m c ms)
    (hsm : n + m ≤ 100000) (hbase : base ≤ w.heap.size)
    (h : ∀ A' k c' w', Hid (k = n + m) → Hid (Appended w w' base E sz v (.slice A' k c') k ((vs ++ ms).flatMap enc)) → wpList Tryz.prog ops Q rest (a.put o.dst (.slice A' k c')) w') : wpList Tryz.prog ops Q (o :: rest) a w := by
  obtain ⟨i0, hi0, hz0, hz1, hz2⟩ := info_parts hinf
  have key : ∃ v' w', (Builtin.append_ #[t, t] o.type #[v, .slice A m c]).run Tryz.prog w = .ok v' w' ∧ Appended w w' base E sz v v' (n + m) ((vs ++ ms).flatMap enc) := by
    rcases A with _ | ad
    · have hc0 := hr.none0 rfl
      have hm0 : m = 0 := by have := hr.cap; omega
      subst hc0
      subst hm0
      have hms : ms = [] := List.eq_nil_of_length_eq_zero hr.len
      subst hms
      exact ⟨v, w, run_append_owned_none (P := Tryz.prog) w base t o.type E i0 sz ht hi0 v n _ hown, ⟨by simpa using hown, ⟨rfl, rfl, rfl, Nat.le_refl _, fun _ _ _ => rfl⟩, .inl rfl⟩⟩
    · have hcells : ∀ j y, (ms.flatMap enc)[j]? = some y → w.cell? (ad.add j) = some y := by
        rcases Nat.eq_zero_or_pos m with h0 | h0
        · have hms : ms = [] := List.eq_nil_of_length_eq_zero (by rw [hr.len, h0])
          subst hms
          intro j u hu
          simp at hu
        · obtain ⟨b, q, hA, _, hc⟩ := hr.spot h0
          injection hA with hA
          subst hA
          exact Rs.cells he hsz hc
      have hbb : (n + m) * bytes ≤ 140737488355328 := Nat.le_trans (Nat.mul_le_mul hsm hby) (by omega)
      have := run_append_both (P := Tryz.prog) w base t t o.type E i0 _ sz bytes ht hi0 hz0 hz1 hz2 hzs hsz v n _ hown ad m c (ms.flatMap enc) (by rw [flat_len he, hr.len]) hcells (h1 ms) (by unfold maxLen; omega) hbb hbase rfl
      rw [← List.flatMap_append] at this
      exact this
  obtain ⟨v', w', hrun, h2⟩ := key
  obtain ⟨A', c', rfl⟩ := rs_own_form h2.own
  refine wpList_plain hgd fun K hK => ?_
  unfold Oper.wp execOp
  simp only [ho, resolve, invoke, builtin, Sem.run_bind, Sem.run_pure, Result.andThen_ok, List.map_toArray, List.map_cons, List.map_nil, hs, hx, hrun]
  exact hK _ _ (h A' (n + m) c' w' rfl h2)

end Go.Proofs.YtmejhedegmjboaaGreat

/- The examples that the laws make; spots told with the row laid. Condition: rows can be read. -/
namespace Go.Proofs.YtmejhedegmjboaaGreat
open Go.RowKit

/-- What Of tells, its rows named. -/
theorem of_lit (A : Option Addr) (m c : Nat) (l : List Nd) (ls es : List Sp) (w : World) (hr : Ns w w.heap.size A m c l) (hf : ∀ x ∈ l, x.Fits) (e1 : labB l = ls) (e2 : effB l = es) :
    Calls Tryz.prog 45 #[.slice A m c] w fun e w' => ∃ A1 n1 c1 A2 n2 c2, e = .returned (.tuple #[.slice A1 n1 c1, .slice A2 n2 c2]) ∧ w'.ownsRow w.heap.size 67 5 (.slice A1 n1 c1) n1 (ls.flatMap spc) ∧ w'.ownsRow w.heap.size 67 5 (.slice A2 n2 c2) n2 (es.flatMap spc) ∧
      (∀ q, (Value.slice A1 n1 c1).ownBlock = some q → (Value.slice A2 n2 c2).ownBlock ≠ some q) ∧ Below w.heap.size w w' := by
  have := of_any A m c l w hr hf
  rw [e1, e2] at this
  refine this.mono ?_
  rintro e w' ⟨v, u, rfl, h⟩
  obtain ⟨A1, c1, rfl⟩ := rs_own_form h.o2
  obtain ⟨A2, c2, rfl⟩ := rs_own_form h.o3
  exact ⟨A1, _, c1, A2, _, c2, rfl, h.o2, h.o3, h.ap, h.bel⟩

end Go.Proofs.YtmejhedegmjboaaGreat

/- What Of tells, its rows' lengths named. Condition: nodes can be read. -/
namespace Go.Proofs.YtmejhedegmjboaaGreat
open Go.RowKit

/-- Two rows of spots. -/
structure Two2 (w w' : World) (A1 : Option Addr) (n1 c1 : Nat) (ls : List Sp) (A2 : Option Addr) (n2 c2 : Nat) (es : List Sp) : Prop where
  o1 : w'.ownsRow w.heap.size 67 5 (.slice A1 n1 c1) n1 (ls.flatMap spc)
  o2 : w'.ownsRow w.heap.size 67 5 (.slice A2 n2 c2) n2 (es.flatMap spc)
  ap : ∀ q, (Value.slice A1 n1 c1).ownBlock = some q → (Value.slice A2 n2 c2).ownBlock ≠ some q
  bel : Below w.heap.size w w'

theorem Two2.r1 {w w' : World} {A1 A2 : Option Addr} {n1 c1 n2 c2 : Nat} {ls es : List Sp} (h : Two2 w w' A1 n1 c1 ls A2 n2 c2 es) : Rs spc 5 w' w'.heap.size A1 n1 c1 ls := Rs.of_own spc_len (by decide) h.o1
theorem Two2.r2 {w w' : World} {A1 A2 : Option Addr} {n1 c1 n2 c2 : Nat} {ls es : List Sp} (h : Two2 w w' A1 n1 c1 ls A2 n2 c2 es) : Rs spc 5 w' w'.heap.size A2 n2 c2 es := Rs.of_own spc_len (by decide) h.o2

theorem of_len (A : Option Addr) (m c : Nat) (l : List Nd) (ls es : List Sp) (kl ke : Nat) (w : World) (hr : Ns w w.heap.size A m c l) (hf : ∀ x ∈ l, x.Fits) (e1 : labB l = ls) (e2 : effB l = es) (e3 : ls.length = kl) (e4 : es.length = ke) :
    Calls Tryz.prog 45 #[.slice A m c] w fun e w' => ∃ A1 c1 A2 c2, e = .returned (.tuple #[.slice A1 kl c1, .slice A2 ke c2]) ∧ Two2 w w' A1 kl c1 ls A2 ke c2 es := by
  refine (of_lit A m c l ls es w hr hf e1 e2).mono ?_
  rintro e w1 ⟨Av, nv, cv, Au, nu, cu, rfl, ov, ou, ap, hb⟩
  have e1 := rs_own_len spc_len (by decide) ov
  have e2 := rs_own_len spc_len (by decide) ou
  rw [e3] at e1
  rw [e4] at e2
  subst e1
  subst e2
  exact ⟨Av, cv, Au, cu, rfl, ov, ou, ap, hb⟩
end Go.Proofs.YtmejhedegmjboaaGreat
namespace Go.Proofs.YtmejhedegmjboaaGreat
open Go.RowKit

/-- A scheme: how many variables, its body, its bounds. -/
structure Sch where
  lv : Int
  ev : Int
  b : List Nd
  l : List Bo.Bd
  e : List Bo.Bd

/-- A bound of a spot's term with itself. -/
def bnd (p : Sp) : Bo.Bd := ⟨p.v, p.z.toNat, p.v, p.z.toNat⟩
def orE (a b : Int) : Int := if a = 0 then b else a
/-- What Check tells. -/
def Sch.check (S X : Bo.Sr) (s : Sch) : Int :=
  if checkB s.b = 0 then orE (Bo.chkS S s.lv s.l) (orE (Bo.chkS X s.ev s.e) (orE (Bo.chkS S s.lv ((labB s.b).map bnd)) (Bo.chkS X s.ev ((effB s.b).map bnd)))) else (checkB s.b : Int)

theorem orE_zero {a b : Int} : orE a b = 0 ↔ a = 0 ∧ b = 0 := by
  unfold orE
  split
  · simp_all
  · simp_all

/-- Where a term may stand. -/
def may1 (S : Bo.Sr) (k : Int) (p : Sp) : Bool := Bo.mayT S k.toNat p.v p.z.toNat
theorem mayB_bnd (S : Bo.Sr) (k : Nat) (p : Sp) : Bo.mayB S k (bnd p) = Bo.mayT S k p.v p.z.toNat := by
  simp [Bo.mayB, bnd]
theorem chk_zero {S : Bo.Sr} {k : Int} {l : List Bo.Bd} : Bo.chkS S k l = 0 ↔ 0 ≤ k ∧ k ≤ 64 ∧ l.length ≤ 256 ∧ ∀ b ∈ l, Bo.mayB S k.toNat b = true := by
  unfold Bo.chkS
  split
  · rename_i h
    constructor
    · intro e; cases e
    · rintro ⟨h1, h2, h3, -⟩; omega
  · rename_i h
    split
    · rename_i h2
      exact ⟨fun _ => ⟨by omega, by omega, by omega, fun b hb => List.all_eq_true.1 h2 b hb⟩, fun _ => rfl⟩
    · rename_i h2
      constructor
      · intro e; cases e
      · rintro ⟨-, -, -, h3⟩
        exact absurd (List.all_eq_true.2 h3) h2
theorem chk_bnd {S : Bo.Sr} {k : Int} {l : List Sp} (hl : l.length ≤ 256) : Bo.chkS S k (l.map bnd) = 0 ↔ 0 ≤ k ∧ k ≤ 64 ∧ ∀ p ∈ l, may1 S k p = true := by
  rw [chk_zero, List.length_map]
  constructor
  · rintro ⟨h1, h2, -, h3⟩
    refine ⟨h1, h2, fun p hp => ?_⟩
    have := h3 (bnd p) (List.mem_map_of_mem hp)
    rwa [mayB_bnd] at this
  · rintro ⟨h1, h2, h3⟩
    refine ⟨h1, h2, hl, fun b hb => ?_⟩
    obtain ⟨p, hp, rfl⟩ := List.mem_map.1 hb
    rw [mayB_bnd]
    exact h3 p hp

theorem Sch.check_is {S X : Bo.Sr} {s : Sch} : s.check S X = 0 ↔ checkB s.b = 0 ∧ Bo.chkS S s.lv s.l = 0 ∧ Bo.chkS X s.ev s.e = 0 ∧ (∀ p ∈ labB s.b, may1 S s.lv p = true) ∧ ∀ p ∈ effB s.b, may1 X s.ev p = true := by
  have h1 := labB_len s.b
  have h2 : (effB s.b).length ≤ 256 := Nat.le_trans (effB_len s.b) (by decide)
  unfold Sch.check
  split
  · rename_i h0
    rw [orE_zero, orE_zero, orE_zero, chk_bnd h1, chk_bnd h2]
    constructor
    · rintro ⟨a, b, ⟨-, -, c⟩, -, -, d⟩
      exact ⟨h0, a, b, c, d⟩
    · rintro ⟨-, a, b, c, d⟩
      obtain ⟨a1, a2, -⟩ := chk_zero.1 a
      obtain ⟨b1, b2, -⟩ := chk_zero.1 b
      exact ⟨a, b, ⟨a1, a2, c⟩, b1, b2, d⟩
  · rename_i h0
    constructor
    · intro e; omega
    · rintro ⟨a, -⟩; exact absurd a h0

/-! ### Ground -/
/-! ### One variable more, or fewer -/
end Go.Proofs.YtmejhedegmjboaaGreat
namespace Go.Proofs.YtmejhedegmjboaaGreat
open Go.RowKit

theorem lab_u64 : ∀ (l : List Nd) (k : Nat) (ss : List Nat), (∀ x ∈ l, x.TFits) → ∀ p ∈ lab k l ss, U64 p.z
  | [], _, _, _, p, h => by simp [lab] at h
  | _ :: _, _, [], _, p, h => by simp [lab] at h
  | x :: l, k, s :: ss, hs, p, h => by
    have h0 := hs x List.mem_cons_self
    simp only [lab, List.mem_append] at h
    rcases h with h | h
    · unfold labS at h
      split at h
      · simp only [List.mem_cons, List.not_mem_nil, or_false] at h
        rcases h with rfl | rfl
        · exact h0.l
        · exact h0.p
      · simp only [List.mem_cons, List.not_mem_nil, or_false] at h
        subst h
        exact h0.l
    · exact lab_u64 l (k + 1) ss (fun y hy => hs y (List.mem_cons_of_mem _ hy)) p h
theorem eff_u64 : ∀ (l : List Nd) (k : Nat) (ss : List Nat), (∀ x ∈ l, x.TFits) → ∀ p ∈ eff k l ss, U64 p.z
  | [], _, _, _, p, h => by simp [eff] at h
  | _ :: _, _, [], _, p, h => by simp [eff] at h
  | x :: l, k, s :: ss, hs, p, h => by
    have h0 := hs x List.mem_cons_self
    simp only [eff, List.mem_append] at h
    rcases h with h | h
    · unfold effS at h
      split at h
      · simp only [List.mem_cons, List.not_mem_nil, or_false] at h
        subst h
        exact h0.e
      · simp at h
    · exact eff_u64 l (k + 1) ss (fun y hy => hs y (List.mem_cons_of_mem _ hy)) p h
theorem labB_u64 {l : List Nd} (h : ∀ x ∈ l, x.TFits) : ∀ p ∈ labB l, U64 p.z := by
  unfold labB
  split
  · exact lab_u64 l 0 _ h
  · simp
theorem effB_u64 {l : List Nd} (h : ∀ x ∈ l, x.TFits) : ∀ p ∈ effB l, U64 p.z := by
  unfold effB
  split
  · exact eff_u64 l 0 _ h
  · simp

theorem bnd_fit {p : Sp} (h : U64 p.z) : (bnd p).Fit := by
  have := h.hi
  have := h.lo
  exact ⟨by show p.z.toNat < _; omega, by show p.z.toNat < _; omega⟩
theorem bnds_fit {l : List Sp} (h : ∀ p ∈ l, U64 p.z) : ∀ b ∈ l.map bnd, b.Fit := fun b hb => by
  obtain ⟨p, hp, rfl⟩ := List.mem_map.1 hb
  exact bnd_fit (h p hp)
end Go.Proofs.YtmejhedegmjboaaGreat
