/- Who reaches whom by bounds, as rows of bits: what leads to what at once, and over others; what follows. No condition but sizes. -/
/- What schemes.Ground tells. Condition: what comes in can be read. -/
/- What comes in: bounds and rows of numbers. Condition: they can be read. -/
import Derived.ProofKit
import Derived.OpenShut
import Derived.ShutString
import Derived.ChangeOld
import Derived.Deep.Slices
import Derived.Test.YtmejhedegmjboaaGreatBoChk
import Derived.Test.YtmejhedegmjboaaGreatBoEnds
import Derived.Test.YtmejhedegmjboaaGreatLaOrd
import Derived.Test.YtmejhedegmjboaaGreatOps
namespace Go.Proofs.YtmejhedegmjboaaGreat.Re
open Go.Proofs.YtmejhedegmjboaaGreat.Bo (Bd bdc bdc_len bd_at tmv wrap_small AllRel all_step all_off)
open La (bt stepW)

/-- May a bound stand, of so many variables? -/
def mayV (n : Nat) (v : Bool) (k : Nat) : Bool := !v || decide (k < n)
def mayB (n : Nat) (b : Bd) : Bool := mayV n b.av b.an && mayV n b.bv b.bn
def ofE (k : Int) (l : List Bd) : Int := if k < 0 ∨ 64 < k ∨ 256 < l.length then 3 else if l.all (mayB k.toNat) then 0 else 1

/-- A bound between two variables. -/
def Edge (l : List Bd) (i j : Nat) : Prop := ∃ b ∈ l, b.av = true ∧ b.bv = true ∧ b.an = i ∧ b.bn = j

/-- The first k rows are each their own bit, all others none. -/
def idK (k : Nat) : List Nat := (List.range 64).map fun i => if i < k then 2 ^ i else 0
theorem idK_len (k : Nat) : (idK k).length = 64 := by simp [idK]
theorem idK_set {k : Nat} : (idK k).set k (2 ^ k) = idK (k + 1) := by
  apply List.ext_getElem (by simp [idK])
  intro x h1 h2
  by_cases e : x = k
  · subst e
    rw [List.getElem_set_self]
    simp [idK]
  · have : (x < k + 1) = (x < k) := propext ⟨fun h => by omega, fun h => by omega⟩
    rw [List.getElem_set_ne (by omega)]
    simp [idK, this]
theorem idK_lt (n : Nat) : ∀ x ∈ idK n, x < 2 ^ 64 := by
  intro x hx
  obtain ⟨i, hi, rfl⟩ := List.mem_map.1 hx
  have hi := List.mem_range.1 hi
  split
  · exact Nat.pow_lt_pow_right (by decide) hi
  · exact Nat.two_pow_pos 64

/-- One bound is put in. -/
def putB (t : List Nat) (b : Bd) : List Nat := cond (b.av && b.bv) (t.set b.an (t.getD b.an 0 ||| 2 ^ b.bn)) t
def dirN (n : Nat) (l : List Bd) : List Nat := l.foldl putB (idK n)

theorem may_var {n k : Nat} (h : mayV n true k = true) : k < n := by simpa [mayV] using h
theorem mayB_edge {n : Nat} {b : Bd} (h : mayB n b = true) (ha : b.av = true) (hb : b.bv = true) : b.an < n ∧ b.bn < n := by
  rw [mayB, Bool.and_eq_true, ha, hb] at h
  exact ⟨may_var h.1, may_var h.2⟩

theorem putB_len (t : List Nat) (b : Bd) : (putB t b).length = t.length := by
  unfold putB
  cases b.av && b.bv <;> simp
theorem putB_lt {n : Nat} (hn : n ≤ 64) {t : List Nat} {b : Bd} (hm : mayB n b = true) (ht : t.length = 64) (h : ∀ x ∈ t, x < 2 ^ 64) : ∀ x ∈ putB t b, x < 2 ^ 64 := by
  unfold putB
  cases ha : b.av with
  | false => simpa using h
  | true =>
    cases hb : b.bv with
    | false => simpa using h
    | true =>
      obtain ⟨h1, h2⟩ := mayB_edge hm ha hb
      intro x hx
      rcases List.mem_or_eq_of_mem_set hx with hx | rfl
      · exact h x hx
      · exact Nat.or_lt_two_pow (h _ (La.getD_mem (by omega))) (Nat.pow_lt_pow_right (by decide) (by omega))
theorem putB_bt {n : Nat} (hn : n ≤ 64) {t : List Nat} {b : Bd} (hm : mayB n b = true) (ht : t.length = 64) (i j : Nat) : bt (putB t b) i j = true ↔ bt t i j = true ∨ (b.av = true ∧ b.bv = true ∧ b.an = i ∧ b.bn = j) := by
  unfold putB
  cases ha : b.av with
  | false => simp
  | true =>
    cases hb : b.bv with
    | false => simp
    | true =>
      obtain ⟨h1, h2⟩ := mayB_edge hm ha hb
      rw [Bool.true_and, cond_true, La.set_bt (by omega)]
      by_cases e : i = b.an
      · subst e
        rw [if_pos rfl, Nat.testBit_or, Nat.testBit_two_pow, Bool.or_eq_true, decide_eq_true_iff]
        simp [bt]
      · have : ¬ b.an = i := fun h => e h.symm
        rw [if_neg e]
        simp [this]

theorem fold_facts {n : Nat} (hn : n ≤ 64) : ∀ (l : List Bd) (t : List Nat), t.length = 64 → (∀ x ∈ t, x < 2 ^ 64) → (∀ b ∈ l, mayB n b = true) →
    (l.foldl putB t).length = 64 ∧ (∀ x ∈ l.foldl putB t, x < 2 ^ 64) ∧ ∀ i j, bt (l.foldl putB t) i j = true ↔ bt t i j = true ∨ Edge l i j
  | [], t, h1, h2, _ => ⟨h1, h2, fun i j => ⟨.inl, fun h => h.elim id fun ⟨b, hb, _⟩ => by cases hb⟩⟩
  | b :: l, t, h1, h2, h3 => by
    have hm := h3 b (List.mem_cons_self ..)
    obtain ⟨g1, g2, g3⟩ := fold_facts hn l (putB t b) (by rw [putB_len]; exact h1) (putB_lt hn hm h1 h2) fun c hc => h3 c (List.mem_cons_of_mem _ hc)
    refine ⟨g1, g2, fun i j => ?_⟩
    rw [List.foldl_cons, g3, putB_bt hn hm h1, or_assoc]
    refine or_congr Iff.rfl ?_
    unfold Edge
    simp only [List.mem_cons, exists_eq_or_imp]

/-- Whom each reaches, by the first k in the midst. -/
def thrN (n : Nat) (t : List Nat) : Nat → List Nat
  | 0 => t
  | k + 1 => stepW (thrN n t k) k n
def rchN (n : Nat) (l : List Bd) : List Nat := thrN n (dirN n l) n

section
variable {n : Nat} {l : List Bd} (hn : n ≤ 64) (hm : ∀ b ∈ l, mayB n b = true)
include hn hm

theorem dir_len : (dirN n l).length = 64 := (fold_facts hn l _ (idK_len n) (idK_lt n) hm).1
theorem dir_lt : ∀ x ∈ dirN n l, x < 2 ^ 64 := (fold_facts hn l _ (idK_len n) (idK_lt n) hm).2.1
/-! ### What follows -/
end

/-! ### One bound more -/
theorem ofE_is {q : Nat} {l : List Bd} (h1 : q ≤ 64) (h2 : l.length ≤ 256) (h3 : ∀ b ∈ l, mayB q b = true) : ofE (q : Int) l = 0 := by
  unfold ofE
  rw [if_neg (by omega), Int.toNat_natCast, if_pos (List.all_eq_true.2 h3)]
end Go.Proofs.YtmejhedegmjboaaGreat.Re
namespace Go.Proofs.YtmejhedegmjboaaGreat
open Go.RowKit

theorem own_baseN {w : World} {b b' E sz n : Nat} {v : Value} {xs : List Value} (h : w.ownsRow b E sz v n xs) (hb : b' ≤ b) : w.ownsRow b' E sz v n xs := by
  refine ⟨h.1, ?_⟩
  rcases h.2 with h | ⟨g, cap, cur, hv, hg, r⟩
  · exact .inl h
  · exact .inr ⟨g, cap, cur, hv, Nat.le_trans hb hg, r⟩

end Go.Proofs.YtmejhedegmjboaaGreat
namespace Go.Proofs.YtmejhedegmjboaaGreat.Bo
open Go.ChangeShapes Go.WideShapes Go.ChangeAt Go.RowKit Go.Deep

theorem c4 : Tryz.prog.cellsOf 4 = 1 := by kernel_rfl
theorem c28 : Tryz.prog.cellsOf 60 = 1 := by kernel_rfl
theorem c51 : Tryz.prog.cellsOf 62 = 2 := by kernel_rfl
theorem c53 : Tryz.prog.cellsOf 69 = 4 := by kernel_rfl

theorem two_of {α : Type} : ∀ {l : List α}, l.length = 2 → ∃ a b, l = [a, b]
  | [a, b], _ => ⟨a, b, rfl⟩
theorem four_of {α : Type} : ∀ {l : List α}, l.length = 4 → ∃ a b c d, l = [a, b, c, d]
  | [a, b, c, d], _ => ⟨a, b, c, d, rfl⟩
theorem agg_of {v : Value} {x y : Value} {l : List Value} (h : v.cells.toList = x :: y :: l) : v = .agg (x :: y :: l).toArray := by
  cases v <;> simp [Value.cells] at h
  rename_i xs
  congr 1
  apply Array.toList_inj.1
  simpa using h

section
variable {H : Type} {enc : TypeId × Value → H} {W : World}

theorem open_term {n : Nat} {cs : List Value} {x : DataW H × List MemPlace} (h : DataW.trod enc Tryz.prog W 0 (fun _ => true) true n 62 cs = some x) : ∃ (b : Bool) (z : Nat), cs = [.bool b, .int .u64 (z : Int)] ∧ z < 18446744073709551616 := by
  obtain ⟨xs, m, _, _, hl, hlen, hf⟩ := DataW.trod_struct Tryz.underlying62 h
  rw [c51] at hl
  match xs, hlen with
  | [y0, y1], _ =>
    have h0 : DataW.trod enc Tryz.prog W 0 (fun _ => true) true m 4 (List.take (Tryz.prog.cellsOf 4) (List.drop 0 cs)) = some y0 := hf 0 _ rfl
    have h1 : DataW.trod enc Tryz.prog W 0 (fun _ => true) true m 60 (List.take (Tryz.prog.cellsOf 60) (List.drop 1 cs)) = some y1 := hf 1 _ rfl
    rw [c4] at h0
    rw [c28] at h1
    obtain ⟨b, e0, _⟩ := DataW.trod_bool Tryz.underlying4 h0
    obtain ⟨z, e1, _, wz⟩ := DataW.trod_int Tryz.underlying60 h1
    obtain ⟨y, rfl, hy⟩ := La.u64_nat wz
    obtain ⟨u0, u1, rfl⟩ := two_of hl
    simp at e0 e1
    exact ⟨b, y, by rw [e0, e1], hy⟩

theorem open_bd {n : Nat} {cs : List Value} {x : DataW H × List MemPlace} (h : DataW.trod enc Tryz.prog W 0 (fun _ => true) true n 69 cs = some x) : ∃ y : Bd, cs = bdc y ∧ y.Fit := by
  obtain ⟨xs, m, _, _, hl, hlen, hf⟩ := DataW.trod_struct Tryz.underlying69 h
  rw [c53] at hl
  match xs, hlen with
  | [y0, y1], _ =>
    have h0 : DataW.trod enc Tryz.prog W 0 (fun _ => true) true m 62 (List.take (Tryz.prog.cellsOf 62) (List.drop 0 cs)) = some y0 := hf 0 _ rfl
    have h1 : DataW.trod enc Tryz.prog W 0 (fun _ => true) true m 62 (List.take (Tryz.prog.cellsOf 62) (List.drop 2 cs)) = some y1 := hf 1 _ rfl
    rw [c51] at h0 h1
    obtain ⟨av, an, e0, t0⟩ := open_term h0
    obtain ⟨bv, bn, e1, t1⟩ := open_term h1
    obtain ⟨u0, u1, u2, u3, rfl⟩ := four_of hl
    simp at e0 e1
    exact ⟨⟨av, an, bv, bn⟩, by rw [bdc, e0.1, e0.2, e1.1, e1.2], t0, t1⟩

theorem open_bds {n : Nat} {cs : List Value} {x : DataW H × List MemPlace} (h : DataW.trod enc Tryz.prog W 0 (fun _ => true) true n 42 cs = some x) :
    ∃ (a0 : Option Addr) (len0 cap0 : Nat) (l : List Bd), cs = [.slice a0 len0 cap0] ∧ Rs bdc 4 W W.heap.size a0 len0 cap0 l ∧ ∀ b ∈ l, b.Fit := by
  rcases open_slice Tryz.underlying42 h with ⟨hcs, _⟩ | ⟨x, l, c, m, n, D, Pl, hcs, _, hl, hm, hmm, _, hx⟩
  · exact ⟨none, 0, 0, [], hcs, Rs.nil _ _, fun _ h => by cases h⟩
  · have hm' : m = c := by simpa using hmm
    have each : ∀ i, i < l → ∃ y : Bd, y.Fit ∧ ∀ j u, (bdc y)[j]? = some u → W.cell? ((x.add (i * 4)).add j) = some u := by
      intro i hi
      obtain ⟨cs', h1, h2⟩ := hx i (by omega)
      obtain ⟨y, rfl, hy⟩ := open_bd h2
      rw [c53] at h1
      obtain ⟨_, _, hc⟩ := World.cells?_some h1
      refine ⟨y, hy, fun j u hu => ?_⟩
      have hj : j < (bdc y).length := (List.getElem?_eq_some_iff.1 hu).1
      have := hc j (by rw [bdc_len] at hj; exact hj)
      rw [this]
      exact hu
    obtain ⟨f, hf, hg⟩ : ∃ f : Nat → Bd, (∀ i, i < l → (f i).Fit) ∧ ∀ i, i < l → ∀ j u, (bdc (f i))[j]? = some u → W.cell? ((x.add (i * 4)).add j) = some u :=
      ⟨fun i => if h : i < l then Classical.choose (each i h) else zeroB, fun i h => by
        simp only [dif_pos h]
        exact (Classical.choose_spec (each i h)).1, fun i h => by
        simp only [dif_pos h]
        exact (Classical.choose_spec (each i h)).2⟩
    refine ⟨some x, l, c, (List.range l).map f, hcs, ⟨by simp, hl, hm, (fun h => by cases h), fun h0 => ?_⟩, fun b hb => ?_⟩
    · obtain ⟨b, o, spot⟩ := x
      have hc0 := hg 0 (by omega) 0 _ rfl
      have hspot : spot = none := by simpa [Addr.add] using World.cell?_spot hc0
      subst hspot
      refine ⟨b, o, rfl, ?_, fun j hj i u hu => ?_⟩
      · exact World.block_lt_of_cell? W ⟨b, o, none⟩ (by simpa [Addr.add] using hc0)
      · rw [List.length_map, List.length_range] at hj
        simp only [List.getElem_map, List.getElem_range] at hu
        have := hg j hj i u hu
        rwa [Addr.add_lit, Addr.add_lit] at this
    · obtain ⟨i, hi, rfl⟩ := List.mem_map.1 hb
      exact hf i (List.mem_range.1 hi)

theorem open_rows {n : Nat} {cs : List Value} {x : DataW H × List MemPlace} (h : DataW.trod enc Tryz.prog W 0 (fun _ => true) true n 22 cs = some x) :
    ∃ (a0 : Option Addr) (len0 cap0 : Nat) (l : List Nat), cs = [.slice a0 len0 cap0] ∧ Rd La.nm W W.heap.size a0 len0 cap0 l ∧ La.Fit l := by
  obtain ⟨a0, len0, cap0, e⟩ : ∃ a0 len0 cap0, cs = [Value.slice a0 len0 cap0] := by
    rcases open_slice Tryz.underlying22 h with ⟨hcs, _⟩ | ⟨x, l, c, m, n, D, Pl, hcs, _⟩
    · exact ⟨_, _, _, hcs⟩
    · exact ⟨_, _, _, hcs⟩
  subst e
  obtain ⟨us, h1, h2⟩ := La.opened_nums (t := 22) (e := 60) (d := x.1) (p := x.2) Tryz.underlying22 Tryz.underlying60 c28 ⟨n, h⟩
  exact ⟨a0, len0, cap0, us, rfl, h1, h2⟩

end
end Go.Proofs.YtmejhedegmjboaaGreat.Bo
