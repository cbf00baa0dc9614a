/- Bounds in memory; what some, may and value tell. No condition but sizes. -/
import Derived.Test.YtomokkpfkhfemaaSrt
import Derived.Test.YtomokkpfkhfemaaRs
import Derived.LoopTactic
import Derived.Handy
namespace Go.Proofs.Ytomokkpfkhfemaa
open Go.RowKit

/-- A bound: two terms, each a variable or a constant, and its number. -/
structure Bd where
  av : Bool
  an : Nat
  bv : Bool
  bn : Nat

/-- Its cells. -/
def bdc (b : Bd) : List Value := [.bool b.av, .int .u64 (b.an : Int), .bool b.bv, .int .u64 (b.bn : Int)]
theorem bdc_len (b : Bd) : (bdc b).length = 4 := rfl
def Bd.Fit (b : Bd) : Prop := b.an < 18446744073709551616 ∧ b.bn < 18446744073709551616
def tmv (v : Bool) (n : Nat) : Value := .agg #[.bool v, .int .u64 (n : Int)]

theorem bd_at {w : World} {B n c : Nat} {A : Option Addr} {l : List Bd} (h : Rs bdc 4 w B A n c l) {k : Nat} (hk : k < l.length) : ∃ b o, A = some ⟨b, o, none⟩ ∧ b < B ∧
    w.cell? ⟨b, o + k * 4, none⟩ = some (.bool l[k].av) ∧ w.cell? ⟨b, o + k * 4 + 1, none⟩ = some (.int .u64 (l[k].an : Int)) ∧ w.cell? ⟨b, o + k * 4 + 2, none⟩ = some (.bool l[k].bv) ∧ w.cell? ⟨b, o + k * 4 + 3, none⟩ = some (.int .u64 (l[k].bn : Int)) := by
  obtain ⟨b, o, e, hb, hc⟩ := h.spot (by have := h.len; omega)
  exact ⟨b, o, e, hb, hc k hk 0 _ rfl, hc k hk 1 _ rfl, hc k hk 2 _ rfl, hc k hk 3 _ rfl⟩

/-- A term's value among values; has it one? May it be, of so many variables? -/
def vl (u : List Nat) (v : Bool) (n : Nat) : Nat := cond v (u.getD n 0) n
def okT (u : List Nat) (v : Bool) (n : Nat) : Bool := !v || decide (n < u.length)

theorem wrap_small {k : Nat} (h : k < 18446744073709551616) : IntKind.u64.wrap (k : Int) = (k : Int) := by rw [IntKind.wrap_u64]; omega

set_option maxRecDepth 100000 in
theorem some_any (v : Value) (S : Sr) (w : World) (h : Srt w v S) : Calls Try.prog 22 #[v] w fun e w' => ∃ v', e = .returned v' ∧ Srt w v' S ∧ w = w' := by
  obtain ⟨a, rfl, h⟩ := h
  have H := Lib.hid h
  clear h
  go_enter Try.func22, Try.ntmps22
  go_wp2
  go_ret
  exact ⟨_, rfl, ⟨a, rfl, H.out⟩, rfl⟩

set_option maxRecDepth 100000 in
set_option maxHeartbeats 1000000 in
theorem value_any (b : Bool) (n : Nat) (A : Option Addr) (m c B : Nat) (u : List Nat) (w : World) (h : Rd La.nm w B A m c u) (hB : B ≤ w.heap.size) (hn : n < 18446744073709551616) (x : Nat) (y : Bool) (hx : vl u b n = x) (hy : okT u b n = y) :
    Calls Try.prog 23 #[tmv b n, .slice A m c] w fun e w' => e = .returned (.tuple #[.int .u64 (x : Int), .bool y]) ∧ Below w.heap.size w w' := by
  have hal : Below w.heap.size w (w.alloc (.cells #[.bool b, .int .u64 (n : Int)] 31)) := (Below.refl _ _).alloc (Nat.le_refl _) _
  have hlen := h.len
  have htop := h.top
  have hcap := h.cap
  unfold maxLen at htop
  have hw := wrap_small (k := m) (by omega)
  unfold tmv
  subst hx hy
  cases b with
  | false =>
    simp only [vl, okT, cond_false, Bool.not_false, Bool.true_or]
    clear h
    go_enter Try.func23, Try.ntmps23
    go_wp2
    exact bodyPost_ret (v := .tuple #[.int .u64 (n : Int), .bool true]) (by simp [results, Try.results23, go_sem]) rfl ⟨rfl, hal⟩
  | true =>
    simp only [vl, okT, cond_true, Bool.not_true, Bool.false_or]
    by_cases hlt : n < u.length
    · have e : u.getD n 0 = u[n] := by simp [hlt]
      rw [e, decide_eq_true hlt]
      obtain ⟨b, o, rfl, hb, hc'⟩ := h.spot (by omega)
      have hc := hc' n hlt
      clear hc'
      have hc1 := (hal.cell (p := ⟨b, o + n, none⟩) (show b < _ by omega)).trans hc
      replace hc1 : _ = some (Value.int .u64 (u[n] : Int)) := hc1
      have hlt' : n < m := by omega
      clear h hc e
      generalize u[n] = q at *
      clear hlt hlen
      go_enter Try.func23, Try.ntmps23
      go_wp2
      exact bodyPost_ret (v := .tuple #[.int .u64 (q : Int), .bool true]) (by simp [results, Try.results23, go_sem]) rfl ⟨rfl, hal⟩
    · have e : u.getD n 0 = 0 := by simp [List.getD, List.getElem?_eq_none (Nat.le_of_not_lt hlt)]
      rw [e, decide_eq_false hlt]
      have hge : ¬ n < m := by omega
      clear h e hlt hlen
      go_enter Try.func23, Try.ntmps23
      go_wp2
      exact bodyPost_ret (v := .tuple #[.int .u64 0, .bool false]) (by simp [results, Try.results23, go_sem]) rfl ⟨rfl, hal⟩
end Go.Proofs.Ytomokkpfkhfemaa
