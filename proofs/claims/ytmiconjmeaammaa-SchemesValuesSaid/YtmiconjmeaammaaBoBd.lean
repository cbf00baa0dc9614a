/- Bounds in memory; what some, may and value tell. No condition but sizes. -/
import Derived.Test.YtmiconjmeaammaaBoSrt
import Derived.Test.YtmiconjmeaammaaRs
import Derived.LoopTactic
import Derived.Handy
namespace Go.Proofs.Ytmiconjmeaammaa.Bo
open Go.RowKit

/-- A bound: two terms, each a variable or a constant, and its number. -/
structure Bd where
  av : Bool
  an : Nat
  bv : Bool
  bn : Nat

/-- Its cells. -/
def bdc (b : Bd) : List Value := [.bool b.av, .int .u64 (b.an : Int), .bool b.bv, .int .u64 (b.bn : Int)]
theorem bdc_len (b : Bd) : (bdc b).length = 4 := rfl
def Bd.Fit (b : Bd) : Prop := b.an < 18446744073709551616 ∧ b.bn < 18446744073709551616
def tmv (v : Bool) (n : Nat) : Value := .agg #[.bool v, .int .u64 (n : Int)]

theorem bd_at {w : World} {B n c : Nat} {A : Option Addr} {l : List Bd} (h : Rs bdc 4 w B A n c l) {k : Nat} (hk : k < l.length) : ∃ b o, A = some ⟨b, o, none⟩ ∧ b < B ∧
    w.cell? ⟨b, o + k * 4, none⟩ = some (.bool l[k].av) ∧ w.cell? ⟨b, o + k * 4 + 1, none⟩ = some (.int .u64 (l[k].an : Int)) ∧ w.cell? ⟨b, o + k * 4 + 2, none⟩ = some (.bool l[k].bv) ∧ w.cell? ⟨b, o + k * 4 + 3, none⟩ = some (.int .u64 (l[k].bn : Int)) := by
  obtain ⟨b, o, e, hb, hc⟩ := h.spot (by have := h.len; omega)
  exact ⟨b, o, e, hb, hc k hk 0 _ rfl, hc k hk 1 _ rfl, hc k hk 2 _ rfl, hc k hk 3 _ rfl⟩

/-- A term's value among values; has it one? May it be, of so many variables? -/
def vl (u : List Nat) (v : Bool) (n : Nat) : Nat := cond v (u.getD n 0) n
def okT (u : List Nat) (v : Bool) (n : Nat) : Bool := !v || decide (n < u.length)
def mayT (S : Sr) (k : Nat) (v : Bool) (n : Nat) : Bool := cond v (decide (n < k)) (S.has n)

theorem wrap_small {k : Nat} (h : k < 18446744073709551616) : IntKind.u64.wrap (k : Int) = (k : Int) := by rw [IntKind.wrap_u64]; omega

/-- A sort that came in: something, or nothing. -/
def SrtIn (w : World) (v : Value) (S : Sr) : Prop := (v = .nilIface ∧ S = dead) ∨ Srt w v S
theorem SrtIn.keep {w W : World} {v : Value} {S : Sr} (h : SrtIn w v S) (hb : Below w.heap.size w W) : SrtIn W v S := h.imp id fun h => h.keep hb

set_option maxRecDepth 100000 in
theorem some_any (v : Value) (S : Sr) (w : World) (h : SrtIn w v S) : Calls Try.prog 36 #[v] w fun e w' => ∃ v', e = .returned v' ∧ Srt w v' S ∧ w = w' := by
  rcases h with ⟨rfl, rfl⟩ | ⟨a, rfl, h⟩ | ⟨a, rfl, h⟩ | ⟨rfl, h⟩
  · go_enter Try.func36, Try.ntmps36
    go_wp2
    go_ret
    exact ⟨_, rfl, .inr (.inr ⟨rfl, ans_none w⟩), rfl⟩
  · have H := Lib.hid h
    clear h
    go_enter Try.func36, Try.ntmps36
    go_wp2
    go_ret
    exact ⟨_, rfl, .inl ⟨a, rfl, H.out⟩, rfl⟩
  · have H := Lib.hid h
    clear h
    go_enter Try.func36, Try.ntmps36
    go_wp2
    go_ret
    exact ⟨_, rfl, .inr (.inl ⟨a, rfl, H.out⟩), rfl⟩
  · have H := Lib.hid h
    clear h
    go_enter Try.func36, Try.ntmps36
    go_wp2
    go_ret
    exact ⟨_, rfl, .inr (.inr ⟨rfl, H.out⟩), rfl⟩

set_option maxRecDepth 100000 in
set_option maxHeartbeats 1000000 in
theorem may_any (b : Bool) (n k : Nat) (v : Value) (S : Sr) (w : World) (hs : Srt w v S) (hn : n < 18446744073709551616) (hk : k ≤ 64) :
    Calls Try.prog 37 #[tmv b n, v, .int .i64 (k : Int)] w fun e w' => e = .returned (.bool (mayT S k b n)) ∧ Below w.heap.size w w' := by
  have hw := wrap_small (k := k) (by omega)
  have hal : Below w.heap.size w (w.alloc (.cells #[.bool b, .int .u64 (n : Int)] 52)) := (Below.refl _ _).alloc (Nat.le_refl _) _
  unfold tmv mayT
  cases b with
  | true =>
    clear hs
    simp only [cond_true]
    have e : decide (n < k) = decide ((n : Int) < (k : Int)) := by congr 1; simp
    rw [e]
    generalize hd : decide ((n : Int) < (k : Int)) = d at *
    go_enter Try.func37, Try.ntmps37
    go_wp2
    go_ret
    exact ⟨rfl, hal⟩
  | false =>
    simp only [cond_false]
    have HN := Lib.hid hn
    clear hw hk hn
    rcases hs with ⟨a, rfl, h⟩ | ⟨a, rfl, h⟩ | ⟨rfl, h⟩
    all_goals (
      have H := Lib.hid (h.has _ hal n HN.out)
      clear h
      generalize S.has n = r at *
      have HA := Lib.hid hal
      clear hal
      go_enter Try.func37, Try.ntmps37
      go_wp2_with fail
      refine H.out.mono ?_
      rintro e w1 ⟨rfl, hb⟩
      go_wp2_with fail
      go_ret
      exact ⟨rfl, HA.out.trans (hb.mono HA.out.size)⟩)

end Go.Proofs.Ytmiconjmeaammaa.Bo
