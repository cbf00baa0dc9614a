/- What Check, Deep and End tell. No condition but sizes. -/
import Derived.Test.YtmiconjmeaammaaDepths
namespace Go.Proofs.Ytmiconjmeaammaa
open Go.RowKit

theorem dep_small (l : List Nd) : (depB l).length ≤ 128 ∧ ∀ y ∈ depB l, y ≤ 16 := by
  by_cases h : checkB l = 0
  · obtain ⟨h1, h2, f, rfl, n, wf, ht⟩ := body_of h
    obtain ⟨_, e⟩ := body_is n wf ht h2
    rw [e]
    refine ⟨by rw [F.deps_len]; exact h2, fun y hy => ?_⟩
    have : y ≤ F.top (f.deps 1) := by
      obtain ⟨a, b, e⟩ := List.append_of_mem hy
      rw [e, F.top_append, F.top_cons]
      omega
    rw [F.top_deps f 0 (by rintro rfl; simp [F.num] at n)] at this
    omega
  · rw [show depB l = [] by unfold depB; rw [if_neg h]]
    exact ⟨by simp, by simp⟩

set_option maxRecDepth 100000 in
theorem check_any (A : Option Addr) (n c : Nat) (l : List Nd) (w : World) (h : Ns w w.heap.size A n c l) (hf : ∀ x ∈ l, x.Fits) :
    Calls Try.prog 17 #[.slice A n c] w fun e w' => e = .returned (.int .i64 (checkB l : Int)) ∧ Below w.heap.size w w' := by
  have hd := depths_any A n c l w h hf
  clear hf
  go_enter Try.func17, Try.ntmps17
  go_wp2_with fail
  refine hd.mono ?_
  rintro e w1 ⟨A', m, c', rfl, _, hb⟩
  go_wp2_with fail
  go_ret
  exact ⟨rfl, hb⟩



/-- Where the nodes below one end: the first place behind it that is no deeper. -/
structure EndIs (ds : List Nat) (k e : Nat) : Prop where
  lt : k < e
  le : e ≤ ds.length
  above : ∀ j (hj : j < ds.length), k < j → j < e → ds[k]'(by omega) < ds[j]
  stop : ∀ (h : e < ds.length), ds[e] ≤ ds[k]'(by omega)

theorem EndIs.uniq {ds : List Nat} {k e e' : Nat} (h : EndIs ds k e) (h' : EndIs ds k e') : e = e' := by
  rcases Nat.lt_trichotomy e e' with hl | hl | hl
  · have h1 := h'.above e (Nat.lt_of_lt_of_le hl h'.le) h.lt hl
    have h2 := h.stop (Nat.lt_of_lt_of_le hl h'.le)
    omega
  · exact hl
  · have h1 := h.above e' (Nat.lt_of_lt_of_le hl h.le) h'.lt hl
    have h2 := h'.stop (Nat.lt_of_lt_of_le hl h.le)
    omega

/-- What End tells. -/
def EndOf (ds : List Nat) (a : Int) (e : Nat) : Prop := ((a < 0 ∨ (ds.length : Int) ≤ a) ∧ e = 0) ∨ ∃ k : Nat, a = (k : Int) ∧ EndIs ds k e
theorem EndOf.uniq {ds : List Nat} {a : Int} {e e' : Nat} (h : EndOf ds a e) (h' : EndOf ds a e') : e = e' := by
  rcases h with ⟨h1, h2⟩ | ⟨k, rfl, h⟩ <;> rcases h' with ⟨h3, h4⟩ | ⟨k', e1, h'⟩
  · rw [h2, h4]
  · have := h'.lt; have := h'.le; omega
  · have := h.lt; have := h.le; omega
  · obtain rfl : k = k' := by omega
    exact h.uniq h'

def EnRel (ds : List Nat) (k : Nat) (hk : k < ds.length) (w : World) (v7 : Value) (wr : World) : Prop := ∃ e q : Nat, v7 = .int .i64 (e : Int) ∧ k < e ∧ e ≤ ds.length ∧ (∀ j (hj : j < ds.length), k < j → j < e → ds[k] < ds[j]) ∧ wr = w.drewN q

theorem below_drewN (w : World) (q : Nat) {B : Nat} : Below B w (w.drewN q) := ⟨rfl, rfl, rfl, Nat.le_refl _, fun _ _ => rfl⟩
theorem below_after {B : Nat} {w w1 : World} (h : Below B w w1) (q : Nat) : Below B w (w1.drewN q) := ⟨h.os, h.tape, h.output, h.size, h.block⟩

end Go.Proofs.Ytmiconjmeaammaa
