/- Where what stands, as data: the sides of nodes, the spots of a body, bodies whose terms are others. No condition. -/
import Derived.Test.YtmejhedegmjboaaGreatTerms
namespace Go.Proofs.YtmejhedegmjboaaGreat

/-- A side, turned: 0 up, 1 down, 2 both. -/
def turnS (s : Nat) : Nat := if s = 0 then 1 else if s = 1 then 0 else 2
theorem turn_le (s : Nat) : turnS s ≤ 2 := by unfold turnS; split <;> (try split) <;> omega

/-- The sides of the nodes right below one of some side. -/
def belowS (x : Nd) (s : Nat) : List Nat := if x.k = 4 then [2] else if x.k = 5 then [turnS s, s] else List.replicate x.n.toNat s

theorem below_len {x : Nd} (s : Nat) (h : x.may = true) : (belowS x s).length = x.n.toNat := by
  unfold Nd.may at h
  unfold belowS
  by_cases h4 : x.k = 4
  · rw [if_neg (by omega), if_neg (by omega), if_neg (by omega), if_pos h4] at h
    simp at h
    rw [if_pos h4, h.1.2]
    rfl
  by_cases h5 : x.k = 5
  · rw [if_neg (by omega), if_neg (by omega), if_neg (by omega), if_neg h4, if_pos h5] at h
    simp at h
    rw [if_neg h4, if_pos h5, h.2]
    rfl
  rw [if_neg h4, if_neg h5, List.length_replicate]

theorem below_le {x : Nd} {s : Nat} (h : s ≤ 2) : ∀ y ∈ belowS x s, y ≤ 2 := by
  intro y hy
  unfold belowS at hy
  split at hy
  · simp at hy; omega
  split at hy
  · simp at hy
    rcases hy with rfl | rfl
    · exact turn_le s
    · exact h
  · rw [List.eq_of_mem_replicate hy]; exact h

/-- The sides of nodes, where those that are missing have these. -/
def sds : List Nd → List Nat → List Nat
  | [], _ => []
  | _ :: _, [] => []
  | x :: l, s :: st => s :: sds l (belowS x s ++ st)

/-- As many nodes as there are, where the check passes. -/
theorem sds_len : ∀ (l : List Nd) (st dst : List Nat), st.length = dst.length → chk l dst = 0 → (sds l st).length = l.length
  | [], _, _, _, _ => rfl
  | _ :: _, st, [], h, k => by simp [chk] at k
  | _ :: _, [], _ :: _, h, _ => by simp at h
  | x :: l, s :: st, d :: dst, h, k => by
    rw [chk_one] at k
    split at k
    · rename_i hm
      split at k
      · cases k
      · simp only [sds, List.length_cons]
        rw [sds_len l _ _ ?_ k]
        unfold opens
        rw [List.length_append, List.length_append, below_len s hm, List.length_replicate]
        simpa using h
    · cases k

theorem sds_le : ∀ (l : List Nd) (st : List Nat), (∀ y ∈ st, y ≤ 2) → ∀ y ∈ sds l st, y ≤ 2
  | [], _, _, y, h => by simp [sds] at h
  | _ :: _, [], _, y, h => by simp [sds] at h
  | x :: l, s :: st, hs, y, h => by
    simp only [sds, List.mem_cons] at h
    rcases h with rfl | h
    · exact hs _ List.mem_cons_self
    · refine sds_le l _ (fun z hz => ?_) y h
      rcases List.mem_append.1 hz with hz | hz
      · exact below_le (hs s List.mem_cons_self) z hz
      · exact hs z (List.mem_cons_of_mem _ hz)

/-! ### Spots -/

/-- A spot: its node, part (0 label, 1 PC, 2 effect), side, and the term there. -/
structure Sp where
  n : Nat
  p : Nat
  s : Nat
  v : Bool
  z : Int

def labS (k : Nat) (x : Nd) (s : Nat) : List Sp := ⟨k, 0, s, x.lv, x.ln⟩ :: (if x.k = 5 then [⟨k, 1, turnS s, x.pv, x.pn⟩] else [])
def effS (k : Nat) (x : Nd) (s : Nat) : List Sp := if x.k = 5 then [⟨k, 2, s, x.ev, x.en⟩] else []

def lab : Nat → List Nd → List Nat → List Sp
  | _, [], _ => []
  | _, _ :: _, [] => []
  | k, x :: l, s :: ss => labS k x s ++ lab (k + 1) l ss
def eff : Nat → List Nd → List Nat → List Sp
  | _, [], _ => []
  | _, _ :: _, [] => []
  | k, x :: l, s :: ss => effS k x s ++ eff (k + 1) l ss

/-- The spots of a body, none of one that may not be. -/
def labB (l : List Nd) : List Sp := if checkB l = 0 then lab 0 l (sds l [0]) else []
def effB (l : List Nd) : List Sp := if checkB l = 0 then eff 0 l (sds l [0]) else []

theorem labS_len (k : Nat) (x : Nd) (s : Nat) : 1 ≤ (labS k x s).length ∧ (labS k x s).length ≤ 2 := by
  unfold labS
  split <;> simp
theorem effS_len (k : Nat) (x : Nd) (s : Nat) : (effS k x s).length ≤ 1 := by
  unfold effS
  split <;> simp

theorem lab_len : ∀ (l : List Nd) (k : Nat) (ss : List Nat), (lab k l ss).length ≤ 2 * l.length
  | [], _, _ => by simp [lab]
  | _ :: _, _, [] => by simp [lab]
  | x :: l, k, s :: ss => by
    have := (labS_len k x s).2
    have := lab_len l (k + 1) ss
    simp only [lab, List.length_append, List.length_cons]
    omega
theorem eff_len : ∀ (l : List Nd) (k : Nat) (ss : List Nat), (eff k l ss).length ≤ l.length
  | [], _, _ => by simp [eff]
  | _ :: _, _, [] => by simp [eff]
  | x :: l, k, s :: ss => by
    have := effS_len k x s
    have := eff_len l (k + 1) ss
    simp only [eff, List.length_append, List.length_cons]
    omega

theorem check_len {l : List Nd} (h : checkB l = 0) : 0 < l.length ∧ l.length ≤ 128 := by
  obtain ⟨h1, h2, _⟩ := check_chk h
  exact ⟨List.length_pos_iff.2 h1, h2⟩
theorem sides_len {l : List Nd} (h : checkB l = 0) : (sds l [0]).length = l.length := sds_len l [0] [1] rfl (check_chk h).2.2

theorem labB_len (l : List Nd) : (labB l).length ≤ 256 := by
  unfold labB
  split
  · have := lab_len l 0 (sds l [0]); have := check_len (by assumption); omega
  · simp
theorem effB_len (l : List Nd) : (effB l).length ≤ 128 := by
  unfold effB
  split
  · have := eff_len l 0 (sds l [0]); have := check_len (by assumption); omega
  · simp

/-! ### Terms put -/

abbrev Tm := Bool × Int

end Go.Proofs.YtmejhedegmjboaaGreat
