/- Where the spots of a body go below one more node. No condition. -/
import Derived.Test.YtfmpecnkkbpdlaaGreatLaw2
namespace Go.Proofs.YtfmpecnkkbpdlaaGreat

theorem lab_le : ∀ (l : List Nd) (k : Nat) (ss : List Nat), (∀ y ∈ ss, y ≤ 2) → ∀ p ∈ lab k l ss, p.s ≤ 2
  | [], _, _, _, p, h => by simp [lab] at h
  | _ :: _, _, [], _, p, h => by simp [lab] at h
  | x :: l, k, s :: ss, hs, p, h => by
    have h0 := hs s List.mem_cons_self
    simp only [lab, List.mem_append] at h
    rcases h with h | h
    · unfold labS at h
      split at h
      · simp only [List.mem_cons, List.not_mem_nil, or_false] at h
        rcases h with rfl | rfl
        · exact h0
        · exact turn_le s
      · simp only [List.mem_cons, List.not_mem_nil, or_false] at h
        subst h
        exact h0
    · exact lab_le l (k + 1) ss (fun y hy => hs y (List.mem_cons_of_mem _ hy)) p h
theorem labB_le (l : List Nd) : ∀ p ∈ labB l, p.s ≤ 2 := by
  unfold labB
  split
  · exact lab_le l 0 _ (sds_le l [0] (by simp))
  · simp

/-- Where l's spots stand among M, and how their sides go. -/
structure BelowIs (l : List Nd) (M : List Sp) (skip : Nat) (g : Nat → Nat) : Prop where
  len : skip + (labB l).length ≤ M.length
  spot : ∀ k (h : k < (labB l).length), ∃ h' : k + skip < M.length, M[k + skip].p = (labB l)[k].p ∧ M[k + skip].s = g (labB l)[k].s

theorem below_of {l : List Nd} {M pre post : List Sp} {skip d : Nat} {g : Nat → Nat} (h : M = pre ++ ((labB l).map fun p => p.at (p.n + d) (g p.s)) ++ post) (hp : pre.length = skip) : BelowIs l M skip g := by
  subst hp
  subst h
  refine ⟨by simp only [List.length_append, List.length_map]; omega, fun k hk => ⟨by simp only [List.length_append, List.length_map]; omega, ?_⟩⟩
  have e : (pre ++ ((labB l).map fun p => p.at (p.n + d) (g p.s)) ++ post)[k + pre.length]'(by simp only [List.length_append, List.length_map]; omega) = (labB l)[k].at ((labB l)[k].n + d) (g (labB l)[k].s) := by
    rw [List.getElem_append_left (by simp only [List.length_append, List.length_map]; omega), List.getElem_append_right (by omega)]
    simp
  rw [e]
  exact ⟨rfl, rfl⟩

theorem lab_step (k : Nat) (x : Nd) (l : List Nd) (s : Nat) (ss : List Nat) : lab k (x :: l) (s :: ss) = labS k x s ++ lab (k + 1) l ss := rfl
theorem sds_step (x : Nd) (l : List Nd) (s : Nat) (st : List Nat) : sds (x :: l) (s :: st) = s :: sds l (belowS x s ++ st) := rfl

theorem below0 {l : List Nd} (h : checkB l = 0) (hL : checkB ([nRef] ++ l) = 0) : BelowIs l (labB ([nRef] ++ l)) 1 (fun _ => 2) := by
  refine below_of (d := 1) (pre := labS 0 nRef 0) (post := []) ?_ rfl
  unfold labB
  rw [if_pos h, if_pos hL, List.append_nil]
  show lab 0 (nRef :: l) (sds (nRef :: l) [0]) = _
  rw [sds_step, lab_step, show belowS nRef 0 ++ [] = ([0] : List Nat).map (fun _ => 2) from rfl, sds_map (fun _ => 2) (fun _ => rfl) rfl, lab_map (fun _ => 2) (fun _ => rfl)]

theorem below1 {l : List Nd} (h : checkB l = 0) (hL : checkB ([nTup, nInt] ++ l) = 0) : BelowIs l (labB ([nTup, nInt] ++ l)) 2 (fun s => s) := by
  refine below_of (d := 2) (pre := labS 0 nTup 0 ++ labS 1 nInt 0) (post := []) ?_ rfl
  unfold labB
  rw [if_pos h, if_pos hL, List.append_nil]
  show lab 0 (nTup :: nInt :: l) (sds (nTup :: nInt :: l) [0]) = _
  rw [sds_step, show belowS nTup 0 ++ [] = [0, 0] from rfl, sds_step, show belowS nInt 0 ++ [0] = [0] from rfl, lab_step, lab_step, List.append_assoc]
  congr 2
  have := lab_map (fun s => s) (fun _ => rfl) l 0 2 (sds l [0])
  rw [List.map_id'] at this
  exact this

theorem below2 {l : List Nd} (h : checkB l = 0) (hL : checkB ([nFun, nInt] ++ l) = 0) : BelowIs l (labB ([nFun, nInt] ++ l)) 3 (fun s => s) := by
  refine below_of (d := 2) (pre := labS 0 nFun 0 ++ labS 1 nInt 1) (post := []) ?_ rfl
  unfold labB
  rw [if_pos h, if_pos hL, List.append_nil]
  show lab 0 (nFun :: nInt :: l) (sds (nFun :: nInt :: l) [0]) = _
  rw [sds_step, show belowS nFun 0 ++ [] = [1, 0] from rfl, sds_step, show belowS nInt 1 ++ [0] = [0] from rfl, lab_step, lab_step, List.append_assoc]
  congr 2
  have := lab_map (fun s => s) (fun _ => rfl) l 0 2 (sds l [0])
  rw [List.map_id'] at this
  exact this

theorem below3 {l : List Nd} (h : checkB l = 0) (hL : checkB ([nFun] ++ l ++ [nInt]) = 0) : BelowIs l (labB ([nFun] ++ l ++ [nInt])) 2 turnS := by
  have hsl := sides_len h
  refine below_of (d := 1) (pre := labS 0 nFun 0) (post := lab (1 + l.length) [nInt] [0]) ?_ rfl
  unfold labB
  rw [if_pos h, if_pos hL]
  have e1 : [nFun] ++ l ++ [nInt] = nFun :: (l ++ [nInt]) := by simp
  rw [e1, sds_step, show belowS nFun 0 ++ [] = [1] ++ [0] from rfl]
  obtain ⟨h1, h2, f, rfl, fn, fw, ht⟩ := body_of h
  have e2 := sds_flat f [1] [nInt] [0] fw (by rw [fn]; rfl)
  have e3 := sds_flat f [1] [] [] fw (by rw [fn]; rfl)
  rw [List.append_nil, show ([1] : List Nat) ++ [] = ([0] : List Nat).map turnS from rfl, sds_map turnS (fun _ => rfl) rfl] at e3
  have e4 : f.sd [1] = (sds f.flat [0]).map turnS := by rw [e3]; exact (List.append_nil _).symm
  rw [e2, e4, show sds [nInt] [0] = [0] from rfl, lab_step, lab_app f.flat [nInt] 1 _ [0] (by rw [List.length_map]; exact hsl), ← List.append_assoc]
  congr 2
  exact lab_map turnS (fun _ => rfl) f.flat 0 1 (sds f.flat [0])
end Go.Proofs.YtfmpecnkkbpdlaaGreat
