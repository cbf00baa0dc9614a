/- Where the spots of each node stand. No condition. -/
import Derived.Test.YtabfbelbcdbkaaaSpBelow
namespace Go.Proofs.Ytabfbelbcdbkaaa

/-- The spots of the first i nodes are a of labels, e of effects. -/
structure Many (l : List Nd) (i a e : Nat) : Prop where
  lab : (lab 0 (l.take i) ((sds l [0]).take i)).length = a
  eff : (eff 0 (l.take i) ((sds l [0]).take i)).length = e

theorem many0 (l : List Nd) : Many l 0 0 0 := ⟨by simp [lab], by simp [eff]⟩
theorem many_all {l : List Nd} (h : checkB l = 0) {a e : Nat} (m : Many l l.length a e) : a = (labB l).length ∧ e = (effB l).length := by
  have hs := sides_len h
  have h1 := m.lab
  have h2 := m.eff
  rw [List.take_of_length_le (Nat.le_refl _), List.take_of_length_le (by omega)] at h1 h2
  unfold labB effB
  rw [if_pos h, if_pos h]
  exact ⟨h1.symm, h2.symm⟩

theorem lab_split {l : List Nd} {ss : List Nat} (hs : ss.length = l.length) {i : Nat} (hi : i < l.length) :
    Go.Proofs.Ytabfbelbcdbkaaa.lab 0 l ss = Go.Proofs.Ytabfbelbcdbkaaa.lab 0 (l.take i) (ss.take i) ++ (labS i l[i] (ss[i]'(by omega)) ++ Go.Proofs.Ytabfbelbcdbkaaa.lab (i + 1) (l.drop (i + 1)) (ss.drop (i + 1))) := by
  have e1 : l = l.take i ++ l[i] :: l.drop (i + 1) := by rw [← List.drop_eq_getElem_cons hi, List.take_append_drop]
  have e2 : ss = ss.take i ++ ss[i]'(by omega) :: ss.drop (i + 1) := by rw [← List.drop_eq_getElem_cons (by omega), List.take_append_drop]
  conv => lhs; rw [e1, e2]
  rw [lab_app _ _ 0 _ _ (by rw [List.length_take, List.length_take]; omega), Nat.zero_add, List.length_take, Nat.min_eq_left (by omega)]
  rfl
theorem eff_split {l : List Nd} {ss : List Nat} (hs : ss.length = l.length) {i : Nat} (hi : i < l.length) :
    Go.Proofs.Ytabfbelbcdbkaaa.eff 0 l ss = Go.Proofs.Ytabfbelbcdbkaaa.eff 0 (l.take i) (ss.take i) ++ (effS i l[i] (ss[i]'(by omega)) ++ Go.Proofs.Ytabfbelbcdbkaaa.eff (i + 1) (l.drop (i + 1)) (ss.drop (i + 1))) := by
  have e1 : l = l.take i ++ l[i] :: l.drop (i + 1) := by rw [← List.drop_eq_getElem_cons hi, List.take_append_drop]
  have e2 : ss = ss.take i ++ ss[i]'(by omega) :: ss.drop (i + 1) := by rw [← List.drop_eq_getElem_cons (by omega), List.take_append_drop]
  conv => lhs; rw [e1, e2]
  rw [eff_app _ _ 0 _ _ (by rw [List.length_take, List.length_take]; omega), Nat.zero_add, List.length_take, Nat.min_eq_left (by omega)]
  rfl
theorem lab_next {l : List Nd} {ss : List Nat} (hs : ss.length = l.length) {i : Nat} (hi : i < l.length) :
    Go.Proofs.Ytabfbelbcdbkaaa.lab 0 (l.take (i + 1)) (ss.take (i + 1)) = Go.Proofs.Ytabfbelbcdbkaaa.lab 0 (l.take i) (ss.take i) ++ labS i l[i] (ss[i]'(by omega)) := by
  rw [List.take_succ_eq_append_getElem hi, List.take_succ_eq_append_getElem (by omega), lab_app _ _ 0 _ _ (by rw [List.length_take, List.length_take]; omega), Nat.zero_add, List.length_take, Nat.min_eq_left (by omega)]
  congr 1
  exact List.append_nil _
theorem eff_next {l : List Nd} {ss : List Nat} (hs : ss.length = l.length) {i : Nat} (hi : i < l.length) :
    Go.Proofs.Ytabfbelbcdbkaaa.eff 0 (l.take (i + 1)) (ss.take (i + 1)) = Go.Proofs.Ytabfbelbcdbkaaa.eff 0 (l.take i) (ss.take i) ++ effS i l[i] (ss[i]'(by omega)) := by
  rw [List.take_succ_eq_append_getElem hi, List.take_succ_eq_append_getElem (by omega), eff_app _ _ 0 _ _ (by rw [List.length_take, List.length_take]; omega), Nat.zero_add, List.length_take, Nat.min_eq_left (by omega)]
  congr 1
  exact List.append_nil _

theorem get_mid_list {α : Type} {xs a b c : List α} (h : xs = a ++ (b ++ c)) {j : Nat} {x : α} (hb : b[j]? = some x) : ∃ h' : a.length + j < xs.length, xs[a.length + j] = x := by
  subst h
  have hj : j < b.length := (List.getElem?_eq_some_iff.1 hb).1
  refine ⟨by simp; omega, ?_⟩
  have : (a ++ (b ++ c))[a.length + j]? = some x := by
    rw [List.getElem?_append_right (by omega), Nat.add_sub_cancel_left, List.getElem?_append_left hj]
    exact hb
  exact (List.getElem?_eq_some_iff.1 this).2

theorem many_one {l : List Nd} (h : checkB l = 0) {i a e : Nat} (m : Many l i a e) (hi : i < l.length) (h5 : l[i].k ≠ 5) :
    ∃ s, s ≤ 2 ∧ (∃ h' : a < (labB l).length, (labB l)[a] = ⟨i, 0, s, l[i].lv, l[i].ln⟩) ∧ Many l (i + 1) (a + 1) e := by
  have hs := sides_len h
  have e1 := lab_split hs hi
  have es : labS i l[i] ((sds l [0])[i]'(by omega)) = [⟨i, 0, (sds l [0])[i]'(by omega), l[i].lv, l[i].ln⟩] := by simp [labS, h5]
  have ee : effS i l[i] ((sds l [0])[i]'(by omega)) = [] := by simp [effS, h5]
  have hlb : labB l = Go.Proofs.Ytabfbelbcdbkaaa.lab 0 l (sds l [0]) := by unfold labB; rw [if_pos h]
  rw [← hlb] at e1
  refine ⟨(sds l [0])[i]'(by omega), sds_le l [0] (by simp) _ (List.getElem_mem _), ?_, ?_, ?_⟩
  · have := get_mid_list e1 (j := 0) (x := ⟨i, 0, (sds l [0])[i]'(by omega), l[i].lv, l[i].ln⟩) (by rw [es]; rfl)
    rw [m.lab, Nat.add_zero] at this
    exact this
  · rw [lab_next hs hi, List.length_append, m.lab, es]
    rfl
  · rw [eff_next hs hi, List.length_append, m.eff, ee]
    rfl

theorem many_two {l : List Nd} (h : checkB l = 0) {i a e : Nat} (m : Many l i a e) (hi : i < l.length) (h5 : l[i].k = 5) :
    ∃ s, s ≤ 2 ∧ (∃ h' : a < (labB l).length, (labB l)[a] = ⟨i, 0, s, l[i].lv, l[i].ln⟩) ∧ (∃ h' : a + 1 < (labB l).length, (labB l)[a + 1] = ⟨i, 1, turnS s, l[i].pv, l[i].pn⟩) ∧ (∃ h' : e < (effB l).length, (effB l)[e] = ⟨i, 2, s, l[i].ev, l[i].en⟩) ∧ Many l (i + 1) (a + 2) (e + 1) := by
  have hs := sides_len h
  have e1 := lab_split hs hi
  have e2 := eff_split hs hi
  have es : labS i l[i] ((sds l [0])[i]'(by omega)) = [⟨i, 0, (sds l [0])[i]'(by omega), l[i].lv, l[i].ln⟩, ⟨i, 1, turnS ((sds l [0])[i]'(by omega)), l[i].pv, l[i].pn⟩] := by simp [labS, h5]
  have ee : effS i l[i] ((sds l [0])[i]'(by omega)) = [⟨i, 2, (sds l [0])[i]'(by omega), l[i].ev, l[i].en⟩] := by simp [effS, h5]
  have hlb : labB l = Go.Proofs.Ytabfbelbcdbkaaa.lab 0 l (sds l [0]) := by unfold labB; rw [if_pos h]
  have heb : effB l = Go.Proofs.Ytabfbelbcdbkaaa.eff 0 l (sds l [0]) := by unfold effB; rw [if_pos h]
  rw [← hlb] at e1
  rw [← heb] at e2
  refine ⟨(sds l [0])[i]'(by omega), sds_le l [0] (by simp) _ (List.getElem_mem _), ?_, ?_, ?_, ?_, ?_⟩
  · have := get_mid_list e1 (j := 0) (x := ⟨i, 0, (sds l [0])[i]'(by omega), l[i].lv, l[i].ln⟩) (by rw [es]; rfl)
    rw [m.lab, Nat.add_zero] at this
    exact this
  · have := get_mid_list e1 (j := 1) (x := ⟨i, 1, turnS ((sds l [0])[i]'(by omega)), l[i].pv, l[i].pn⟩) (by rw [es]; rfl)
    rw [m.lab] at this
    exact this
  · have := get_mid_list e2 (j := 0) (x := ⟨i, 2, (sds l [0])[i]'(by omega), l[i].ev, l[i].en⟩) (by rw [ee]; rfl)
    rw [m.eff, Nat.add_zero] at this
    exact this
  · rw [lab_next hs hi, List.length_append, m.lab, es]
    rfl
  · rw [eff_next hs hi, List.length_append, m.eff, ee]
    rfl
end Go.Proofs.Ytabfbelbcdbkaaa
