/- SpBelow; Fct; RwK: merged. -/
import Derived.Test.YthbonabadelfdaaGreatLaw2
import Derived.Test.YthbonabadelfdaaGreatRwB
import Derived.Test.YthbonabadelfdaaGreatOfs

/- Where the spots of a body go below one more node. No condition. -/
namespace Go.Proofs.YthbonabadelfdaaGreat

theorem lab_le : ∀ (l : List Nd) (k : Nat) (ss : List Nat), (∀ y ∈ ss, y ≤ 2) → ∀ p ∈ lab k l ss, p.s ≤ 2
  | [], _, _, _, p, h => by simp [lab] at h
  | _ :: _, _, [], _, p, h => by simp [lab] at h
  | x :: l, k, s :: ss, hs, p, h => by
    have h0 := hs s List.mem_cons_self
    simp only [lab, List.mem_append] at h
    rcases h with h | h
    · unfold labS at h
      split at h
      · simp only [List.mem_cons, List.not_mem_nil, or_false] at h
        rcases h with rfl | rfl
        · exact h0
        · exact turn_le s
      · simp only [List.mem_cons, List.not_mem_nil, or_false] at h
        subst h
        exact h0
    · exact lab_le l (k + 1) ss (fun y hy => hs y (List.mem_cons_of_mem _ hy)) p h
theorem labB_le (l : List Nd) : ∀ p ∈ labB l, p.s ≤ 2 := by
  unfold labB
  split
  · exact lab_le l 0 _ (sds_le l [0] (by simp))
  · simp

/-- Where l's spots stand among M, and how their sides go. -/
structure BelowIs (l : List Nd) (M : List Sp) (skip : Nat) (g : Nat → Nat) : Prop where
  len : skip + (labB l).length ≤ M.length
  spot : ∀ k (h : k < (labB l).length), ∃ h' : k + skip < M.length, M[k + skip].p = (labB l)[k].p ∧ M[k + skip].s = g (labB l)[k].s

theorem below_of {l : List Nd} {M pre post : List Sp} {skip d : Nat} {g : Nat → Nat} (h : M = pre ++ ((labB l).map fun p => p.at (p.n + d) (g p.s)) ++ post) (hp : pre.length = skip) : BelowIs l M skip g := by
  subst hp
  subst h
  refine ⟨by simp only [List.length_append, List.length_map]; omega, fun k hk => ⟨by simp only [List.length_append, List.length_map]; omega, ?_⟩⟩
  have e : (pre ++ ((labB l).map fun p => p.at (p.n + d) (g p.s)) ++ post)[k + pre.length]'(by simp only [List.length_append, List.length_map]; omega) = (labB l)[k].at ((labB l)[k].n + d) (g (labB l)[k].s) := by
    rw [List.getElem_append_left (by simp only [List.length_append, List.length_map]; omega), List.getElem_append_right (by omega)]
    simp
  rw [e]
  exact ⟨rfl, rfl⟩

theorem lab_step (k : Nat) (x : Nd) (l : List Nd) (s : Nat) (ss : List Nat) : lab k (x :: l) (s :: ss) = labS k x s ++ lab (k + 1) l ss := rfl
theorem sds_step (x : Nd) (l : List Nd) (s : Nat) (st : List Nat) : sds (x :: l) (s :: st) = s :: sds l (belowS x s ++ st) := rfl

theorem below0 {l : List Nd} (h : checkB l = 0) (hL : checkB ([nRef] ++ l) = 0) : BelowIs l (labB ([nRef] ++ l)) 1 (fun _ => 2) := by
  refine below_of (d := 1) (pre := labS 0 nRef 0) (post := []) ?_ rfl
  unfold labB
  rw [if_pos h, if_pos hL, List.append_nil]
  show lab 0 (nRef :: l) (sds (nRef :: l) [0]) = _
  rw [sds_step, lab_step, show belowS nRef 0 ++ [] = ([0] : List Nat).map (fun _ => 2) from rfl, sds_map (fun _ => 2) (fun _ => rfl) rfl, lab_map (fun _ => 2) (fun _ => rfl)]

theorem below1 {l : List Nd} (h : checkB l = 0) (hL : checkB ([nTup, nInt] ++ l) = 0) : BelowIs l (labB ([nTup, nInt] ++ l)) 2 (fun s => s) := by
  refine below_of (d := 2) (pre := labS 0 nTup 0 ++ labS 1 nInt 0) (post := []) ?_ rfl
  unfold labB
  rw [if_pos h, if_pos hL, List.append_nil]
  show lab 0 (nTup :: nInt :: l) (sds (nTup :: nInt :: l) [0]) = _
  rw [sds_step, show belowS nTup 0 ++ [] = [0, 0] from rfl, sds_step, show belowS nInt 0 ++ [0] = [0] from rfl, lab_step, lab_step, List.append_assoc]
  congr 2
  have := lab_map (fun s => s) (fun _ => rfl) l 0 2 (sds l [0])
  rw [List.map_id'] at this
  exact this

theorem below2 {l : List Nd} (h : checkB l = 0) (hL : checkB ([nFun, nInt] ++ l) = 0) : BelowIs l (labB ([nFun, nInt] ++ l)) 3 (fun s => s) := by
  refine below_of (d := 2) (pre := labS 0 nFun 0 ++ labS 1 nInt 1) (post := []) ?_ rfl
  unfold labB
  rw [if_pos h, if_pos hL, List.append_nil]
  show lab 0 (nFun :: nInt :: l) (sds (nFun :: nInt :: l) [0]) = _
  rw [sds_step, show belowS nFun 0 ++ [] = [1, 0] from rfl, sds_step, show belowS nInt 1 ++ [0] = [0] from rfl, lab_step, lab_step, List.append_assoc]
  congr 2
  have := lab_map (fun s => s) (fun _ => rfl) l 0 2 (sds l [0])
  rw [List.map_id'] at this
  exact this

theorem below3 {l : List Nd} (h : checkB l = 0) (hL : checkB ([nFun] ++ l ++ [nInt]) = 0) : BelowIs l (labB ([nFun] ++ l ++ [nInt])) 2 turnS := by
  have hsl := sides_len h
  refine below_of (d := 1) (pre := labS 0 nFun 0) (post := lab (1 + l.length) [nInt] [0]) ?_ rfl
  unfold labB
  rw [if_pos h, if_pos hL]
  have e1 : [nFun] ++ l ++ [nInt] = nFun :: (l ++ [nInt]) := by simp
  rw [e1, sds_step, show belowS nFun 0 ++ [] = [1] ++ [0] from rfl]
  obtain ⟨h1, h2, f, rfl, fn, fw, ht⟩ := body_of h
  have e2 := sds_flat f [1] [nInt] [0] fw (by rw [fn]; rfl)
  have e3 := sds_flat f [1] [] [] fw (by rw [fn]; rfl)
  rw [List.append_nil, show ([1] : List Nat) ++ [] = ([0] : List Nat).map turnS from rfl, sds_map turnS (fun _ => rfl) rfl] at e3
  have e4 : f.sd [1] = (sds f.flat [0]).map turnS := by rw [e3]; exact (List.append_nil _).symm
  rw [e2, e4, show sds [nInt] [0] = [0] from rfl, lab_step, lab_app f.flat [nInt] 1 _ [0] (by rw [List.length_map]; exact hsl), ← List.append_assoc]
  congr 2
  exact lab_map turnS (fun _ => rfl) f.flat 0 1 (sds f.flat [0])
end Go.Proofs.YthbonabadelfdaaGreat

/- What follows of senses of a scheme: by sides, and of who is below one that goes both. No condition. -/
namespace Go.Proofs.YthbonabadelfdaaGreat

theorem eff_le : ∀ (l : List Nd) (k : Nat) (ss : List Nat), (∀ y ∈ ss, y ≤ 2) → ∀ p ∈ eff k l ss, p.s ≤ 2
  | [], _, _, _, p, h => by simp [eff] at h
  | _ :: _, _, [], _, p, h => by simp [eff] at h
  | x :: l, k, s :: ss, hs, p, h => by
    have h0 := hs s List.mem_cons_self
    simp only [eff, List.mem_append] at h
    rcases h with h | h
    · unfold effS at h
      split at h
      · simp only [List.mem_cons, List.not_mem_nil, or_false] at h
        subst h
        exact h0
      · cases h
    · exact eff_le l (k + 1) ss (fun y hy => hs y (List.mem_cons_of_mem _ hy)) p h
theorem effB_le (l : List Nd) : ∀ p ∈ effB l, p.s ≤ 2 := by
  unfold effB
  split
  · exact eff_le l 0 _ (sds_le l [0] (by simp))
  · simp

end Go.Proofs.YthbonabadelfdaaGreat

/- What is fixed in a scheme's sense, and that the scheme says the same where fixed ones are constants. No condition. -/
namespace Go.Proofs.YthbonabadelfdaaGreat
open Go.RowKit
open I (sd bb lw hg fixB valF)

/-- The same sense, of spots whose nodes are any numbers. -/
def toI (z : Sen) : I.Sen := ⟨z.p.map fun p => ⟨(p.n : Int), p.p, p.s, p.v, p.z⟩, z.lo, z.hi, z.be⟩
theorem Rs.mapped {α β : Type} {enc : α → List Value} {enc' : β → List Value} {f : α → β} (he : ∀ x, enc' (f x) = enc x) {sz : Nat} {w : World} {B : Nat} {A : Option Addr} {n c : Nat} {l : List α} (h : Rs enc sz w B A n c l) : Rs enc' sz w B A n c (l.map f) :=
  ⟨by rw [List.length_map]; exact h.len, h.cap, h.top, h.none0, fun hn => by
    obtain ⟨b, o, e, hb, hc⟩ := h.spot hn
    exact ⟨b, o, e, hb, fun j hj i u hu => hc j (by simpa using hj) i u (by rw [List.getElem_map, he] at hu; exact hu)⟩⟩
theorem SenAt.toI {w : World} {z : Sen} {A1 : Option Addr} {n1 c1 : Nat} {A2 : Option Addr} {n2 c2 : Nat} {A3 : Option Addr} {n3 c3 : Nat} {A4 : Option Addr} {n4 c4 : Nat} (h : SenAt w z A1 n1 c1 A2 n2 c2 A3 n3 c3 A4 n4 c4) : I.SenAt w (toI z) A1 n1 c1 A2 n2 c2 A3 n3 c3 A4 n4 c4 :=
  ⟨h.rp.mapped (f := fun p : Sp => (⟨(p.n : Int), p.p, p.s, p.v, p.z⟩ : I.Sp)) fun _ => rfl, h.rl, h.rh, h.rb, h.fl, h.fh⟩

section
variable {S : Bo.Sr} {lo hi : List Nat} {rc : Nat → Nat → Bool} {l : List Sp}
theorem sen_sd {i : Nat} (h : i < l.length) : sd (toI (senS S lo hi rc l)) i = l[i].s := by
  unfold sd toI senS
  simp [List.getD_eq_getElem?_getD, List.getElem?_eq_getElem h]
theorem sen_lw {i : Nat} (h : i < l.length) : lw (toI (senS S lo hi rc l)) i = lowS S lo l[i] := by
  unfold lw toI senS
  simp [List.getD_eq_getElem?_getD, List.getElem?_eq_getElem h]
theorem sen_hg {i : Nat} (h : i < l.length) : hg (toI (senS S lo hi rc l)) i = highS S hi l[i] := by
  unfold hg toI senS
  simp [List.getD_eq_getElem?_getD, List.getElem?_eq_getElem h]
theorem sen_bb {i j : Nat} (h : i < l.length) (g : j < l.length) : bb (toI (senS S lo hi rc l)) i j = belS S lo hi rc l[i] l[j] := by
  unfold bb toI senS
  simp [List.getD_eq_getElem?_getD, List.getElem?_eq_getElem h, List.getElem?_eq_getElem g]
theorem low_up {p : Sp} (h : p.s ≠ 1) : lowS S lo p = tmL lo p := if_neg h
theorem high_dn {p : Sp} (h : p.s ≠ 0) : highS S hi p = tmL hi p := if_neg h
theorem bel_is {p q : Sp} : belS S lo hi rc p q = true ↔ p.s ≠ 0 ∧ q.s ≠ 1 ∧ alw S lo hi rc p q = true := by
  unfold belS
  simp
theorem tm_con {u : List Nat} {p : Sp} (h : p.v = false) : tmL u p = p.z.toNat := by unfold tmL Bo.vl; rw [h]; rfl

/-- What is asked of one that is fixed. -/
theorem fix_iff {i : Nat} (h : i < l.length) (hs : l[i].s ≤ 2) : fixB S (toI (senS S lo hi rc l)) i = true ↔
    (l[i].s = 0 ∧ ∀ k (g : k < l.length), belS S lo hi rc l[k] l[i] = true → S.below (highS S hi l[k]) (lowS S lo l[i]) = true) ∨
    (l[i].s = 1 ∧ ∀ k (g : k < l.length), belS S lo hi rc l[i] l[k] = true → S.below (highS S hi l[i]) (lowS S lo l[k]) = true) ∨
    (l[i].s = 2 ∧ highS S hi l[i] = lowS S lo l[i]) := by
  unfold fixB
  rw [sen_sd h, sen_lw h, sen_hg h]
  have hn : (toI (senS S lo hi rc l)).p.length = l.length := by simp [toI, senS]
  rw [hn]
  by_cases e0 : l[i].s = 0
  · rw [if_pos e0, List.all_eq_true]
    constructor
    · intro a
      refine .inl ⟨e0, fun k g e => ?_⟩
      have := a k (List.mem_range.2 g)
      rw [sen_bb g h, e, sen_hg g] at this
      simpa using this
    · rintro (⟨-, a⟩ | ⟨e, -⟩ | ⟨e, -⟩)
      · intro k hk
        have g := List.mem_range.1 hk
        rw [sen_bb g h, sen_hg g]
        cases e : belS S lo hi rc l[k] l[i] with
        | false => rfl
        | true => simpa using a k g e
      · omega
      · omega
  · rw [if_neg e0]
    by_cases e1 : l[i].s = 1
    · rw [if_pos e1, List.all_eq_true]
      constructor
      · intro a
        refine .inr (.inl ⟨e1, fun k g e => ?_⟩)
        have := a k (List.mem_range.2 g)
        rw [sen_bb h g, e, sen_lw g] at this
        simpa using this
      · rintro (⟨e, -⟩ | ⟨-, a⟩ | ⟨e, -⟩)
        · omega
        · intro k hk
          have g := List.mem_range.1 hk
          rw [sen_bb h g, sen_lw g]
          cases e : belS S lo hi rc l[i] l[k] with
          | false => rfl
          | true => simpa using a k g e
        · omega
    · rw [if_neg e1, decide_eq_true_eq]
      constructor
      · intro a; exact .inr (.inr ⟨by omega, a⟩)
      · rintro (⟨e, -⟩ | ⟨e, -⟩ | ⟨-, a⟩)
        · omega
        · omega
        · exact a
theorem val_is {i : Nat} (h : i < l.length) : valF (toI (senS S lo hi rc l)) i = if l[i].s = 1 then highS S hi l[i] else lowS S lo l[i] := by
  unfold valF
  rw [sen_sd h, sen_lw h, sen_hg h]

/-- The terms, where fixed ones are constants. -/
def fxT (S : Bo.Sr) (z : Sen) (i : Nat) (p : Sp) : Tm := if fixB S (toI z) i = true then (false, (valF (toI z) i : Int)) else p.t
def fxL (S : Bo.Sr) (z : Sen) : List Tm := z.p.mapIdx fun i p => fxT S z i p
theorem fxL_len (S : Bo.Sr) (z : Sen) : (fxL S z).length = z.p.length := by simp [fxL]
theorem re_own (p : Sp) : p.re p.t = p := rfl
end

section
variable {S : Bo.Sr} {q : Nat} {b : List Bo.Bd} {lo hi : List Nat} {l : List Sp}

theorem con_fix (hs : ∀ p ∈ l, p.s ≤ 2) {i : Nat} (hi' : i < l.length) (hv : l[i].v = false) : fixB S (toI (senS S lo hi (rcB q b) l)) i = true ∧ valF (toI (senS S lo hi (rcB q b) l)) i = l[i].z.toNat := by
  have hsi := hs _ (List.getElem_mem hi')
  have key : ∀ k (g : k < l.length), belS S lo hi (rcB q b) l[k] l[i] = true → S.below (highS S hi l[k]) (lowS S lo l[i]) = true := fun k g e => by
    obtain ⟨e1, e2, e3⟩ := bel_is.1 e
    rw [high_dn e1, low_up e2]
    unfold alw at e3
    rw [hv] at e3
    simpa using e3
  have key2 : ∀ k (g : k < l.length), belS S lo hi (rcB q b) l[i] l[k] = true → S.below (highS S hi l[i]) (lowS S lo l[k]) = true := fun k g e => by
    obtain ⟨e1, e2, e3⟩ := bel_is.1 e
    rw [high_dn e1, low_up e2]
    unfold alw at e3
    rw [hv] at e3
    simpa using e3
  rw [fix_iff hi' hsi, val_is hi']
  by_cases e0 : l[i].s = 0
  · refine ⟨.inl ⟨e0, key⟩, ?_⟩
    rw [if_neg (by omega), low_up (by omega), tm_con hv]
  · by_cases e1 : l[i].s = 1
    · refine ⟨.inr (.inl ⟨e1, key2⟩), ?_⟩
      rw [if_pos e1, high_dn (by omega), tm_con hv]
    · refine ⟨.inr (.inr ⟨by omega, ?_⟩), ?_⟩
      · rw [high_dn e0, low_up e1, tm_con hv, tm_con hv]
      · rw [if_neg e1, low_up e1, tm_con hv]
theorem fix_has (h : Got S q b lo hi) (hm : ∀ p ∈ l, may1 S q p = true) {i : Nat} (hi' : i < l.length) : S.has (valF (toI (senS S lo hi (rcB q b) l)) i) = true := by
  rw [val_is hi']
  have hp := hm _ (List.getElem_mem hi')
  split
  · exact h.highH hp
  · exact h.lowH hp

/-- One that is fixed: what is below it is below its value. -/
theorem fix_bel (h : Got S q b lo hi) (hs : ∀ p ∈ l, p.s ≤ 2) (hm : ∀ p ∈ l, may1 S q p = true) {i j : Nat} (hi' : i < l.length) (hj : j < l.length) (hf : fixB S (toI (senS S lo hi (rcB q b) l)) i = true ∨ fixB S (toI (senS S lo hi (rcB q b) l)) j = true) (e : belS S lo hi (rcB q b) l[i] l[j] = true) : S.below (tmL hi l[i]) (tmL lo l[j]) = true := by
  obtain ⟨e1, e2, e3⟩ := bel_is.1 e
  have mi := hm _ (List.getElem_mem hi')
  have mj := hm _ (List.getElem_mem hj)
  rcases hf with hf | hf
  · rcases (fix_iff hi' (hs _ (List.getElem_mem hi'))).1 hf with ⟨a, -⟩ | ⟨a, a2⟩ | ⟨a, a2⟩
    · exact absurd a e1
    · have := a2 j hj e
      rwa [high_dn e1, low_up e2] at this
    · rw [high_dn e1, low_up (by omega)] at a2
      rw [a2]
      exact h.alw h.low.has h.hold mi mj e3
  · rcases (fix_iff hj (hs _ (List.getElem_mem hj))).1 hf with ⟨a, a2⟩ | ⟨a, -⟩ | ⟨a, a2⟩
    · have := a2 i hi' e
      rwa [high_dn e1, low_up e2] at this
    · exact absurd a e2
    · rw [high_dn (by omega), low_up e2] at a2
      rw [← a2]
      exact h.alw h.high.has h.holdH mi mj e3

theorem fx_low {i : Nat} (hi' : i < l.length) : lowS S lo (l[i].re (fxT S (senS S lo hi (rcB q b) l) i l[i])) = lowS S lo l[i] := by
  unfold fxT
  split
  · rename_i hf
    unfold lowS
    show (if l[i].s = 1 then S.bot else _) = _
    split
    · rfl
    · rename_i e1
      show Bo.vl lo false (Int.toNat (valF _ i : Int)) = _
      rw [Int.toNat_natCast]
      show valF _ i = _
      rw [val_is hi', if_neg e1, low_up e1]
  · rw [re_own]
theorem fx_high (hs : ∀ p ∈ l, p.s ≤ 2) {i : Nat} (hi' : i < l.length) : highS S hi (l[i].re (fxT S (senS S lo hi (rcB q b) l) i l[i])) = highS S hi l[i] := by
  unfold fxT
  split
  · rename_i hf
    have hff := (fix_iff hi' (hs _ (List.getElem_mem hi'))).1 hf
    unfold highS
    show (if l[i].s = 0 then S.top else _) = _
    split
    · rfl
    · rename_i e0
      show Bo.vl hi false (Int.toNat (valF _ i : Int)) = _
      rw [Int.toNat_natCast]
      show valF _ i = _
      rw [val_is hi']
      split
      · rw [high_dn e0]
      · rename_i e1
        rcases hff with ⟨a, -⟩ | ⟨a, -⟩ | ⟨a, a2⟩
        · exact absurd a e0
        · exact absurd a e1
        · rw [← a2, high_dn e0]
  · rw [re_own]
theorem fx_bel (h : Got S q b lo hi) (hs : ∀ p ∈ l, p.s ≤ 2) (hm : ∀ p ∈ l, may1 S q p = true) {i j : Nat} (hi' : i < l.length) (hj : j < l.length) :
    belS S lo hi (rcB q b) (l[i].re (fxT S (senS S lo hi (rcB q b) l) i l[i])) (l[j].re (fxT S (senS S lo hi (rcB q b) l) j l[j])) = belS S lo hi (rcB q b) l[i] l[j] := by
  have h1 := fx_high (S := S) (q := q) (b := b) (lo := lo) (hi := hi) hs hi'
  have h2 := fx_low (S := S) (q := q) (b := b) (lo := lo) (hi := hi) hj
  by_cases e1 : l[i].s = 0
  · unfold belS
    show (!decide (l[i].s = 0) && _) = _
    rw [e1]; rfl
  by_cases e2 : l[j].s = 1
  · unfold belS
    show (!decide (l[i].s = 0) && (!decide (l[j].s = 1) && _)) = _
    rw [decide_eq_true e2]
    simp
  rw [high_dn (p := Sp.re _ _) e1, high_dn e1] at h1
  rw [low_up (p := Sp.re _ _) e2, low_up e2] at h2
  by_cases hf : fixB S (toI (senS S lo hi (rcB q b) l)) i = true ∨ fixB S (toI (senS S lo hi (rcB q b) l)) j = true
  · have hv : (l[i].re (fxT S (senS S lo hi (rcB q b) l) i l[i])).v = false ∨ (l[j].re (fxT S (senS S lo hi (rcB q b) l) j l[j])).v = false := by
      rcases hf with hf | hf
      · left; unfold fxT; rw [if_pos hf]; rfl
      · right; unfold fxT; rw [if_pos hf]; rfl
    rw [Bool.eq_iff_iff, bel_is, bel_is]
    constructor
    · rintro ⟨-, -, a⟩
      refine ⟨e1, e2, ?_⟩
      unfold alw at a ⊢
      rw [h1, h2] at a
      rw [Bool.or_eq_true] at a ⊢
      rcases a with a | a
      · simp only [Bool.and_eq_true] at a
        rcases hv with hv | hv
        · rw [hv] at a; exact absurd a.1 (by simp)
        · rw [hv] at a; exact absurd a.2.1 (by simp)
      · exact .inr a
    · intro a
      have := fix_bel h hs hm hi' hj hf (bel_is.2 a)
      refine ⟨e1, e2, ?_⟩
      unfold alw
      rw [h1, h2, this, Bool.or_true]
  · have n1 : fixB S (toI (senS S lo hi (rcB q b) l)) i ≠ true := fun e => hf (.inl e)
    have n2 : fixB S (toI (senS S lo hi (rcB q b) l)) j ≠ true := fun e => hf (.inr e)
    unfold fxT
    rw [if_neg n1, if_neg n2, re_own, re_own]

/-- The same is said where fixed ones are constants. -/
theorem fx_same (h : Got S q b lo hi) (hs : ∀ p ∈ l, p.s ≤ 2) (hm : ∀ p ∈ l, may1 S q p = true) : (senS S lo hi (rcB q b) (List.zipWith Sp.re l (fxL S (senS S lo hi (rcB q b) l)))).lo = (senS S lo hi (rcB q b) l).lo ∧
    (senS S lo hi (rcB q b) (List.zipWith Sp.re l (fxL S (senS S lo hi (rcB q b) l)))).hi = (senS S lo hi (rcB q b) l).hi ∧
    (senS S lo hi (rcB q b) (List.zipWith Sp.re l (fxL S (senS S lo hi (rcB q b) l)))).be = (senS S lo hi (rcB q b) l).be := by
  have hlen : (List.zipWith Sp.re l (fxL S (senS S lo hi (rcB q b) l))).length = l.length := by simp [fxL_len, senS]
  have hat : ∀ i (g : i < l.length) (g' : i < (List.zipWith Sp.re l (fxL S (senS S lo hi (rcB q b) l))).length), (List.zipWith Sp.re l (fxL S (senS S lo hi (rcB q b) l)))[i] = l[i].re (fxT S (senS S lo hi (rcB q b) l) i l[i]) := fun i g g' => by
    rw [List.getElem_zipWith]
    congr 1
    unfold fxL
    rw [List.getElem_mapIdx]
    rfl
  have f1 := @fx_low S q b lo hi l
  have f2 := @fx_high S q b lo hi l hs
  have f3 := @fx_bel S q b lo hi l h hs hm
  generalize List.zipWith Sp.re l (fxL S (senS S lo hi (rcB q b) l)) = L at *
  generalize fxT S (senS S lo hi (rcB q b) l) = T at *
  unfold senS
  refine ⟨?_, ?_, ?_⟩
  · apply List.ext_getElem (by simp [hlen])
    intro i g g'
    have hi' : i < l.length := by simpa using g'
    simp only [List.getElem_map]
    rw [hat i hi' (by omega)]
    exact f1 hi'
  · apply List.ext_getElem (by simp [hlen])
    intro i g g'
    have hi' : i < l.length := by simpa using g'
    simp only [List.getElem_map]
    rw [hat i hi' (by omega)]
    exact f2 hi'
  · apply List.ext_getElem (by simp [hlen])
    intro i g g'
    have hi' : i < l.length := by simpa using g'
    simp only [List.getElem_map]
    rw [hat i hi' (by omega)]
    apply List.ext_getElem (by simp [hlen])
    intro j k k'
    have hj : j < l.length := by simpa using k'
    simp only [List.getElem_map]
    rw [hat j hj (by omega)]
    exact f3 hi' hj
/-- And each may be there. -/
theorem fx_may (h : Got S q b lo hi) (hm : ∀ p ∈ l, may1 S q p = true) : ∀ p ∈ List.zipWith Sp.re l (fxL S (senS S lo hi (rcB q b) l)), may1 S q p = true := by
  intro p hp
  obtain ⟨i, hi', rfl⟩ := List.mem_iff_getElem.1 hp
  have hlen : (List.zipWith Sp.re l (fxL S (senS S lo hi (rcB q b) l))).length = l.length := by simp [fxL_len, senS]
  have g : i < l.length := by omega
  rw [List.getElem_zipWith]
  have : (fxL S (senS S lo hi (rcB q b) l))[i]'(by rw [fxL_len]; exact g) = fxT S (senS S lo hi (rcB q b) l) i l[i] := by
    unfold fxL
    rw [List.getElem_mapIdx]
    rfl
  rw [this]
  unfold fxT
  split
  · unfold may1 Bo.mayT
    show S.has (Int.toNat (valF _ i : Int)) = true
    rw [Int.toNat_natCast]
    exact fix_has h hm g
  · exact hm _ (List.getElem_mem g)
end

/-- The scheme, where fixed ones are constants. -/
def fxS (S X : Bo.Sr) (s : Sch) (p q : Sen) : Sch := { s with b := putB s.b (fxL S p) (fxL X q) }
theorem fx_lab {S : Bo.Sr} {b : List Nd} {lo hi : List Nat} {rc : Nat → Nat → Bool} (us : List Tm) (hc : checkB b = 0) : labB (putB b (fxL S (senS S lo hi rc (labB b))) us) = List.zipWith Sp.re (labB b) (fxL S (senS S lo hi rc (labB b))) := putB_lab hc (fxL_len _ _)
theorem fx_eff {S : Bo.Sr} {b : List Nd} {lo hi : List Nat} {rc : Nat → Nat → Bool} (ts : List Tm) (hc : checkB b = 0) : effB (putB b ts (fxL S (senS S lo hi rc (effB b)))) = List.zipWith Sp.re (effB b) (fxL S (senS S lo hi rc (effB b))) := putB_eff hc (fxL_len _ _)
end Go.Proofs.YthbonabadelfdaaGreat
