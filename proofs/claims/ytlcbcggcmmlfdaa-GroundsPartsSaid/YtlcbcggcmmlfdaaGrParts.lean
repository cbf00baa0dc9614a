/- Below a function, and below a ref: what follows. No condition. -/
import Derived.Test.YtlcbcggcmmlfdaaGround
namespace Go.Proofs.Ytlcbcggcmmlfdaa

/-! ### Rows of pairs -/
theorem holdB_app {a b a' b' : List Sp} {R : Nat → Nat → Bool} (h : a.length = b.length) : holdB (a ++ a') (b ++ b') R = (holdB a b R && holdB a' b' R) := by
  unfold holdB
  rw [List.zip_append h, List.all_append]
theorem bool_ext {x y : Bool} (h : x = true ↔ y = true) : x = y := by
  cases x <;> cases y <;> simp at h ⊢
theorem must_turn {s a b : Nat} {R : Nat → Nat → Bool} (hs : s ≤ 2) : mustB (turnS s) R a b = mustB s R b a := by
  have : s = 0 ∨ s = 1 ∨ s = 2 := by omega
  rcases this with rfl | rfl | rfl
  · rfl
  · rfl
  · unfold mustB turnS
    simp
    exact eq_comm

theorem hold_map {l m : List Sp} {R : Nat → Nat → Bool} (f g : Sp → Sp) (hf : ∀ p, (f p).z = p.z) (hg : ∀ p, (g p).z = p.z) :
    holdB (l.map f) (m.map g) R = true ↔ ∀ k (h : k < l.length) (h' : k < m.length), mustB (f l[k]).s R l[k].z.toNat m[k].z.toNat = true := by
  rw [holdB_iff]
  constructor
  · intro h k h1 h2
    have := h k (by simpa using h1) (by simpa using h2)
    simp only [List.getElem_map] at this
    rwa [hf, hg] at this
  · intro h k h1 h2
    simp only [List.getElem_map]
    rw [hf, hg]
    exact h k (by simpa using h1) (by simpa using h2)

theorem hold_turned {l m : List Sp} {R : Nat → Nat → Bool} (d e : Nat) (hs : l.map Sp.s = m.map Sp.s) (h2 : ∀ p ∈ l, p.s ≤ 2) :
    holdB (l.map fun p => p.at (p.n + d) (turnS p.s)) (m.map fun p => p.at (p.n + e) (turnS p.s)) R = holdB m l R := by
  refine bool_ext ?_
  rw [hold_map (fun p => p.at (p.n + d) (turnS p.s)) (fun p => p.at (p.n + e) (turnS p.s)) (fun _ => rfl) (fun _ => rfl), holdB_iff]
  constructor
  · intro h k h1 h3
    have := h k h3 h1
    rw [show (l[k].at (l[k].n + d) (turnS l[k].s)).s = turnS l[k].s from rfl, must_turn (h2 _ (List.getElem_mem h3)), side_at_k hs h3 h1] at this
    exact this
  · intro h k h1 h3
    have := h k h3 h1
    rw [← side_at_k hs h1 h3] at this
    rw [show (l[k].at (l[k].n + d) (turnS l[k].s)).s = turnS l[k].s from rfl, must_turn (h2 _ (List.getElem_mem h1))]
    exact this
theorem hold_same {l m : List Sp} {R : Nat → Nat → Bool} (d e : Nat) :
    holdB (l.map fun p => p.at (p.n + d) p.s) (m.map fun p => p.at (p.n + e) p.s) R = holdB l m R := by
  refine bool_ext ?_
  rw [hold_map (fun p => p.at (p.n + d) p.s) (fun p => p.at (p.n + e) p.s) (fun _ => rfl) (fun _ => rfl), holdB_iff]
  exact Iff.rfl
theorem hold_both {l m : List Sp} {R : Nat → Nat → Bool} {H : Nat → Bool} (d e : Nat) (hs : l.map Sp.s = m.map Sp.s) (hR : ∀ x, H x = true → R x x = true) (hA : ∀ x y, H x = true → H y = true → R x y = true → R y x = true → x = y) (vl : valB H l = true) (vm : valB H m = true) :
    holdB (l.map fun p => p.at (p.n + d) 2) (m.map fun p => p.at (p.n + e) 2) R = (holdB m l R && holdB l m R) := by
  refine bool_ext ?_
  rw [hold_map (fun p => p.at (p.n + d) 2) (fun p => p.at (p.n + e) 2) (fun _ => rfl) (fun _ => rfl), Bool.and_eq_true, holdB_iff, holdB_iff]
  have h2 : ∀ k (h : k < l.length) (h' : k < m.length), mustB (l[k].at (l[k].n + d) 2).s R l[k].z.toNat m[k].z.toNat = true ↔ l[k].z.toNat = m[k].z.toNat := by
    intro k h h'
    show decide _ = true ↔ _
    rw [decide_eq_true_eq]
  constructor
  · intro h
    refine ⟨fun k h1 h3 => ?_, fun k h1 h3 => ?_⟩
    · rw [(h2 k h3 h1).1 (h k h3 h1)]
      exact must_refl (hR _ (valB_at vm k h1).2)
    · rw [(h2 k h1 h3).1 (h k h1 h3)]
      exact must_refl (hR _ (valB_at vm k h3).2)
  · rintro ⟨h1, h3⟩ k g1 g2
    refine (h2 k g1 g2).2 ?_
    have k1 := h1 k g2 g1
    have k2 := h3 k g1 g2
    rw [← side_at_k hs g1 g2] at k1
    exact must_anti (hA _ _ (valB_at vl k g1).2 (valB_at vm k g2).2) k2 k1

theorem val_map {l : List Sp} {H : Nat → Bool} (f : Sp → Sp) (hf : ∀ p, (f p).z = p.z) (hv : ∀ p, (f p).v = p.v) : valB H (l.map f) = valB H l := by
  unfold valB
  rw [List.all_map]
  congr 1
  funext p
  show okS H (f p) = okS H p
  unfold okS
  rw [hf, hv]
theorem val_t {l : List Sp} {H : Nat → Bool} (d : Nat) : valB H (l.map fun p => p.at (p.n + d) (turnS p.s)) = valB H l := val_map _ (fun _ => rfl) (fun _ => rfl)
theorem val_s {l : List Sp} {H : Nat → Bool} (d : Nat) : valB H (l.map fun p => p.at (p.n + d) p.s) = valB H l := val_map _ (fun _ => rfl) (fun _ => rfl)
theorem val_2 {l : List Sp} {H : Nat → Bool} (d : Nat) : valB H (l.map fun p => p.at (p.n + d) 2) = valB H l := val_map _ (fun _ => rfl) (fun _ => rfl)
theorem val_app {l m : List Sp} {H : Nat → Bool} : valB H (l ++ m) = (valB H l && valB H m) := by
  unfold valB
  rw [List.all_append]

/-! ### Where spots stand -/
theorem fun_spots {a b : List Nd} (ha : checkB a = 0) (hb : checkB b = 0) (hL : checkB ([nFun] ++ a ++ b) = 0) :
    labB ([nFun] ++ a ++ b) = labS 0 nFun 0 ++ ((labB a).map fun p => p.at (p.n + 1) (turnS p.s)) ++ ((labB b).map fun p => p.at (p.n + (1 + a.length)) p.s) ∧
    effB ([nFun] ++ a ++ b) = effS 0 nFun 0 ++ ((effB a).map fun p => p.at (p.n + 1) (turnS p.s)) ++ ((effB b).map fun p => p.at (p.n + (1 + a.length)) p.s) := by
  have hsl := sides_len ha
  obtain ⟨h1, h2, f, rfl, fn, fw, ht⟩ := body_of ha
  have e2 := sds_flat f [1] b [0] fw (by rw [fn]; rfl)
  have e3 := sds_flat f [1] [] [] fw (by rw [fn]; rfl)
  rw [List.append_nil, show ([1] : List Nat) ++ [] = ([0] : List Nat).map turnS from rfl, sds_map turnS (fun _ => rfl) rfl] at e3
  have e4 : f.sd [1] = (sds f.flat [0]).map turnS := by rw [e3]; exact (List.append_nil _).symm
  have e1 : [nFun] ++ f.flat ++ b = nFun :: (f.flat ++ b) := by simp
  have es : sds ([nFun] ++ f.flat ++ b) [0] = 0 :: ((sds f.flat [0]).map turnS ++ sds b [0]) := by
    rw [e1, sds_step, show belowS nFun 0 ++ [] = [1] ++ [0] from rfl, e2, e4]
  constructor
  · unfold labB
    rw [if_pos ha, if_pos hb, if_pos hL, es, e1, lab_step, lab_app f.flat b 1 _ _ (by rw [List.length_map]; exact hsl), List.append_assoc]
    congr 1
    congr 1
    · exact lab_map turnS (fun _ => rfl) f.flat 0 1 (sds f.flat [0])
    · have := lab_map (fun s => s) (fun _ => rfl) b 0 (1 + f.flat.length) (sds b [0])
      rw [List.map_id', Nat.zero_add] at this
      exact this
  · unfold effB
    rw [if_pos ha, if_pos hb, if_pos hL, es, e1]
    show effS 0 nFun 0 ++ eff 1 (f.flat ++ b) _ = _
    rw [eff_app f.flat b 1 _ _ (by rw [List.length_map]; exact hsl), List.append_assoc]
    congr 1
    congr 1
    · exact eff_map turnS f.flat 0 1 (sds f.flat [0])
    · have := eff_map (fun s => s) b 0 (1 + f.flat.length) (sds b [0])
      rw [List.map_id', Nat.zero_add] at this
      exact this

theorem ref_spots {a : List Nd} (ha : checkB a = 0) (hL : checkB ([nRef] ++ a) = 0) :
    labB ([nRef] ++ a) = labS 0 nRef 0 ++ ((labB a).map fun p => p.at (p.n + 1) 2) ∧ effB ([nRef] ++ a) = effS 0 nRef 0 ++ ((effB a).map fun p => p.at (p.n + 1) 2) := by
  have es : sds ([nRef] ++ a) [0] = 0 :: (sds a [0]).map (fun _ => 2) := by
    show sds (nRef :: a) [0] = _
    rw [sds_step, show belowS nRef 0 ++ [] = ([0] : List Nat).map (fun _ => 2) from rfl, sds_map (fun _ => 2) (fun _ => rfl) rfl]
  constructor
  · unfold labB
    rw [if_pos ha, if_pos hL, es]
    show lab 0 (nRef :: a) _ = _
    rw [lab_step]
    congr 1
    exact lab_map (fun _ => 2) (fun _ => rfl) a 0 1 (sds a [0])
  · unfold effB
    rw [if_pos ha, if_pos hL, es]
    show effS 0 nRef 0 ++ eff 1 a _ = _
    congr 1
    exact eff_map (fun _ => 2) a 0 1 (sds a [0])

theorem eff_le : ∀ (l : List Nd) (k : Nat) (ss : List Nat), (∀ y ∈ ss, y ≤ 2) → ∀ p ∈ eff k l ss, p.s ≤ 2
  | [], _, _, _, p, h => by simp [eff] at h
  | _ :: _, _, [], _, p, h => by simp [eff] at h
  | x :: l, k, s :: ss, hs, p, h => by
    have h0 := hs s List.mem_cons_self
    simp only [eff, List.mem_append] at h
    rcases h with h | h
    · unfold effS at h
      split at h
      · simp only [List.mem_cons, List.not_mem_nil, or_false] at h
        subst h
        exact h0
      · simp at h
    · exact eff_le l (k + 1) ss (fun y hy => hs y (List.mem_cons_of_mem _ hy)) p h
theorem effB_le (l : List Nd) : ∀ p ∈ effB l, p.s ≤ 2 := by
  unfold effB
  split
  · exact eff_le l 0 _ (sds_le l [0] (by simp))
  · simp

/-! ### The same but for terms -/
theorem sameB_app : ∀ {a b a' b' : List Nd}, a.length = b.length → sameB (a ++ a') (b ++ b') = (sameB a b && sameB a' b')
  | [], [], _, _, _ => rfl
  | [], _ :: _, _, _, h => by simp at h
  | _ :: _, [], _, _, h => by simp at h
  | x :: a, y :: b, a', b', h => by
    simp only [List.cons_append, sameB]
    rw [sameB_app (by simpa using h), Bool.and_assoc]

/-- A body is no beginning of another one. -/
theorem body_short {a b : List Nd} (ha : checkB a = 0) (hb : checkB b = 0) (h : ∀ j (h : j < a.length) (h' : j < b.length), alikeB a[j] b[j] = true) (hl : a.length ≤ b.length) : a.length = b.length := by
  have hbt : (b.take a.length).length = a.length := by rw [List.length_take]; omega
  have hal : Alks a (b.take a.length) := alks_of hbt.symm (fun j h1 h2 => by rw [List.getElem_take]; exact h j h1 (by omega)) (body_may ha) (fun x hx => body_may hb x (List.mem_of_mem_take hx))
  have hc : checkB (b.take a.length) = 0 := by rw [← check_alk hal.len hal.get]; exact ha
  obtain ⟨_, _, f, e, fn, fw, ht⟩ := body_of hc
  have h2 := (check_chk hb).2.2
  have h3 : b = f.flat ++ b.drop a.length := by rw [← e]; exact (List.take_append_drop _ _).symm
  have h4 := F.chk_flat f 1 (b.drop a.length) [] fw (by omega)
  rw [fn, show List.replicate 1 1 ++ ([] : List Nat) = [1] from rfl, ← h3, h2] at h4
  have h5 : b.drop a.length = [] := by
    cases hd : b.drop a.length with
    | nil => rfl
    | cons x l => rw [hd] at h4; simp [chk] at h4
  have := congrArg List.length h5
  rw [List.length_drop, List.length_nil] at this
  omega
theorem body_len {a b a' b' : List Nd} (ha : checkB a = 0) (hb : checkB b = 0) (h : sameB (a ++ a') (b ++ b') = true) : a.length = b.length := by
  obtain ⟨h1, h2⟩ := (same_iff _ _).1 h
  have hj : ∀ j (h : j < a.length) (h' : j < b.length), alikeB a[j] b[j] = true := fun j g1 g2 => by
    have := h2 j (by rw [List.length_append]; omega) (by rw [List.length_append]; omega)
    rwa [List.getElem_append_left g1, List.getElem_append_left g2] at this
  rcases Nat.le_total a.length b.length with hl | hl
  · exact body_short ha hb hj hl
  · refine (body_short hb ha (fun j g1 g2 => ?_) hl).symm
    have := hj j g2 g1
    unfold alikeB at *
    simp only [Bool.and_eq_true, decide_eq_true_eq] at *
    exact ⟨this.1.symm, this.2.1.symm, this.2.2.1.symm, this.2.2.2.symm⟩
theorem same_cons (x : Nd) (a b : List Nd) : sameB (x :: a) (x :: b) = sameB a b := by
  show (alikeB x x && sameB a b) = _
  rw [show alikeB x x = true by simp [alikeB], Bool.true_and]
theorem same_fun {a b a' b' : List Nd} (ha : checkB a = 0) (hb : checkB b = 0) : sameB ([nFun] ++ a ++ a') ([nFun] ++ b ++ b') = (sameB a b && sameB a' b') := by
  show sameB (nFun :: (a ++ a')) (nFun :: (b ++ b')) = _
  rw [same_cons]
  cases h : sameB (a ++ a') (b ++ b') with
  | true =>
    rw [sameB_app (body_len ha hb h)] at h
    exact h.symm
  | false =>
    by_cases e : a.length = b.length
    · rw [sameB_app e] at h
      exact h.symm
    · rw [same_no e, Bool.false_and]

/-! ### What the law asks -/
section
variable {S : So} (hS : S.Ok)
include hS

omit hS in
theorem some_label {a : List Nd} (ha : checkB a = 0) (hv : valB S.h1 (labB a) = true) : S.h1 0 = true := by
  have h0 : 0 < (labB a).length := by
    obtain ⟨x, l, rfl⟩ : ∃ x l, a = x :: l := by
      cases a with
      | nil => exact absurd (check_len ha).1 (by simp)
      | cons x l => exact ⟨x, l, rfl⟩
    unfold labB
    rw [if_pos ha]
    show 0 < (labS 0 x 0 ++ lab 1 l _).length
    have := (labS_len 0 x 0).1
    rw [List.length_append]
    omega
  have := (valB_at hv 0 h0).2
  unfold So.h1 at *
  rw [decide_eq_true_eq] at *
  omega
omit hS in
theorem none_effect (hm : S.m = true) : S.h2 0 = true := (h2_iff 0).2 ⟨hm, fun i hi => by simp at hi⟩

theorem own_lab (h0 : S.h1 0 = true) : holdB (labS 0 nFun 0) (labS 0 nFun 0) S.r1 = true ∧ holdB (labS 0 nRef 0) (labS 0 nRef 0) S.r1 = true ∧ valB S.h1 (labS 0 nFun 0) = true ∧ valB S.h1 (labS 0 nRef 0) = true := by
  have hr := r1_refl hS h0
  refine ⟨?_, ?_, ?_, ?_⟩
  · show ((S.r1 0 0) && ((S.r1 0 0) && true)) = true
    rw [hr]; rfl
  · show ((S.r1 0 0) && true) = true
    rw [hr]; rfl
  · show ((S.h1 0) && ((S.h1 0) && true)) = true
    rw [h0]; rfl
  · show ((S.h1 0) && true) = true
    rw [h0]; rfl
omit hS in
theorem own_eff (h0 : S.h2 0 = true) : holdB (effS 0 nFun 0) (effS 0 nFun 0) S.r2 = true ∧ valB S.h2 (effS 0 nFun 0) = true := by
  have hr := r2_refl h0
  refine ⟨?_, ?_⟩
  · show ((S.r2 0 0) && true) = true
    rw [hr]; rfl
  · show ((S.h2 0) && true) = true
    rw [h0]; rfl

theorem gr_fun {a b a' b' : List Nd} (hm : S.m = true) (e1 : grE S b a = 0) (e2 : grE S a' b' = 0) (hP : checkB ([nFun] ++ a ++ a') = 0) (hQ : checkB ([nFun] ++ b ++ b') = 0) :
    grE S ([nFun] ++ a ++ a') ([nFun] ++ b ++ b') = 0 ∧ grB S ([nFun] ++ a ++ a') ([nFun] ++ b ++ b') = (grB S b a && grB S a' b') := by
  obtain ⟨cb, ca, kb, ka⟩ := (grE_zero S).1 e1
  obtain ⟨ca', cb', ka', kb'⟩ := (grE_zero S).1 e2
  obtain ⟨va, wa⟩ := vals_l S ka
  obtain ⟨vb, wb⟩ := vals_l S kb
  obtain ⟨va', wa'⟩ := vals_l S ka'
  obtain ⟨vb', wb'⟩ := vals_l S kb'
  have h0 := some_label ca va
  have h2 := none_effect hm
  obtain ⟨o1, _, o3, _⟩ := own_lab hS h0
  obtain ⟨o5, o6⟩ := own_eff h2
  obtain ⟨s1, s2⟩ := fun_spots ca ca' hP
  obtain ⟨s3, s4⟩ := fun_spots cb cb' hQ
  have hz : grE S ([nFun] ++ a ++ a') ([nFun] ++ b ++ b') = 0 := by
    refine (grE_zero S).2 ⟨hP, hQ, ?_, ?_⟩
    · unfold So.vals
      rw [s1, s2, val_app, val_app, val_app, val_app, val_t, val_s, val_t, val_s, o3, o6, va, wa, va', wa']
      rfl
    · unfold So.vals
      rw [s3, s4, val_app, val_app, val_app, val_app, val_t, val_s, val_t, val_s, o3, o6, vb, wb, vb', wb']
      rfl
  refine ⟨hz, ?_⟩
  rw [grB_iff S hz, grB_iff S e1, grB_iff S e2, same_fun ca cb, sameB_comm b a]
  cases h : sameB a b with
  | false => rfl
  | true =>
    cases h' : sameB a' b' with
    | false => simp
    | true =>
      have al := same_alks h ca cb
      have al' := same_alks h' ca' cb'
      obtain ⟨n1, n2⟩ := labB_alks al ca cb
      obtain ⟨p1, p2⟩ := labB_side al ca cb
      unfold grH
      rw [s1, s2, s3, s4, holdB_app (by simp [n1]), holdB_app rfl, holdB_app (by simp [n2]), holdB_app rfl, hold_turned 1 1 p1 (labB_le a), hold_turned 1 1 p2 (effB_le a), hold_same, hold_same, o1, o5]
      simp only [Bool.true_and]
      cases holdB (labB b) (labB a) S.r1 <;> cases holdB (labB a') (labB b') S.r1 <;> cases holdB (effB b) (effB a) S.r2 <;> cases holdB (effB a') (effB b') S.r2 <;> rfl

theorem gr_ref {a b : List Nd} (e1 : grE S b a = 0) (hP : checkB ([nRef] ++ a) = 0) (hQ : checkB ([nRef] ++ b) = 0) :
    grE S ([nRef] ++ a) ([nRef] ++ b) = 0 ∧ grB S ([nRef] ++ a) ([nRef] ++ b) = (grB S b a && grB S a b) := by
  obtain ⟨cb, ca, kb, ka⟩ := (grE_zero S).1 e1
  obtain ⟨va, wa⟩ := vals_l S ka
  obtain ⟨vb, wb⟩ := vals_l S kb
  have h0 := some_label ca va
  obtain ⟨_, o2, _, o4⟩ := own_lab hS h0
  obtain ⟨s1, s2⟩ := ref_spots ca hP
  obtain ⟨s3, s4⟩ := ref_spots cb hQ
  have o5 : holdB (effS 0 nRef 0) (effS 0 nRef 0) S.r2 = true := rfl
  have o6 : valB S.h2 (effS 0 nRef 0) = true := rfl
  have hz : grE S ([nRef] ++ a) ([nRef] ++ b) = 0 := by
    refine (grE_zero S).2 ⟨hP, hQ, ?_, ?_⟩
    · unfold So.vals
      rw [s1, s2, val_app, val_app, val_2, val_2, o4, o6, va, wa]
      rfl
    · unfold So.vals
      rw [s3, s4, val_app, val_app, val_2, val_2, o4, o6, vb, wb]
      rfl
  refine ⟨hz, ?_⟩
  rw [grB_iff S hz, grB_iff S e1, grB_iff S ((grE_comm S a b).trans e1), sameB_comm b a]
  show (sameB (nRef :: a) (nRef :: b) && _) = _
  rw [same_cons]
  cases h : sameB a b with
  | false => rfl
  | true =>
    have al := same_alks h ca cb
    obtain ⟨p1, p2⟩ := labB_side al ca cb
    unfold grH
    rw [s1, s2, s3, s4, holdB_app rfl, holdB_app rfl, hold_both 1 1 p1 (fun x => r1_refl hS) (fun x y => r1_anti hS) va vb, hold_both 1 1 p2 (fun x => r2_refl) (fun x y _ _ => r2_anti) wa wb, o2, o5]
    simp only [Bool.true_and]
    cases holdB (labB b) (labB a) S.r1 <;> cases holdB (labB a) (labB b) S.r1 <;> cases holdB (effB b) (effB a) S.r2 <;> cases holdB (effB a) (effB b) S.r2 <;> rfl
end
end Go.Proofs.Ytlcbcggcmmlfdaa
