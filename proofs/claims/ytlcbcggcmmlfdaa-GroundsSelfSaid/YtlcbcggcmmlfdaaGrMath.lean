/- One type below another one: what follows. No condition. -/
import Derived.Test.YtlcbcggcmmlfdaaSorts
import Derived.Test.YtlcbcggcmmlfdaaSpBelow
namespace Go.Proofs.Ytlcbcggcmmlfdaa

theorem holdB_iff {ls ms : List Sp} {R : Nat → Nat → Bool} : holdB ls ms R = true ↔ ∀ k (h : k < ls.length) (h' : k < ms.length), mustB ls[k].s R ls[k].z.toNat ms[k].z.toNat = true := by
  unfold holdB
  rw [List.all_eq_true]
  constructor
  · intro h k h1 h2
    have hz : k < (ls.zip ms).length := by rw [List.length_zip]; omega
    have := h _ (List.getElem_mem hz)
    rw [List.getElem_zip] at this
    exact this
  · intro h x hx
    obtain ⟨k, hk, e⟩ := List.mem_iff_getElem.1 hx
    rw [List.length_zip] at hk
    rw [List.getElem_zip] at e
    subst e
    exact h k (by omega) (by omega)

section
variable {R : Nat → Nat → Bool}
theorem must_refl {s a : Nat} (h : R a a = true) : mustB s R a a = true := by
  unfold mustB
  split
  · exact h
  split
  · exact h
  · simp
theorem must_trans {s a b c : Nat} (h1 : R a b = true → R b c = true → R a c = true) (h2 : R c b = true → R b a = true → R c a = true) (k1 : mustB s R a b = true) (k2 : mustB s R b c = true) : mustB s R a c = true := by
  unfold mustB at *
  by_cases h0 : s = 0
  · rw [if_pos h0] at *
    exact h1 k1 k2
  by_cases h3 : s = 1
  · rw [if_neg h0, if_pos h3] at *
    exact h2 k2 k1
  · rw [if_neg h0, if_neg h3] at *
    simp only [decide_eq_true_eq] at *
    omega
theorem must_anti {s a b : Nat} (h : R a b = true → R b a = true → a = b) (k1 : mustB s R a b = true) (k2 : mustB s R b a = true) : a = b := by
  unfold mustB at *
  by_cases h0 : s = 0
  · rw [if_pos h0] at *
    exact h k1 k2
  by_cases h3 : s = 1
  · rw [if_neg h0, if_pos h3] at *
    exact h k2 k1
  · rw [if_neg h0, if_neg h3] at *
    simp only [decide_eq_true_eq] at *
    exact k1
end

theorem valB_at {H : Nat → Bool} {l : List Sp} (h : valB H l = true) (k : Nat) (hk : k < l.length) : l[k].v = false ∧ H l[k].z.toNat = true := by
  have := List.all_eq_true.1 h _ (List.getElem_mem hk)
  unfold okS at this
  rw [Bool.and_eq_true, Bool.not_eq_true'] at this
  exact this

/-! ### Errors -/
section
variable (S : So)
theorem grE_zero {a b : List Nd} : grE S a b = 0 ↔ checkB a = 0 ∧ checkB b = 0 ∧ S.vals a = true ∧ S.vals b = true := by
  unfold grE
  by_cases h : checkB a = 0 ∧ checkB b = 0
  · rw [if_pos h]
    by_cases k : (S.vals a && S.vals b) = true
    · rw [if_pos k]
      rw [Bool.and_eq_true] at k
      exact Iff.intro (fun _ => ⟨h.1, h.2, k.1, k.2⟩) (fun _ => rfl)
    · rw [if_neg k]
      rw [Bool.and_eq_true] at k
      exact Iff.intro (fun h => absurd h (by decide)) (fun h => absurd ⟨h.2.2.1, h.2.2.2⟩ k)
  · rw [if_neg h]
    exact Iff.intro (fun h => absurd h (by decide)) (fun k => absurd ⟨k.1, k.2.1⟩ h)
theorem grE_comm (a b : List Nd) : grE S a b = grE S b a := by
  unfold grE
  rw [Bool.and_comm (S.vals b)]
  by_cases h : checkB a = 0 ∧ checkB b = 0
  · rw [if_pos h, if_pos (show checkB b = 0 ∧ checkB a = 0 from ⟨h.2, h.1⟩)]
  · rw [if_neg h, if_neg (show ¬ (checkB b = 0 ∧ checkB a = 0) from fun k => h ⟨k.2, k.1⟩)]
theorem grB_zero {a b : List Nd} (h : grE S a b ≠ 0) : grB S a b = false := by
  unfold grB
  rw [decide_eq_false h, Bool.false_and]
theorem grB_iff {a b : List Nd} (h : grE S a b = 0) : grB S a b = (sameB a b && grH S a b) := by
  unfold grB
  rw [decide_eq_true h, Bool.true_and]
theorem vals_l {a : List Nd} (h : S.vals a = true) : valB S.h1 (labB a) = true ∧ valB S.h2 (effB a) = true := by
  unfold So.vals at h
  rwa [Bool.and_eq_true] at h
end

theorem sameB_refl (a : List Nd) : sameB a a = true := (same_iff a a).2 ⟨rfl, fun j _ _ => by simp [alikeB]⟩
theorem sameB_symm {a b : List Nd} (h : sameB a b = true) : sameB b a = true := by
  obtain ⟨h1, h2⟩ := (same_iff a b).1 h
  refine (same_iff b a).2 ⟨h1.symm, fun j k1 k2 => ?_⟩
  have := h2 j k2 k1
  unfold alikeB at *
  simp only [Bool.and_eq_true, decide_eq_true_eq] at *
  exact ⟨this.1.symm, this.2.1.symm, this.2.2.1.symm, this.2.2.2.symm⟩
theorem sameB_comm (a b : List Nd) : sameB a b = sameB b a := by
  cases h : sameB a b with
  | true => exact (sameB_symm h).symm
  | false =>
    cases k : sameB b a with
    | true => rw [sameB_symm k] at h; cases h
    | false => rfl

/-! ### Itself -/
theorem gr_self {S : So} (hS : S.Ok) {a : List Nd} (h : grE S a a = 0) : grB S a a = true := by
  obtain ⟨h1, _, h2, _⟩ := (grE_zero S).1 h
  obtain ⟨v1, v2⟩ := vals_l S h2
  rw [grB_iff S h, sameB_refl, Bool.true_and]
  unfold grH
  rw [Bool.and_eq_true]
  refine ⟨holdB_iff.2 fun k hk _ => must_refl (r1_refl hS (valB_at v1 k hk).2), holdB_iff.2 fun k hk _ => must_refl (r2_refl (valB_at v2 k hk).2)⟩
theorem gr_self_no {S : So} {a b : List Nd} (h : grE S a a ≠ 0) : grE S a b ≠ 0 := fun k => by
  obtain ⟨h1, _, h2, _⟩ := (grE_zero S).1 k
  exact h ((grE_zero S).2 ⟨h1, h1, h2, h2⟩)

/-! ### Spots of bodies that are the same but for their terms -/
theorem labS_side {x y : Nd} (h : Alk x y) (k s : Nat) : (labS k x s).map Sp.s = (labS k y s).map Sp.s := by
  unfold labS
  rw [h.k]
  split <;> rfl
theorem effS_side {x y : Nd} (h : Alk x y) (k s : Nat) : (effS k x s).map Sp.s = (effS k y s).map Sp.s := by
  unfold effS
  rw [h.k]
  split <;> rfl
theorem lab_side : ∀ {a b : List Nd}, Alks a b → ∀ k ss, (lab k a ss).map Sp.s = (lab k b ss).map Sp.s
  | _, _, .nil, _, _ => rfl
  | _, _, .cons _ _, _, [] => rfl
  | _, _, .cons h t, k, s :: ss => by
    simp only [lab, List.map_append]
    rw [labS_side h, lab_side t]
theorem eff_side : ∀ {a b : List Nd}, Alks a b → ∀ k ss, (eff k a ss).map Sp.s = (eff k b ss).map Sp.s
  | _, _, .nil, _, _ => rfl
  | _, _, .cons _ _, _, [] => rfl
  | _, _, .cons h t, k, s :: ss => by
    simp only [eff, List.map_append]
    rw [effS_side h, eff_side t]
theorem labB_side {a b : List Nd} (h : Alks a b) (ha : checkB a = 0) (hb : checkB b = 0) : (labB a).map Sp.s = (labB b).map Sp.s ∧ (effB a).map Sp.s = (effB b).map Sp.s := by
  unfold labB effB
  rw [if_pos ha, if_pos hb, if_pos ha, if_pos hb, h.sds]
  exact ⟨lab_side h _ _, eff_side h _ _⟩
theorem side_at_k {l m : List Sp} (h : l.map Sp.s = m.map Sp.s) {k : Nat} (h1 : k < l.length) (h2 : k < m.length) : l[k].s = m[k].s := by
  have e1 : (l.map Sp.s)[k]? = some l[k].s := by rw [List.getElem?_map, List.getElem?_eq_getElem h1, Option.map_some]
  have e2 : (m.map Sp.s)[k]? = some m[k].s := by rw [List.getElem?_map, List.getElem?_eq_getElem h2, Option.map_some]
  rw [h, e2] at e1
  injection e1 with e1
  exact e1.symm

theorem hold_trans {R : Nat → Nat → Bool} {H : Nat → Bool} {la lb lc : List Sp} (hR : ∀ x y z, H x = true → H y = true → H z = true → R x y = true → R y z = true → R x z = true)
    (e1 : la.map Sp.s = lb.map Sp.s) (e2 : lb.map Sp.s = lc.map Sp.s) (va : valB H la = true) (vb : valB H lb = true) (vc : valB H lc = true) (h1 : holdB la lb R = true) (h2 : holdB lb lc R = true) : holdB la lc R = true := by
  have n1 : la.length = lb.length := by have := congrArg List.length e1; simpa using this
  have n2 : lb.length = lc.length := by have := congrArg List.length e2; simpa using this
  refine holdB_iff.2 fun k h k' => ?_
  have hb : k < lb.length := by omega
  have g1 := holdB_iff.1 h1 k h hb
  have g2 := holdB_iff.1 h2 k hb k'
  rw [← side_at_k e1 h hb] at g2
  exact must_trans (hR _ _ _ (valB_at va k h).2 (valB_at vb k hb).2 (valB_at vc k k').2) (hR _ _ _ (valB_at vc k k').2 (valB_at vb k hb).2 (valB_at va k h).2) g1 g2
theorem hold_anti {R : Nat → Nat → Bool} {H : Nat → Bool} {la lb : List Sp} (hR : ∀ x y, H x = true → H y = true → R x y = true → R y x = true → x = y)
    (e1 : la.map Sp.s = lb.map Sp.s) (va : valB H la = true) (vb : valB H lb = true) (ua : ∀ p ∈ la, U64 p.z) (ub : ∀ p ∈ lb, U64 p.z) (h1 : holdB la lb R = true) (h2 : holdB lb la R = true) : la.map Sp.t = lb.map Sp.t := by
  have n1 : la.length = lb.length := by have := congrArg List.length e1; simpa using this
  refine List.ext_getElem (by simpa using n1) fun k h k' => ?_
  rw [List.length_map] at h k'
  have g1 := holdB_iff.1 h1 k h k'
  have g2 := holdB_iff.1 h2 k k' h
  rw [← side_at_k e1 h k'] at g2
  have := must_anti (hR _ _ (valB_at va k h).2 (valB_at vb k k').2) g1 g2
  have w1 := (ua _ (List.getElem_mem h)).lo
  have w2 := (ub _ (List.getElem_mem k')).lo
  rw [List.getElem_map, List.getElem_map]
  unfold Sp.t
  rw [(valB_at va k h).1, (valB_at vb k k').1]
  congr 1
  omega

theorem gr_trans {S : So} (hS : S.Ok) {a b c : List Nd} (e1 : grE S a b = 0) (e2 : grE S b c = 0) (h1 : grB S a b = true) (h2 : grB S b c = true) : grB S a c = true := by
  obtain ⟨ca, cb, ka, kb⟩ := (grE_zero S).1 e1
  obtain ⟨_, cc, _, kc⟩ := (grE_zero S).1 e2
  rw [grB_iff S e1, Bool.and_eq_true] at h1
  rw [grB_iff S e2, Bool.and_eq_true] at h2
  rw [grB_iff S ((grE_zero S).2 ⟨ca, cc, ka, kc⟩), Bool.and_eq_true]
  obtain ⟨va, wa⟩ := vals_l S ka
  obtain ⟨vb, wb⟩ := vals_l S kb
  obtain ⟨vc, wc⟩ := vals_l S kc
  have s1 := same_alks h1.1 ca cb
  have s2 := same_alks h2.1 cb cc
  have s3 := s1.trans s2
  refine ⟨same_alk s3.len s3.get, ?_⟩
  have g1 := h1.2
  have g2 := h2.2
  unfold grH at *
  rw [Bool.and_eq_true] at *
  exact ⟨hold_trans (fun x y z => r1_trans hS) (labB_side s1 ca cb).1 (labB_side s2 cb cc).1 va vb vc g1.1 g2.1, hold_trans (fun x y z _ _ _ => r2_trans) (labB_side s1 ca cb).2 (labB_side s2 cb cc).2 wa wb wc g1.2 g2.2⟩

theorem may_still {x : Nd} (h : x.may = true) (h5 : x.k ≠ 5) : x.pv = false ∧ x.pn = 0 ∧ x.ev = false ∧ x.en = 0 := by
  have hs : x.still = true := by
    unfold Nd.may at h
    by_cases h1 : x.k = 1
    · rw [if_pos h1] at h
      simp only [Bool.and_eq_true] at h
      exact h.2
    rw [if_neg h1] at h
    by_cases h2 : x.k = 2
    · rw [if_pos h2] at h
      simp only [Bool.and_eq_true] at h
      exact h.2
    rw [if_neg h2] at h
    by_cases h3 : x.k = 3
    · rw [if_pos h3] at h
      simp only [Bool.and_eq_true] at h
      exact h.2
    rw [if_neg h3] at h
    by_cases h4 : x.k = 4
    · rw [if_pos h4] at h
      simp only [Bool.and_eq_true] at h
      exact h.2
    rw [if_neg h4, if_neg h5] at h
    cases h
  unfold Nd.still at hs
  simp only [Bool.and_eq_true, Bool.not_eq_true', decide_eq_true_eq] at hs
  exact ⟨hs.1.1, hs.1.2, hs.2.1, hs.2.2⟩

theorem terms_eq : ∀ {a b : List Nd}, Alks a b → (∀ x ∈ a, x.may = true) → (∀ x ∈ b, x.may = true) → ∀ k ss, ss.length = a.length → (lab k a ss).map Sp.t = (lab k b ss).map Sp.t → (eff k a ss).map Sp.t = (eff k b ss).map Sp.t → a = b
  | _, _, .nil, _, _, _, _, _, _, _ => rfl
  | _, _, .cons _ _, _, _, _, [], h, _, _ => by simp at h
  | _, _, .cons (x := x) (y := y) h t, ma, mb, k, s :: ss, hl, e1, e2 => by
    simp only [lab, eff, List.map_append] at e1 e2
    have hx := ma x List.mem_cons_self
    have hy := mb y List.mem_cons_self
    have n1 : ((labS k x s).map Sp.t).length = ((labS k y s).map Sp.t).length := by rw [List.length_map, List.length_map, labS_alk h]
    have n2 : ((effS k x s).map Sp.t).length = ((effS k y s).map Sp.t).length := by rw [List.length_map, List.length_map, effS_alk h]
    obtain ⟨f1, f2⟩ := List.append_inj e1 n1
    obtain ⟨g1, g2⟩ := List.append_inj e2 n2
    have ht := terms_eq t (fun z hz => ma z (List.mem_cons_of_mem _ hz)) (fun z hz => mb z (List.mem_cons_of_mem _ hz)) (k + 1) ss (by simpa using hl) f2 g2
    have hk := h.k
    have hm := h.m
    have hs := h.s
    have hn := h.n
    obtain ⟨xk, xm, xs, xn, xlv, xln, xpv, xpn, xev, xen⟩ := x
    obtain ⟨yk, ym, ys, yn, ylv, yln, ypv, ypn, yev, yen⟩ := y
    simp only at hk hm hs hn
    subst hk hm hs hn ht
    by_cases h5 : xk = 5
    · simp [labS, effS, h5, Sp.t] at f1 g1
      obtain ⟨⟨rfl, rfl⟩, rfl, rfl⟩ := f1
      obtain ⟨rfl, rfl⟩ := g1
      rfl
    · simp [labS, h5, Sp.t] at f1
      obtain ⟨rfl, rfl⟩ := f1
      obtain ⟨p1, p2, p3, p4⟩ := may_still hx h5
      obtain ⟨q1, q2, q3, q4⟩ := may_still hy h5
      simp only at p1 p2 p3 p4 q1 q2 q3 q4
      subst p1 p2 p3 p4 q1 q2 q3 q4
      rfl

theorem gr_anti {S : So} (hS : S.Ok) {a b : List Nd} (t1 : ∀ x ∈ a, x.TFits) (t2 : ∀ x ∈ b, x.TFits) (e1 : grE S a b = 0) (h1 : grB S a b = true) (h2 : grB S b a = true) : a = b := by
  obtain ⟨ca, cb, ka, kb⟩ := (grE_zero S).1 e1
  rw [grB_iff S e1, Bool.and_eq_true] at h1
  rw [grB_iff S (by rw [grE_comm]; exact e1), Bool.and_eq_true] at h2
  obtain ⟨va, wa⟩ := vals_l S ka
  obtain ⟨vb, wb⟩ := vals_l S kb
  have s1 := same_alks h1.1 ca cb
  have g1 := h1.2
  have g2 := h2.2
  unfold grH at g1 g2
  rw [Bool.and_eq_true] at g1 g2
  have k1 := hold_anti (fun x y => r1_anti hS) (labB_side s1 ca cb).1 va vb (labB_u64 t1) (labB_u64 t2) g1.1 g2.1
  have k2 := hold_anti (fun x y _ _ => r2_anti) (labB_side s1 ca cb).2 wa wb (effB_u64 t1) (effB_u64 t2) g1.2 g2.2
  unfold labB at k1
  unfold effB at k2
  rw [if_pos ca, if_pos cb, ← s1.sds] at k1 k2
  exact terms_eq s1 (body_may ca) (body_may cb) 0 _ (sides_len ca) k1 k2

end Go.Proofs.Ytlcbcggcmmlfdaa
