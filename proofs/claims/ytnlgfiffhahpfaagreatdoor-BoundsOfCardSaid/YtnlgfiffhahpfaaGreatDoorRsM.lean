/- Which terms lead to which ones, and what the document's Solve is then: the least values, and the greatest ones. No condition. -/
import Derived.Test.YtnlgfiffhahpfaaGreatDoorUniq
namespace Go.Proofs.YtnlgfiffhahpfaaGreatDoor
open Go.RowKit

/-- A term: is it a variable; its number. -/
abbrev Tm := Bool × Nat
def Bd.a (b : Bd) : Tm := (b.av, b.an)
def Bd.b (b : Bd) : Tm := (b.bv, b.bn)

/-- A term leads to another one. -/
inductive Reach (l : List Bd) (t : Tm) : Tm → Prop
  | refl : Reach l t t
  | step (b : Bd) : b ∈ l → Reach l t b.a → Reach l t b.b
theorem Reach.head {l : List Bd} {b : Bd} (hb : b ∈ l) {z : Tm} (h : Reach l b.b z) : Reach l b.a z := by
  induction h with
  | refl => exact .step b hb .refl
  | step c hc _ ih => exact .step c hc ih

theorem nodup_len {α : Type} [DecidableEq α] : ∀ (l m : List α), l.Nodup → (∀ x ∈ l, x ∈ m) → l.length ≤ m.length
  | [], _, _, _ => Nat.zero_le _
  | x :: l, m, h, hm => by
    have h2 := List.nodup_cons.1 h
    have hx := hm x (List.mem_cons_self ..)
    have ih := nodup_len l (m.erase x) h2.2 fun y hy => (List.mem_erase_of_ne (fun e => h2.1 (by rw [← e]; exact hy))).2 (hm y (List.mem_cons_of_mem _ hy))
    rw [List.length_erase_of_mem hx] at ih
    have := List.length_pos_of_mem hx
    simp only [List.length_cons]
    omega

/-- On the way to all that a term leads to: a places are done, and i bounds of the next one. -/
structure FromTo (l : List Bd) (t : Tm) (a i : Nat) (out : List Tm) : Prop where
  zero : t ∈ out
  nodup : out.Nodup
  sub : ∀ x ∈ out, Reach l t x
  inl : ∀ x ∈ out, x ∈ t :: l.map Bd.b
  done : ∀ j (h : j < out.length), j < a → ∀ b ∈ l, b.a = out[j] → b.b ∈ out
  now : ∀ (h : a < out.length) k (hk : k < l.length), k < i → l[k].a = out[a] → l[k].b ∈ out
theorem FromTo.start (l : List Bd) (t : Tm) : FromTo l t 0 0 [t] :=
  ⟨by simp, by simp, fun x hx => by rw [List.mem_singleton.1 hx]; exact .refl, fun x hx => by rw [List.mem_singleton.1 hx]; simp, fun _ _ h => absurd h (Nat.not_lt_zero _), fun _ _ _ h => absurd h (Nat.not_lt_zero _)⟩
theorem FromTo.len {l : List Bd} {t : Tm} {a i : Nat} {out : List Tm} (h : FromTo l t a i out) : out.length ≤ l.length + 1 := by
  have := nodup_len out _ h.nodup h.inl
  simpa using this
theorem FromTo.next {l : List Bd} {t : Tm} {a i : Nat} {out : List Tm} (h : FromTo l t a i out) (ha : a < out.length) (hi : i = l.length) : FromTo l t (a + 1) 0 out :=
  ⟨h.zero, h.nodup, h.sub, h.inl, fun j hj hlt b hb e => by
    by_cases hja : j = a
    · subst hja
      obtain ⟨k, hk, rfl⟩ := List.mem_iff_getElem.1 hb
      exact h.now hj k hk (by omega) e
    · exact h.done j hj (by omega) b hb e, fun _ _ _ h => absurd h (Nat.not_lt_zero _)⟩
theorem FromTo.skip {l : List Bd} {t : Tm} {a i : Nat} {out : List Tm} (h : FromTo l t a i out) (ha : a < out.length) (hi : i < l.length) (hs : l[i].a = out[a] → l[i].b ∈ out) : FromTo l t a (i + 1) out :=
  ⟨h.zero, h.nodup, h.sub, h.inl, h.done, fun ha' k hk hlt e => by
    by_cases hki : k = i
    · subst hki
      exact hs e
    · exact h.now ha' k hk (by omega) e⟩
theorem FromTo.more {l : List Bd} {t : Tm} {a i : Nat} {out : List Tm} (h : FromTo l t a i out) (ha : a < out.length) (hi : i < l.length) (he : l[i].a = out[a]) (hn : l[i].b ∉ out) : FromTo l t a (i + 1) (out ++ [l[i].b]) := by
  have old : ∀ j (hj : j < (out ++ [l[i].b]).length) (hlt : j < out.length), (out ++ [l[i].b])[j] = out[j] := fun j hj hlt => List.getElem_append_left hlt
  refine ⟨List.mem_append_left _ h.zero, ?_, fun x hx => ?_, fun x hx => ?_, fun j hj hlt b hb e => ?_, fun ha' k hk hlt e => ?_⟩
  · rw [List.nodup_append]
    refine ⟨h.nodup, by simp, fun x hx y hy e => hn ?_⟩
    rw [← List.mem_singleton.1 hy, ← e]
    exact hx
  · rcases List.mem_append.1 hx with hx | hx
    · exact h.sub x hx
    · rw [List.mem_singleton.1 hx]
      exact .step _ (List.getElem_mem hi) (by rw [he]; exact h.sub _ (List.getElem_mem ha))
  · rcases List.mem_append.1 hx with hx | hx
    · exact h.inl x hx
    · rw [List.mem_singleton.1 hx]
      exact List.mem_cons_of_mem _ (List.mem_map.2 ⟨_, List.getElem_mem hi, rfl⟩)
  · rw [old j hj (by omega)] at e
    exact List.mem_append_left _ (h.done j (by omega) hlt b hb e)
  · rw [old a ha' ha] at e
    by_cases hki : k = i
    · subst hki
      simp
    · exact List.mem_append_left _ (h.now ha k hk (by omega) e)

/-- All that a term leads to. -/
structure IsFrom (l : List Bd) (t : Tm) (out : List Tm) : Prop where
  len : out.length ≤ l.length + 1
  mem : ∀ x, x ∈ out ↔ Reach l t x
theorem FromTo.end {l : List Bd} {t : Tm} {out : List Tm} (h : FromTo l t out.length 0 out) : IsFrom l t out :=
  ⟨h.len, fun x => ⟨h.sub x, fun hr => by
    induction hr with
    | refl => exact h.zero
    | step b hb _ ih =>
      obtain ⟨j, hj, e⟩ := List.mem_iff_getElem.1 ih
      exact h.done j hj hj b hb e.symm⟩⟩

/-- The constants of the first i bounds, each once. -/
structure Consts (l : List Bd) (i : Nat) (out : List Tm) : Prop where
  nodup : out.Nodup
  mem : ∀ x, x ∈ out ↔ x.1 = false ∧ ∃ b ∈ l.take i, b.a = x ∨ b.b = x
theorem Consts.start (l : List Bd) : Consts l 0 [] := ⟨List.nodup_nil, fun x => by simp⟩
theorem Consts.len {l : List Bd} {i : Nat} {out : List Tm} (h : Consts l i out) : out.length ≤ 2 * l.length := by
  have := nodup_len out (l.map Bd.a ++ l.map Bd.b) h.nodup fun x hx => by
    obtain ⟨-, b, hb, e⟩ := (h.mem x).1 hx
    have hb := List.mem_of_mem_take hb
    rcases e with e | e
    · exact List.mem_append_left _ (List.mem_map.2 ⟨b, hb, e⟩)
    · exact List.mem_append_right _ (List.mem_map.2 ⟨b, hb, e⟩)
  simp at this
  omega
/-- One term more, if it is a constant that is not there. -/
def addC (out : List Tm) (t : Tm) : List Tm := if t.1 = false ∧ t ∉ out then out ++ [t] else out
theorem addC_nodup {out : List Tm} {t : Tm} (h : out.Nodup) : (addC out t).Nodup := by
  unfold addC
  split
  · rename_i hc
    rw [List.nodup_append]
    refine ⟨h, by simp, fun x hx y hy e => hc.2 ?_⟩
    rw [← List.mem_singleton.1 hy, ← e]
    exact hx
  · exact h
theorem addC_mem {out : List Tm} {t x : Tm} : x ∈ addC out t ↔ x ∈ out ∨ (x = t ∧ t.1 = false) := by
  unfold addC
  split
  · rename_i hc
    rw [List.mem_append, List.mem_singleton]
    exact ⟨fun h => h.imp id fun e => ⟨e, hc.1⟩, fun h => h.imp id And.left⟩
  · rename_i hc
    refine ⟨.inl, fun h => h.elim id fun ⟨e, h1⟩ => ?_⟩
    rw [e]
    exact Classical.byContradiction fun hn => hc ⟨h1, hn⟩
theorem Consts.next {l : List Bd} {i : Nat} {out : List Tm} (h : Consts l i out) (hi : i < l.length) : Consts l (i + 1) (addC (addC out l[i].a) l[i].b) := by
  refine ⟨addC_nodup (addC_nodup h.nodup), fun x => ?_⟩
  rw [addC_mem, addC_mem, h.mem, List.take_succ_eq_append_getElem hi]
  constructor
  · rintro ((⟨h1, b, hb, e⟩ | ⟨rfl, h1⟩) | ⟨rfl, h1⟩)
    · exact ⟨h1, b, List.mem_append_left _ hb, e⟩
    · exact ⟨h1, l[i], List.mem_append_right _ (List.mem_singleton.2 rfl), .inl rfl⟩
    · exact ⟨h1, l[i], List.mem_append_right _ (List.mem_singleton.2 rfl), .inr rfl⟩
  · rintro ⟨h1, b, hb, e⟩
    rcases List.mem_append.1 hb with hb | hb
    · exact .inl (.inl ⟨h1, b, hb, e⟩)
    · rw [List.mem_singleton.1 hb] at e
      rcases e with rfl | rfl
      · exact .inl (.inr ⟨rfl, h1⟩)
      · exact .inr ⟨rfl, h1⟩

/-- Joins of what P tells, place by place; what Q tells is below. -/
structure Lw (S : Sr) (q : Nat) (P Q : Nat → Nat → Prop) (v : List Nat) : Prop where
  has : AllHas S q v
  bot : ∀ x, x < q → S.below S.bot (v.getD x 0) = true
  up : ∀ c x, x < q → P c x → S.below c (v.getD x 0) = true
  lub : ∀ x, x < q → ∀ y, S.below S.bot y = true → (∀ c, P c x → S.below c y = true) → S.below (v.getD x 0) y = true
  dn : ∀ c d, Q c d → S.below c d = true
theorem Lw.congr {S : Sr} {q : Nat} {P Q P' Q' : Nat → Nat → Prop} {v : List Nat} (h : Lw S q P Q v) (hp : ∀ c x, P' c x ↔ P c x) (hq : ∀ c x, Q' c x → Q c x) : Lw S q P' Q' v :=
  ⟨h.has, h.bot, fun c x hx k => h.up c x hx ((hp c x).1 k), fun x hx y hy k => h.lub x hx y hy fun c kc => k c ((hp c x).2 kc), fun c d k => h.dn c d (hq c d k)⟩
theorem Lw.start {S : Sr} (hS : S.Ok) {q : Nat} (hb : 0 < q → S.has S.bot = true) : Lw S q (fun _ _ => False) (fun _ _ => False) (List.replicate q S.bot) := by
  refine ⟨⟨by simp, fun i hi => ?_⟩, fun x hx => ?_, fun _ _ _ h => h.elim, fun x hx y hy _ => ?_, fun _ _ h => h.elim⟩
  · rw [getD_rep hi]
    exact hb (by omega)
  · rw [getD_rep hx]
    exact hS.refl _ (hb (by omega))
  · rw [getD_rep hx]
    exact hy
theorem Lw.var {S : Sr} (hS : S.Ok) {q : Nat} {P Q : Nat → Nat → Prop} {v : List Nat} (h : Lw S q P Q v) {c x : Nat} (hx : x < q) (hc : S.has c = true) : Lw S q (fun d y => P d y ∨ (d = c ∧ y = x)) Q (v.set x (S.join (v.getD x 0) c)) := by
  have hl : x < v.length := by rw [h.has.1]; exact hx
  have hv := h.has.2 x hx
  have hj1 := hS.joinA _ _ hv hc
  have hj2 := hS.joinB _ _ hv hc
  refine ⟨⟨by rw [List.length_set]; exact h.has.1, fun i hi => ?_⟩, fun i hi => ?_, fun d i hi k => ?_, fun i hi y hy k => ?_, h.dn⟩
  · rw [getD_set hl]
    split
    · exact (hS.sub _ _ hj1).2
    · exact h.has.2 i hi
  · rw [getD_set hl]
    split
    · exact hS.trans _ _ _ (h.bot x hx) hj1
    · exact h.bot i hi
  · rw [getD_set hl]
    split
    · rename_i e
      subst e
      rcases k with k | ⟨rfl, -⟩
      · exact hS.trans _ _ _ (h.up d x hx k) hj1
      · exact hj2
    · rename_i e
      rcases k with k | ⟨-, k⟩
      · exact h.up d i hi k
      · exact absurd k.symm e
  · rw [getD_set hl]
    split
    · rename_i e
      subst e
      exact hS.joinL _ _ _ (h.lub x hx y hy fun d kd => k d (.inl kd)) (k c (.inr ⟨rfl, rfl⟩))
    · exact h.lub i hi y hy fun d kd => k d (.inl kd)
theorem Lw.con {S : Sr} {q : Nat} {P Q : Nat → Nat → Prop} {v : List Nat} (h : Lw S q P Q v) {c d : Nat} (hc : S.below c d = true) : Lw S q P (fun a b => Q a b ∨ (a = c ∧ b = d)) v :=
  ⟨h.has, h.bot, h.up, h.lub, fun a b k => k.elim (h.dn a b) fun ⟨e1, e2⟩ => by rw [e1, e2]; exact hc⟩

/-! ### What is sought -/
def IsC (l : List Bd) (c : Nat) : Prop := ∃ b ∈ l, b.a = (false, c) ∨ b.b = (false, c)
theorem isC_has {S : Sr} {q : Nat} {l : List Bd} (hm : ∀ b ∈ l, mayB S q b = true) {c : Nat} (h : IsC l c) : S.has c = true := by
  obtain ⟨b, hb, e⟩ := h
  obtain ⟨h1, h2⟩ := Bool.and_eq_true_iff.1 (hm b hb)
  rcases e with e | e
  · injection e with e1 e2
    unfold mayT at h1
    rw [e1, e2] at h1
    exact h1
  · injection e with e1 e2
    unfold mayT at h2
    rw [e1, e2] at h2
    exact h2
theorem var_lt {S : Sr} {q : Nat} {l : List Bd} (hm : ∀ b ∈ l, mayB S q b = true) {t : Tm} (ht : t.1 = true → t.2 < q) {x : Nat} (h : Reach l t (true, x)) : x < q := by
  generalize hz : (true, x) = z at h
  cases h with
  | refl => rw [← hz] at ht; exact ht rfl
  | step b hb _ =>
    obtain ⟨_, h2⟩ := Bool.and_eq_true_iff.1 (hm b hb)
    injection hz with e1 e2
    unfold mayT at h2
    rw [← e1, ← e2] at h2
    exact of_decide_eq_true h2
theorem reach_con {S : Sr} {q : Nat} {l : List Bd} (hm : ∀ b ∈ l, mayB S q b = true) {t : Tm} (ht : t.1 = false → S.has t.2 = true) {d : Nat} (h : Reach l t (false, d)) : S.has d = true := by
  generalize hz : (false, d) = z at h
  cases h with
  | refl => rw [← hz] at ht; exact ht rfl
  | step b hb _ => exact isC_has hm ⟨b, hb, .inr hz.symm⟩

/-- Along a way whose bounds hold. -/
theorem way {S : Sr} (hS : S.Ok) {u : List Nat} {l : List Bd} (hh : holdS S u l = true) {t z : Tm} (h : Reach l t z) (ht : S.below (vl u t.1 t.2) (vl u t.1 t.2) = true) : S.below (vl u t.1 t.2) (vl u z.1 z.2) = true := by
  induction h with
  | refl => exact ht
  | step b hb _ ih => exact hS.trans _ _ _ ih (Bool.and_eq_true_iff.1 (List.all_eq_true.1 hh b hb)).2

theorem unsat_con {S : Sr} (hS : S.Ok) {l : List Bd} {c d : Nat} (hc : S.has c = true) (h : Reach l (false, c) (false, d)) (hn : S.below c d = false) (u : List Nat) : holdS S u l = false := by
  cases hh : holdS S u l with
  | false => rfl
  | true =>
    have := way hS hh h (hS.refl _ hc)
    rw [show S.below (vl u false c) (vl u false d) = S.below c d from rfl, hn] at this
    cases this
theorem unsat_bot {S : Sr} (hS : S.Ok) {q : Nat} (hq : 0 < q) (hb : S.has S.bot = false) {l : List Bd} (u : List Nat) (hu : AllHas S q u) : holdS S u l = false := by
  have := (hS.sub _ _ (hS.botl _ (hu.2 0 hq))).1
  rw [hb] at this
  cases this

theorem low_is {S : Sr} (hS : S.Ok) {q : Nat} {l : List Bd} (hm : ∀ b ∈ l, mayB S q b = true) {v : List Nat}
    (h : Lw S q (fun c x => IsC l c ∧ Reach l (false, c) (true, x)) (fun c d => IsC l c ∧ Reach l (false, c) (false, d)) v) : IsLow S q l v ∧ holdS S v l = true := by
  have led : ∀ b ∈ l, S.below (vl v b.av b.an) (vl v b.bv b.bn) = true := fun b hb => by
    obtain ⟨h1, h2⟩ := Bool.and_eq_true_iff.1 (hm b hb)
    cases hav : b.av with
    | false =>
      have ha : b.a = (false, b.an) := by unfold Bd.a; rw [hav]
      have hc : IsC l b.an := ⟨b, hb, .inl ha⟩
      have hr : Reach l (false, b.an) b.b := .step b hb (by rw [ha]; exact .refl)
      cases hbv : b.bv with
      | false => exact h.dn _ _ ⟨hc, by unfold Bd.b at hr; rw [hbv] at hr; exact hr⟩
      | true =>
        unfold Bd.b at hr
        rw [hbv] at hr h2
        exact h.up _ _ (of_decide_eq_true h2) ⟨hc, hr⟩
    | true =>
      rw [hav] at h1
      have ha : b.a = (true, b.an) := by unfold Bd.a; rw [hav]
      have hr : ∀ c, Reach l (false, c) (true, b.an) → Reach l (false, c) b.b := fun c k => .step b hb (by rw [ha]; exact k)
      cases hbv : b.bv with
      | false =>
        rw [hbv] at h2
        have hb' : b.b = (false, b.bn) := by unfold Bd.b; rw [hbv]
        exact h.lub _ (of_decide_eq_true h1) b.bn (hS.botl _ h2) fun c k => h.dn c b.bn ⟨k.1, by rw [← hb']; exact hr c k.2⟩
      | true =>
        rw [hbv] at h2
        have hb' : b.b = (true, b.bn) := by unfold Bd.b; rw [hbv]
        exact h.lub _ (of_decide_eq_true h1) _ (h.bot _ (of_decide_eq_true h2)) fun c k => h.up _ _ (of_decide_eq_true h2) ⟨k.1, by rw [← hb']; exact hr c k.2⟩
  refine ⟨⟨⟨h.has, fun u hu hl i hi => ?_⟩, fun b hb hv => by
    have := led b hb
    rw [hv] at this
    exact this⟩, List.all_eq_true.2 fun b hb => by
    obtain ⟨o1, o2⟩ := may_ok (hm b hb) h.has.1
    unfold okB
    rw [o1, o2, led b hb]
    rfl⟩
  refine h.lub i hi _ (hS.botl _ (hu.2 i hi)) fun c k => ?_
  have key : ∀ z, Reach l (false, c) z → S.below c (vl u z.1 z.2) = true := fun z hz => by
    induction hz with
    | refl => exact hS.refl _ (isC_has hm k.1)
    | step b hb hr ih =>
      cases hbv : b.bv with
      | false =>
        show S.below c (vl u b.bv b.bn) = true
        rw [hbv]
        exact h.dn c b.bn ⟨k.1, by have := Reach.step b hb hr; unfold Bd.b at this; rw [hbv] at this; exact this⟩
      | true =>
        have := hS.trans _ _ _ ih (hl b hb hbv)
        show S.below c (vl u b.bv b.bn) = true
        rw [hbv]
        exact this
  exact key _ k.2

theorem high_is {S : Sr} (hS : S.Ok) {q : Nat} {l : List Bd} (hm : ∀ b ∈ l, mayB S q b = true) {v : List Nat} (hdn : ∀ c d, IsC l c → Reach l (false, c) (false, d) → S.below c d = true)
    (h : Lw S.turn q (fun d x => Reach l (true, x) (false, d)) (fun _ _ => False) v) : IsLow S.turn q (l.map Bd.turn) v := by
  refine ⟨⟨h.has, fun u hu hl i hi => ?_⟩, fun b' hb' hv => ?_⟩
  · refine h.lub i hi _ (hS.topl _ (hu.2 i hi)) fun d k => ?_
    have rev : ∀ s, Reach l (true, i) s → Reach l s (false, d) → (s.1 = true → S.below (u.getD s.2 0) d = true) → S.below (u.getD i 0) d = true := by
      intro s hs
      induction hs with
      | refl => exact fun _ k => k rfl
      | step b hb _ ih =>
        intro hr hk
        refine ih (Reach.head hb hr) fun ha => ?_
        have hl2 : S.below (u.getD b.an 0) (vl u b.bv b.bn) = true := hl b.turn (List.mem_map.2 ⟨b, hb, rfl⟩) ha
        cases hbv : b.bv with
        | true =>
          rw [hbv] at hl2
          exact hS.trans _ _ _ hl2 (hk hbv)
        | false =>
          rw [hbv] at hl2
          have hb2 : b.b = (false, b.bn) := by unfold Bd.b; rw [hbv]
          rw [hb2] at hr
          exact hS.trans _ _ _ hl2 (hdn _ _ ⟨b, hb, .inr hb2⟩ hr)
    exact rev _ k .refl fun h => by cases h
  · obtain ⟨b, hb, rfl⟩ := List.mem_map.1 hb'
    have hv : b.av = true := hv
    obtain ⟨h1, h2⟩ := Bool.and_eq_true_iff.1 (hm b hb)
    rw [hv] at h1
    have hr : ∀ d, Reach l b.b (false, d) → Reach l (true, b.an) (false, d) := fun d k => by
      have := Reach.head hb k
      unfold Bd.a at this
      rw [hv] at this
      exact this
    show S.below (v.getD b.an 0) (vl v b.bv b.bn) = true
    cases hbv : b.bv with
    | false => exact h.up _ _ (of_decide_eq_true h1) (hr _ (by unfold Bd.b; rw [hbv]; exact .refl))
    | true =>
      rw [hbv] at h2
      exact h.lub _ (of_decide_eq_true h2) _ (h.bot _ (of_decide_eq_true h1)) fun d k => h.up _ _ (of_decide_eq_true h1) (hr _ (by unfold Bd.b; rw [hbv]; exact k))

theorem solve_ok {S : Sr} (hS : S.Ok) {q : Nat} {l : List Bd} (hc : chkS S (q : Int) l = 0) {lo hi : List Nat} (h1 : Lw S q (fun c x => IsC l c ∧ Reach l (false, c) (true, x)) (fun c d => IsC l c ∧ Reach l (false, c) (false, d)) lo)
    (h2 : Lw S.turn q (fun d x => Reach l (true, x) (false, d)) (fun _ _ => False) hi) : SolveIs S (q : Int) l 0 lo hi := by
  obtain ⟨q2, e, -, -, hm⟩ := chk_ok hc
  obtain rfl : q2 = q := by omega
  obtain ⟨k1, k2⟩ := low_is hS hm h1
  exact .inr (.inr ⟨q2, rfl, hc, rfl, k1, high_is hS hm (fun c d k r => h1.dn c d ⟨k, r⟩) h2, k2⟩)
end Go.Proofs.YtnlgfiffhahpfaaGreatDoor
