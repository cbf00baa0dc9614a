/- What grounds.Below tells. Condition: the nodes can be read, labels and effects lie where they are told. -/
import Derived.Test.YtlcbcggcmmlfdaaHold
import Derived.Test.YtlcbcggcmmlfdaaValued
import Derived.Test.YtlcbcggcmmlfdaaLaw2
import Derived.Test.YtlcbcggcmmlfdaaLaLatB
import Derived.Test.YtlcbcggcmmlfdaaEfAlive
namespace Go.Proofs.Ytlcbcggcmmlfdaa
open Go.RowKit

/-- Labels: how many, and their rows; effects: whether there are sets, and all of them. -/
structure So where
  n : Nat
  L : List Nat
  m : Bool
  t : Nat
def So.h1 (S : So) (a : Nat) : Bool := decide (a < S.n)
def So.r1 (S : So) (a b : Nat) : Bool := La.belowB S.L a b
def So.h2 (S : So) (a : Nat) : Bool := Ef.hasE S.m S.t a
def So.r2 (S : So) (a b : Nat) : Bool := Ef.belowE S.m S.t a b

/-- They lie there, if there are any. -/
structure SoAt (w : World) (p q : Option Addr) (S : So) : Prop where
  lat : (p = none ∧ S.n = 0 ∧ S.L = []) ∨ ∃ g us ds, p = some ⟨g, 0, none⟩ ∧ La.LatAt w g S.n us ds ∧ us.take S.n = S.L
  eff : Ef.EffP w q S.m S.t
theorem SoAt.keep {w W : World} {p q : Option Addr} {S : So} (h : SoAt w p q S) (hb : Below w.heap.size w W) : SoAt W p q S :=
  ⟨by
    rcases h.lat with h | ⟨g, us, ds, e, h, e2⟩
    · exact .inl h
    · exact .inr ⟨g, us, ds, e, h.keep hb, e2⟩, h.eff.keep hb⟩

section
variable {w : World} {p q : Option Addr} {S : So} (h : SoAt w p q S)
include h
theorem so_h1 : Tells1 w (.func (.func 21) #[.pointer p] #[]) S.h1 := ⟨21, p, .inl rfl, rfl, fun W hW x _ => by
  rcases (h.keep hW).lat with ⟨rfl, hn, _⟩ | ⟨g, us, ds, rfl, h, _⟩
  · have : S.h1 x = false := by unfold So.h1; rw [hn]; rfl
    rw [this]
    exact (La.hasL_nil x W).mono fun e w' ⟨he, hw⟩ => ⟨he, hw ▸ Below.refl _ _⟩
  · exact (La.hasL_any g S.n us ds x W h).mono fun e w' ⟨he, hw⟩ => ⟨he, hw ▸ Below.refl _ _⟩⟩
theorem so_r1 : Tells w (.func (.func 23) #[.pointer p] #[]) S.r1 := ⟨23, p, .inl rfl, rfl, fun W hW x y hx hy => by
  rcases (h.keep hW).lat with ⟨rfl, _, hL⟩ | ⟨g, us, ds, rfl, h, hL⟩
  · have : S.r1 x y = false := by unfold So.r1; rw [hL]; exact La.belowB_no (by simp)
    rw [this]
    exact (La.belowL_nil x y W).mono fun e w' ⟨he, hw⟩ => ⟨he, hw.below⟩
  · refine (La.belowL_any g S.n us ds x y W h hx hy).mono fun e w' ⟨he, hw⟩ => ⟨?_, hw.below⟩
    rw [he, hL]
    rfl⟩
theorem so_h2 : Tells1 w (.func (.func 27) #[.pointer q] #[]) S.h2 := ⟨27, q, .inr rfl, rfl, fun W hW x hx => Ef.has_any q S.m S.t W (h.keep hW).eff x hx⟩
theorem so_r2 : Tells w (.func (.func 29) #[.pointer q] #[]) S.r2 := ⟨29, q, .inr rfl, rfl, fun W hW x y hx hy => Ef.below_any q S.m S.t W (h.keep hW).eff x y hx hy⟩
end

/-- All spots of a body have values. -/
def So.vals (S : So) (l : List Nd) : Bool := valB S.h1 (labB l) && valB S.h2 (effB l)
def grE (S : So) (a b : List Nd) : Nat := if checkB a = 0 ∧ checkB b = 0 then (if S.vals a && S.vals b then 0 else 1) else 4
def grH (S : So) (a b : List Nd) : Bool := holdB (labB a) (labB b) S.r1 && holdB (effB a) (effB b) S.r2
def grB (S : So) (a b : List Nd) : Bool := decide (grE S a b = 0) && (sameB a b && grH S a b)

theorem chk_may : ∀ (l : List Nd) (st : List Nat), chk l st = 0 → ∀ x ∈ l, x.may = true
  | [], _, _ => by simp
  | _ :: _, [], h => by simp [chk] at h
  | y :: l, d :: st, h => by
    rw [chk_one] at h
    split at h
    · rename_i hm
      split at h
      · cases h
      · intro x hx
        rcases List.mem_cons.1 hx with rfl | hx
        · exact hm
        · exact chk_may l _ h x hx
    · cases h
theorem body_may {l : List Nd} (h : checkB l = 0) : ∀ x ∈ l, x.may = true := chk_may l _ (check_chk h).2.2

theorem alike_alk {x y : Nd} (h : alikeB x y = true) (hx : x.may = true) (hy : y.may = true) : Alk x y := by
  unfold alikeB at h
  simp only [Bool.and_eq_true, decide_eq_true_eq] at h
  exact ⟨h.1, h.2.1, h.2.2.1, h.2.2.2, by rw [hx, hy]⟩
theorem alks_of : ∀ {a b : List Nd}, a.length = b.length → (∀ j (h : j < a.length) (h' : j < b.length), alikeB a[j] b[j] = true) → (∀ x ∈ a, x.may = true) → (∀ x ∈ b, x.may = true) → Alks a b
  | [], [], _, _, _, _ => .nil
  | [], _ :: _, h, _, _, _ => by simp at h
  | _ :: _, [], h, _, _, _ => by simp at h
  | x :: a, y :: b, h, ha, h1, h2 => .cons (alike_alk (ha 0 (by simp) (by simp)) (h1 x List.mem_cons_self) (h2 y List.mem_cons_self))
      (alks_of (by simpa using h) (fun j h3 h4 => ha (j + 1) (by simpa using h3) (by simpa using h4)) (fun z hz => h1 z (List.mem_cons_of_mem _ hz)) (fun z hz => h2 z (List.mem_cons_of_mem _ hz)))
theorem same_alks {a b : List Nd} (h : sameB a b = true) (ha : checkB a = 0) (hb : checkB b = 0) : Alks a b := by
  obtain ⟨h1, h2⟩ := (same_iff a b).1 h
  exact alks_of h1 h2 (body_may ha) (body_may hb)

theorem labS_alk {x y : Nd} (h : Alk x y) (k s : Nat) : (labS k x s).length = (labS k y s).length := by
  unfold labS
  rw [h.k]
  split <;> rfl
theorem effS_alk {x y : Nd} (h : Alk x y) (k s : Nat) : (effS k x s).length = (effS k y s).length := by
  unfold effS
  rw [h.k]
  split <;> rfl
theorem lab_alks : ∀ {a b : List Nd}, Alks a b → ∀ k ss, (lab k a ss).length = (lab k b ss).length
  | _, _, .nil, _, _ => rfl
  | _, _, .cons _ _, _, [] => rfl
  | _, _, .cons h t, k, s :: ss => by
    simp only [lab, List.length_append]
    rw [labS_alk h, lab_alks t]
theorem eff_alks : ∀ {a b : List Nd}, Alks a b → ∀ k ss, (eff k a ss).length = (eff k b ss).length
  | _, _, .nil, _, _ => rfl
  | _, _, .cons _ _, _, [] => rfl
  | _, _, .cons h t, k, s :: ss => by
    simp only [eff, List.length_append]
    rw [effS_alk h, eff_alks t]
theorem labB_alks {a b : List Nd} (h : Alks a b) (ha : checkB a = 0) (hb : checkB b = 0) : (labB a).length = (labB b).length ∧ (effB a).length = (effB b).length := by
  unfold labB effB
  rw [if_pos ha, if_pos hb, if_pos ha, if_pos hb, h.sds]
  exact ⟨lab_alks h _ _, eff_alks h _ _⟩

theorem lab_u64 : ∀ (l : List Nd) (k : Nat) (ss : List Nat), (∀ x ∈ l, x.TFits) → ∀ p ∈ lab k l ss, U64 p.z
  | [], _, _, _, p, h => by simp [lab] at h
  | _ :: _, _, [], _, p, h => by simp [lab] at h
  | x :: l, k, s :: ss, hs, p, h => by
    have h0 := hs x List.mem_cons_self
    simp only [lab, List.mem_append] at h
    rcases h with h | h
    · unfold labS at h
      split at h
      · simp only [List.mem_cons, List.not_mem_nil, or_false] at h
        rcases h with rfl | rfl
        · exact h0.l
        · exact h0.p
      · simp only [List.mem_cons, List.not_mem_nil, or_false] at h
        subst h
        exact h0.l
    · exact lab_u64 l (k + 1) ss (fun y hy => hs y (List.mem_cons_of_mem _ hy)) p h
theorem eff_u64 : ∀ (l : List Nd) (k : Nat) (ss : List Nat), (∀ x ∈ l, x.TFits) → ∀ p ∈ eff k l ss, U64 p.z
  | [], _, _, _, p, h => by simp [eff] at h
  | _ :: _, _, [], _, p, h => by simp [eff] at h
  | x :: l, k, s :: ss, hs, p, h => by
    have h0 := hs x List.mem_cons_self
    simp only [eff, List.mem_append] at h
    rcases h with h | h
    · unfold effS at h
      split at h
      · simp only [List.mem_cons, List.not_mem_nil, or_false] at h
        subst h
        exact h0.e
      · simp at h
    · exact eff_u64 l (k + 1) ss (fun y hy => hs y (List.mem_cons_of_mem _ hy)) p h
theorem labB_u64 {l : List Nd} (h : ∀ x ∈ l, x.TFits) : ∀ p ∈ labB l, U64 p.z := by
  unfold labB
  split
  · exact lab_u64 l 0 _ h
  · simp
theorem effB_u64 {l : List Nd} (h : ∀ x ∈ l, x.TFits) : ∀ p ∈ effB l, U64 p.z := by
  unfold effB
  split
  · exact eff_u64 l 0 _ h
  · simp

theorem Rs.lab {w' : World} {A : Option Addr} {n c : Nat} {l : List Sp} {base : Nat} (h : w'.ownsRow base 58 5 (.slice A n c) n (l.flatMap spc)) : Rs spc 5 w' w'.heap.size A n c l := Rs.of_own spc_len (by decide) h

set_option maxRecDepth 100000 in
set_option maxHeartbeats 4000000 in
theorem ground_any (A A2 : Option Addr) (n c n2 c2 : Nat) (a b : List Nd) (p q : Option Addr) (S : So) (w : World) (h1 : Ns w w.heap.size A n c a) (h2 : Ns w w.heap.size A2 n2 c2 b) (f1 : ∀ x ∈ a, x.Fits) (f2 : ∀ x ∈ b, x.Fits) (t1 : ∀ x ∈ a, x.TFits) (t2 : ∀ x ∈ b, x.TFits) (hS : SoAt w p q S) :
    Calls Try.prog 11 #[.slice A n c, .slice A2 n2 c2, .pointer p, .pointer q] w fun e w' => e = .returned (.tuple #[.bool (grB S a b), .int .i64 (grE S a b : Int)]) ∧ Below w.heap.size w w' := by
  obtain ⟨E, hE⟩ : ∃ E, grE S a b = E := ⟨_, rfl⟩
  obtain ⟨G, hG⟩ : ∃ G, grB S a b = G := ⟨_, rfl⟩
  rw [hE, hG]
  have HE := Lib.hid hE
  have HG := Lib.hid hG
  clear hE hG
  have HF1 := Lib.hid f1
  have HF2 := Lib.hid f2
  clear f1 f2
  by_cases hca : checkB a = 0
  case neg =>
    obtain ⟨r, hr⟩ : ∃ r, checkB a = r := ⟨_, rfl⟩
    have HR := Lib.hid hr
    have hne : ((r : Int) != 0) = true := by simp; omega
    have e1 : E = 4 := by rw [← HE.out]; unfold grE; rw [if_neg (fun h => hca h.1)]
    have e2 : G = false := by rw [← HG.out]; unfold grB; rw [HE.out, e1]; rfl
    subst e1 e2
    clear hca hr
    go_enter Try.func11, Try.ntmps11
    go_wp2_with fail
    refine (check_lit _ _ _ a r _ h1 HF1.out HR.out).mono ?_
    rintro e w1 ⟨rfl, hb⟩
    go_wp2_with fail
    refine bodyPost_ret (v := .tuple #[.bool false, .int .i64 4]) (by simp [results, Try.results11, go_sem]) rfl ⟨rfl, hb⟩
  by_cases hcb : checkB b = 0
  case neg =>
    obtain ⟨r, hr⟩ : ∃ r, checkB b = r := ⟨_, rfl⟩
    have HR := Lib.hid hr
    have HA := Lib.hid hca
    have hne : ((r : Int) != 0) = true := by simp; omega
    have e1 : E = 4 := by rw [← HE.out]; unfold grE; rw [if_neg (fun h => hcb h.2)]
    have e2 : G = false := by rw [← HG.out]; unfold grB; rw [HE.out, e1]; rfl
    subst e1 e2
    clear hca hcb hr
    go_enter Try.func11, Try.ntmps11
    go_wp2_with fail
    refine (check_lit _ _ _ a 0 _ h1 HF1.out HA.out).mono ?_
    rintro e w1 ⟨rfl, hb⟩
    replace h2 := h2.at_size (Nat.le_refl _) hb
    go_wp2_with fail
    refine (check_lit _ _ _ b r _ h2 HF2.out HR.out).mono ?_
    rintro e w2 ⟨rfl, hb2⟩
    replace hb := hb.trans (hb2.mono hb.size)
    clear hb2
    go_wp2_with fail
    refine bodyPost_ret (v := .tuple #[.bool false, .int .i64 4]) (by simp [results, Try.results11, go_sem]) rfl ⟨rfl, hb⟩
  have HA := Lib.hid hca
  have HB := Lib.hid hcb
  have HE1 : Hid ((valB S.h1 (labB a) && valB S.h1 (labB b)) = false → E = 1 ∧ G = false) := Lib.hid (fun h => by
    have e1 : E = 1 := by
      rw [← HE.out]
      unfold grE So.vals
      rw [if_pos ⟨hca, hcb⟩, if_neg]
      intro k
      simp only [Bool.and_eq_true] at k
      rw [k.1.1, k.2.1] at h
      cases h
    refine ⟨e1, ?_⟩
    rw [← HG.out]
    unfold grB
    rw [HE.out, e1]
    rfl)
  have HE2 : Hid ((valB S.h2 (effB a) && valB S.h2 (effB b)) = false → E = 1 ∧ G = false) := Lib.hid (fun h => by
    have e1 : E = 1 := by
      rw [← HE.out]
      unfold grE So.vals
      rw [if_pos ⟨hca, hcb⟩, if_neg]
      intro k
      simp only [Bool.and_eq_true] at k
      rw [k.1.2, k.2.2] at h
      cases h
    refine ⟨e1, ?_⟩
    rw [← HG.out]
    unfold grB
    rw [HE.out, e1]
    rfl)
  have HE3 : Hid ((valB S.h1 (labB a) && valB S.h1 (labB b)) = true → (valB S.h2 (effB a) && valB S.h2 (effB b)) = true → E = 0 ∧ G = (sameB a b && grH S a b)) := Lib.hid (fun h k => by
    have e1 : E = 0 := by
      rw [← HE.out]
      unfold grE So.vals
      simp only [Bool.and_eq_true] at h k
      rw [if_pos ⟨hca, hcb⟩, if_pos]
      rw [h.1, h.2, k.1, k.2]
      rfl
    refine ⟨e1, ?_⟩
    rw [← HG.out]
    unfold grB
    rw [HE.out, e1]
    rfl)
  have HAL : Hid (sameB a b = true → (labB a).length ≤ (labB b).length ∧ (effB a).length ≤ (effB b).length) := Lib.hid (fun h => by
    have := labB_alks (same_alks h hca hcb) hca hcb
    omega)
  have HU1 := Lib.hid (labB_u64 t1)
  have HU2 := Lib.hid (labB_u64 t2)
  have HU3 := Lib.hid (effB_u64 t1)
  have HU4 := Lib.hid (effB_u64 t2)
  clear hca hcb t1 t2 HE HG
  obtain ⟨V1, hV1⟩ : ∃ V, (valB S.h1 (labB a) && valB S.h1 (labB b)) = V := ⟨_, rfl⟩
  obtain ⟨V2, hV2⟩ : ∃ V, (valB S.h2 (effB a) && valB S.h2 (effB b)) = V := ⟨_, rfl⟩
  obtain ⟨V3, hV3⟩ : ∃ V, sameB a b = V := ⟨_, rfl⟩
  obtain ⟨V4, hV4⟩ : ∃ V, holdB (labB a) (labB b) S.r1 = V := ⟨_, rfl⟩
  obtain ⟨V5, hV5⟩ : ∃ V, holdB (effB a) (effB b) S.r2 = V := ⟨_, rfl⟩
  have HV1 := Lib.hid hV1
  have HV2 := Lib.hid hV2
  have HV3 := Lib.hid hV3
  have HV4 := Lib.hid hV4
  have HV5 := Lib.hid hV5
  have HGG : Hid (grH S a b = (V4 && V5)) := Lib.hid (by unfold grH; rw [hV4, hV5])
  rw [hV1, hV2, hV3] at HE3
  rw [hV1] at HE1
  rw [hV2] at HE2
  rw [hV3] at HAL
  rw [HGG.out] at HE3
  clear hV1 hV2 hV3 hV4 hV5 HGG
  go_enter Try.func11, Try.ntmps11
  go_wp2_with fail
  refine (check_lit _ _ _ a 0 _ h1 HF1.out HA.out).mono ?_
  rintro e w1 ⟨rfl, hb⟩
  replace h1 := h1.at_size (Nat.le_refl _) hb
  replace h2 := h2.at_size (Nat.le_refl _) hb
  replace hS := hS.keep hb
  go_wp2_with fail
  refine (check_lit _ _ _ b 0 _ h2 HF2.out HB.out).mono ?_
  rintro e w2 ⟨rfl, hv⟩
  replace h1 := h1.at_size (Nat.le_refl _) hv
  replace h2 := h2.at_size (Nat.le_refl _) hv
  replace hS := hS.keep hv
  replace hb := hb.trans (hv.mono hb.size)
  clear hv
  go_wp2_with fail
  refine (of_lit A n c a _ _ _ h1 HF1.out rfl rfl).mono ?_
  rintro e w3 ⟨B1, m1, d1, B2, m2, d2, rfl, o1, o2, -, hv⟩
  have r1 := Rs.lab o1
  have r2 := Rs.lab o2
  replace h1 := h1.at_size (Nat.le_refl _) hv
  replace h2 := h2.at_size (Nat.le_refl _) hv
  replace hS := hS.keep hv
  replace hb := hb.trans (hv.mono hb.size)
  clear hv o1 o2
  go_wp2_with fail
  refine (of_lit A2 n2 c2 b _ _ _ h2 HF2.out rfl rfl).mono ?_
  rintro e w4 ⟨B3, m3, d3, B4, m4, d4, rfl, o3, o4, -, hv⟩
  have r3 := Rs.lab o3
  have r4 := Rs.lab o4
  replace r1 := r1.at_size (Nat.le_refl _) hv
  replace r2 := r2.at_size (Nat.le_refl _) hv
  replace h1 := h1.at_size (Nat.le_refl _) hv
  replace h2 := h2.at_size (Nat.le_refl _) hv
  replace hS := hS.keep hv
  replace hb := hb.trans (hv.mono hb.size)
  clear hv o3 o4
  have hal : Below w4.heap.size w4 (w4.alloc (.cells #[.slice B1 m1 d1, .slice B3 m3 d3] 49)) := (Below.refl _ _).alloc (Nat.le_refl _) _
  replace r1 := r1.at_size (Nat.le_refl _) hal
  replace r2 := r2.at_size (Nat.le_refl _) hal
  replace r3 := r3.at_size (Nat.le_refl _) hal
  replace r4 := r4.at_size (Nat.le_refl _) hal
  replace h1 := h1.at_size (Nat.le_refl _) hal
  replace h2 := h2.at_size (Nat.le_refl _) hal
  replace hS := hS.keep hal
  replace hb := hb.trans (hal.mono hb.size)
  clear hal
  have HC0 := Lib.hid ((cell_blk (i := 0) (heap_alloc_new w4 (.cells #[.slice B1 m1 d1, .slice B3 m3 d3] 49))).trans rfl)
  have HC1 := Lib.hid ((cell_blk (i := 1) (heap_alloc_new w4 (.cells #[.slice B1 m1 d1, .slice B3 m3 d3] 49))).trans rfl)
  go_wp2_with fail
  refine (valued_any _ S.h1 w4.heap.size B1 B3 m1 d1 m3 d3 (labB a) (labB b) _ (so_h1 hS) ⟨HC0.out, r1, HU1.out⟩ ⟨HC1.out, r3, HU2.out⟩).mono ?_
  rw [HV1.out]
  clear HC0 HC1
  rintro e w5 ⟨rfl, hv⟩
  replace r1 := r1.at_size (Nat.le_refl _) hv
  replace r2 := r2.at_size (Nat.le_refl _) hv
  replace r3 := r3.at_size (Nat.le_refl _) hv
  replace r4 := r4.at_size (Nat.le_refl _) hv
  replace h1 := h1.at_size (Nat.le_refl _) hv
  replace h2 := h2.at_size (Nat.le_refl _) hv
  replace hS := hS.keep hv
  replace hb := hb.trans (hv.mono hb.size)
  clear hv
  cases V1 with
  | false =>
    obtain ⟨rfl, rfl⟩ := HE1.out rfl
    go_wp2_with fail
    refine bodyPost_ret (v := .tuple #[.bool false, .int .i64 1]) (by simp [results, Try.results11, go_sem]) rfl ⟨rfl, hb⟩
  | true =>
    have hal : Below w5.heap.size w5 (w5.alloc (.cells #[.slice B2 m2 d2, .slice B4 m4 d4] 49)) := (Below.refl _ _).alloc (Nat.le_refl _) _
    replace r1 := r1.at_size (Nat.le_refl _) hal
    replace r2 := r2.at_size (Nat.le_refl _) hal
    replace r3 := r3.at_size (Nat.le_refl _) hal
    replace r4 := r4.at_size (Nat.le_refl _) hal
    replace h1 := h1.at_size (Nat.le_refl _) hal
    replace h2 := h2.at_size (Nat.le_refl _) hal
    replace hS := hS.keep hal
    replace hb := hb.trans (hal.mono hb.size)
    clear hal
    have HC0 := Lib.hid ((cell_blk (i := 0) (heap_alloc_new w5 (.cells #[.slice B2 m2 d2, .slice B4 m4 d4] 49))).trans rfl)
    have HC1 := Lib.hid ((cell_blk (i := 1) (heap_alloc_new w5 (.cells #[.slice B2 m2 d2, .slice B4 m4 d4] 49))).trans rfl)
    replace HE3 := Lib.hid (HE3.out rfl)
    clear HE1
    go_wp2_with fail
    refine (valued_any _ S.h2 w5.heap.size B2 B4 m2 d2 m4 d4 (effB a) (effB b) _ (so_h2 hS) ⟨HC0.out, r2, HU3.out⟩ ⟨HC1.out, r4, HU4.out⟩).mono ?_
    rw [HV2.out]
    clear HC0 HC1
    rintro e w6 ⟨rfl, hv⟩
    replace r1 := r1.at_size (Nat.le_refl _) hv
    replace r2 := r2.at_size (Nat.le_refl _) hv
    replace r3 := r3.at_size (Nat.le_refl _) hv
    replace r4 := r4.at_size (Nat.le_refl _) hv
    replace h1 := h1.at_size (Nat.le_refl _) hv
    replace h2 := h2.at_size (Nat.le_refl _) hv
    replace hS := hS.keep hv
    replace hb := hb.trans (hv.mono hb.size)
    clear hv
    cases V2 with
    | false =>
      obtain ⟨rfl, rfl⟩ := HE2.out rfl
      go_wp2_with fail
      refine bodyPost_ret (v := .tuple #[.bool false, .int .i64 1]) (by simp [results, Try.results11, go_sem]) rfl ⟨rfl, hb⟩
    | true =>
      obtain ⟨rfl, hG⟩ := HE3.out rfl
      have HG := Lib.hid hG
      clear hG HE3 HE2
      go_wp2_with fail
      refine (same_lit' _ _ _ _ _ _ a b V3 _ h1 h2 HV3.out).mono ?_
      rintro e w7 ⟨rfl, hv⟩
      replace r1 := r1.at_size (Nat.le_refl _) hv
      replace r2 := r2.at_size (Nat.le_refl _) hv
      replace r3 := r3.at_size (Nat.le_refl _) hv
      replace r4 := r4.at_size (Nat.le_refl _) hv
      replace hS := hS.keep hv
      replace hb := hb.trans (hv.mono hb.size)
      clear hv h1 h2
      cases V3 with
      | false =>
        obtain rfl : G = false := HG.out
        go_wp2_with fail
        refine bodyPost_ret (v := .tuple #[.bool false, .int .i64 0]) (by simp [results, Try.results11, go_sem]) rfl ⟨rfl, hb⟩
      | true =>
        obtain rfl : G = (V4 && V5) := HG.out
        have HLE := Lib.hid (HAL.out rfl)
        clear HG HAL
        go_wp2_with fail
        refine (hold_any _ _ _ _ _ _ (labB a) (labB b) _ S.r1 _ HLE.out.1 (so_r1 hS) r1 r3 HU1.out HU2.out).mono ?_
        rw [HV4.out]
        rintro e w8 ⟨rfl, hv⟩
        replace r2 := r2.at_size (Nat.le_refl _) hv
        replace r4 := r4.at_size (Nat.le_refl _) hv
        replace hS := hS.keep hv
        replace hb := hb.trans (hv.mono hb.size)
        clear hv r1 r3
        cases V4 with
        | false =>
          go_wp2_with fail
          refine bodyPost_ret (v := .tuple #[.bool false, .int .i64 0]) (by simp [results, Try.results11, go_sem]) rfl ⟨rfl, hb⟩
        | true =>
          go_wp2_with fail
          refine (hold_any _ _ _ _ _ _ (effB a) (effB b) _ S.r2 _ HLE.out.2 (so_r2 hS) r2 r4 HU3.out HU4.out).mono ?_
          rw [HV5.out]
          rintro e w9 ⟨rfl, hv⟩
          replace hb := hb.trans (hv.mono hb.size)
          clear hv r2 r4
          go_wp2_with fail
          refine bodyPost_ret (v := .tuple #[.bool V5, .int .i64 0]) (by simp [results, Try.results11, go_sem]) rfl ⟨rfl, hb⟩
end Go.Proofs.Ytlcbcggcmmlfdaa
