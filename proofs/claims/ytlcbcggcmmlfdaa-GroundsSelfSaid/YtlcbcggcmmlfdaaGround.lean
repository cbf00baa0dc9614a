/- Ground; Sorts; GrMath: merged. -/
import Derived.Test.YtlcbcggcmmlfdaaHold
import Derived.Test.YtlcbcggcmmlfdaaLaw2
import Derived.Test.YtlcbcggcmmlfdaaLaLat
import Derived.Test.YtlcbcggcmmlfdaaEfEff
import Derived.Test.YtlcbcggcmmlfdaaSpBelow

/- What grounds.Below tells. Condition: the nodes can be read, labels and effects lie where they are told. -/
namespace Go.Proofs.Ytlcbcggcmmlfdaa
open Go.RowKit

/-- Labels: how many, and their rows; effects: whether there are sets, and all of them. -/
structure So where
  n : Nat
  L : List Nat
  m : Bool
  t : Nat
def So.h1 (S : So) (a : Nat) : Bool := decide (a < S.n)
def So.r1 (S : So) (a b : Nat) : Bool := La.belowB S.L a b
def So.h2 (S : So) (a : Nat) : Bool := Ef.hasE S.m S.t a
def So.r2 (S : So) (a b : Nat) : Bool := Ef.belowE S.m S.t a b

/-- They lie there, if there are any. -/
structure SoAt (w : World) (p q : Option Addr) (S : So) : Prop where
  lat : (p = none ∧ S.n = 0 ∧ S.L = []) ∨ ∃ g us ds, p = some ⟨g, 0, none⟩ ∧ La.LatAt w g S.n us ds ∧ us.take S.n = S.L
  eff : Ef.EffP w q S.m S.t
theorem SoAt.keep {w W : World} {p q : Option Addr} {S : So} (h : SoAt w p q S) (hb : Below w.heap.size w W) : SoAt W p q S :=
  ⟨by
    rcases h.lat with h | ⟨g, us, ds, e, h, e2⟩
    · exact .inl h
    · exact .inr ⟨g, us, ds, e, h.keep hb, e2⟩, h.eff.keep hb⟩

section
variable {w : World} {p q : Option Addr} {S : So} (h : SoAt w p q S)
include h
theorem so_h1 : Tells1 w (.func (.func 21) #[.pointer p] #[]) S.h1 := ⟨21, p, .inl rfl, rfl, fun W hW x _ => by
  rcases (h.keep hW).lat with ⟨rfl, hn, _⟩ | ⟨g, us, ds, rfl, h, _⟩
  · have : S.h1 x = false := by unfold So.h1; rw [hn]; rfl
    rw [this]
    exact (La.hasL_nil x W).mono fun e w' ⟨he, hw⟩ => ⟨he, hw ▸ Below.refl _ _⟩
  · exact (La.hasL_any g S.n us ds x W h).mono fun e w' ⟨he, hw⟩ => ⟨he, hw ▸ Below.refl _ _⟩⟩
theorem so_r1 : Tells w (.func (.func 23) #[.pointer p] #[]) S.r1 := ⟨23, p, .inl rfl, rfl, fun W hW x y hx hy => by
  rcases (h.keep hW).lat with ⟨rfl, _, hL⟩ | ⟨g, us, ds, rfl, h, hL⟩
  · have : S.r1 x y = false := by unfold So.r1; rw [hL]; exact La.belowB_no (by simp)
    rw [this]
    exact (La.belowL_nil x y W).mono fun e w' ⟨he, hw⟩ => ⟨he, hw.below⟩
  · refine (La.belowL_any g S.n us ds x y W h hx hy).mono fun e w' ⟨he, hw⟩ => ⟨?_, hw.below⟩
    rw [he, hL]
    rfl⟩
theorem so_h2 : Tells1 w (.func (.func 27) #[.pointer q] #[]) S.h2 := ⟨27, q, .inr rfl, rfl, fun W hW x hx => Ef.has_any q S.m S.t W (h.keep hW).eff x hx⟩
theorem so_r2 : Tells w (.func (.func 29) #[.pointer q] #[]) S.r2 := ⟨29, q, .inr rfl, rfl, fun W hW x y hx hy => Ef.below_any q S.m S.t W (h.keep hW).eff x y hx hy⟩
end

/-- All spots of a body have values. -/
def So.vals (S : So) (l : List Nd) : Bool := valB S.h1 (labB l) && valB S.h2 (effB l)
def grE (S : So) (a b : List Nd) : Nat := if checkB a = 0 ∧ checkB b = 0 then (if S.vals a && S.vals b then 0 else 1) else 4
def grH (S : So) (a b : List Nd) : Bool := holdB (labB a) (labB b) S.r1 && holdB (effB a) (effB b) S.r2
def grB (S : So) (a b : List Nd) : Bool := decide (grE S a b = 0) && (sameB a b && grH S a b)

theorem chk_may : ∀ (l : List Nd) (st : List Nat), chk l st = 0 → ∀ x ∈ l, x.may = true
  | [], _, _ => by simp
  | _ :: _, [], h => by simp [chk] at h
  | y :: l, d :: st, h => by
    rw [chk_one] at h
    split at h
    · rename_i hm
      split at h
      · cases h
      · intro x hx
        rcases List.mem_cons.1 hx with rfl | hx
        · exact hm
        · exact chk_may l _ h x hx
    · cases h
theorem body_may {l : List Nd} (h : checkB l = 0) : ∀ x ∈ l, x.may = true := chk_may l _ (check_chk h).2.2

theorem alike_alk {x y : Nd} (h : alikeB x y = true) (hx : x.may = true) (hy : y.may = true) : Alk x y := by
  unfold alikeB at h
  simp only [Bool.and_eq_true, decide_eq_true_eq] at h
  exact ⟨h.1, h.2.1, h.2.2.1, h.2.2.2, by rw [hx, hy]⟩
theorem alks_of : ∀ {a b : List Nd}, a.length = b.length → (∀ j (h : j < a.length) (h' : j < b.length), alikeB a[j] b[j] = true) → (∀ x ∈ a, x.may = true) → (∀ x ∈ b, x.may = true) → Alks a b
  | [], [], _, _, _, _ => .nil
  | [], _ :: _, h, _, _, _ => by simp at h
  | _ :: _, [], h, _, _, _ => by simp at h
  | x :: a, y :: b, h, ha, h1, h2 => .cons (alike_alk (ha 0 (by simp) (by simp)) (h1 x List.mem_cons_self) (h2 y List.mem_cons_self))
      (alks_of (by simpa using h) (fun j h3 h4 => ha (j + 1) (by simpa using h3) (by simpa using h4)) (fun z hz => h1 z (List.mem_cons_of_mem _ hz)) (fun z hz => h2 z (List.mem_cons_of_mem _ hz)))
theorem same_alks {a b : List Nd} (h : sameB a b = true) (ha : checkB a = 0) (hb : checkB b = 0) : Alks a b := by
  obtain ⟨h1, h2⟩ := (same_iff a b).1 h
  exact alks_of h1 h2 (body_may ha) (body_may hb)

theorem labS_alk {x y : Nd} (h : Alk x y) (k s : Nat) : (labS k x s).length = (labS k y s).length := by
  unfold labS
  rw [h.k]
  split <;> rfl
theorem effS_alk {x y : Nd} (h : Alk x y) (k s : Nat) : (effS k x s).length = (effS k y s).length := by
  unfold effS
  rw [h.k]
  split <;> rfl
theorem lab_alks : ∀ {a b : List Nd}, Alks a b → ∀ k ss, (lab k a ss).length = (lab k b ss).length
  | _, _, .nil, _, _ => rfl
  | _, _, .cons _ _, _, [] => rfl
  | _, _, .cons h t, k, s :: ss => by
    simp only [lab, List.length_append]
    rw [labS_alk h, lab_alks t]
theorem eff_alks : ∀ {a b : List Nd}, Alks a b → ∀ k ss, (eff k a ss).length = (eff k b ss).length
  | _, _, .nil, _, _ => rfl
  | _, _, .cons _ _, _, [] => rfl
  | _, _, .cons h t, k, s :: ss => by
    simp only [eff, List.length_append]
    rw [effS_alk h, eff_alks t]
theorem labB_alks {a b : List Nd} (h : Alks a b) (ha : checkB a = 0) (hb : checkB b = 0) : (labB a).length = (labB b).length ∧ (effB a).length = (effB b).length := by
  unfold labB effB
  rw [if_pos ha, if_pos hb, if_pos ha, if_pos hb, h.sds]
  exact ⟨lab_alks h _ _, eff_alks h _ _⟩

theorem lab_u64 : ∀ (l : List Nd) (k : Nat) (ss : List Nat), (∀ x ∈ l, x.TFits) → ∀ p ∈ lab k l ss, U64 p.z
  | [], _, _, _, p, h => by simp [lab] at h
  | _ :: _, _, [], _, p, h => by simp [lab] at h
  | x :: l, k, s :: ss, hs, p, h => by
    have h0 := hs x List.mem_cons_self
    simp only [lab, List.mem_append] at h
    rcases h with h | h
    · unfold labS at h
      split at h
      · simp only [List.mem_cons, List.not_mem_nil, or_false] at h
        rcases h with rfl | rfl
        · exact h0.l
        · exact h0.p
      · simp only [List.mem_cons, List.not_mem_nil, or_false] at h
        subst h
        exact h0.l
    · exact lab_u64 l (k + 1) ss (fun y hy => hs y (List.mem_cons_of_mem _ hy)) p h
theorem eff_u64 : ∀ (l : List Nd) (k : Nat) (ss : List Nat), (∀ x ∈ l, x.TFits) → ∀ p ∈ eff k l ss, U64 p.z
  | [], _, _, _, p, h => by simp [eff] at h
  | _ :: _, _, [], _, p, h => by simp [eff] at h
  | x :: l, k, s :: ss, hs, p, h => by
    have h0 := hs x List.mem_cons_self
    simp only [eff, List.mem_append] at h
    rcases h with h | h
    · unfold effS at h
      split at h
      · simp only [List.mem_cons, List.not_mem_nil, or_false] at h
        subst h
        exact h0.e
      · simp at h
    · exact eff_u64 l (k + 1) ss (fun y hy => hs y (List.mem_cons_of_mem _ hy)) p h
theorem labB_u64 {l : List Nd} (h : ∀ x ∈ l, x.TFits) : ∀ p ∈ labB l, U64 p.z := by
  unfold labB
  split
  · exact lab_u64 l 0 _ h
  · simp
theorem effB_u64 {l : List Nd} (h : ∀ x ∈ l, x.TFits) : ∀ p ∈ effB l, U64 p.z := by
  unfold effB
  split
  · exact eff_u64 l 0 _ h
  · simp

theorem Rs.lab {w' : World} {A : Option Addr} {n c : Nat} {l : List Sp} {base : Nat} (h : w'.ownsRow base 58 5 (.slice A n c) n (l.flatMap spc)) : Rs spc 5 w' w'.heap.size A n c l := Rs.of_own spc_len (by decide) h

set_option maxRecDepth 100000 in
set_option maxHeartbeats 4000000 in
theorem ground_any (A A2 : Option Addr) (n c n2 c2 : Nat) (a b : List Nd) (p q : Option Addr) (S : So) (w : World) (h1 : Ns w w.heap.size A n c a) (h2 : Ns w w.heap.size A2 n2 c2 b) (f1 : ∀ x ∈ a, x.Fits) (f2 : ∀ x ∈ b, x.Fits) (t1 : ∀ x ∈ a, x.TFits) (t2 : ∀ x ∈ b, x.TFits) (hS : SoAt w p q S) :
    Calls Try.prog 11 #[.slice A n c, .slice A2 n2 c2, .pointer p, .pointer q] w fun e w' => e = .returned (.tuple #[.bool (grB S a b), .int .i64 (grE S a b : Int)]) ∧ Below w.heap.size w w' := by
  obtain ⟨E, hE⟩ : ∃ E, grE S a b = E := ⟨_, rfl⟩
  obtain ⟨G, hG⟩ : ∃ G, grB S a b = G := ⟨_, rfl⟩
  rw [hE, hG]
  have HE := Lib.hid hE
  have HG := Lib.hid hG
  clear hE hG
  have HF1 := Lib.hid f1
  have HF2 := Lib.hid f2
  clear f1 f2
  by_cases hca : checkB a = 0
  case neg =>
    obtain ⟨r, hr⟩ : ∃ r, checkB a = r := ⟨_, rfl⟩
    have HR := Lib.hid hr
    have hne : ((r : Int) != 0) = true := by simp; omega
    have e1 : E = 4 := by rw [← HE.out]; unfold grE; rw [if_neg (fun h => hca h.1)]
    have e2 : G = false := by rw [← HG.out]; unfold grB; rw [HE.out, e1]; rfl
    subst e1 e2
    clear hca hr
    go_enter Try.func11, Try.ntmps11
    go_wp2_with fail
    refine (check_lit _ _ _ a r _ h1 HF1.out HR.out).mono ?_
    rintro e w1 ⟨rfl, hb⟩
    go_wp2_with fail
    refine bodyPost_ret (v := .tuple #[.bool false, .int .i64 4]) (by simp [results, Try.results11, go_sem]) rfl ⟨rfl, hb⟩
  by_cases hcb : checkB b = 0
  case neg =>
    obtain ⟨r, hr⟩ : ∃ r, checkB b = r := ⟨_, rfl⟩
    have HR := Lib.hid hr
    have HA := Lib.hid hca
    have hne : ((r : Int) != 0) = true := by simp; omega
    have e1 : E = 4 := by rw [← HE.out]; unfold grE; rw [if_neg (fun h => hcb h.2)]
    have e2 : G = false := by rw [← HG.out]; unfold grB; rw [HE.out, e1]; rfl
    subst e1 e2
    clear hca hcb hr
    go_enter Try.func11, Try.ntmps11
    go_wp2_with fail
    refine (check_lit _ _ _ a 0 _ h1 HF1.out HA.out).mono ?_
    rintro e w1 ⟨rfl, hb⟩
    replace h2 := h2.at_size (Nat.le_refl _) hb
    go_wp2_with fail
    refine (check_lit _ _ _ b r _ h2 HF2.out HR.out).mono ?_
    rintro e w2 ⟨rfl, hb2⟩
    replace hb := hb.trans (hb2.mono hb.size)
    clear hb2
    go_wp2_with fail
    refine bodyPost_ret (v := .tuple #[.bool false, .int .i64 4]) (by simp [results, Try.results11, go_sem]) rfl ⟨rfl, hb⟩
  have HA := Lib.hid hca
  have HB := Lib.hid hcb
  have HE1 : Hid ((valB S.h1 (labB a) && valB S.h1 (labB b)) = false → E = 1 ∧ G = false) := Lib.hid (fun h => by
    have e1 : E = 1 := by
      rw [← HE.out]
      unfold grE So.vals
      rw [if_pos ⟨hca, hcb⟩, if_neg]
      intro k
      simp only [Bool.and_eq_true] at k
      rw [k.1.1, k.2.1] at h
      cases h
    refine ⟨e1, ?_⟩
    rw [← HG.out]
    unfold grB
    rw [HE.out, e1]
    rfl)
  have HE2 : Hid ((valB S.h2 (effB a) && valB S.h2 (effB b)) = false → E = 1 ∧ G = false) := Lib.hid (fun h => by
    have e1 : E = 1 := by
      rw [← HE.out]
      unfold grE So.vals
      rw [if_pos ⟨hca, hcb⟩, if_neg]
      intro k
      simp only [Bool.and_eq_true] at k
      rw [k.1.2, k.2.2] at h
      cases h
    refine ⟨e1, ?_⟩
    rw [← HG.out]
    unfold grB
    rw [HE.out, e1]
    rfl)
  have HE3 : Hid ((valB S.h1 (labB a) && valB S.h1 (labB b)) = true → (valB S.h2 (effB a) && valB S.h2 (effB b)) = true → E = 0 ∧ G = (sameB a b && grH S a b)) := Lib.hid (fun h k => by
    have e1 : E = 0 := by
      rw [← HE.out]
      unfold grE So.vals
      simp only [Bool.and_eq_true] at h k
      rw [if_pos ⟨hca, hcb⟩, if_pos]
      rw [h.1, h.2, k.1, k.2]
      rfl
    refine ⟨e1, ?_⟩
    rw [← HG.out]
    unfold grB
    rw [HE.out, e1]
    rfl)
  have HAL : Hid (sameB a b = true → (labB a).length ≤ (labB b).length ∧ (effB a).length ≤ (effB b).length) := Lib.hid (fun h => by
    have := labB_alks (same_alks h hca hcb) hca hcb
    omega)
  have HU1 := Lib.hid (labB_u64 t1)
  have HU2 := Lib.hid (labB_u64 t2)
  have HU3 := Lib.hid (effB_u64 t1)
  have HU4 := Lib.hid (effB_u64 t2)
  clear hca hcb t1 t2 HE HG
  obtain ⟨V1, hV1⟩ : ∃ V, (valB S.h1 (labB a) && valB S.h1 (labB b)) = V := ⟨_, rfl⟩
  obtain ⟨V2, hV2⟩ : ∃ V, (valB S.h2 (effB a) && valB S.h2 (effB b)) = V := ⟨_, rfl⟩
  obtain ⟨V3, hV3⟩ : ∃ V, sameB a b = V := ⟨_, rfl⟩
  obtain ⟨V4, hV4⟩ : ∃ V, holdB (labB a) (labB b) S.r1 = V := ⟨_, rfl⟩
  obtain ⟨V5, hV5⟩ : ∃ V, holdB (effB a) (effB b) S.r2 = V := ⟨_, rfl⟩
  have HV1 := Lib.hid hV1
  have HV2 := Lib.hid hV2
  have HV3 := Lib.hid hV3
  have HV4 := Lib.hid hV4
  have HV5 := Lib.hid hV5
  have HGG : Hid (grH S a b = (V4 && V5)) := Lib.hid (by unfold grH; rw [hV4, hV5])
  rw [hV1, hV2, hV3] at HE3
  rw [hV1] at HE1
  rw [hV2] at HE2
  rw [hV3] at HAL
  rw [HGG.out] at HE3
  clear hV1 hV2 hV3 hV4 hV5 HGG
  go_enter Try.func11, Try.ntmps11
  go_wp2_with fail
  refine (check_lit _ _ _ a 0 _ h1 HF1.out HA.out).mono ?_
  rintro e w1 ⟨rfl, hb⟩
  replace h1 := h1.at_size (Nat.le_refl _) hb
  replace h2 := h2.at_size (Nat.le_refl _) hb
  replace hS := hS.keep hb
  go_wp2_with fail
  refine (check_lit _ _ _ b 0 _ h2 HF2.out HB.out).mono ?_
  rintro e w2 ⟨rfl, hv⟩
  replace h1 := h1.at_size (Nat.le_refl _) hv
  replace h2 := h2.at_size (Nat.le_refl _) hv
  replace hS := hS.keep hv
  replace hb := hb.trans (hv.mono hb.size)
  clear hv
  go_wp2_with fail
  refine (of_lit A n c a _ _ _ h1 HF1.out rfl rfl).mono ?_
  rintro e w3 ⟨B1, m1, d1, B2, m2, d2, rfl, o1, o2, -, hv⟩
  have r1 := Rs.lab o1
  have r2 := Rs.lab o2
  replace h1 := h1.at_size (Nat.le_refl _) hv
  replace h2 := h2.at_size (Nat.le_refl _) hv
  replace hS := hS.keep hv
  replace hb := hb.trans (hv.mono hb.size)
  clear hv o1 o2
  go_wp2_with fail
  refine (of_lit A2 n2 c2 b _ _ _ h2 HF2.out rfl rfl).mono ?_
  rintro e w4 ⟨B3, m3, d3, B4, m4, d4, rfl, o3, o4, -, hv⟩
  have r3 := Rs.lab o3
  have r4 := Rs.lab o4
  replace r1 := r1.at_size (Nat.le_refl _) hv
  replace r2 := r2.at_size (Nat.le_refl _) hv
  replace h1 := h1.at_size (Nat.le_refl _) hv
  replace h2 := h2.at_size (Nat.le_refl _) hv
  replace hS := hS.keep hv
  replace hb := hb.trans (hv.mono hb.size)
  clear hv o3 o4
  have hal : Below w4.heap.size w4 (w4.alloc (.cells #[.slice B1 m1 d1, .slice B3 m3 d3] 49)) := (Below.refl _ _).alloc (Nat.le_refl _) _
  replace r1 := r1.at_size (Nat.le_refl _) hal
  replace r2 := r2.at_size (Nat.le_refl _) hal
  replace r3 := r3.at_size (Nat.le_refl _) hal
  replace r4 := r4.at_size (Nat.le_refl _) hal
  replace h1 := h1.at_size (Nat.le_refl _) hal
  replace h2 := h2.at_size (Nat.le_refl _) hal
  replace hS := hS.keep hal
  replace hb := hb.trans (hal.mono hb.size)
  clear hal
  have HC0 := Lib.hid ((cell_blk (i := 0) (heap_alloc_new w4 (.cells #[.slice B1 m1 d1, .slice B3 m3 d3] 49))).trans rfl)
  have HC1 := Lib.hid ((cell_blk (i := 1) (heap_alloc_new w4 (.cells #[.slice B1 m1 d1, .slice B3 m3 d3] 49))).trans rfl)
  go_wp2_with fail
  refine (valued_any _ S.h1 w4.heap.size B1 B3 m1 d1 m3 d3 (labB a) (labB b) _ (so_h1 hS) ⟨HC0.out, r1, HU1.out⟩ ⟨HC1.out, r3, HU2.out⟩).mono ?_
  rw [HV1.out]
  clear HC0 HC1
  rintro e w5 ⟨rfl, hv⟩
  replace r1 := r1.at_size (Nat.le_refl _) hv
  replace r2 := r2.at_size (Nat.le_refl _) hv
  replace r3 := r3.at_size (Nat.le_refl _) hv
  replace r4 := r4.at_size (Nat.le_refl _) hv
  replace h1 := h1.at_size (Nat.le_refl _) hv
  replace h2 := h2.at_size (Nat.le_refl _) hv
  replace hS := hS.keep hv
  replace hb := hb.trans (hv.mono hb.size)
  clear hv
  cases V1 with
  | false =>
    obtain ⟨rfl, rfl⟩ := HE1.out rfl
    go_wp2_with fail
    refine bodyPost_ret (v := .tuple #[.bool false, .int .i64 1]) (by simp [results, Try.results11, go_sem]) rfl ⟨rfl, hb⟩
  | true =>
    have hal : Below w5.heap.size w5 (w5.alloc (.cells #[.slice B2 m2 d2, .slice B4 m4 d4] 49)) := (Below.refl _ _).alloc (Nat.le_refl _) _
    replace r1 := r1.at_size (Nat.le_refl _) hal
    replace r2 := r2.at_size (Nat.le_refl _) hal
    replace r3 := r3.at_size (Nat.le_refl _) hal
    replace r4 := r4.at_size (Nat.le_refl _) hal
    replace h1 := h1.at_size (Nat.le_refl _) hal
    replace h2 := h2.at_size (Nat.le_refl _) hal
    replace hS := hS.keep hal
    replace hb := hb.trans (hal.mono hb.size)
    clear hal
    have HC0 := Lib.hid ((cell_blk (i := 0) (heap_alloc_new w5 (.cells #[.slice B2 m2 d2, .slice B4 m4 d4] 49))).trans rfl)
    have HC1 := Lib.hid ((cell_blk (i := 1) (heap_alloc_new w5 (.cells #[.slice B2 m2 d2, .slice B4 m4 d4] 49))).trans rfl)
    replace HE3 := Lib.hid (HE3.out rfl)
    clear HE1
    go_wp2_with fail
    refine (valued_any _ S.h2 w5.heap.size B2 B4 m2 d2 m4 d4 (effB a) (effB b) _ (so_h2 hS) ⟨HC0.out, r2, HU3.out⟩ ⟨HC1.out, r4, HU4.out⟩).mono ?_
    rw [HV2.out]
    clear HC0 HC1
    rintro e w6 ⟨rfl, hv⟩
    replace r1 := r1.at_size (Nat.le_refl _) hv
    replace r2 := r2.at_size (Nat.le_refl _) hv
    replace r3 := r3.at_size (Nat.le_refl _) hv
    replace r4 := r4.at_size (Nat.le_refl _) hv
    replace h1 := h1.at_size (Nat.le_refl _) hv
    replace h2 := h2.at_size (Nat.le_refl _) hv
    replace hS := hS.keep hv
    replace hb := hb.trans (hv.mono hb.size)
    clear hv
    cases V2 with
    | false =>
      obtain ⟨rfl, rfl⟩ := HE2.out rfl
      go_wp2_with fail
      refine bodyPost_ret (v := .tuple #[.bool false, .int .i64 1]) (by simp [results, Try.results11, go_sem]) rfl ⟨rfl, hb⟩
    | true =>
      obtain ⟨rfl, hG⟩ := HE3.out rfl
      have HG := Lib.hid hG
      clear hG HE3 HE2
      go_wp2_with fail
      refine (same_lit' _ _ _ _ _ _ a b V3 _ h1 h2 HV3.out).mono ?_
      rintro e w7 ⟨rfl, hv⟩
      replace r1 := r1.at_size (Nat.le_refl _) hv
      replace r2 := r2.at_size (Nat.le_refl _) hv
      replace r3 := r3.at_size (Nat.le_refl _) hv
      replace r4 := r4.at_size (Nat.le_refl _) hv
      replace hS := hS.keep hv
      replace hb := hb.trans (hv.mono hb.size)
      clear hv h1 h2
      cases V3 with
      | false =>
        obtain rfl : G = false := HG.out
        go_wp2_with fail
        refine bodyPost_ret (v := .tuple #[.bool false, .int .i64 0]) (by simp [results, Try.results11, go_sem]) rfl ⟨rfl, hb⟩
      | true =>
        obtain rfl : G = (V4 && V5) := HG.out
        have HLE := Lib.hid (HAL.out rfl)
        clear HG HAL
        go_wp2_with fail
        refine (hold_any _ _ _ _ _ _ (labB a) (labB b) _ S.r1 _ HLE.out.1 (so_r1 hS) r1 r3 HU1.out HU2.out).mono ?_
        rw [HV4.out]
        rintro e w8 ⟨rfl, hv⟩
        replace r2 := r2.at_size (Nat.le_refl _) hv
        replace r4 := r4.at_size (Nat.le_refl _) hv
        replace hS := hS.keep hv
        replace hb := hb.trans (hv.mono hb.size)
        clear hv r1 r3
        cases V4 with
        | false =>
          go_wp2_with fail
          refine bodyPost_ret (v := .tuple #[.bool false, .int .i64 0]) (by simp [results, Try.results11, go_sem]) rfl ⟨rfl, hb⟩
        | true =>
          go_wp2_with fail
          refine (hold_any _ _ _ _ _ _ (effB a) (effB b) _ S.r2 _ HLE.out.2 (so_r2 hS) r2 r4 HU3.out HU4.out).mono ?_
          rw [HV5.out]
          rintro e w9 ⟨rfl, hv⟩
          replace hb := hb.trans (hv.mono hb.size)
          clear hv r2 r4
          go_wp2_with fail
          refine bodyPost_ret (v := .tuple #[.bool V5, .int .i64 0]) (by simp [results, Try.results11, go_sem]) rfl ⟨rfl, hb⟩
end Go.Proofs.Ytlcbcggcmmlfdaa

/- Labels and effects, made of rows and a number; what follows of them. Condition: the rows can be read. -/
namespace Go.Proofs.Ytlcbcggcmmlfdaa
open Go.RowKit

/-- What is made of rows, and of a number. -/
def soOf (l : List Nat) (k : Int) : So := ⟨if La.checkN l = 0 then l.length else 0, if La.checkN l = 0 then l else [], decide (0 ≤ k ∧ k ≤ 64), if 0 ≤ k ∧ k ≤ 64 then Ef.topN k.toNat else 0⟩

abbrev zV (A : Option Addr) (n c : Nat) (k : Int) : Value := .agg #[.slice A n c, .int .i64 k]

set_option maxRecDepth 100000 in
set_option maxHeartbeats 1000000 in
theorem latNew_any (A : Option Addr) (n c : Nat) (l : List Nat) (w : World) (h : Rd La.nm w w.heap.size A n c l) (hf : La.Fit l) :
    Calls Try.prog 24 #[.slice A n c] w fun e w' => ∃ (p : Option Addr) (x : Int), e = .returned (.tuple #[.pointer p, .int .i64 x]) ∧ (p = none ↔ La.checkN l ≠ 0) ∧
      ((p = none ∧ (soOf l 0).n = 0 ∧ (soOf l 0).L = []) ∨ ∃ g us ds, p = some ⟨g, 0, none⟩ ∧ La.LatAt w' g (soOf l 0).n us ds ∧ us.take (soOf l 0).n = (soOf l 0).L) ∧ Below w.heap.size w w' := by
  by_cases hx : La.checkN l = 0
  · refine (La.new_yes A n c l w h hf hx).mono ?_
    rintro e w' ⟨g, rfl, hg, hl, hb⟩
    have e1 : (soOf l 0).n = n := by unfold soOf; simp only [if_pos hx]; exact h.len
    have e2 : (soOf l 0).L = l := by unfold soOf; simp only [if_pos hx]
    refine ⟨_, 0, rfl, ⟨(fun h => by cases h), fun h => absurd hx h⟩, .inr ⟨g, _, _, rfl, by rw [e1]; exact hl, ?_⟩, hb⟩
    rw [e1, e2, ← h.len]
    exact La.pad_take l
  · refine (La.new_no A n c l w h hf _ rfl hx).mono ?_
    rintro e w' ⟨rfl, hb⟩
    refine ⟨none, _, rfl, ⟨fun _ => hx, fun _ => rfl⟩, .inl ⟨rfl, ?_, ?_⟩, hb⟩
    · unfold soOf; simp only [if_neg hx]
    · unfold soOf; simp only [if_neg hx]

theorem effNew_any (k : Int) (w : World) : Calls Try.prog 25 #[.int .i64 k] w fun e w' => ∃ (q : Option Addr) (x : Int), e = .returned (.tuple #[.pointer q, .int .i64 x]) ∧ (q = none ↔ ¬ (0 ≤ k ∧ k ≤ 64)) ∧ Ef.EffP w' q (soOf [] k).m (soOf [] k).t ∧ Below w.heap.size w w' := by
  by_cases hk : 0 ≤ k ∧ k ≤ 64
  · obtain ⟨y, rfl⟩ : ∃ y : Nat, k = (y : Int) := ⟨k.toNat, by omega⟩
    refine (Ef.new_yes y (by omega) w).mono ?_
    rintro e w' ⟨g, rfl, he, hb⟩
    refine ⟨_, 0, rfl, ⟨(fun h => by cases h), fun h => absurd hk h⟩, .inr ⟨g, rfl, ?_⟩, hb⟩
    unfold soOf
    simp only [if_pos hk, decide_eq_true hk, Int.toNat_natCast]
    exact he
  · refine (Ef.new_no k hk w).mono ?_
    rintro e w' ⟨rfl, rfl⟩
    refine ⟨none, 1, rfl, ⟨fun _ => hk, fun _ => rfl⟩, .inl ⟨rfl, ?_, ?_⟩, Below.refl _ _⟩
    · unfold soOf
      simp only [decide_eq_false hk]
    · unfold soOf
      simp only [if_neg hk]

set_option maxRecDepth 100000 in
set_option maxHeartbeats 1000000 in
theorem made_any (A : Option Addr) (n c : Nat) (l : List Nat) (k : Int) (w : World) (h : Rd La.nm w w.heap.size A n c l) (hf : La.Fit l) :
    Calls Try.prog 9 #[zV A n c k] w fun e w' => ∃ p q, e = .returned (.tuple #[.pointer p, .pointer q]) ∧ SoAt w' p q (soOf l k) ∧ (p = none ↔ La.checkN l ≠ 0) ∧ (q = none ↔ ¬ (0 ≤ k ∧ k ≤ 64)) ∧ Below w.heap.size w w' := by
  have hal : Below w.heap.size w (w.alloc (.cells #[.slice A n c, .int .i64 k] 25)) := (Below.refl _ _).alloc (Nat.le_refl _) _
  have h1 := h.at_size (Nat.le_refl _) hal
  have hc0 : (w.alloc (.cells #[.slice A n c, .int .i64 k] 25)).cell? ⟨w.heap.size, 1, none⟩ = some (.int .i64 k) := (cell_blk (i := 1) (heap_alloc_new w _)).trans rfl
  clear h
  go_enter Try.func9, Try.ntmps9
  go_wp2_with fail
  refine (latNew_any A n c l _ h1 hf).mono ?_
  rintro e w1 ⟨p, x, rfl, hp, hlat, hb⟩
  have hc1 := (hb.cell (p := ⟨w.heap.size, 1, none⟩) (World.block_lt_of_cell? _ _ hc0)).trans hc0
  have HP := Lib.hid hp
  have HLAT := Lib.hid hlat
  clear hp hlat hc0 h1
  go_wp2_with fail
  refine (effNew_any k _).mono ?_
  rintro e w2 ⟨q, y, rfl, hq, heff, hb2⟩
  have HQ := Lib.hid hq
  have HEFF := Lib.hid heff
  clear hq heff
  go_wp2_with fail
  refine bodyPost_ret (v := .tuple #[.pointer p, .pointer q]) (by simp [results, Try.results9, go_sem]) rfl ⟨p, q, rfl, ⟨?_, HEFF.out⟩, HP.out, HQ.out, hal.trans ((hb.trans (hb2.mono hb.size)).mono hal.size)⟩
  rcases HLAT.out with h | ⟨g, us, ds, e, h, e2⟩
  · exact .inl h
  · exact .inr ⟨g, us, ds, e, h.keep hb2, e2⟩

/-- Too great. -/
theorem great_any (A : Option Addr) (n c : Nat) (k : Int) (A1 : Option Addr) (n1 c1 : Nat) (A2 : Option Addr) (n2 c2 : Nat) (w : World) (r : Bool) (hr : r = (decide (64 < n) || (decide (200 < n1) || decide (200 < n2)))) :
    Calls Try.prog 8 #[zV A n c k, .slice A1 n1 c1, .slice A2 n2 c2] w fun e w' => e = .returned (.bool r) ∧ Below w.heap.size w w' := by
  have HR := Lib.hid hr
  clear hr
  have hal : Below w.heap.size w (w.alloc (.cells #[.slice A n c, .int .i64 k] 25)) := (Below.refl _ _).alloc (Nat.le_refl _) _
  by_cases h0 : 64 < n
  · have h0' : (64 : Int) < (n : Int) := by omega
    rw [decide_eq_true h0, Bool.true_or] at HR
    obtain rfl := HR.out
    clear h0
    go_enter Try.func8, Try.ntmps8
    go_wp2_with fail
    go_ret
    exact ⟨rfl, hal⟩
  have h0' : ¬ (64 : Int) < (n : Int) := by omega
  rw [decide_eq_false h0, Bool.false_or] at HR
  clear h0
  by_cases h1 : 200 < n1
  · have h1' : (200 : Int) < (n1 : Int) := by omega
    rw [decide_eq_true h1, Bool.true_or] at HR
    obtain rfl := HR.out
    clear h1
    go_enter Try.func8, Try.ntmps8
    go_wp2_with fail
    go_ret
    exact ⟨rfl, hal⟩
  have h1' : ¬ (200 : Int) < (n1 : Int) := by omega
  rw [decide_eq_false h1, Bool.false_or] at HR
  clear h1
  by_cases h2 : 200 < n2
  · have h2' : (200 : Int) < (n2 : Int) := by omega
    rw [decide_eq_true h2] at HR
    obtain rfl := HR.out
    clear h2
    go_enter Try.func8, Try.ntmps8
    go_wp2_with fail
    go_ret
    exact ⟨rfl, hal⟩
  have h2' : ¬ (200 : Int) < (n2 : Int) := by omega
  rw [decide_eq_false h2] at HR
  obtain rfl := HR.out
  clear h2
  go_enter Try.func8, Try.ntmps8
  go_wp2_with fail
  go_ret
  exact ⟨rfl, hal⟩

/-! ### What follows -/
/-- Labels that are an order, effects that are sets. -/
structure So.Ok (S : So) : Prop where
  len : S.L.length = S.n
  ord : S.n = 0 ∨ La.LatOK S.L
theorem soOk (l : List Nat) (k : Int) : (soOf l k).Ok := by
  by_cases h : La.checkN l = 0
  · refine ⟨?_, .inr ?_⟩
    · unfold soOf
      simp only [if_pos h]
    · unfold soOf
      simp only [if_pos h]
      exact La.latOK_of h
  · refine ⟨?_, .inl ?_⟩
    · unfold soOf
      simp only [if_neg h]
      rfl
    · unfold soOf
      simp only [if_neg h]

section
variable {S : So} (h : S.Ok)
include h
theorem r1_bt {a b : Nat} (ha : S.h1 a = true) (hb : S.h1 b = true) : La.LatOK S.L ∧ a < S.L.length ∧ b < S.L.length ∧ S.r1 a b = La.bt S.L a b := by
  unfold So.h1 at ha hb
  rw [decide_eq_true_eq] at ha hb
  rcases h.ord with h0 | ho
  · omega
  · have h1 : a < S.L.length := by rw [h.len]; exact ha
    have h2 : b < S.L.length := by rw [h.len]; exact hb
    exact ⟨ho, h1, h2, La.belowB_bt ho.known.1.2 h1 h2⟩
theorem r1_refl {a : Nat} (ha : S.h1 a = true) : S.r1 a a = true := by
  obtain ⟨ho, h1, _, e⟩ := r1_bt h ha ha
  rw [e]
  exact ho.ord.refl a h1
theorem r1_trans {a b c : Nat} (ha : S.h1 a = true) (hb : S.h1 b = true) (hc : S.h1 c = true) (h1 : S.r1 a b = true) (h2 : S.r1 b c = true) : S.r1 a c = true := by
  obtain ⟨ho, ka, kb, e⟩ := r1_bt h ha hb
  obtain ⟨_, _, kc, e2⟩ := r1_bt h hb hc
  obtain ⟨_, _, _, e3⟩ := r1_bt h ha hc
  rw [e] at h1
  rw [e2] at h2
  rw [e3]
  exact ho.ord.on _ _ _ ka kb kc h1 h2
theorem r1_anti {a b : Nat} (ha : S.h1 a = true) (hb : S.h1 b = true) (h1 : S.r1 a b = true) (h2 : S.r1 b a = true) : a = b := by
  obtain ⟨ho, ka, kb, e⟩ := r1_bt h ha hb
  obtain ⟨_, _, _, e2⟩ := r1_bt h hb ha
  rw [e] at h1
  rw [e2] at h2
  exact ho.ord.anti _ _ ka kb h1 h2
end

section
variable {S : So}
theorem h2_iff (a : Nat) : S.h2 a = true ↔ S.m = true ∧ Ef.Sub a S.t := by
  unfold So.h2 Ef.hasE
  rw [Bool.and_eq_true, Ef.subB_iff]
theorem r2_iff (a b : Nat) : S.r2 a b = true ↔ S.h2 a = true ∧ S.h2 b = true ∧ Ef.Sub a b := by
  unfold So.r2 Ef.belowE Ef.bothE
  rw [h2_iff, h2_iff, Bool.and_eq_true, Bool.and_eq_true, Bool.and_eq_true, Ef.subB_iff, Ef.subB_iff, Ef.subB_iff]
  constructor
  · rintro ⟨⟨h1, h2, h3⟩, h4⟩
    exact ⟨⟨h1, h2⟩, ⟨h1, h3⟩, h4⟩
  · rintro ⟨⟨h1, h2⟩, ⟨_, h3⟩, h4⟩
    exact ⟨⟨h1, h2, h3⟩, h4⟩
theorem r2_refl {a : Nat} (ha : S.h2 a = true) : S.r2 a a = true := (r2_iff a a).2 ⟨ha, ha, fun _ h => h⟩
theorem r2_trans {a b c : Nat} (h1 : S.r2 a b = true) (h2 : S.r2 b c = true) : S.r2 a c = true := by
  obtain ⟨a1, _, a3⟩ := (r2_iff a b).1 h1
  obtain ⟨_, b2, b3⟩ := (r2_iff b c).1 h2
  exact (r2_iff a c).2 ⟨a1, b2, fun i hi => b3 i (a3 i hi)⟩
theorem r2_anti {a b : Nat} (h1 : S.r2 a b = true) (h2 : S.r2 b a = true) : a = b := by
  obtain ⟨_, _, a3⟩ := (r2_iff a b).1 h1
  obtain ⟨_, _, b3⟩ := (r2_iff b a).1 h2
  refine Nat.eq_of_testBit_eq fun i => ?_
  cases ha : a.testBit i with
  | true => rw [a3 i ha]
  | false =>
    cases hb : b.testBit i with
    | true => rw [b3 i hb] at ha; cases ha
    | false => rfl
end
end Go.Proofs.Ytlcbcggcmmlfdaa

/- One type below another one: what follows. No condition. -/
namespace Go.Proofs.Ytlcbcggcmmlfdaa

theorem holdB_iff {ls ms : List Sp} {R : Nat → Nat → Bool} : holdB ls ms R = true ↔ ∀ k (h : k < ls.length) (h' : k < ms.length), mustB ls[k].s R ls[k].z.toNat ms[k].z.toNat = true := by
  unfold holdB
  rw [List.all_eq_true]
  constructor
  · intro h k h1 h2
    have hz : k < (ls.zip ms).length := by rw [List.length_zip]; omega
    have := h _ (List.getElem_mem hz)
    rw [List.getElem_zip] at this
    exact this
  · intro h x hx
    obtain ⟨k, hk, e⟩ := List.mem_iff_getElem.1 hx
    rw [List.length_zip] at hk
    rw [List.getElem_zip] at e
    subst e
    exact h k (by omega) (by omega)

section
variable {R : Nat → Nat → Bool}
theorem must_refl {s a : Nat} (h : R a a = true) : mustB s R a a = true := by
  unfold mustB
  split
  · exact h
  split
  · exact h
  · simp
theorem must_trans {s a b c : Nat} (h1 : R a b = true → R b c = true → R a c = true) (h2 : R c b = true → R b a = true → R c a = true) (k1 : mustB s R a b = true) (k2 : mustB s R b c = true) : mustB s R a c = true := by
  unfold mustB at *
  by_cases h0 : s = 0
  · rw [if_pos h0] at *
    exact h1 k1 k2
  by_cases h3 : s = 1
  · rw [if_neg h0, if_pos h3] at *
    exact h2 k2 k1
  · rw [if_neg h0, if_neg h3] at *
    simp only [decide_eq_true_eq] at *
    omega
theorem must_anti {s a b : Nat} (h : R a b = true → R b a = true → a = b) (k1 : mustB s R a b = true) (k2 : mustB s R b a = true) : a = b := by
  unfold mustB at *
  by_cases h0 : s = 0
  · rw [if_pos h0] at *
    exact h k1 k2
  by_cases h3 : s = 1
  · rw [if_neg h0, if_pos h3] at *
    exact h k2 k1
  · rw [if_neg h0, if_neg h3] at *
    simp only [decide_eq_true_eq] at *
    exact k1
end

theorem valB_at {H : Nat → Bool} {l : List Sp} (h : valB H l = true) (k : Nat) (hk : k < l.length) : l[k].v = false ∧ H l[k].z.toNat = true := by
  have := List.all_eq_true.1 h _ (List.getElem_mem hk)
  unfold okS at this
  rw [Bool.and_eq_true, Bool.not_eq_true'] at this
  exact this

/-! ### Errors -/
section
variable (S : So)
theorem grE_zero {a b : List Nd} : grE S a b = 0 ↔ checkB a = 0 ∧ checkB b = 0 ∧ S.vals a = true ∧ S.vals b = true := by
  unfold grE
  by_cases h : checkB a = 0 ∧ checkB b = 0
  · rw [if_pos h]
    by_cases k : (S.vals a && S.vals b) = true
    · rw [if_pos k]
      rw [Bool.and_eq_true] at k
      exact Iff.intro (fun _ => ⟨h.1, h.2, k.1, k.2⟩) (fun _ => rfl)
    · rw [if_neg k]
      rw [Bool.and_eq_true] at k
      exact Iff.intro (fun h => absurd h (by decide)) (fun h => absurd ⟨h.2.2.1, h.2.2.2⟩ k)
  · rw [if_neg h]
    exact Iff.intro (fun h => absurd h (by decide)) (fun k => absurd ⟨k.1, k.2.1⟩ h)
theorem grE_comm (a b : List Nd) : grE S a b = grE S b a := by
  unfold grE
  rw [Bool.and_comm (S.vals b)]
  by_cases h : checkB a = 0 ∧ checkB b = 0
  · rw [if_pos h, if_pos (show checkB b = 0 ∧ checkB a = 0 from ⟨h.2, h.1⟩)]
  · rw [if_neg h, if_neg (show ¬ (checkB b = 0 ∧ checkB a = 0) from fun k => h ⟨k.2, k.1⟩)]
theorem grB_zero {a b : List Nd} (h : grE S a b ≠ 0) : grB S a b = false := by
  unfold grB
  rw [decide_eq_false h, Bool.false_and]
theorem grB_iff {a b : List Nd} (h : grE S a b = 0) : grB S a b = (sameB a b && grH S a b) := by
  unfold grB
  rw [decide_eq_true h, Bool.true_and]
theorem vals_l {a : List Nd} (h : S.vals a = true) : valB S.h1 (labB a) = true ∧ valB S.h2 (effB a) = true := by
  unfold So.vals at h
  rwa [Bool.and_eq_true] at h
end

theorem sameB_refl (a : List Nd) : sameB a a = true := (same_iff a a).2 ⟨rfl, fun j _ _ => by simp [alikeB]⟩
theorem sameB_symm {a b : List Nd} (h : sameB a b = true) : sameB b a = true := by
  obtain ⟨h1, h2⟩ := (same_iff a b).1 h
  refine (same_iff b a).2 ⟨h1.symm, fun j k1 k2 => ?_⟩
  have := h2 j k2 k1
  unfold alikeB at *
  simp only [Bool.and_eq_true, decide_eq_true_eq] at *
  exact ⟨this.1.symm, this.2.1.symm, this.2.2.1.symm, this.2.2.2.symm⟩
theorem sameB_comm (a b : List Nd) : sameB a b = sameB b a := by
  cases h : sameB a b with
  | true => exact (sameB_symm h).symm
  | false =>
    cases k : sameB b a with
    | true => rw [sameB_symm k] at h; cases h
    | false => rfl

/-! ### Itself -/
theorem gr_self {S : So} (hS : S.Ok) {a : List Nd} (h : grE S a a = 0) : grB S a a = true := by
  obtain ⟨h1, _, h2, _⟩ := (grE_zero S).1 h
  obtain ⟨v1, v2⟩ := vals_l S h2
  rw [grB_iff S h, sameB_refl, Bool.true_and]
  unfold grH
  rw [Bool.and_eq_true]
  refine ⟨holdB_iff.2 fun k hk _ => must_refl (r1_refl hS (valB_at v1 k hk).2), holdB_iff.2 fun k hk _ => must_refl (r2_refl (valB_at v2 k hk).2)⟩
theorem gr_self_no {S : So} {a b : List Nd} (h : grE S a a ≠ 0) : grE S a b ≠ 0 := fun k => by
  obtain ⟨h1, _, h2, _⟩ := (grE_zero S).1 k
  exact h ((grE_zero S).2 ⟨h1, h1, h2, h2⟩)

/-! ### Spots of bodies that are the same but for their terms -/
theorem labS_side {x y : Nd} (h : Alk x y) (k s : Nat) : (labS k x s).map Sp.s = (labS k y s).map Sp.s := by
  unfold labS
  rw [h.k]
  split <;> rfl
theorem effS_side {x y : Nd} (h : Alk x y) (k s : Nat) : (effS k x s).map Sp.s = (effS k y s).map Sp.s := by
  unfold effS
  rw [h.k]
  split <;> rfl
theorem lab_side : ∀ {a b : List Nd}, Alks a b → ∀ k ss, (lab k a ss).map Sp.s = (lab k b ss).map Sp.s
  | _, _, .nil, _, _ => rfl
  | _, _, .cons _ _, _, [] => rfl
  | _, _, .cons h t, k, s :: ss => by
    simp only [lab, List.map_append]
    rw [labS_side h, lab_side t]
theorem eff_side : ∀ {a b : List Nd}, Alks a b → ∀ k ss, (eff k a ss).map Sp.s = (eff k b ss).map Sp.s
  | _, _, .nil, _, _ => rfl
  | _, _, .cons _ _, _, [] => rfl
  | _, _, .cons h t, k, s :: ss => by
    simp only [eff, List.map_append]
    rw [effS_side h, eff_side t]
theorem labB_side {a b : List Nd} (h : Alks a b) (ha : checkB a = 0) (hb : checkB b = 0) : (labB a).map Sp.s = (labB b).map Sp.s ∧ (effB a).map Sp.s = (effB b).map Sp.s := by
  unfold labB effB
  rw [if_pos ha, if_pos hb, if_pos ha, if_pos hb, h.sds]
  exact ⟨lab_side h _ _, eff_side h _ _⟩
theorem side_at_k {l m : List Sp} (h : l.map Sp.s = m.map Sp.s) {k : Nat} (h1 : k < l.length) (h2 : k < m.length) : l[k].s = m[k].s := by
  have e1 : (l.map Sp.s)[k]? = some l[k].s := by rw [List.getElem?_map, List.getElem?_eq_getElem h1, Option.map_some]
  have e2 : (m.map Sp.s)[k]? = some m[k].s := by rw [List.getElem?_map, List.getElem?_eq_getElem h2, Option.map_some]
  rw [h, e2] at e1
  injection e1 with e1
  exact e1.symm

theorem hold_trans {R : Nat → Nat → Bool} {H : Nat → Bool} {la lb lc : List Sp} (hR : ∀ x y z, H x = true → H y = true → H z = true → R x y = true → R y z = true → R x z = true)
    (e1 : la.map Sp.s = lb.map Sp.s) (e2 : lb.map Sp.s = lc.map Sp.s) (va : valB H la = true) (vb : valB H lb = true) (vc : valB H lc = true) (h1 : holdB la lb R = true) (h2 : holdB lb lc R = true) : holdB la lc R = true := by
  have n1 : la.length = lb.length := by have := congrArg List.length e1; simpa using this
  have n2 : lb.length = lc.length := by have := congrArg List.length e2; simpa using this
  refine holdB_iff.2 fun k h k' => ?_
  have hb : k < lb.length := by omega
  have g1 := holdB_iff.1 h1 k h hb
  have g2 := holdB_iff.1 h2 k hb k'
  rw [← side_at_k e1 h hb] at g2
  exact must_trans (hR _ _ _ (valB_at va k h).2 (valB_at vb k hb).2 (valB_at vc k k').2) (hR _ _ _ (valB_at vc k k').2 (valB_at vb k hb).2 (valB_at va k h).2) g1 g2
theorem hold_anti {R : Nat → Nat → Bool} {H : Nat → Bool} {la lb : List Sp} (hR : ∀ x y, H x = true → H y = true → R x y = true → R y x = true → x = y)
    (e1 : la.map Sp.s = lb.map Sp.s) (va : valB H la = true) (vb : valB H lb = true) (ua : ∀ p ∈ la, U64 p.z) (ub : ∀ p ∈ lb, U64 p.z) (h1 : holdB la lb R = true) (h2 : holdB lb la R = true) : la.map Sp.t = lb.map Sp.t := by
  have n1 : la.length = lb.length := by have := congrArg List.length e1; simpa using this
  refine List.ext_getElem (by simpa using n1) fun k h k' => ?_
  rw [List.length_map] at h k'
  have g1 := holdB_iff.1 h1 k h k'
  have g2 := holdB_iff.1 h2 k k' h
  rw [← side_at_k e1 h k'] at g2
  have := must_anti (hR _ _ (valB_at va k h).2 (valB_at vb k k').2) g1 g2
  have w1 := (ua _ (List.getElem_mem h)).lo
  have w2 := (ub _ (List.getElem_mem k')).lo
  rw [List.getElem_map, List.getElem_map]
  unfold Sp.t
  rw [(valB_at va k h).1, (valB_at vb k k').1]
  congr 1
  omega

theorem gr_trans {S : So} (hS : S.Ok) {a b c : List Nd} (e1 : grE S a b = 0) (e2 : grE S b c = 0) (h1 : grB S a b = true) (h2 : grB S b c = true) : grB S a c = true := by
  obtain ⟨ca, cb, ka, kb⟩ := (grE_zero S).1 e1
  obtain ⟨_, cc, _, kc⟩ := (grE_zero S).1 e2
  rw [grB_iff S e1, Bool.and_eq_true] at h1
  rw [grB_iff S e2, Bool.and_eq_true] at h2
  rw [grB_iff S ((grE_zero S).2 ⟨ca, cc, ka, kc⟩), Bool.and_eq_true]
  obtain ⟨va, wa⟩ := vals_l S ka
  obtain ⟨vb, wb⟩ := vals_l S kb
  obtain ⟨vc, wc⟩ := vals_l S kc
  have s1 := same_alks h1.1 ca cb
  have s2 := same_alks h2.1 cb cc
  have s3 := s1.trans s2
  refine ⟨same_alk s3.len s3.get, ?_⟩
  have g1 := h1.2
  have g2 := h2.2
  unfold grH at *
  rw [Bool.and_eq_true] at *
  exact ⟨hold_trans (fun x y z => r1_trans hS) (labB_side s1 ca cb).1 (labB_side s2 cb cc).1 va vb vc g1.1 g2.1, hold_trans (fun x y z _ _ _ => r2_trans) (labB_side s1 ca cb).2 (labB_side s2 cb cc).2 wa wb wc g1.2 g2.2⟩

theorem may_still {x : Nd} (h : x.may = true) (h5 : x.k ≠ 5) : x.pv = false ∧ x.pn = 0 ∧ x.ev = false ∧ x.en = 0 := by
  have hs : x.still = true := by
    unfold Nd.may at h
    by_cases h1 : x.k = 1
    · rw [if_pos h1] at h
      simp only [Bool.and_eq_true] at h
      exact h.2
    rw [if_neg h1] at h
    by_cases h2 : x.k = 2
    · rw [if_pos h2] at h
      simp only [Bool.and_eq_true] at h
      exact h.2
    rw [if_neg h2] at h
    by_cases h3 : x.k = 3
    · rw [if_pos h3] at h
      simp only [Bool.and_eq_true] at h
      exact h.2
    rw [if_neg h3] at h
    by_cases h4 : x.k = 4
    · rw [if_pos h4] at h
      simp only [Bool.and_eq_true] at h
      exact h.2
    rw [if_neg h4, if_neg h5] at h
    cases h
  unfold Nd.still at hs
  simp only [Bool.and_eq_true, Bool.not_eq_true', decide_eq_true_eq] at hs
  exact ⟨hs.1.1, hs.1.2, hs.2.1, hs.2.2⟩

theorem terms_eq : ∀ {a b : List Nd}, Alks a b → (∀ x ∈ a, x.may = true) → (∀ x ∈ b, x.may = true) → ∀ k ss, ss.length = a.length → (lab k a ss).map Sp.t = (lab k b ss).map Sp.t → (eff k a ss).map Sp.t = (eff k b ss).map Sp.t → a = b
  | _, _, .nil, _, _, _, _, _, _, _ => rfl
  | _, _, .cons _ _, _, _, _, [], h, _, _ => by simp at h
  | _, _, .cons (x := x) (y := y) h t, ma, mb, k, s :: ss, hl, e1, e2 => by
    simp only [lab, eff, List.map_append] at e1 e2
    have hx := ma x List.mem_cons_self
    have hy := mb y List.mem_cons_self
    have n1 : ((labS k x s).map Sp.t).length = ((labS k y s).map Sp.t).length := by rw [List.length_map, List.length_map, labS_alk h]
    have n2 : ((effS k x s).map Sp.t).length = ((effS k y s).map Sp.t).length := by rw [List.length_map, List.length_map, effS_alk h]
    obtain ⟨f1, f2⟩ := List.append_inj e1 n1
    obtain ⟨g1, g2⟩ := List.append_inj e2 n2
    have ht := terms_eq t (fun z hz => ma z (List.mem_cons_of_mem _ hz)) (fun z hz => mb z (List.mem_cons_of_mem _ hz)) (k + 1) ss (by simpa using hl) f2 g2
    have hk := h.k
    have hm := h.m
    have hs := h.s
    have hn := h.n
    obtain ⟨xk, xm, xs, xn, xlv, xln, xpv, xpn, xev, xen⟩ := x
    obtain ⟨yk, ym, ys, yn, ylv, yln, ypv, ypn, yev, yen⟩ := y
    simp only at hk hm hs hn
    subst hk hm hs hn ht
    by_cases h5 : xk = 5
    · simp [labS, effS, h5, Sp.t] at f1 g1
      obtain ⟨⟨rfl, rfl⟩, rfl, rfl⟩ := f1
      obtain ⟨rfl, rfl⟩ := g1
      rfl
    · simp [labS, h5, Sp.t] at f1
      obtain ⟨rfl, rfl⟩ := f1
      obtain ⟨p1, p2, p3, p4⟩ := may_still hx h5
      obtain ⟨q1, q2, q3, q4⟩ := may_still hy h5
      simp only at p1 p2 p3 p4 q1 q2 q3 q4
      subst p1 p2 p3 p4 q1 q2 q3 q4
      rfl

theorem gr_anti {S : So} (hS : S.Ok) {a b : List Nd} (t1 : ∀ x ∈ a, x.TFits) (t2 : ∀ x ∈ b, x.TFits) (e1 : grE S a b = 0) (h1 : grB S a b = true) (h2 : grB S b a = true) : a = b := by
  obtain ⟨ca, cb, ka, kb⟩ := (grE_zero S).1 e1
  rw [grB_iff S e1, Bool.and_eq_true] at h1
  rw [grB_iff S (by rw [grE_comm]; exact e1), Bool.and_eq_true] at h2
  obtain ⟨va, wa⟩ := vals_l S ka
  obtain ⟨vb, wb⟩ := vals_l S kb
  have s1 := same_alks h1.1 ca cb
  have g1 := h1.2
  have g2 := h2.2
  unfold grH at g1 g2
  rw [Bool.and_eq_true] at g1 g2
  have k1 := hold_anti (fun x y => r1_anti hS) (labB_side s1 ca cb).1 va vb (labB_u64 t1) (labB_u64 t2) g1.1 g2.1
  have k2 := hold_anti (fun x y _ _ => r2_anti) (labB_side s1 ca cb).2 wa wb (effB_u64 t1) (effB_u64 t2) g1.2 g2.2
  unfold labB at k1
  unfold effB at k2
  rw [if_pos ca, if_pos cb, ← s1.sds] at k1 k2
  exact terms_eq s1 (body_may ca) (body_may cb) 0 _ (sides_len ca) k1 k2

end Go.Proofs.Ytlcbcggcmmlfdaa
