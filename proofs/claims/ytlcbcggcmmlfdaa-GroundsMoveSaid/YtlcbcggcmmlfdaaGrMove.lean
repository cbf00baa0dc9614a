/- With another value at one spot: what follows; a term of a row of one's own is set anew. No condition. -/
import Derived.Test.YtlcbcggcmmlfdaaGround
import Derived.Test.YtlcbcggcmmlfdaaSpBack
namespace Go.Proofs.Ytlcbcggcmmlfdaa
open Go.RowKit

theorem re_self (p : Sp) : p.re p.t = p := rfl
theorem zip_self : ∀ ls : List Sp, List.zipWith Sp.re ls (ls.map Sp.t) = ls
  | [] => rfl
  | p :: ls => by
    rw [List.map_cons, List.zipWith_cons_cons, re_self, zip_self ls]
theorem zip_set : ∀ (ls : List Sp) (k : Nat) (t : Tm), (h : k < ls.length) → List.zipWith Sp.re ls ((ls.map Sp.t).set k t) = ls.set k (ls[k].re t)
  | [], _, _, h => by simp at h
  | p :: ls, 0, t, _ => by
    simp only [List.map_cons, List.set_cons_zero, List.zipWith_cons_cons, List.getElem_cons_zero]
    rw [zip_self ls]
  | p :: ls, k + 1, t, h => by
    simp only [List.map_cons, List.set_cons_succ, List.zipWith_cons_cons, List.getElem_cons_succ]
    rw [zip_set ls k t (by simpa using h)]
    rfl

theorem val_set {H : Nat → Bool} {l : List Sp} {k : Nat} {q : Sp} (h : valB H l = true) (hq : okS H q = true) : valB H (l.set k q) = true := by
  refine List.all_eq_true.2 fun x hx => ?_
  rcases List.mem_or_eq_of_mem_set hx with h1 | h1
  · exact List.all_eq_true.1 h x h1
  · rw [h1]; exact hq

section
variable {R : Nat → Nat → Bool} {l : List Sp} {k : Nat} {q : Sp}
theorem hold_set_l (hk : k < l.length) (hr : ∀ p ∈ l, R p.z.toNat p.z.toNat = true) : holdB l (l.set k q) R = mustB l[k].s R l[k].z.toNat q.z.toNat := by
  refine Bool.eq_iff_iff.2 ?_
  rw [holdB_iff]
  constructor
  · intro h
    have := h k hk (by simpa using hk)
    simpa using this
  · intro h j h1 h2
    by_cases e : k = j
    · subst e
      simpa using h
    · rw [List.getElem_set_ne e]
      exact must_refl (hr _ (List.getElem_mem h1))
theorem hold_set_r (hk : k < l.length) (hr : ∀ p ∈ l, R p.z.toNat p.z.toNat = true) : holdB (l.set k q) l R = mustB q.s R q.z.toNat l[k].z.toNat := by
  refine Bool.eq_iff_iff.2 ?_
  rw [holdB_iff]
  constructor
  · intro h
    have := h k (by simpa using hk) hk
    simpa using this
  · intro h j h1 h2
    by_cases e : k = j
    · subst e
      simpa using h
    · rw [List.getElem_set_ne e]
      exact must_refl (hr _ (List.getElem_mem h2))
end

/-- The terms of a body's spots, with another one at one of them. -/
def mvT (l : List Nd) (k : Nat) (v : Int) : List Tm := ((labB l).map Sp.t).set k (false, v)
def mvB (l : List Nd) (k : Nat) (v : Int) : List Nd := putB l (mvT l k v) ((effB l).map Sp.t)

theorem mvT_len (l : List Nd) (k : Nat) (v : Int) : (mvT l k v).length = (labB l).length := by simp [mvT]

section
variable {l : List Nd} (hc : checkB l = 0) {k : Nat} (hk : k < (labB l).length) (v : Int)
include hc
theorem mv_check : checkB (mvB l k v) = 0 := by
  unfold mvB
  rw [putB_check]
  exact hc
theorem mv_eff : effB (mvB l k v) = effB l := by
  unfold mvB
  rw [putB_eff hc (by simp), zip_self]
theorem mv_put : putR l (mvT l k v) ((effB l).map Sp.t) = 0 ∧ putV l (mvT l k v) ((effB l).map Sp.t) = mvB l k v := by
  have h : putR l (mvT l k v) ((effB l).map Sp.t) = 0 := by
    unfold putR
    rw [if_neg (fun h => h hc), if_pos ⟨mvT_len l k v, by simp⟩]
  refine ⟨h, ?_⟩
  unfold putV
  rw [if_pos h]
  rfl
include hk
theorem mv_lab : labB (mvB l k v) = (labB l).set k ((labB l)[k].re (false, v)) := by
  unfold mvB
  rw [putB_lab hc (mvT_len l k v)]
  exact zip_set _ _ _ hk
theorem mv_facts {S : So} (hS : S.Ok) (he : grE S l l = 0) (h1 : S.h1 v.toNat = true) :
    grE S l (mvB l k v) = 0 ∧ grB S l (mvB l k v) = mustB (labB l)[k].s S.r1 (labB l)[k].z.toNat v.toNat ∧ grB S (mvB l k v) l = mustB (labB l)[k].s S.r1 v.toNat (labB l)[k].z.toNat := by
  obtain ⟨_, _, kv, _⟩ := (grE_zero S).1 he
  obtain ⟨v1, v2⟩ := vals_l S kv
  have e1 := mv_lab hc hk v
  have e2 := mv_eff (k := k) hc v
  have hz : grE S l (mvB l k v) = 0 := by
    refine (grE_zero S).2 ⟨hc, mv_check hc v, kv, ?_⟩
    unfold So.vals
    rw [e1, e2, v2, Bool.and_true]
    exact val_set v1 (by show (!false && S.h1 v.toNat) = true; rw [h1]; rfl)
  have hz' : grE S (mvB l k v) l = 0 := (grE_comm S _ _).trans hz
  have hs : sameB l (mvB l k v) = true := putB_same l _ _
  have hr1 : ∀ p ∈ labB l, S.r1 p.z.toNat p.z.toNat = true := fun p hp => by
    obtain ⟨j, hj, rfl⟩ := List.mem_iff_getElem.1 hp
    exact r1_refl hS (valB_at v1 j hj).2
  have hr2 : ∀ p ∈ effB l, S.r2 p.z.toNat p.z.toNat = true := fun p hp => by
    obtain ⟨j, hj, rfl⟩ := List.mem_iff_getElem.1 hp
    exact r2_refl (valB_at v2 j hj).2
  have h2 : holdB (effB l) (effB l) S.r2 = true := holdB_iff.2 fun j hj _ => must_refl (hr2 _ (List.getElem_mem hj))
  refine ⟨hz, ?_, ?_⟩
  · rw [grB_iff S hz, hs, Bool.true_and]
    unfold grH
    rw [e1, e2, h2, Bool.and_true, hold_set_l hk hr1]
    rfl
  · rw [grB_iff S hz', sameB_symm hs, Bool.true_and]
    unfold grH
    rw [e1, e2, h2, Bool.and_true, hold_set_r hk hr1]
    rfl
end

theorem tfits_put {x : Nd} (h : x.TFits) (p : Nat) {t : Tm} (ht : U64 t.2) : (x.put p t).TFits := by
  unfold Nd.put
  split
  · exact ⟨ht, h.p, h.e⟩
  split
  · exact ⟨h.l, ht, h.e⟩
  · exact ⟨h.l, h.p, ht⟩
theorem tfits_putL : ∀ (l : List Nd) (ts : List Tm), (∀ x ∈ l, x.TFits) → (∀ t ∈ ts, U64 t.2) → ∀ x ∈ putL l ts, x.TFits
  | [], _, _, _ => by simp [putL]
  | x :: l, [], h, _ => h
  | x :: l, t :: ts, h, ht => by
    have hx := h x List.mem_cons_self
    have hl : ∀ y ∈ l, y.TFits := fun y hy => h y (List.mem_cons_of_mem _ hy)
    have h0 := ht t List.mem_cons_self
    unfold putL
    split
    · split
      · intro y hy
        rcases List.mem_cons.1 hy with rfl | hy
        · exact tfits_put hx 0 h0
        · exact hl y hy
      · rename_i u us
        intro y hy
        rcases List.mem_cons.1 hy with rfl | hy
        · exact tfits_put (tfits_put hx 0 h0) 1 (ht u (by simp))
        · exact tfits_putL l us hl (fun z hz => ht z (by simp [hz])) y hy
    · intro y hy
      rcases List.mem_cons.1 hy with rfl | hy
      · exact tfits_put hx 0 h0
      · exact tfits_putL l ts hl (fun z hz => ht z (List.mem_cons_of_mem _ hz)) y hy
theorem tfits_putE : ∀ (l : List Nd) (ts : List Tm), (∀ x ∈ l, x.TFits) → (∀ t ∈ ts, U64 t.2) → ∀ x ∈ putE l ts, x.TFits
  | [], _, _, _ => by simp [putE]
  | x :: l, ts, h, ht => by
    have hx := h x List.mem_cons_self
    have hl : ∀ y ∈ l, y.TFits := fun y hy => h y (List.mem_cons_of_mem _ hy)
    unfold putE
    split
    · split
      · exact h
      · rename_i u us
        intro y hy
        rcases List.mem_cons.1 hy with rfl | hy
        · exact tfits_put hx 2 (ht u List.mem_cons_self)
        · exact tfits_putE l us hl (fun z hz => ht z (List.mem_cons_of_mem _ hz)) y hy
    · intro y hy
      rcases List.mem_cons.1 hy with rfl | hy
      · exact hx
      · exact tfits_putE l ts hl ht y hy
theorem mv_tfits {l : List Nd} (h : ∀ x ∈ l, x.TFits) (k : Nat) {v : Int} (hv : U64 v) : ∀ x ∈ mvB l k v, x.TFits := by
  unfold mvB putB
  refine tfits_putE _ _ (tfits_putL _ _ h fun t ht => ?_) fun t ht => ?_
  · rcases List.mem_or_eq_of_mem_set ht with h1 | h1
    · obtain ⟨p, hp, rfl⟩ := List.mem_map.1 h1
      exact labB_u64 h p hp
    · rw [h1]; exact hv
  · obtain ⟨p, hp, rfl⟩ := List.mem_map.1 ht
    exact effB_u64 h p hp
theorem mv_fits {l : List Nd} (h : ∀ x ∈ l, x.Fits) (k : Nat) (v : Int) : ∀ x ∈ mvB l k v, x.Fits := fits_putB _ _ h

/-- What the two methods tell. -/
theorem so_has {p q : Option Addr} {S : So} (x : Nat) (r : Bool) (W : World) (h : SoAt W p q S) (e : S.h1 x = r) : Calls Try.prog 21 #[.pointer p, .int .u64 (x : Int)] W fun e w' => e = .returned (.bool r) ∧ Below W.heap.size W w' := by
  subst e
  rcases h.lat with ⟨rfl, hn, _⟩ | ⟨g, us, ds, rfl, h, _⟩
  · have : S.h1 x = false := by unfold So.h1; rw [hn]; rfl
    rw [this]
    exact (La.hasL_nil x W).mono fun e w' ⟨he, hw⟩ => ⟨he, hw ▸ Below.refl _ _⟩
  · exact (La.hasL_any g S.n us ds x W h).mono fun e w' ⟨he, hw⟩ => ⟨he, hw ▸ Below.refl _ _⟩
theorem so_bel {p q : Option Addr} {S : So} (x y : Nat) (r : Bool) (W : World) (h : SoAt W p q S) (hx : x < 18446744073709551616) (hy : y < 18446744073709551616) (e : S.r1 x y = r) : Calls Try.prog 23 #[.pointer p, .int .u64 (x : Int), .int .u64 (y : Int)] W fun e w' => e = .returned (.bool r) ∧ Below W.heap.size W w' := by
  subst e
  rcases h.lat with ⟨rfl, _, hL⟩ | ⟨g, us, ds, rfl, h, hL⟩
  · have : S.r1 x y = false := by unfold So.r1; rw [hL]; exact La.belowB_no (by simp)
    rw [this]
    exact (La.belowL_nil x y W).mono fun e w' ⟨he, hw⟩ => ⟨he, hw.below⟩
  · refine (La.belowL_any g S.n us ds x y W h hx hy).mono fun e w' ⟨he, hw⟩ => ⟨?_, hw.below⟩
    rw [he, hL]
    rfl

/-! ### A row of terms of one's own -/
theorem own_term {w : World} {base n c : Nat} {A : Option Addr} {l : List Tm} (h : w.ownsRow base 54 2 (.slice A n c) n (l.flatMap tmc)) {k : Nat} (hk : k < l.length) :
    ∃ g, A = some ⟨g, 0, none⟩ ∧ base ≤ g ∧ g < w.heap.size ∧ (∀ i u, (tmc l[k])[i]? = some u → w.cell? ⟨g, k * 2 + i, none⟩ = some u) ∧ ∀ i, w.frozen? ⟨g, i, none⟩ = false := by
  rcases h.2 with ⟨hv, hn⟩ | ⟨g, cap, cur, hv, hb, hg, hnc, hcm, hcs, htake⟩
  · have := rs_own_len tmc_len (by decide) h
    omega
  · injection hv with h1 h2 h3
    subst h1
    refine ⟨g, rfl, hb, lt_blk hg, fun i u hu => ?_, fun i => frozen_blk hg⟩
    have hi : i < 2 := by
      have := (List.getElem?_eq_some_iff.1 hu).1
      rwa [tmc_len] at this
    have := h.cells (g := g) rfl (k * 2 + i) u (by rw [flat_get tmc_len l k hk i hi]; exact hu)
    rwa [Addr.add_lit, Nat.zero_add] at this
theorem own_term_set {w : World} {base g n c : Nat} {l : List Tm} (h : w.ownsRow base 54 2 (.slice (some ⟨g, 0, none⟩) n c) n (l.flatMap tmc)) {k : Nat} (hk : k < l.length) (t : Tm) :
    ((w.setCell ⟨g, k * 2, none⟩ (.bool t.1)).setCell ⟨g, k * 2 + 1, none⟩ (.int .u64 t.2)).ownsRow base 54 2 (.slice (some ⟨g, 0, none⟩) n c) n ((l.set k t).flatMap tmc) := by
  have h1 := own_setG tmc_len h hk (i := 0) (u := .bool t.1) (by decide) (y := (t.1, l[k].2)) rfl
  have hi2 : k < (l.set k (t.1, l[k].2)).length := by simpa using hk
  have h2 := own_setG tmc_len h1 hi2 (i := 1) (u := .int .u64 t.2) (by decide) (y := t) (by simp [tmc])
  rwa [List.set_set, Nat.add_zero] at h2

/-- The terms of k spots stand in a row. -/
def TmRel (l : List Sp) (w : World) (v3 v4 : Value) (wr : World) : Prop :=
  ∃ (k : Nat) (A : Option Addr) (N c : Nat), v4 = .int .i64 (k : Int) ∧ v3 = .slice A N c ∧ k ≤ l.length ∧ wr.ownsRow w.heap.size 54 2 (.slice A N c) N (((l.take k).map Sp.t).flatMap tmc) ∧ Below w.heap.size w wr
end Go.Proofs.Ytlcbcggcmmlfdaa
