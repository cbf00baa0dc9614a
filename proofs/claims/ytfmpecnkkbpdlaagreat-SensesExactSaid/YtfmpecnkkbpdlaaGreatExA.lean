/- Exact; ValA; SmlA; ExM; ComA: merged. -/
import Derived.Test.YtfmpecnkkbpdlaaGreatSen
import Derived.Test.YtfmpecnkkbpdlaaGreatGround
import Derived.Test.YtfmpecnkkbpdlaaGreatLssA
import Derived.Test.YtfmpecnkkbpdlaaGreatCame
import Derived.Test.YtfmpecnkkbpdlaaGreatFct

/- A type fits senses just if it comes of values that hold. No condition. -/
namespace Go.Proofs.YtfmpecnkkbpdlaaGreat
open Go.RowKit

/-- The join of one and all of a list. -/
def joinAll (S : Bo.Sr) (a : Nat) (xs : List Nat) : Nat := xs.foldl S.join a
theorem joinAll_has {S : Bo.Sr} (hS : S.Ok) : ∀ (xs : List Nat) (a : Nat), S.has a = true → (∀ x ∈ xs, S.has x = true) → S.has (joinAll S a xs) = true
  | [], _, h, _ => h
  | x :: xs, a, h, hx => joinAll_has hS xs (S.join a x) (hS.sub _ _ (hS.joinA a x h (hx x (List.mem_cons_self ..)))).2 fun y hy => hx y (List.mem_cons_of_mem _ hy)
theorem joinAll_a {S : Bo.Sr} (hS : S.Ok) : ∀ (xs : List Nat) (a : Nat), S.has a = true → (∀ x ∈ xs, S.has x = true) → S.below a (joinAll S a xs) = true
  | [], a, h, _ => hS.refl a h
  | x :: xs, a, h, hx => by
    have h1 := hS.joinA a x h (hx x (List.mem_cons_self ..))
    exact hS.trans _ _ _ h1 (joinAll_a hS xs (S.join a x) (hS.sub _ _ h1).2 fun y hy => hx y (List.mem_cons_of_mem _ hy))
theorem joinAll_mem {S : Bo.Sr} (hS : S.Ok) : ∀ (xs : List Nat) (a : Nat), S.has a = true → (∀ x ∈ xs, S.has x = true) → ∀ x ∈ xs, S.below x (joinAll S a xs) = true
  | [], _, _, _ => fun x hx => by cases hx
  | y :: xs, a, h, hx => fun x hm => by
    have hy := hx y (List.mem_cons_self ..)
    have hj := (hS.sub _ _ (hS.joinA a y h hy)).2
    have hr : ∀ z ∈ xs, S.has z = true := fun z hz => hx z (List.mem_cons_of_mem _ hz)
    rcases List.mem_cons.1 hm with rfl | hm
    · exact hS.trans _ _ _ (hS.joinB a x h hy) (joinAll_a hS xs (S.join a x) hj hr)
    · exact joinAll_mem hS xs (S.join a y) hj hr x hm
theorem joinAll_le {S : Bo.Sr} (hS : S.Ok) {c : Nat} : ∀ (xs : List Nat) (a : Nat), S.below a c = true → (∀ x ∈ xs, S.below x c = true) → S.below (joinAll S a xs) c = true
  | [], _, h, _ => h
  | x :: xs, a, h, hx => joinAll_le hS xs (S.join a x) (hS.joinL _ _ _ h (hx x (List.mem_cons_self ..))) fun y hy => hx y (List.mem_cons_of_mem _ hy)

/-- Do a type's values fit a sense? -/
structure FitsIs (S : Bo.Sr) (lo hi : List Nat) (rc : Nat → Nat → Bool) (l : List Sp) (ys : List Nat) : Prop where
  low : ∀ i (h : i < l.length) (h' : i < ys.length), l[i].s ≠ 1 → S.below (tmL lo l[i]) ys[i] = true
  high : ∀ i (h : i < l.length) (h' : i < ys.length), l[i].s ≠ 0 → S.below ys[i] (tmL hi l[i]) = true
  bel : ∀ i (h : i < l.length) (h' : i < ys.length) k (g : k < l.length) (g' : k < ys.length), l[i].s ≠ 0 → l[k].s ≠ 1 → alw S lo hi rc l[i] l[k] = true → S.below ys[i] ys[k] = true

/-- Values of which a type comes. -/
structure ComesIs (S : Bo.Sr) (q : Nat) (b : List Bo.Bd) (u : List Nat) (l : List Sp) (ys : List Nat) : Prop where
  has : Bo.AllHas S q u
  hold : Bo.holdS S u b = true
  must : ∀ i (h : i < l.length) (h' : i < ys.length), mustB l[i].s S.below (tmL u l[i]) ys[i] = true

theorem must_low {s : Nat} {R : Nat → Nat → Bool} {a b : Nat} (hr : R b b = true) (h : mustB s R a b = true) (hs : s ≠ 1) : R a b = true := by
  unfold mustB at h
  by_cases e0 : s = 0
  · rw [if_pos e0] at h
    exact h
  · rw [if_neg e0, if_neg hs] at h
    rw [of_decide_eq_true h]
    exact hr
theorem must_high {s : Nat} {R : Nat → Nat → Bool} {a b : Nat} (hr : R b b = true) (h : mustB s R a b = true) (hs : s ≠ 0) : R b a = true := by
  unfold mustB at h
  by_cases e1 : s = 1
  · rw [if_neg hs, if_pos e1] at h
    exact h
  · rw [if_neg hs, if_neg e1] at h
    rw [of_decide_eq_true h]
    exact hr
theorem must_of {s : Nat} {R : Nat → Nat → Bool} {a b : Nat} (ha : R a b = true → R b a = true → a = b) (h1 : s ≠ 1 → R a b = true) (h2 : s ≠ 0 → R b a = true) : mustB s R a b = true := by
  unfold mustB
  split
  · rename_i e
    exact h1 (by omega)
  · rename_i e0
    split
    · exact h2 e0
    · rename_i e1
      exact decide_eq_true (ha (h1 e1) (h2 e0))

section
variable {S : Bo.Sr} {q : Nat} {b : List Bo.Bd} {lo hi : List Nat} (h : Got S q b lo hi) {l : List Sp} (hm : ∀ p ∈ l, may1 S q p = true) {ys : List Nat} (hy : ∀ y ∈ ys, S.has y = true)
include h hm hy

theorem fits_of {u : List Nat} (hc : ComesIs S q b u l ys) : FitsIs S lo hi (rcB q b) l ys := by
  have m : ∀ i (g : i < l.length), may1 S q l[i] = true := fun i g => hm _ (List.getElem_mem g)
  have r : ∀ i (g : i < ys.length), S.below ys[i] ys[i] = true := fun i g => h.ok.refl _ (hy _ (List.getElem_mem g))
  refine ⟨fun i g g' hs => ?_, fun i g g' hs => ?_, fun i g g' k f f' h1 h2 ha => ?_⟩
  · exact h.ok.trans _ _ _ (h.betw hc.has hc.hold (m i g)).1 (must_low (r i g') (hc.must i g g') hs)
  · exact h.ok.trans _ _ _ (must_high (r i g') (hc.must i g g') hs) (h.betw hc.has hc.hold (m i g)).2
  · exact h.ok.trans _ _ _ (must_high (r i g') (hc.must i g g') h1) (h.ok.trans _ _ _ (h.alw hc.has hc.hold (m i g) (m k f) ha) (must_low (r k f') (hc.must k f f') h2))

/-- What stands at spots that lead to a variable. -/
def upTo (q : Nat) (b : List Bo.Bd) (l : List Sp) (ys : List Nat) (v : Nat) : List Nat :=
  ((l.zip ys).filter fun x => !decide (x.1.s = 0) && (x.1.v && rcB q b x.1.z.toNat v)).map (·.2)
def leastOf (S : Bo.Sr) (q : Nat) (b : List Bo.Bd) (lo : List Nat) (l : List Sp) (ys : List Nat) : List Nat :=
  (List.range q).map fun v => joinAll S (lo.getD v 0) (upTo q b l ys v)
omit h hm hy in
theorem mem_upTo {v y : Nat} : y ∈ upTo q b l ys v ↔ ∃ i, ∃ (g : i < l.length) (g' : i < ys.length), l[i].s ≠ 0 ∧ l[i].v = true ∧ rcB q b l[i].z.toNat v = true ∧ ys[i] = y := by
  unfold upTo
  rw [List.mem_map]
  constructor
  · rintro ⟨x, hx, rfl⟩
    obtain ⟨hx, hf⟩ := List.mem_filter.1 hx
    obtain ⟨i, hi, rfl⟩ := List.mem_iff_getElem.1 hx
    simp only [List.length_zip] at hi
    simp only [List.getElem_zip, Bool.and_eq_true, Bool.not_eq_true', decide_eq_false_iff_not] at hf ⊢
    exact ⟨i, by omega, by omega, hf.1, hf.2.1, hf.2.2, rfl⟩
  · rintro ⟨i, g, g', h1, h2, h3, rfl⟩
    refine ⟨(l[i], ys[i]), List.mem_filter.2 ⟨?_, by simp [h1, h2, h3]⟩, rfl⟩
    have : (l.zip ys)[i]'(by simp; omega) = (l[i], ys[i]) := by simp
    exact this ▸ List.getElem_mem _
omit h hm hy in
theorem least_at {v : Nat} (hv : v < q) : (leastOf S q b lo l ys).getD v 0 = joinAll S (lo.getD v 0) (upTo q b l ys v) := by
  unfold leastOf
  rw [List.getD_eq_getElem?_getD, List.getElem?_map, List.getElem?_range hv]
  rfl

theorem comes_of (hf : FitsIs S lo hi (rcB q b) l ys) : ComesIs S q b (leastOf S q b lo l ys) l ys := by
  have m : ∀ i (g : i < l.length), may1 S q l[i] = true := fun i g => hm _ (List.getElem_mem g)
  have hin : ∀ v, v < q → ∀ x ∈ upTo q b l ys v, S.has x = true := fun v _ x hx => by
    obtain ⟨i, g, g', _, _, _, rfl⟩ := mem_upTo.1 hx
    exact hy _ (List.getElem_mem g')
  have hlo : ∀ v, v < q → S.has (lo.getD v 0) = true := fun v hv => h.low.has.2 v hv
  have hhas : Bo.AllHas S q (leastOf S q b lo l ys) := ⟨by simp [leastOf], fun v hv => by
    rw [least_at hv]
    exact joinAll_has h.ok _ _ (hlo v hv) (hin v hv)⟩
  have hlen : (leastOf S q b lo l ys).length = q := hhas.1
  have above : ∀ v, v < q → S.below (lo.getD v 0) ((leastOf S q b lo l ys).getD v 0) = true := fun v hv => by
    rw [least_at hv]
    exact joinAll_a h.ok _ _ (hlo v hv) (hin v hv)
  have hvar : ∀ i (g : i < l.length), l[i].v = true → l[i].z.toNat < q := fun i g hv => by
    have := m i g
    unfold may1 Bo.mayT at this
    rw [hv] at this
    exact of_decide_eq_true this
  refine ⟨hhas, List.all_eq_true.2 fun c hc => ?_, fun i g g' => ?_⟩
  · have hmc := h.may c hc
    have hok := Bo.may_ok hmc hlen
    have h1 := List.all_eq_true.1 h.hold c hc
    have h2 := List.all_eq_true.1 h.holdH c hc
    unfold Bo.okB at h1 h2 ⊢
    rw [Bool.and_eq_true] at h1 h2
    rw [hok.1, hok.2, Bool.true_and, Bool.true_and]
    replace h1 := h1.2
    replace h2 := h2.2
    have hmc' := hmc
    unfold Bo.mayB Bo.mayT at hmc
    rw [Bool.and_eq_true] at hmc
    unfold Bo.vl at h1 h2 ⊢
    cases ha : c.av with
    | false =>
      rw [ha] at h1 h2
      cases hb : c.bv with
      | false => rw [hb] at h1; exact h1
      | true =>
        rw [hb] at h1
        have hk := hmc.2
        rw [hb] at hk
        exact h.ok.trans _ _ _ h1 (above _ (of_decide_eq_true hk))
    | true =>
      rw [ha] at h1 h2
      have ka := hmc.1
      rw [ha] at ka
      replace ka := of_decide_eq_true ka
      simp only [cond_true] at h1 h2 ⊢
      rw [least_at ka]
      cases hb : c.bv with
      | false =>
        rw [hb] at h1 h2
        simp only [cond_false] at h1 h2 ⊢
        refine joinAll_le h.ok _ _ h1 fun x hx => ?_
        obtain ⟨i, g, g', k1, k2, k3, rfl⟩ := mem_upTo.1 hx
        have hh := hf.high i g g' k1
        unfold tmL Bo.vl at hh
        rw [k2] at hh
        exact h.ok.trans _ _ _ hh (h.ok.trans _ _ _ (h.reach h.high.has h.holdH k3) h2)
      | true =>
        rw [hb] at h1 h2
        have kb := hmc.2
        rw [hb] at kb
        replace kb := of_decide_eq_true kb
        simp only [cond_true] at h1 h2 ⊢
        refine joinAll_le h.ok _ _ (h.ok.trans _ _ _ h1 (above _ kb)) fun x hx => ?_
        rw [least_at kb]
        refine joinAll_mem h.ok _ _ (hlo _ kb) (hin _ kb) x ?_
        obtain ⟨i, g, g', k1, k2, k3, rfl⟩ := mem_upTo.1 hx
        exact mem_upTo.2 ⟨i, g, g', k1, k2, Re.rch_on h.q64 h.mayR k3 (Re.rch_edge h.q64 h.mayR ⟨c, hc, ha, hb, rfl, rfl⟩), rfl⟩
  · refine must_of (h.ok.anti _ _) (fun hs => ?_) fun hs => ?_
    · have hw := hf.low i g g' hs
      unfold tmL Bo.vl at hw ⊢
      cases hv : l[i].v with
      | false => rw [hv] at hw; exact hw
      | true =>
        rw [hv] at hw
        simp only [cond_true] at hw ⊢
        rw [least_at (hvar i g hv)]
        refine joinAll_le h.ok _ _ hw fun x hx => ?_
        obtain ⟨k, f, f', k1, k2, k3, rfl⟩ := mem_upTo.1 hx
        refine hf.bel k f f' i g g' k1 hs ?_
        unfold alw
        rw [k2, hv, k3]
        rfl
    · have hw := hf.high i g g' hs
      unfold tmL Bo.vl at hw ⊢
      cases hv : l[i].v with
      | false => rw [hv] at hw; exact hw
      | true =>
        simp only [cond_true]
        rw [least_at (hvar i g hv)]
        exact joinAll_mem h.ok _ _ (hlo _ (hvar i g hv)) (hin _ (hvar i g hv)) _ (mem_upTo.2 ⟨i, g, g', hs, hv, Re.rch_self h.q64 h.mayR (hvar i g hv), rfl⟩)
end

/-! ### All values, gone through -/
/-- The n-th values of all. -/
def digs (many : Nat) : Nat → Nat → List Nat
  | 0, _ => []
  | k + 1, n => n % many :: digs many k (n / many)
/-- What is left of n. -/
def left (many : Nat) : Nat → Nat → Nat
  | 0, n => n
  | k + 1, n => left many k (n / many)
theorem digs_len (many : Nat) : ∀ (k n : Nat), (digs many k n).length = k
  | 0, _ => rfl
  | k + 1, n => by simp [digs, digs_len many k]
theorem left_pow {many : Nat} : ∀ (k n : Nat), left many k n = n / many ^ k
  | 0, n => by simp [left]
  | k + 1, n => by rw [left, left_pow k, Nat.div_div_eq_div_mul, Nat.pow_succ, Nat.mul_comm]
theorem left_zero {many : Nat} (hm : 0 < many) {k n : Nat} : left many k n = 0 ↔ n < many ^ k := by
  rw [left_pow, Nat.div_eq_zero_iff]
  have := Nat.pow_pos (n := k) hm
  omega
theorem digs_lt {many : Nat} (hm : 0 < many) : ∀ (k n : Nat), ∀ x ∈ digs many k n, x < many
  | 0, _, x, h => by cases h
  | k + 1, n, x, h => by
    rcases List.mem_cons.1 h with rfl | h
    · exact Nat.mod_lt _ hm
    · exact digs_lt hm k _ x h
/-- Each list of such values is one of them. -/
theorem digs_all {many : Nat} : ∀ (u : List Nat), (∀ x ∈ u, x < many) → ∃ n, n < many ^ u.length ∧ digs many u.length n = u
  | [], _ => ⟨0, by simp, rfl⟩
  | x :: u, h => by
    obtain ⟨n, hn, e⟩ := digs_all u fun y hy => h y (List.mem_cons_of_mem _ hy)
    have hx := h x (List.mem_cons_self ..)
    have hp : 0 < many := by omega
    refine ⟨x + many * n, ?_, ?_⟩
    · rw [List.length_cons, Nat.pow_succ]
      have : many * (n + 1) ≤ many * many ^ u.length := Nat.mul_le_mul_left _ hn
      rw [Nat.mul_comm (many ^ u.length)]
      rw [Nat.mul_add, Nat.mul_one] at this
      omega
    · rw [List.length_cons, digs]
      have e1 : (x + many * n) % many = x := by rw [Nat.add_mul_mod_self_left, Nat.mod_eq_of_lt hx]
      have e2 : (x + many * n) / many = n := by rw [Nat.add_mul_div_left _ _ hp, Nat.div_eq_of_lt hx, Nat.zero_add]
      rw [e1, e2, e]
end Go.Proofs.YtfmpecnkkbpdlaaGreat

/- What Values tells: the n-th values of all. Condition: few, and small. -/
namespace Go.Proofs.YtfmpecnkkbpdlaaGreat
open Go.RowKit

theorem digs_snoc {many : Nat} : ∀ (k n : Nat), digs many (k + 1) n = digs many k n ++ [left many k n % many]
  | 0, _ => rfl
  | k + 1, n => by
    rw [digs, digs_snoc k (n / many), digs, left]
    rfl
theorem left_succ {many : Nat} : ∀ (k n : Nat), left many (k + 1) n = left many k n / many
  | 0, _ => rfl
  | k + 1, n => by
    rw [left, left_succ k (n / many), left]
theorem left_le {many : Nat} : ∀ (k n : Nat), left many k n ≤ n
  | 0, _ => Nat.le_refl _
  | k + 1, n => by
    rw [left_succ]
    exact Nat.le_trans (Nat.div_le_self _ _) (left_le k n)
def nm1 (x : Nat) : List Value := [La.nm x]
theorem nm1_flat (l : List Nat) : l.flatMap nm1 = l.map La.nm := by
  induction l with
  | nil => rfl
  | cons x l ih => rw [List.flatMap_cons, ih]; rfl
theorem nm1_one (l : List Nat) : ∀ u ∈ l.flatMap nm1, u.oneCell' = true := fun u hu => by
  obtain ⟨x, _, hx⟩ := List.mem_flatMap.1 hu
  simp only [nm1, List.mem_cons, List.not_mem_nil, or_false] at hx
  subst hx
  rfl
structure VlAt (w wr : World) (many n : Nat) (i : Nat) (A : Option Addr) (k c : Nat) : Prop where
  own : wr.ownsRow w.heap.size 76 1 (.slice A k c) k ((digs many i n).flatMap nm1)
  bel : Below w.heap.size w wr
  len : k = i

set_option maxRecDepth 100000 in
set_option maxHeartbeats 4000000 in
theorem vals_any (vars many n : Nat) (w : World) (h1 : vars ≤ 100) (hm : 0 < many) (hm2 : many ≤ 1000) (hn : n ≤ 1000000) :
    Calls Tryz.prog 70 #[.int .i64 (vars : Int), .int .i64 (many : Int), .int .i64 (n : Int)] w fun e w' => ∃ A k c, e = .returned (.tuple #[.slice A k c, .bool (decide (left many vars n = 0))]) ∧ Rd La.nm w' w'.heap.size A k c (digs many vars n) ∧ Below w.heap.size w w' := by
  have HM := Lib.hid hm
  have HM2 := Lib.hid hm2
  have HN := Lib.hid hn
  have HV := Lib.hid h1
  clear hm hm2 hn h1
  go_enter Tryz.func70, Tryz.ntmps70
  go_wp2_with fail
  go_loopw [2, 8, 9] (fun v2 v8 v9 wr => ∃ (i x : Nat) (A : Option Addr) (k c : Nat), v9 = .int .i64 (i : Int) ∧ v2 = .int .i64 (x : Int) ∧ x = left many i n ∧ v8 = .slice A k c ∧ i ≤ vars ∧ VlAt w wr many n i A k c) (fun v2 v8 v9 _ => vars - (intOf v9).toNat)
  case atStart => exact ⟨0, n, none, 0, 0, rfl, rfl, rfl, rfl, Nat.zero_le _, ⟨World.ownsRow_nil _ _ _ _, Below.refl _ _, rfl⟩⟩
  case round =>
    obtain ⟨i, x, A, k, c, rfl, rfl, hx, rfl, hi, hv⟩ := hrel
    have HX := Lib.hid hx
    have HVL := Lib.hid hv
    have hxb : x ≤ 1000000 := by rw [hx]; exact Nat.le_trans (left_le _ _) HN.out
    clear hx hv
    by_cases hlt : i < vars
    · have hin : (i : Int) < (vars : Int) := by omega
      have hmany : ¬ (many : Int) = 0 := by have := HM.out; omega
      obtain ⟨d, hd⟩ : ∃ d, x % many = d := ⟨_, rfl⟩
      obtain ⟨y, hy⟩ : ∃ y, x / many = y := ⟨_, rfl⟩
      have hdx : d ≤ x := by rw [← hd]; exact Nat.mod_le _ _
      have hyx : y ≤ 1000000 := by rw [← hy]; exact Nat.le_trans (Nat.div_le_self _ _) hxb
      have hw1 : IntKind.u64.wrap ((x : Int) % (many : Int)) = (d : Int) := by
        rw [← Int.natCast_emod, hd]
        have hb : (d : Int) < 18446744073709551616 := by omega
        simp only [IntKind.wrap, IntKind.bits, IntKind.signed]
        simp
        omega
      have hq1 : (x : Int) / (many : Int) = (y : Int) := by rw [← Int.natCast_ediv, hy]
      have hq2 : (x : Int).tdiv (many : Int) = (y : Int) := by rw [Int.tdiv_eq_ediv_of_nonneg (by omega), hq1]
      have hal : Below wr.heap.size wr (wr.alloc (.cells #[.int .u64 (d : Int)] 76)) := (Below.refl _ _).alloc (Nat.le_refl _) _
      have hown := HVL.out.own.alloc (.cells #[.int .u64 (d : Int)] 76)
      have hrd : Rs nm1 1 (wr.alloc (.cells #[.int .u64 (d : Int)] 76)) (wr.alloc (.cells #[.int .u64 (d : Int)] 76)).heap.size (some ⟨wr.heap.size, 0, none⟩) 1 1 [d] := Rs.of_blk (fun _ => rfl) (heap_alloc_new wr _) ⟨[], rfl⟩ rfl (Nat.le_refl _) (by unfold maxLen; omega)
      have hbl := HVL.out.bel.trans (hal.mono HVL.out.bel.size)
      have hkk : k + 1 ≤ 100000 := by have := HVL.out.len; have := HV.out; omega
      have HD := Lib.hid hd
      have HY := Lib.hid hy
      have HOWN := Lib.hid hown
      have HRD := Lib.hid hrd
      have HBL := Lib.hid hbl
      have HKK := Lib.hid hkk
      have HYX := Lib.hid hyx
      obtain ⟨ii, hii⟩ : ∃ ii, vars = i + 1 + ii := ⟨vars - (i + 1), by omega⟩
      have HLT := Lib.hid hii
      clear hd hy hdx hal hown hrd hbl hkk hlt hii
      have hvars : i ≤ 100000 := by have := HLT.out; have := HV.out; omega
      go_wp2_with (refine wpList_append_rs (enc := nm1) (sz := 1) (bytes := 8) (t := 22) (E := 76) (fun _ => rfl) (by decide) nm1_one Tryz.underlying22 Bo.nm_inf rfl (by decide) rfl (.tmp 15) (.tmp 20) rfl w.heap.size (.slice A k c) k _ rfl HOWN.out _ _ 1 1 [d] rfl HRD.out HKK.out HBL.out.size ?_; intro A1 k1 c1 w1 HK HA)
      clear hmany hw1 hq1 hq2 hin
      go_roundw
      case rel =>
        refine ⟨i + 1, y, A1, k1, c1, by have := HLT.out; have := HV.out; go_num, rfl, ?_, rfl, by have := HLT.out; omega, ?_, HBL.out.grown HA.out.grown HBL.out.size (fun j hj => (HOWN.out.lt j hj).1), ?_⟩
        · rw [left_succ, ← HX.out, HY.out]
        · have h1 := HA.out.own
          rw [digs_snoc, ← HX.out, HD.out]
          exact h1
        · have h1 := HK.out
          have h2 := HVL.out.len
          omega
      case measure =>
        have := HLT.out
        simp [intOf]
        omega
    · obtain rfl : i = vars := by omega
      clear hlt
      have hz : ((x : Int) == 0) = decide (left many i n = 0) := by rw [← HX.out]; exact int_eq x 0
      have HR : Hid (Rd La.nm wr wr.heap.size A k c (digs many i n)) := Lib.hid (by
        have h1 := HVL.out.own
        rw [nm1_flat] at h1
        exact Rd.of_own h1)
      go_wp2_with fail
      exact bodyPost_ret (v := .tuple #[.slice A k c, .bool (decide (left many i n = 0))]) (by simp [results, Tryz.results70, go_sem]) rfl ⟨A, k, c, rfl, HR.out, HVL.out.bel⟩
end Go.Proofs.YtfmpecnkkbpdlaaGreat

/- What Small tells: few, and small. Condition: it can be read. -/
namespace Go.Proofs.YtfmpecnkkbpdlaaGreat
open Go.ChangeShapes Go.WideShapes Go.ChangeAt Go.RowKit

/-- What is small. -/
structure SmlIs (s : Sch) (k : Int) (n3 n n1 n2 : Nat) : Prop where
  rows : n3 ≤ 5
  k0 : 0 ≤ k
  k2 : k ≤ 2
  l0 : 0 ≤ s.lv
  e0 : 0 ≤ s.ev
  l3 : s.lv ≤ 3
  e2 : s.ev ≤ 2
  body : n ≤ 12

set_option maxRecDepth 100000 in
set_option maxHeartbeats 8000000 in
theorem small_any (s : Sch) (A : Option Addr) (n c : Nat) (A1 : Option Addr) (n1 c1 : Nat) (A2 : Option Addr) (n2 c2 : Nat) (A3 : Option Addr) (n3 c3 : Nat) (k : Int) (w : World) (h1 : n1 ≤ 4611686018427387903) (h2 : n2 ≤ 4611686018427387903) :
    Calls Tryz.prog 18 #[zV A3 n3 c3 k, schV s A n c A1 n1 c1 A2 n2 c2] w fun e w' => TellsB e (fun r => r = true → SmlIs s k n3 n n1 n2) ∧ Below w.heap.size w w' := by
  obtain ⟨lv, ev, bo, sl, se⟩ := s
  obtain ⟨x, hx⟩ : ∃ x, w.alloc (.cells #[.slice A3 n3 c3, .int .i64 k] 24) = x := ⟨_, rfl⟩
  obtain ⟨y, hy⟩ : ∃ y, x.alloc (.cells #[.int .i64 lv, .int .i64 ev, .slice A n c, .slice A1 n1 c1, .slice A2 n2 c2] 47) = y := ⟨_, rfl⟩
  have b0 : Below w.heap.size w x := hx ▸ (Below.refl _ _).alloc (Nat.le_refl _) _
  have sx : x.heap.size = w.heap.size + 1 := by rw [← hx, World.size_alloc]
  have b1 : Below x.heap.size x y := hy ▸ (Below.refl _ _).alloc (Nat.le_refl _) _
  have k0 : y.heap[w.heap.size]? = some (.cells #[.slice A3 n3 c3, .int .i64 k] 24 (0, 0)) := (b1.block _ (by rw [sx]; omega)).trans (hx ▸ heap_alloc_new w _)
  have hbx : Box y (w.heap.size + 1) lv ev A n c A1 n1 c1 A2 n2 c2 := by rw [← sx, ← hy]; exact Box.new x lv ev A n c A1 n1 c1 A2 n2 c2
  have hb : Below w.heap.size w y := b0.trans (b1.mono b0.size)
  have s0 := (cell_blk (i := 0) k0).trans rfl
  have s1 := (cell_blk (i := 1) k0).trans rfl
  have HB := Lib.hid hb
  have HBX := Lib.hid hbx
  have HS0 := Lib.hid s0
  have z0 := hbx.z0
  have z1 := hbx.z1
  have z2 := hbx.z2
  have z3 := hbx.z3
  have z4 := hbx.z4
  have hw : wrap64 ((n1 : Int) + (n2 : Int)) = (n1 : Int) + (n2 : Int) := by unfold wrap64; omega
  clear b0 b1 sx k0 hb hbx
  subst hx
  unfold schV zV
  have no : ∀ {P : Prop}, (false = true → P) := fun e => by cases e
  by_cases g0 : (5 : Int) < (n3 : Int)
  · go_enter Tryz.func18, Tryz.ntmps18
    go_wp2
    go_ret
    exact ⟨.mk false rfl no, HB.out⟩
  by_cases g1 : k < 0
  · go_enter Tryz.func18, Tryz.ntmps18
    go_wp2
    go_ret
    exact ⟨.mk false rfl no, HB.out⟩
  by_cases g2 : 2 < k
  · go_enter Tryz.func18, Tryz.ntmps18
    go_wp2
    go_ret
    exact ⟨.mk false rfl no, HB.out⟩
  by_cases g3 : lv < 0
  · go_enter Tryz.func18, Tryz.ntmps18
    go_wp2
    go_ret
    exact ⟨.mk false rfl no, HB.out⟩
  by_cases g4 : ev < 0
  · go_enter Tryz.func18, Tryz.ntmps18
    go_wp2
    go_ret
    exact ⟨.mk false rfl no, HB.out⟩
  by_cases g5 : 3 < lv
  · go_enter Tryz.func18, Tryz.ntmps18
    go_wp2
    go_ret
    exact ⟨.mk false rfl no, HB.out⟩
  by_cases g6 : 2 < ev
  · go_enter Tryz.func18, Tryz.ntmps18
    go_wp2
    go_ret
    exact ⟨.mk false rfl no, HB.out⟩
  by_cases g7 : (12 : Int) < (n : Int)
  · go_enter Tryz.func18, Tryz.ntmps18
    go_wp2
    go_ret
    exact ⟨.mk false rfl no, HB.out⟩
  by_cases g8 : (20 : Int) < (n1 : Int) + (n2 : Int)
  · go_enter Tryz.func18, Tryz.ntmps18
    go_wp2
    go_ret
    exact ⟨.mk false rfl no, HB.out⟩
  have HIS : Hid (SmlIs ⟨lv, ev, bo, sl, se⟩ k n3 n n1 n2) := Lib.hid ⟨by omega, by omega, by omega, by show 0 ≤ lv; omega, by show 0 ≤ ev; omega, by show lv ≤ 3; omega, by show ev ≤ 2; omega, by omega⟩
  have HN3 := Lib.hid (show n3 ≤ 5 by omega)
  obtain ⟨a, rfl⟩ : ∃ a : Nat, lv = (a : Int) := ⟨lv.toNat, by omega⟩
  obtain ⟨e, rfl⟩ : ∃ a : Nat, ev = (a : Int) := ⟨ev.toNat, by omega⟩
  have HA := Lib.hid (show a ≤ 3 by omega)
  have HE := Lib.hid (show e ≤ 2 by omega)
  clear no
  go_enter Tryz.func18, Tryz.ntmps18
  go_wp2_with fail
  clear g0 g1 g2 g3 g4 g5 g6 g7 g8 hw s0 s1 z0 z1 z2 z3 z4 hy h1 h2
  go_loopw [5, 6] (fun v5 v6 wr => ∃ i x : Nat, v6 = .int .i64 (i : Int) ∧ v5 = .int .i64 (x : Int) ∧ i ≤ a ∧ x ≤ 6 ^ i ∧ wr = y) (fun v5 v6 _ => a - (intOf v6).toNat)
  case atStart => exact ⟨0, 1, rfl, rfl, Nat.zero_le _, Nat.le_refl _, rfl⟩
  case round =>
    obtain ⟨i, x, rfl, rfl, hi, hxl, rfl⟩ := hrel
    have z0 := HBX.out.z0
    have s0 := HS0.out
    have ha := HA.out
    have hn3 := HN3.out
    have hx6 : x ≤ 216 := Nat.le_trans hxl (Nat.le_trans (Nat.pow_le_pow_right (by decide) (by omega : i ≤ 3)) (by decide))
    by_cases hlt : i < a
    · have hin : (i : Int) < (a : Int) := by omega
      obtain ⟨m, hm⟩ : ∃ m, x * (1 + n3) = m := ⟨_, rfl⟩
      have hmb : m ≤ 1296 := by
        rw [← hm]
        exact Nat.le_trans (Nat.mul_le_mul hx6 (by omega : 1 + n3 ≤ 6)) (by decide)
      have hmx : m ≤ 6 ^ (i + 1) := by
        rw [← hm, Nat.pow_succ]
        exact Nat.mul_le_mul hxl (by omega)
      have hw1 : wrap64 ((x : Int) * (1 + (n3 : Int))) = (m : Int) := by
        rw [show (x : Int) * (1 + (n3 : Int)) = (m : Int) by rw [← hm]; simp]
        unfold wrap64
        omega
      have HMX := Lib.hid hmx
      have HLT := Lib.hid (show i + 1 ≤ a from hlt)
      clear hm hmx hxl
      go_wp2_with (rw [hw1])
      clear z0 s0 ha hn3 hw1 hin
      go_roundw
      case rel => exact ⟨i + 1, m, by go_num, (by first | rfl | trivial), HLT.out, HMX.out, (by first | rfl | trivial)⟩
      case measure =>
        have := HLT.out
        simp [intOf]
        omega
    · obtain rfl : i = a := by omega
      clear hlt
      have HX6 := Lib.hid hx6
      clear s0 hxl hx6 ha hn3
      go_wp2_with fail
      clear z0
      go_loopw [5, 7] (fun v5 v7 wq => ∃ i x : Nat, v7 = .int .i64 (i : Int) ∧ v5 = .int .i64 (x : Int) ∧ i ≤ e ∧ x ≤ 216 * 4 ^ i ∧ wq = wr) (fun v5 v7 _ => e - (intOf v7).toNat)
      case atStart => exact ⟨0, x, rfl, rfl, Nat.zero_le _, by have := HX6.out; simpa using this, rfl⟩
      case round =>
        obtain ⟨j, x, rfl, rfl, hj, hxl, rfl⟩ := hrel
        have z1 := HBX.out.z1
        have he := HE.out
        have hx6 : x ≤ 3456 := Nat.le_trans hxl (Nat.le_trans (Nat.mul_le_mul_left _ (Nat.pow_le_pow_right (by decide) (by omega : j ≤ 2))) (by decide))
        by_cases hlt : j < e
        · have hin : (j : Int) < (e : Int) := by omega
          have hmx : x * 4 ≤ 216 * 4 ^ (j + 1) := by
            rw [Nat.pow_succ, ← Nat.mul_assoc]
            exact Nat.mul_le_mul_right 4 hxl
          obtain ⟨m, hm⟩ : ∃ m, x * 4 = m := ⟨_, rfl⟩
          rw [hm] at hmx
          have HME := Lib.hid hm
          have hw1 : wrap64 ((x : Int) * 4) = (m : Int) := by
            unfold wrap64
            omega
          have HMX := Lib.hid hmx
          have HLT := Lib.hid (show j + 1 ≤ e from hlt)
          clear hm hmx hxl
          go_wp2_with (rw [hw1])
          clear z1 he hw1 hin
          go_roundw
          case rel => exact ⟨j + 1, m, by go_num, (by first | rfl | (have h := HME.out; congr 1; omega)), HLT.out, HMX.out, (by first | rfl | trivial)⟩
          case measure =>
            have := HLT.out
            simp [intOf]
            omega
        · obtain rfl : j = e := by omega
          clear hlt he hxl
          go_wp2
          go_ret
          exact ⟨.mk _ rfl (fun _ => HIS.out), HB.out⟩
end Go.Proofs.YtfmpecnkkbpdlaaGreat

/- A type comes of a scheme just if it fits both senses. No condition. -/
namespace Go.Proofs.YtfmpecnkkbpdlaaGreat
open Go.RowKit

/-- Do a row's values fit a sense? -/
structure FitsOK (S : Bo.Sr) (z : Sen) (l : List Sp) : Prop where
  low : ∀ i (h : i < l.length) (h' : i < z.lo.length), l[i].s ≠ 1 → S.below z.lo[i] l[i].z.toNat = true
  high : ∀ i (h : i < l.length) (h' : i < z.hi.length), l[i].s ≠ 0 → S.below l[i].z.toNat z.hi[i] = true
  bel : ∀ i (h : i < l.length) (h' : i < z.be.length) k (g : k < l.length) (g' : k < z.be[i].length), z.be[i][k] = true → S.below l[i].z.toNat l[k].z.toNat = true
/-- One choice of values of all variables, of which the type comes. -/
def cmB (S X : Bo.Sr) (G : So) (s : Sch) (t : List Nd) (m1 m2 ql qe i j : Nat) : Bool := Bo.holdS S (digs m1 ql i) s.l && (Bo.holdS X (digs m2 qe j) s.e && grB G (s.grN (digs m1 ql i) (digs m2 qe j)) t)
/-- There is one. -/
def CmOK (S X : Bo.Sr) (G : So) (s : Sch) (t : List Nd) (m1 m2 ql qe : Nat) : Prop := ∃ i j, i < m1 ^ ql ∧ j < m2 ^ qe ∧ cmB S X G s t m1 m2 ql qe i j = true

/-- Sorts of which all values are numbers below one. -/
structure SoIs (G : So) (S X : Bo.Sr) (m1 m2 : Nat) : Prop where
  ok : S.Ok
  okx : X.Ok
  h1 : G.h1 = S.has
  r1 : G.r1 = S.below
  h2 : G.h2 = X.has
  r2 : G.r2 = X.below
  p1 : 0 < m1
  p2 : 0 < m2
  v1 : ∀ a, S.has a = true ↔ a < m1
  v2 : ∀ a, X.has a = true ↔ a < m2

theorem so_is {rows : List Nat} {k : Int} (hc : La.checkN rows = 0) (hn : 0 < rows.length) (h0 : 0 ≤ k) (h2 : k ≤ 2) : SoIs (soOf rows k) (laOf rows) (efOf k) rows.length (2 ^ k.toNat) := by
  have hk : 0 ≤ k ∧ k ≤ 64 := ⟨h0, by omega⟩
  have el : laOf rows = Bo.laS rows := by unfold laOf; rw [if_pos hc]
  have ee : efOf k = Bo.efS true (Ef.topN k.toNat) := by unfold efOf; rw [if_pos hk]
  have n1 : (soOf rows k).n = rows.length := by unfold soOf; simp only [if_pos hc]
  have n2 : (soOf rows k).L = rows := by unfold soOf; simp only [if_pos hc]
  have n3 : (soOf rows k).m = true := by unfold soOf; simp only [decide_eq_true hk]
  have n4 : (soOf rows k).t = Ef.topN k.toNat := by unfold soOf; simp only [if_pos hk]
  refine ⟨laOf_ok rows, efOf_ok k, ?_, ?_, ?_, ?_, hn, Nat.pow_pos (by decide), fun a => ?_, fun a => ?_⟩
  · rw [el]
    funext a
    unfold So.h1
    rw [n1]
    rfl
  · rw [el]
    funext a b
    unfold So.r1
    rw [n2]
    rfl
  · rw [ee]
    funext a
    unfold So.h2
    rw [n3, n4]
    rfl
  · rw [ee]
    funext a b
    unfold So.r2
    rw [n3, n4]
    rfl
  · rw [el]
    exact decide_eq_true_iff
  · rw [ee]
    show (true && Ef.subB a (Ef.topN k.toNat)) = true ↔ _
    rw [Bool.true_and, Ef.subB_iff]
    constructor
    · intro h
      refine Nat.lt_pow_two_of_testBit _ fun i hi => ?_
      cases hb : a.testBit i with
      | false => rfl
      | true =>
        have := h i hb
        rw [Ef.topN_bit] at this
        have := of_decide_eq_true this
        omega
    · intro h i hb
      rw [Ef.topN_bit]
      refine decide_eq_true ?_
      by_cases hi : i < k.toNat
      · exact hi
      · have h3 : a < 2 ^ i := Nat.lt_of_lt_of_le h (Nat.pow_le_pow_right (by decide) (by omega))
        rw [Nat.testBit_lt_two_pow h3] at hb
        cases hb

theorem labB_ne {t : List Nd} (h : checkB t = 0) : 0 < (labB t).length := by
  have hl := sides_len h
  have hne := (check_chk h).1
  unfold labB
  rw [if_pos h]
  match t, hne, hl with
  | x :: t, _, hl =>
    match hs : sds (x :: t) [0], hl with
    | [], hl => simp at hl
    | s :: ss, _ => simp [lab, labS]
/-- Where a type may be, there are labels. -/
theorem labels_rows {rows : List Nat} {k : Int} {t : List Nd} (h : grE (soOf rows k) t t = 0) : La.checkN rows = 0 ∧ 0 < rows.length := by
  obtain ⟨h1, _, h2, _⟩ := (grE_zero _).1 h
  obtain ⟨v1, -⟩ := vals_l _ h2
  have := (valB_at v1 0 (labB_ne h1)).2
  unfold So.h1 at this
  have := of_decide_eq_true this
  by_cases hc : La.checkN rows = 0
  · refine ⟨hc, ?_⟩
    have n1 : (soOf rows k).n = rows.length := by unfold soOf; simp only [if_pos hc]
    omega
  · have n1 : (soOf rows k).n = 0 := by unfold soOf; simp only [if_neg hc]
    omega

theorem all_digs {S : Bo.Sr} {m q i : Nat} (hv : ∀ a, S.has a = true ↔ a < m) (hp : 0 < m) : Bo.AllHas S q (digs m q i) := ⟨digs_len m q i, fun v h => (hv _).2 (by
  have hl : v < (digs m q i).length := by rw [digs_len]; exact h
  rw [List.getD_eq_getElem?_getD, List.getElem?_eq_getElem hl]
  exact digs_lt hp q i _ (List.getElem_mem hl))⟩
theorem has_mem {S : Bo.Sr} {q : Nat} {u : List Nat} (hu : Bo.AllHas S q u) : ∀ x ∈ u, S.has x = true := fun x hx => by
  obtain ⟨i, hi, rfl⟩ := List.mem_iff_getElem.1 hx
  have := hu.2 i (by rw [← hu.1]; exact hi)
  rwa [List.getD_eq_getElem?_getD, List.getElem?_eq_getElem hi] at this
theorem digs_of {S : Bo.Sr} {m q : Nat} {u : List Nat} (hv : ∀ a, S.has a = true ↔ a < m) (hu : Bo.AllHas S q u) : ∃ i, i < m ^ q ∧ digs m q i = u := by
  obtain ⟨n, h1, h2⟩ := digs_all u fun x hx => (hv x).1 (has_mem hu x hx)
  rw [hu.1] at h1 h2
  exact ⟨n, h1, h2⟩
/-- The values of spots. -/
def zOf (l : List Sp) : List Nat := l.map fun p => p.z.toNat
theorem re_tm (u : List Nat) (p : Sp) : (p.re (grT u p)).z.toNat = tmL u p := by
  unfold tmL Bo.vl Sp.re grT
  cases p.v <;> rfl
theorem hold_must {u : List Nat} {l m : List Sp} {R : Nat → Nat → Bool} : holdB (l.map fun p => p.re (grT u p)) m R = true ↔ ∀ i (h : i < l.length) (h' : i < (zOf m).length), mustB l[i].s R (tmL u l[i]) (zOf m)[i] = true := by
  rw [holdB_iff]
  constructor
  · intro h k h1 h2
    have := h k (by simpa using h1) (by simpa [zOf] using h2)
    simp only [List.getElem_map, re_tm] at this
    simp only [zOf, List.getElem_map]
    exact this
  · intro h k h1 h2
    have := h k (by simpa using h1) (by simpa [zOf] using h2)
    simp only [zOf, List.getElem_map] at this
    simp only [List.getElem_map, re_tm]
    exact this

section
variable {S X : Bo.Sr} {G : So} {s : Sch} {t : List Nd} {m1 m2 ql qe : Nat} (h : SoIs G S X m1 m2) (hck : s.check S X = 0) (hl : s.lv = (ql : Int)) (he : s.ev = (qe : Int))
include h hck hl he

omit h in
/-- There is a ground of all values. -/
theorem digs_gr (i j : Nat) : s.grE (digs m1 ql i) (digs m2 qe j) = 0 := Sch.gr_all hck (by rw [digs_len, hl]) (by rw [digs_len, he])

theorem cm_iff (hs : sameB s.b t = true) (hg : grE G t t = 0) : CmOK S X G s t m1 m2 ql qe ↔ (∃ u, ComesIs S ql s.l u (labB s.b) (zOf (labB t))) ∧ ∃ v, ComesIs X qe s.e v (effB s.b) (zOf (effB t)) := by
  obtain ⟨ct, -, vt, -⟩ := (grE_zero G).1 hg
  constructor
  · rintro ⟨i, j, hi, hj, hc⟩
    unfold cmB at hc
    rw [Bool.and_eq_true, Bool.and_eq_true] at hc
    obtain ⟨h1, h2, h3⟩ := hc
    have g := Sch.gr_is (digs_gr (m1 := m1) (m2 := m2) hck hl he i j)
    unfold grB grH at h3
    rw [Bool.and_eq_true, Bool.and_eq_true, Bool.and_eq_true, g.lab, g.eff, h.r1, h.r2] at h3
    exact ⟨⟨_, all_digs h.v1 h.p1, h1, hold_must.1 h3.2.2.1⟩, ⟨_, all_digs h.v2 h.p2, h2, hold_must.1 h3.2.2.2⟩⟩
  · rintro ⟨⟨u, hu⟩, v, hv⟩
    obtain ⟨i, hi, rfl⟩ := digs_of h.v1 hu.has
    obtain ⟨j, hj, rfl⟩ := digs_of h.v2 hv.has
    refine ⟨i, j, hi, hj, ?_⟩
    have e0 := digs_gr (m1 := m1) (m2 := m2) hck hl he i j
    have g := Sch.gr_is e0
    obtain ⟨cs, -, -, k1, k2⟩ := Sch.check_is.1 (Sch.gr_hold hck e0 (has_mem hu.has) (has_mem hv.has))
    have val : ∀ (S : Bo.Sr) (l : List Sp), (∀ p ∈ l, may1 S 0 p = true) → valB S.has l = true := fun S l h => List.all_eq_true.2 fun p hp => by
      have := h p hp
      unfold may1 Bo.mayT at this
      unfold okS
      cases hv : p.v with
      | true =>
        rw [hv] at this
        exact absurd (of_decide_eq_true (show decide (p.z.toNat < 0) = true from this)) (Nat.not_lt_zero _)
      | false =>
        rw [hv] at this
        exact this
    have vg : G.vals (s.grN (digs m1 ql i) (digs m2 qe j)) = true := by
      unfold So.vals
      rw [h.h1, h.h2, Bool.and_eq_true]
      exact ⟨val S _ k1, val X _ k2⟩
    unfold cmB
    rw [Bool.and_eq_true, Bool.and_eq_true]
    refine ⟨hu.hold, hv.hold, ?_⟩
    have s3 := (same_alks (sameB_symm g.same) g.chk (Sch.check_is.1 hck).1).trans (same_alks hs (Sch.check_is.1 hck).1 ct)
    rw [grB_iff G ((grE_zero G).2 ⟨g.chk, ct, vg, vt⟩), same_alk s3.len s3.get, Bool.true_and]
    unfold grH
    rw [Bool.and_eq_true, g.lab, g.eff, h.r1, h.r2]
    exact ⟨hold_must.2 hu.must, hold_must.2 hv.must⟩

theorem exact_no (hs : sameB s.b t = true) (hg : grE G t t = 0) (hn : NoVals S s.lv s.l ∨ NoVals X s.ev s.e) : ¬ CmOK S X G s t m1 m2 ql qe := fun hc => by
  obtain ⟨⟨u, hu⟩, v, hv⟩ := (cm_iff h hck hl he hs hg).1 hc
  rcases hn with ⟨q, e1, e2⟩ | ⟨q, e1, e2⟩
  · obtain rfl : q = ql := by omega
    have := e2 u hu.has
    rw [hu.hold] at this
    cases this
  · obtain rfl : q = qe := by omega
    have := e2 v hv.has
    rw [hv.hold] at this
    cases this
end

theorem belS_of {S : Bo.Sr} {lo hi : List Nat} {rc : Nat → Nat → Bool} {p q : Sp} (h1 : p.s ≠ 0) (h2 : q.s ≠ 1) (h3 : alw S lo hi rc p q = true) : belS S lo hi rc p q = true := by
  unfold belS
  rw [decide_eq_false h1, decide_eq_false h2, h3]
  rfl
theorem fits_ok {S : Bo.Sr} {lo hi : List Nat} {rc : Nat → Nat → Bool} {l m : List Sp} (hs : l.map Sp.s = m.map Sp.s) : FitsOK S (senS S lo hi rc l) m ↔ FitsIs S lo hi rc l (zOf m) := by
  have n : l.length = m.length := by have := congrArg List.length hs; simpa using this
  have sd : ∀ i (h : i < l.length) (h' : i < m.length), l[i].s = m[i].s := fun i h h' => side_at_k hs h h'
  constructor
  · rintro ⟨a, b, c⟩
    refine ⟨fun i h h' e => ?_, fun i h h' e => ?_, fun i h h' k g g' e1 e2 e3 => ?_⟩
    · have := a i (by omega) (by simpa [senS] using h) (by rw [← sd i h (by omega)]; exact e)
      simp only [senS, List.getElem_map] at this
      simp only [zOf, List.getElem_map]
      unfold lowS at this
      rwa [if_neg e] at this
    · have := b i (by omega) (by simpa [senS] using h) (by rw [← sd i h (by omega)]; exact e)
      simp only [senS, List.getElem_map] at this
      simp only [zOf, List.getElem_map]
      unfold highS at this
      rwa [if_neg e] at this
    · have := c i (by omega) (by simpa [senS] using h) k (by omega) (by simpa [senS] using g)
      simp only [senS, List.getElem_map] at this
      simp only [zOf, List.getElem_map]
      exact this (belS_of e1 e2 e3)
  · rintro ⟨a, b, c⟩
    refine ⟨fun i h h' e => ?_, fun i h h' e => ?_, fun i h h' k g g' e => ?_⟩
    · have e2 : (l[i]'(by omega)).s ≠ 1 := by rw [sd i (by omega) h]; exact e
      have := a i (by omega) (by simpa [zOf] using h) e2
      simp only [zOf, List.getElem_map] at this
      simp only [senS, List.getElem_map]
      unfold lowS
      rwa [if_neg e2]
    · have e2 : (l[i]'(by omega)).s ≠ 0 := by rw [sd i (by omega) h]; exact e
      have := b i (by omega) (by simpa [zOf] using h) e2
      simp only [zOf, List.getElem_map] at this
      simp only [senS, List.getElem_map]
      unfold highS
      rwa [if_neg e2]
    · simp only [senS, List.getElem_map] at e
      unfold belS at e
      simp only [Bool.and_eq_true, Bool.not_eq_true', decide_eq_false_iff_not] at e
      have := c i (by omega) (by simpa [zOf] using h) k (by omega) (by simpa [zOf] using g) e.1 e.2.1 e.2.2
      simp only [zOf, List.getElem_map] at this
      exact this

section
variable {S X : Bo.Sr} {G : So} {s : Sch} {t : List Nd} {m1 m2 ql qe : Nat} (h : SoIs G S X m1 m2)
include h
theorem zs_has (hg : grE G t t = 0) : (∀ y ∈ zOf (labB t), S.has y = true) ∧ ∀ y ∈ zOf (effB t), X.has y = true := by
  obtain ⟨-, -, vt, -⟩ := (grE_zero G).1 hg
  obtain ⟨v1, v2⟩ := vals_l G vt
  rw [h.h1] at v1
  rw [h.h2] at v2
  have f : ∀ (S : Bo.Sr) (l : List Sp), valB S.has l = true → ∀ y ∈ zOf l, S.has y = true := fun S l hv y hy => by
    obtain ⟨p, hp, rfl⟩ := List.mem_map.1 hy
    have := List.all_eq_true.1 hv p hp
    unfold okS at this
    rw [Bool.and_eq_true] at this
    exact this.2
  exact ⟨f S _ v1, f X _ v2⟩
/-- It comes just if it fits. -/
theorem exact_ok {lo hi lo' hi' : List Nat} (hok : OfOk S X s ql qe lo hi lo' hi') (hs : sameB s.b t = true) (hg : grE G t t = 0) : CmOK S X G s t m1 m2 ql qe ↔ FitsOK S (senS S lo hi (rcB ql s.l) (labB s.b)) (labB t) ∧ FitsOK X (senS X lo' hi' (rcB qe s.e) (effB s.b)) (effB t) := by
  have hc := Sch.check_is.1 hok.chk
  obtain ⟨ct, -⟩ := (grE_zero G).1 hg
  have sd := labB_side (same_alks hs hc.1 ct) hc.1 ct
  obtain ⟨y1, y2⟩ := zs_has h hg
  have k1 : ∀ p ∈ labB s.b, may1 S ql p = true := by rw [← hok.lv]; exact hc.2.2.2.1
  have k2 : ∀ p ∈ effB s.b, may1 X qe p = true := by rw [← hok.ev]; exact hc.2.2.2.2
  rw [cm_iff h hok.chk hok.lv hok.ev hs hg, fits_ok sd.1, fits_ok sd.2]
  constructor
  · rintro ⟨⟨u, hu⟩, v, hv⟩
    exact ⟨fits_of hok.gl k1 y1 hu, fits_of hok.ge k2 y2 hv⟩
  · rintro ⟨f1, f2⟩
    exact ⟨⟨_, comes_of hok.gl k1 y1 f1⟩, ⟨_, comes_of hok.ge k2 y2 f2⟩⟩
end
end Go.Proofs.YtfmpecnkkbpdlaaGreat

/- What Comes tells: does the type come of the scheme? Condition: it can be read, and is small. -/
namespace Go.Proofs.YtfmpecnkkbpdlaaGreat
open Go.ChangeShapes Go.WideShapes Go.ChangeAt Go.RowKit

theorem fit_digs {m q n : Nat} (hm : 0 < m) (h5 : m ≤ 1000) : La.Fit (digs m q n) := fun x hx => by
  have := digs_lt hm q n x hx
  omega
theorem pow_le5 {m q : Nat} (hm : m ≤ 5) (hq : q ≤ 3) : m ^ q ≤ 1000 := Nat.le_trans (Nat.pow_le_pow_left hm q) (Nat.le_trans (Nat.pow_le_pow_right (by decide) hq) (by decide))
theorem pow_le4 {m q : Nat} (hm : m ≤ 4) (hq : q ≤ 2) : m ^ q ≤ 1000 := Nat.le_trans (Nat.pow_le_pow_left hm q) (Nat.le_trans (Nat.pow_le_pow_right (by decide) hq) (by decide))
theorem two_le {kk : Nat} (h : kk ≤ 2) : 2 ^ kk ≤ 4 := Nat.le_trans (Nat.pow_le_pow_right (by decide) h) (by decide)
/-- None of the first. -/
structure NoneTo (P : Nat → Prop) (i : Nat) : Prop where
  all : ∀ j, j < i → P j
theorem NoneTo.zero (P : Nat → Prop) : NoneTo P 0 := ⟨fun j hj => absurd hj (Nat.not_lt_zero j)⟩
theorem NoneTo.succ {P : Nat → Prop} {i : Nat} (h : NoneTo P i) (hi : P i) : NoneTo P (i + 1) := ⟨fun j hj => by
  by_cases e : j = i
  · exact e ▸ hi
  · exact h.all j (by omega)⟩
theorem no_sch {S X : Bo.Sr} {G : So} {s : Sch} {t : List Nd} {m1 m2 ql qe M1 M2 i : Nat} (e1 : m1 ^ ql = M1) (e2 : m2 ^ qe = M2) (h : NoneTo (fun i => ∀ j, j < M2 → cmB S X G s t m1 m2 ql qe i j = false) i) (hi : ¬ i < M1) : ¬ CmOK S X G s t m1 m2 ql qe := fun ⟨i', j', h1, h2, h3⟩ => by
  have := h.all i' (by omega) j' (by omega)
  rw [h3] at this
  cases this
/-- Two cells of a box. -/
structure ZAt (w : World) (g : Nat) (A : Option Addr) (n c : Nat) (k : Int) : Prop where
  s0 : w.cell? ⟨g, 0, none⟩ = some (.slice A n c)
  s1 : w.cell? ⟨g, 1, none⟩ = some (.int .i64 k)
theorem ZAt.keep {w W : World} {g : Nat} {A : Option Addr} {n c : Nat} {k : Int} (h : ZAt w g A n c k) (hb : Below w.heap.size w W) : ZAt W g A n c k := ⟨cell_old h.s0 hb, cell_old h.s1 hb⟩
structure EsAt (w : World) (g g2 : Nat) (k ev : Int) : Prop where
  s1 : w.cell? ⟨g, 1, none⟩ = some (.int .i64 k)
  z1 : w.cell? ⟨g2, 1, none⟩ = some (.int .i64 ev)

set_option maxRecDepth 100000 in
set_option maxHeartbeats 16000000 in
theorem comesz_any (ql qe kk : Nat) (bo : List Nd) (sl se : List Bo.Bd) (A : Option Addr) (n c : Nat) (A1 : Option Addr) (n1 c1 : Nat) (A2 : Option Addr) (n2 c2 : Nat) (A3 : Option Addr) (n3 c3 : Nat) (rows : List Nat) (A4 : Option Addr) (n4 c4 : Nat) (t : List Nd) (w : World)
    (h : SchAt w ⟨(ql : Int), (qe : Int), bo, sl, se⟩ A n c A1 n1 c1 A2 n2 c2) (hr : Rd La.nm w w.heap.size A3 n3 c3 rows) (hrf : La.Fit rows) (ht : Ns w w.heap.size A4 n4 c4 t) (tf : ∀ x ∈ t, x.Fits) (tt : ∀ x ∈ t, x.TFits)
    (hck : Sch.check (laOf rows) (efOf (kk : Int)) ⟨(ql : Int), (qe : Int), bo, sl, se⟩ = 0) (h5 : n3 ≤ 5) (hk2 : kk ≤ 2) (hl3 : ql ≤ 3) (he2 : qe ≤ 2) (hs : SoIs (soOf rows (kk : Int)) (laOf rows) (efOf (kk : Int)) n3 (2 ^ kk)) :
    Calls Tryz.prog 25 #[zV A3 n3 c3 (kk : Int), schV ⟨(ql : Int), (qe : Int), bo, sl, se⟩ A n c A1 n1 c1 A2 n2 c2, .slice A4 n4 c4] w fun e w' => TellsB e (fun r => r = true ↔ CmOK (laOf rows) (efOf (kk : Int)) (soOf rows (kk : Int)) ⟨(ql : Int), (qe : Int), bo, sl, se⟩ t n3 (2 ^ kk) ql qe) ∧ Below w.heap.size w w' := by
  have HGR : Hid (∀ i j, Sch.grE ⟨(ql : Int), (qe : Int), bo, sl, se⟩ (digs n3 ql i) (digs (2 ^ kk) qe j) = 0) := Lib.hid fun i j => digs_gr hck rfl rfl i j
  have hsh : IntKind.i64.wrap ((2 : Int) ^ min kk 64) = ((2 ^ kk : Nat) : Int) := by
    have := two_le hk2
    rw [Nat.min_eq_left (by omega), show ((2 : Int) ^ kk) = ((2 ^ kk : Nat) : Int) by rw [Int.natCast_pow]; rfl]
    generalize 2 ^ kk = p at *
    simp only [IntKind.wrap, IntKind.bits, IntKind.signed]
    simp
    omega
  obtain ⟨m2, hm2⟩ : ∃ m, 2 ^ kk = m := ⟨_, rfl⟩
  have hm4 : m2 ≤ 4 := hm2 ▸ two_le hk2
  rw [hm2] at hs HGR hsh ⊢
  have HSH := Lib.hid hsh
  obtain ⟨M1, hM1⟩ : ∃ m, n3 ^ ql = m := ⟨_, rfl⟩
  obtain ⟨M2, hM2⟩ : ∃ m, m2 ^ qe = m := ⟨_, rfl⟩
  have HM1 := Lib.hid (show M1 ≤ 1000 from hM1 ▸ pow_le5 h5 hl3)
  have HM2 := Lib.hid (show M2 ≤ 1000 from hM2 ▸ pow_le4 hm4 he2)
  have HP1 := Lib.hid hs.p1
  have HP2 := Lib.hid hs.p2
  have HL1 : Hid (∀ i, left n3 ql i = 0 ↔ i < M1) := Lib.hid fun i => hM1 ▸ left_zero hs.p1
  have HL2 : Hid (∀ j, left m2 qe j = 0 ↔ j < M2) := Lib.hid fun j => hM2 ▸ left_zero hs.p2
  have HE1 := Lib.hid hM1
  have HE2 := Lib.hid hM2
  have H5 := Lib.hid h5
  have HM4 := Lib.hid hm4
  have HL3 := Lib.hid hl3
  have HE3 := Lib.hid he2
  have HK2 := Lib.hid hk2
  have HTF := Lib.hid tf
  have HTT := Lib.hid tt
  have HPC : Hid (∀ W, Below w.heap.size w W → Calls Tryz.prog 12 #[zV A3 n3 c3 (kk : Int)] W fun e w' => ∃ a b, e = .returned (.tuple #[.iface 52 (.pointer a), .iface 55 (.pointer b)]) ∧ Both w' a b (laOf rows) (efOf (kk : Int)) ∧ Below W.heap.size W w') := Lib.hid fun W hW => of_sorts A3 n3 c3 (kk : Int) rows W (hr.at_size (Nat.le_refl _) hW) hrf
  have HLN := Lib.hid fun W (hW : Below w.heap.size w W) => latNew_any A3 n3 c3 rows W (hr.at_size (Nat.le_refl _) hW) hrf
  have HEN := Lib.hid fun W => effNew_any (kk : Int) W
  have HSG : Hid (∀ (W : World) (p q : Option Addr), ((p = none ∧ (soOf rows 0).n = 0 ∧ (soOf rows 0).L = []) ∨ ∃ g us ds, p = some ⟨g, 0, none⟩ ∧ La.LatAt W g (soOf rows 0).n us ds ∧ us.take (soOf rows 0).n = (soOf rows 0).L) → Ef.EffP W q (soOf [] (kk : Int)).m (soOf [] (kk : Int)).t → SoAt W p q (soOf rows (kk : Int))) := Lib.hid fun W p q h1 h2 => ⟨h1, h2⟩
  have HLK : Hid (∀ (W W' : World) (p : Option Addr), Below W.heap.size W W' → ((p = none ∧ (soOf rows 0).n = 0 ∧ (soOf rows 0).L = []) ∨ ∃ g us ds, p = some ⟨g, 0, none⟩ ∧ La.LatAt W g (soOf rows 0).n us ds ∧ us.take (soOf rows 0).n = (soOf rows 0).L) → (p = none ∧ (soOf rows 0).n = 0 ∧ (soOf rows 0).L = []) ∨ ∃ g us ds, p = some ⟨g, 0, none⟩ ∧ La.LatAt W' g (soOf rows 0).n us ds ∧ us.take (soOf rows 0).n = (soOf rows 0).L) := Lib.hid fun W W' p hb h => by
    rcases h with h | ⟨g, us, ds, e, h, e2⟩
    · exact .inl h
    · exact .inr ⟨g, us, ds, e, h.keep hb, e2⟩
  obtain ⟨S, hS⟩ : ∃ S, laOf rows = S := ⟨_, rfl⟩
  obtain ⟨X, hX⟩ : ∃ X, efOf (kk : Int) = X := ⟨_, rfl⟩
  obtain ⟨G, hG⟩ : ∃ G, soOf rows (kk : Int) = G := ⟨_, rfl⟩
  rw [hS, hX] at HPC
  rw [hG] at HSG
  rw [hS, hX, hG]
  have HSA : Hid (∀ W, Below w.heap.size w W → SchAt W ⟨(ql : Int), (qe : Int), bo, sl, se⟩ A n c A1 n1 c1 A2 n2 c2) := Lib.hid fun W hW => h.keep hW
  have HT : Hid (∀ W, Below w.heap.size w W → Ns W W.heap.size A4 n4 c4 t) := Lib.hid fun W hW => ht.at_size (Nat.le_refl _) hW
  obtain ⟨x, hx⟩ : ∃ x, w.alloc (.cells #[.slice A3 n3 c3, .int .i64 (kk : Int)] 24) = x := ⟨_, rfl⟩
  obtain ⟨y, hy⟩ : ∃ y, x.alloc (.cells #[.int .i64 (ql : Int), .int .i64 (qe : Int), .slice A n c, .slice A1 n1 c1, .slice A2 n2 c2] 47) = y := ⟨_, rfl⟩
  have b0 : Below w.heap.size w x := hx ▸ (Below.refl _ _).alloc (Nat.le_refl _) _
  have sx : x.heap.size = w.heap.size + 1 := by rw [← hx, World.size_alloc]
  have b1 : Below x.heap.size x y := hy ▸ (Below.refl _ _).alloc (Nat.le_refl _) _
  have k0 : y.heap[w.heap.size]? = some (.cells #[.slice A3 n3 c3, .int .i64 (kk : Int)] 24 (0, 0)) := (b1.block _ (by rw [sx]; omega)).trans (hx ▸ heap_alloc_new w _)
  have hbx : Box y (w.heap.size + 1) (ql : Int) (qe : Int) A n c A1 n1 c1 A2 n2 c2 := by rw [← sx, ← hy]; exact Box.new x (ql : Int) (qe : Int) A n c A1 n1 c1 A2 n2 c2
  have hb : Below w.heap.size w y := b0.trans (b1.mono b0.size)
  have s0 := (cell_blk (i := 0) k0).trans rfl
  have s1 := (cell_blk (i := 1) k0).trans rfl
  have HB := Lib.hid hb
  have HBX := Lib.hid hbx
  have HZ : Hid (ZAt y w.heap.size A3 n3 c3 (kk : Int)) := Lib.hid ⟨s0, s1⟩
  clear b0 b1 sx k0 hb hbx h hr hrf ht tf tt hck h5 hk2 hl3 he2 hs hm2 hm4 hM1 hM2 hS hX hG hsh
  subst hx
  unfold schV
  unfold zV at HPC ⊢
  go_enter Tryz.func25, Tryz.ntmps25
  go_wp2_with fail
  clear hy
  refine (HPC.out _ HB.out).mono ?_
  rintro e v1 ⟨a, b, rfl, hbo, hv⟩
  have HBO1 := Lib.hid hbo
  have HV1 := Lib.hid hv
  replace s0 := (HZ.out.keep hv).s0
  clear hv hbo HPC s1
  go_wp2_with fail
  refine (HLN.out _ (HB.out.trans (HV1.out.mono HB.out.size))).mono ?_
  rintro e v2 ⟨p, xp, rfl, -, hlat, hv⟩
  have HLAT := Lib.hid hlat
  have HBO2 := Lib.hid (HBO1.out.keep hv)
  have HV2 := Lib.hid (HV1.out.trans (hv.mono HV1.out.size))
  have s1 := (HZ.out.keep HV2.out).s1
  clear hv hlat HLN s0 HBO1 HV1
  go_wp2_with fail
  refine (HEN.out _).mono ?_
  rintro e v ⟨q, xq, rfl, -, heff, hv⟩
  have HSO := Lib.hid (HSG.out v p q (HLK.out _ _ p hv HLAT.out) heff)
  have HBO := Lib.hid (HBO2.out.keep hv)
  have hvv := HV2.out.trans (hv.mono HV2.out.size)
  have HV := Lib.hid (HB.out.trans (hvv.mono HB.out.size))
  have HBXV := Lib.hid (HBX.out.keep hvv)
  have HZV := Lib.hid (HZ.out.keep hvv)
  clear hv hvv heff HEN s1 HBO2 HV2 HLAT HSG HLK HBX HZ HB
  go_wp2_with fail
  go_loopw [13] (fun v13 wr => ∃ i : Nat, v13 = .int .i64 (i : Int) ∧ i ≤ M1 ∧ Below v.heap.size v wr ∧ NoneTo (fun i => ∀ j, j < M2 → cmB S X G ⟨(ql : Int), (qe : Int), bo, sl, se⟩ t n3 m2 ql qe i j = false) i) (fun v13 _ => M1 - (intOf v13).toNat)
  case atStart => exact ⟨0, rfl, Nat.zero_le _, Below.refl _ _, NoneTo.zero _⟩
  case round =>
    obtain ⟨i, rfl, hi, hb, hno⟩ := hrel
    have HNO := Lib.hid hno
    have HBW := Lib.hid hb
    have hbx := HBXV.out.keep hb
    have z0 := hbx.z0
    have s0 := (HZV.out.keep hb).s0
    have hcall := vals_any ql n3 i wr (by have := HL3.out; omega) HP1.out (by have := H5.out; omega) (by have := HM1.out; omega)
    clear hb hno hbx
    by_cases hlt : i < M1
    · rw [decide_eq_true ((HL1.out i).2 hlt)] at hcall
      have HCALL := Lib.hid hcall
      have HLT := Lib.hid hlt
      clear hcall hlt hi
      go_wp2_with fail
      refine HCALL.out.mono ?_
      rintro e w1 ⟨P, pk, pc, rfl, hrd, hv⟩
      have HRD := Lib.hid hrd
      have HW1 := Lib.hid (HBW.out.trans (hv.mono HBW.out.size))
      obtain ⟨x1, hx1⟩ : ∃ x, Bo.holdS S (digs n3 ql i) sl = x := ⟨_, rfl⟩
      have HX1 := Lib.hid hx1
      have hsa := HSA.out w1 (HV.out.trans (HW1.out.mono HV.out.size))
      have hcall := Bo.hold_any (.iface 52 (.pointer a)) P pk pc (digs n3 ql i) A1 n1 c1 sl S w1 x1 (HBO.out.keep HW1.out).sl.into hrd (fit_digs HP1.out (by have := H5.out; omega)) hsa.l hsa.lf hx1
      have HCALL2 := Lib.hid hcall
      have z3 := (HBXV.out.keep HW1.out).z3
      clear hv hrd hx1 hsa hcall z0 s0 HCALL HBW
      go_wp2_with fail
      refine HCALL2.out.mono ?_
      rintro e w2 ⟨rfl, hv⟩
      have HW2 := Lib.hid (HW1.out.trans (hv.mono HW1.out.size))
      have HRD2 := Lib.hid (HRD.out.at_size (Nat.le_refl _) hv)
      clear hv z3 HCALL2 HRD HW1
      have hib : i ≤ 100000 := by have := HLT.out; have := HM1.out; omega
      cases x1 with
      | false =>
        go_wp2_with fail
        go_roundw
        case rel => exact ⟨i + 1, by go_num, HLT.out, HW2.out, HNO.out.succ fun j _ => by unfold cmB; rw [HX1.out]; rfl⟩
        case measure =>
          have := HLT.out
          simp [intOf]
          omega
      | true =>
        clear hib
        go_wp2_with fail
        clear wr
        go_loopw [16] (fun v16 wq => ∃ j : Nat, v16 = .int .i64 (j : Int) ∧ j ≤ M2 ∧ Below w2.heap.size w2 wq ∧ NoneTo (fun j => cmB S X G ⟨(ql : Int), (qe : Int), bo, sl, se⟩ t n3 m2 ql qe i j = false) j) (fun v16 _ => M2 - (intOf v16).toNat)
        case atStart => exact ⟨0, rfl, Nat.zero_le _, Below.refl _ _, NoneTo.zero _⟩
        case round =>
          obtain ⟨j, rfl, hj, hb, hno⟩ := hrel
          have HNJ := Lib.hid hno
          have HBW := Lib.hid hb
          have hbd := hb.trans ((Below.refl wr.heap.size wr).drew.mono hb.size)
          have HBD := Lib.hid hbd
          have HES : Hid (∀ W, Below w2.heap.size w2 W → EsAt W w.heap.size (w.heap.size + 1) (kk : Int) (qe : Int)) := Lib.hid fun W hW => ⟨((HZV.out.keep HW2.out).keep hW).s1, ((HBXV.out.keep HW2.out).keep hW).z1⟩
          have hk0 : ¬ (kk : Int) < 0 := by omega
          have hcall := vals_any qe m2 j wr.drew (by have := HE3.out; omega) HP2.out (by have := HM4.out; omega) (by have := HM2.out; omega)
          clear hb hno hbd
          obtain ⟨d, hd⟩ : ∃ d, decide (left m2 qe j = 0) = d := ⟨_, rfl⟩
          rw [hd] at hcall
          have HD := Lib.hid hd
          have HJ := Lib.hid hj
          have HCALL := Lib.hid hcall
          clear hcall hd hj
          go_wp2_with fail
          refine wp_region_ord [0, 1, 2, 3, 4, 5, 6, 7, 8, 9, 10, 11] [6] 12 (fun W => EsAt W w.heap.size (w.heap.size + 1) (kk : Int) (qe : Int)) (by kernel_rfl) (by kernel_rfl) (by kernel_rfl) (by kernel_rfl) (fun _ _ _ _ _ h => h) (HES.out _ HBD.out) ?_
          simp only [steps, List.getElem?_cons_zero, List.getElem?_cons_succ]
          repeat (first
            | (refine ord_no rfl ?_; simp only [Act.put, List.setIfInBounds_toArray, List.set_cons_zero, List.set_cons_succ])
            | (refine ord_yes (v := ?_) rfl rfl ?_ ?_; rotate_left; (focus (rintro w' ⟨x0, x1⟩; go_simp; try with_reducible rfl)); simp only [Act.put, List.setIfInBounds_toArray, List.set_cons_zero, List.set_cons_succ]))
          generalize wr.drew = we at *
          refine ord_hard rfl rfl (fun K hK => ?_)
          go_simp
          rw [HSH.out]
          refine HCALL.out.mono ?_
          rintro e w3 ⟨Q, qk, qc, rfl, hrd, hv⟩
          have hbd := HBD.out.trans (hv.mono HBD.out.size)
          have HBE := Lib.hid hbd
          have HRQ := Lib.hid hrd
          clear hv hrd
          refine hK.out _ _ (fun _ => HES.out _ hbd) ?_
          clear hK K hbd
          try simp only [Act.put, List.setIfInBounds_toArray, List.set_cons_zero, List.set_cons_succ]
          repeat (first
            | (refine ord_no rfl ?_; simp only [Act.put, List.setIfInBounds_toArray, List.set_cons_zero, List.set_cons_succ])
            | (refine ord_yes (v := ?_) rfl rfl ?_ ?_; rotate_left; (focus (rintro w' ⟨x0, x1⟩; go_simp; try with_reducible rfl)); simp only [Act.put, List.setIfInBounds_toArray, List.set_cons_zero, List.set_cons_succ]))
          refine ord_end ?_
          clear hk0 HCALL HBD HES
          cases d with
          | false =>
            have HLJ := Lib.hid (fun e => of_decide_eq_false HD.out ((HL2.out j).2 e) : ¬ j < M2)
            have HW5 := Lib.hid (HW2.out.trans (HBE.out.mono HW2.out.size))
            have hib : i ≤ 100000 := by have := HLT.out; have := HM1.out; omega
            go_wp2_with fail
            go_roundw
            case rel => exact ⟨i + 1, by go_num, HLT.out, HW5.out, HNO.out.succ fun j' hj' => HNJ.out.all j' (by have := Nat.le_of_not_lt HLJ.out; omega)⟩
            case measure =>
              have := HLT.out
              simp [intOf]
              omega
          | true =>
            have HLJ := Lib.hid ((HL2.out j).1 (of_decide_eq_true HD.out))
            obtain ⟨x2, hx2⟩ : ∃ x, Bo.holdS X (digs m2 qe j) se = x := ⟨_, rfl⟩
            have HX2 := Lib.hid hx2
            have HW3 := Lib.hid (HW2.out.trans (HBE.out.mono HW2.out.size))
            have hsa := HSA.out w3 (HV.out.trans (HW3.out.mono HV.out.size))
            have hcall := Bo.hold_any (.iface 55 (.pointer b)) Q qk qc (digs m2 qe j) A2 n2 c2 se X w3 x2 (HBO.out.keep HW3.out).sx.into HRQ.out (fit_digs HP2.out (by have := HM4.out; omega)) hsa.e hsa.ef hx2
            have HCALL := Lib.hid hcall
            have z4 := (HBXV.out.keep HW3.out).z4
            have hjb : j ≤ 100000 := by have := HLJ.out; have := HM2.out; omega
            clear hx2 hsa hcall HD
            go_wp2_with fail
            refine HCALL.out.mono ?_
            rintro e w4 ⟨rfl, hv⟩
            have HBF := Lib.hid (HBE.out.trans (hv.mono HBE.out.size))
            have HRR := Lib.hid (HRQ.out.at_size (Nat.le_refl _) hv)
            clear hv z4 HCALL HRQ HW3 HBE
            cases x2 with
            | false =>
              go_wp2_with fail
              go_roundw
              case rel => exact ⟨j + 1, by go_num, HLJ.out, HBF.out, HNJ.out.succ (by unfold cmB; rw [HX1.out, HX2.out]; rfl)⟩
              case measure =>
                have := HLJ.out
                simp [intOf]
                omega
            | true =>
              have HW4 := Lib.hid (HW2.out.trans (HBF.out.mono HW2.out.size))
              have hcall := schGround_any ⟨(ql : Int), (qe : Int), bo, sl, se⟩ A n c A1 n1 c1 A2 n2 c2 P pk pc (digs n3 ql i) Q qk qc (digs m2 qe j) w4 (HSA.out w4 (HV.out.trans (HW4.out.mono HV.out.size))) (HRD2.out.at_size (Nat.le_refl _) HBF.out) HRR.out 0 (HGR.out i j)
              unfold schV at hcall
              have HCALL := Lib.hid hcall
              have hbx := HBXV.out.keep HW4.out
              have z0 := hbx.z0
              have z1 := hbx.z1
              have z2 := hbx.z2
              have z3 := hbx.z3
              have z4 := hbx.z4
              clear hcall hbx
              go_wp2_with fail
              refine HCALL.out.mono ?_
              rintro e w5 ⟨K1, kk1, kc1, rfl, hown, hv⟩
              have HBG := Lib.hid (HBF.out.trans (hv.mono HBF.out.size))
              have hw5 := HW4.out.trans (hv.mono HW4.out.size)
              obtain ⟨g, hg⟩ : ∃ g, grB G (Sch.grN ⟨(ql : Int), (qe : Int), bo, sl, se⟩ (digs n3 ql i) (digs m2 qe j)) t = g := ⟨_, rfl⟩
              obtain ⟨ge, hge⟩ : ∃ g, grE G (Sch.grN ⟨(ql : Int), (qe : Int), bo, sl, se⟩ (digs n3 ql i) (digs m2 qe j)) t = g := ⟨_, rfl⟩
              have hsa := HSA.out w5 (HV.out.trans (hw5.mono HV.out.size))
              have hcall := grounds_any K1 A4 kk1 kc1 n4 c4 _ t p q G w5 (Rs.of_own ndc_len (by decide) hown) (HT.out w5 (HV.out.trans (hw5.mono HV.out.size))) (gr_fits hsa.bf) HTF.out (gr_tfits hsa.bt (fit_digs HP1.out (by have := H5.out; omega)) (fit_digs HP2.out (by have := HM4.out; omega))) HTT.out (HSO.out.keep hw5)
              rw [hg, hge] at hcall
              have HG := Lib.hid hg
              have HGE : Hid (g = true → ge = 0) := Lib.hid fun e => by
                rw [e] at hg
                unfold grB at hg
                rw [Bool.and_eq_true, hge] at hg
                exact of_decide_eq_true hg.1
              have HCALL2 := Lib.hid hcall
              clear hv hown hw5 hg hge hsa hcall z0 z1 z2 z3 z4 HCALL HRR HBF HW4
              go_wp2_with fail
              refine HCALL2.out.mono ?_
              rintro e w6 ⟨rfl, hv⟩
              have HBH := Lib.hid (HBG.out.trans (hv.mono HBG.out.size))
              clear hv HCALL2 HBG
              cases g with
              | true =>
                obtain rfl : ge = 0 := HGE.out rfl
                have HW6 := Lib.hid (HW2.out.trans (HBH.out.mono HW2.out.size))
                have HZZ := Lib.hid (HV.out.trans (HW6.out.mono HV.out.size))
                have HYES : Hid (CmOK S X G ⟨(ql : Int), (qe : Int), bo, sl, se⟩ t n3 m2 ql qe) := Lib.hid ⟨i, j, by rw [HE1.out]; exact HLT.out, by rw [HE2.out]; exact HLJ.out, by unfold cmB; rw [HX1.out, HX2.out, HG.out]; rfl⟩
                clear hjb
                go_wp2_with fail
                go_ret
                exact ⟨.mk true rfl ⟨fun _ => HYES.out, fun _ => rfl⟩, HZZ.out⟩
              | false =>
                have HREL : Hid (NoneTo (fun j => cmB S X G ⟨(ql : Int), (qe : Int), bo, sl, se⟩ t n3 m2 ql qe i j = false) (j + 1)) := Lib.hid (HNJ.out.succ (by unfold cmB; rw [HX1.out, HX2.out, HG.out]; rfl))
                clear HGE HG HNJ
                by_cases h0 : ge = 0
                · subst h0
                  go_wp2_with fail
                  go_roundw
                  case rel => exact ⟨j + 1, by go_num, HLJ.out, HBH.out, HREL.out⟩
                  case measure =>
                    have := HLJ.out
                    simp [intOf]
                    omega
                · have hne : ((ge : Int) == 0) = false := by simp; omega
                  clear h0
                  go_wp2_with fail
                  go_roundw
                  case rel => exact ⟨j + 1, by go_num, HLJ.out, HBH.out, HREL.out⟩
                  case measure =>
                    have := HLJ.out
                    simp [intOf]
                    omega
    · rw [decide_eq_false (fun e => hlt ((HL1.out i).1 e))] at hcall
      have HCALL := Lib.hid hcall
      have HLT := Lib.hid hlt
      clear hcall hlt hi
      go_wp2_with fail
      refine HCALL.out.mono ?_
      rintro e w1 ⟨P, pk, pc, rfl, -, hv⟩
      have HW1 := Lib.hid (HBW.out.trans (hv.mono HBW.out.size))
      have HZZ := Lib.hid (HV.out.trans (HW1.out.mono HV.out.size))
      clear hv z0 s0 HCALL
      go_wp2_with fail
      go_ret
      exact ⟨.mk false rfl ⟨fun e => (by cases e), fun hc => absurd hc (no_sch HE1.out HE2.out HNO.out HLT.out)⟩, HZZ.out⟩

theorem side_len {l m : List Sp} (h : l.map Sp.s = m.map Sp.s) : l.length = m.length := by
  have := congrArg List.length h
  simpa using this
theorem comes_call (s : Sch) (A : Option Addr) (n c : Nat) (A1 : Option Addr) (n1 c1 : Nat) (A2 : Option Addr) (n2 c2 : Nat) (A3 : Option Addr) (n3 c3 : Nat) (k : Int) (rows : List Nat) (A4 : Option Addr) (n4 c4 : Nat) (t : List Nd) (w : World)
    (h : SchAt w s A n c A1 n1 c1 A2 n2 c2) (hr : Rd La.nm w w.heap.size A3 n3 c3 rows) (hrf : La.Fit rows) (ht : Ns w w.heap.size A4 n4 c4 t) (tf : ∀ x ∈ t, x.Fits) (tt : ∀ x ∈ t, x.TFits)
    (hck : s.check (laOf rows) (efOf k) = 0) (hi : SmlIs s k n3 n n1 n2) (hs : SoIs (soOf rows k) (laOf rows) (efOf k) n3 (2 ^ k.toNat)) :
    Calls Tryz.prog 25 #[zV A3 n3 c3 k, schV s A n c A1 n1 c1 A2 n2 c2, .slice A4 n4 c4] w fun e w' => TellsB e (fun r => r = true ↔ CmOK (laOf rows) (efOf k) (soOf rows k) s t n3 (2 ^ k.toNat) s.lv.toNat s.ev.toNat) ∧ Below w.heap.size w w' := by
  obtain ⟨lv, ev, bo, sl, se⟩ := s
  have h1 : 0 ≤ lv := hi.l0
  have h2 : 0 ≤ ev := hi.e0
  have h3 : lv ≤ 3 := hi.l3
  have h4 : ev ≤ 2 := hi.e2
  have h5 := hi.k0
  have h6 := hi.k2
  have h7 := hi.rows
  obtain ⟨ql, rfl⟩ : ∃ q : Nat, lv = (q : Int) := ⟨lv.toNat, by omega⟩
  obtain ⟨qe, rfl⟩ : ∃ q : Nat, ev = (q : Int) := ⟨ev.toNat, by omega⟩
  obtain ⟨kk, rfl⟩ : ∃ q : Nat, k = (q : Int) := ⟨k.toNat, by omega⟩
  exact comesz_any ql qe kk bo sl se A n c A1 n1 c1 A2 n2 c2 A3 n3 c3 rows A4 n4 c4 t w h hr hrf ht tf tt hck h7 (by omega) (by omega) (by omega) hs
end Go.Proofs.YtfmpecnkkbpdlaaGreat
