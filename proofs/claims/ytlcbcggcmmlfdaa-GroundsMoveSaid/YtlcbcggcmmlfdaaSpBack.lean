/- Spots whose terms are others, one behind the other; stores into a row of spots of one's own. No condition. -/
import Derived.Test.YtlcbcggcmmlfdaaLaw2
namespace Go.Proofs.Ytlcbcggcmmlfdaa
open Go.RowKit

/-- The first i have other terms. -/
def mix (ls : List Sp) (ts : List Tm) (i : Nat) : List Sp := List.zipWith Sp.re (ls.take i) (ts.take i) ++ ls.drop i
theorem mix_zero (ls : List Sp) (ts : List Tm) : mix ls ts 0 = ls := by simp [mix]
theorem mix_all {ls : List Sp} {ts : List Tm} {i : Nat} (h : ls.length ≤ i) (h' : ts.length ≤ i) : mix ls ts i = List.zipWith Sp.re ls ts := by
  unfold mix
  rw [List.take_of_length_le h, List.take_of_length_le h', List.drop_eq_nil_of_le h, List.append_nil]
theorem mix_len {ls : List Sp} {ts : List Tm} (e : ts.length = ls.length) (i : Nat) : (mix ls ts i).length = ls.length := by
  unfold mix
  rw [List.length_append, List.length_zipWith, List.length_take, List.length_take, List.length_drop]
  omega
theorem mix_at {ls : List Sp} {ts : List Tm} (e : ts.length = ls.length) {i : Nat} (h : i < ls.length) (h' : i < (mix ls ts i).length) : (mix ls ts i)[i] = ls[i] := by
  have hl : (List.zipWith Sp.re (ls.take i) (ts.take i)).length = i := by rw [List.length_zipWith, List.length_take, List.length_take]; omega
  have : (mix ls ts i)[i]? = some ls[i] := by
    unfold mix
    rw [List.getElem?_append_right (by omega), hl, Nat.sub_self, List.getElem?_drop, Nat.add_zero, List.getElem?_eq_getElem h]
  exact (List.getElem?_eq_some_iff.1 this).2
theorem mix_step {ls : List Sp} {ts : List Tm} (e : ts.length = ls.length) {i : Nat} (h : i < ls.length) (h' : i < (mix ls ts i).length) : (mix ls ts i).set i ((mix ls ts i)[i].re (ts[i]'(by omega))) = mix ls ts (i + 1) := by
  rw [mix_at e h h']
  have hl : (List.zipWith Sp.re (ls.take i) (ts.take i)).length = i := by rw [List.length_zipWith, List.length_take, List.length_take]; omega
  unfold mix
  rw [List.set_append_right _ _ (by omega), hl, Nat.sub_self, List.drop_eq_getElem_cons h, List.set_cons_zero, List.take_succ_eq_append_getElem h, List.take_succ_eq_append_getElem (by omega : i < ts.length), List.zipWith_append (by rw [List.length_take, List.length_take]; omega)]
  simp

section
variable {α : Type} {enc : α → List Value} {sz : Nat}
theorem set_cellsG (he : ∀ x, (enc x).length = sz) {l : List α} {k : Nat} (h : k < l.length) {u : Value} {i : Nat} (hi : i < sz) {y : α} (hy : enc y = (enc l[k]).set i u) :
    (l.flatMap enc).set (k * sz + i) u = (l.set k y).flatMap enc := by
  induction l generalizing k with
  | nil => simp at h
  | cons x l ih =>
    cases k with
    | zero =>
      simp only [List.getElem_cons_zero] at hy
      rw [List.set_cons_zero, List.flatMap_cons, List.flatMap_cons, hy, Nat.zero_mul, Nat.zero_add, List.set_append_left _ _ (by rw [he]; exact hi)]
    | succ k =>
      simp only [List.getElem_cons_succ] at hy
      rw [List.set_cons_succ, List.flatMap_cons, List.flatMap_cons, List.set_append_right _ _ (by rw [he, Nat.add_mul]; omega), he, show (k + 1) * sz + i - sz = k * sz + i by rw [Nat.add_mul]; omega, ih (by simpa using h) hy]

theorem own_setG (he : ∀ x, (enc x).length = sz) {E : TypeId} {w : World} {base g n c : Nat} {l : List α} (h : w.ownsRow base E sz (.slice (some ⟨g, 0, none⟩) n c) n (l.flatMap enc)) {k : Nat} (hk : k < l.length) {u : Value} {i : Nat} (hi : i < sz) {y : α} (hy : enc y = (enc l[k]).set i u) :
    (w.setCell ⟨g, k * sz + i, none⟩ u).ownsRow base E sz (.slice (some ⟨g, 0, none⟩) n c) n ((l.set k y).flatMap enc) := by
  have hn : l.length = n := rs_own_len he (by omega) h
  rcases h.2 with ⟨hv, _⟩ | ⟨g', cap, cur, hv, hb, hg, hnc, hcm, hcs, htake⟩
  · cases hv
  · injection hv with h1 h2 h3
    injection h1 with h1
    injection h1 with h1
    subst h1
    subst h3
    refine ⟨by rw [flat_len he, List.length_set, hn], .inr ⟨g, c, cur.setIfInBounds (k * sz + i) u, rfl, hb, set_blk hg u, hnc, hcm, by simpa using hcs, ?_⟩⟩
    rw [Array.toList_setIfInBounds, List.take_set, htake]
    exact set_cellsG he hk hi hy
end

theorem own_spot {w : World} {base n c : Nat} {A : Option Addr} {l : List Sp} (h : w.ownsRow base 58 5 (.slice A n c) n (l.flatMap spc)) {k : Nat} (hk : k < l.length) :
    ∃ g, A = some ⟨g, 0, none⟩ ∧ base ≤ g ∧ g < w.heap.size ∧ (∀ i u, (spc l[k])[i]? = some u → w.cell? ⟨g, k * 5 + i, none⟩ = some u) ∧ ∀ i, w.frozen? ⟨g, i, none⟩ = false := by
  rcases h.2 with ⟨hv, hn⟩ | ⟨g, cap, cur, hv, hb, hg, hnc, hcm, hcs, htake⟩
  · have := rs_own_len spc_len (by decide) h
    omega
  · injection hv with h1 h2 h3
    subst h1
    refine ⟨g, rfl, hb, lt_blk hg, fun i u hu => ?_, fun i => frozen_blk hg⟩
    have hi : i < 5 := by
      have := (List.getElem?_eq_some_iff.1 hu).1
      rwa [spc_len] at this
    have := h.cells (g := g) rfl (k * 5 + i) u (by rw [flat_get spc_len l k hk i hi]; exact hu)
    rwa [Addr.add_lit, Nat.zero_add] at this

/-- A spot's term is set anew. -/
theorem own_re {w : World} {base g n c : Nat} {l : List Sp} (h : w.ownsRow base 58 5 (.slice (some ⟨g, 0, none⟩) n c) n (l.flatMap spc)) {k : Nat} (hk : k < l.length) (t : Tm) :
    ((w.setCell ⟨g, k * 5 + 3, none⟩ (.bool t.1)).setCell ⟨g, k * 5 + 4, none⟩ (.int .u64 t.2)).ownsRow base 58 5 (.slice (some ⟨g, 0, none⟩) n c) n ((l.set k (l[k].re t)).flatMap spc) := by
  have h1 := own_setG spc_len h hk (i := 3) (u := .bool t.1) (by decide) (y := { l[k] with v := t.1 }) rfl
  have hi2 : k < (l.set k { l[k] with v := t.1 }).length := by simpa using hk
  have h2 := own_setG spc_len h1 hi2 (i := 4) (u := .int .u64 t.2) (by decide) (y := l[k].re t) (by simp [Sp.re, spc])
  rwa [List.set_set] at h2

theorem own_setOther {W : World} {base n sz g j : Nat} {E : TypeId} {v : Value} {xs : List Value} (h : W.ownsRow base E sz v n xs) (hne : v.ownBlock ≠ some g) (u : Value) : (W.setCell ⟨g, j, none⟩ u).ownsRow base E sz v n xs := by
  refine ⟨h.1, ?_⟩
  rcases h.2 with hn | ⟨g', cap, cur, hv, hb, hg, r⟩
  · exact .inl hn
  · refine .inr ⟨g', cap, cur, hv, hb, (Below.heap_setCell _ _ _ _ ?_).trans hg, r⟩
    rintro rfl
    exact hne (by rw [hv]; rfl)

theorem own_blk {W W' : World} {base n sz : Nat} {E : TypeId} {v : Value} {xs : List Value} (h : W.ownsRow base E sz v n xs) (hk : ∀ g, v.ownBlock = some g → W'.heap[g]? = W.heap[g]?) : W'.ownsRow base E sz v n xs := by
  refine ⟨h.1, ?_⟩
  rcases h.2 with hn | ⟨g', cap, cur, hv, hb, hg, r⟩
  · exact .inl hn
  · exact .inr ⟨g', cap, cur, hv, hb, (hk g' (by rw [hv]; rfl)).trans hg, r⟩

theorem Kept.on {D : Nat → Prop} {a w w' : World} (h : Kept D a w) (hb : Below a.heap.size w w') : Kept D a w' :=
  ⟨h.os ▸ hb.os, h.tape ▸ hb.tape, h.output ▸ hb.output, Nat.le_trans h.size hb.size, fun b hs hn => (hb.block b hs).trans (h.block b hs hn)⟩

/-- i spots have other terms, and these stand in a row of their own. -/
def BkRel (wB : World) (base : Nat) (A : Option Addr) (k c : Nat) (ls : List Sp) (ts : List Tm) (v9 v11 : Value) (wr : World) : Prop :=
  ∃ (i : Nat) (Aa : Option Addr) (N ca : Nat), v11 = .int .i64 (i : Int) ∧ v9 = .slice Aa N ca ∧ i ≤ k ∧ wr.ownsRow wB.heap.size 54 2 (.slice Aa N ca) N ((ts.take i).flatMap tmc) ∧ wr.ownsRow base 58 5 (.slice A k c) k ((mix ls ts i).flatMap spc) ∧ Kept (fun b => (Value.slice A k c).ownBlock = some b) wB wr

/-- The terms of a row, gone round. -/
def turnT (zs : List Tm) (d k : Nat) : List Tm := (List.range k).map fun i => zs.getD ((i + d) % zs.length) (false, 0)
theorem turnT_len (zs : List Tm) (d k : Nat) : (turnT zs d k).length = k := by simp [turnT]
theorem turnT_at {zs : List Tm} {d k i : Nat} (h : i < (turnT zs d k).length) (hj : (i + d) % zs.length < zs.length) : (turnT zs d k)[i] = zs[(i + d) % zs.length] := by
  have hk : i < k := by rw [turnT_len] at h; exact h
  have : (turnT zs d k)[i]? = some zs[(i + d) % zs.length] := by
    unfold turnT
    rw [List.getElem?_map, List.getElem?_range hk, Option.map_some, List.getD_eq_getElem?_getD, List.getElem?_eq_getElem hj, Option.getD_some]
  exact (List.getElem?_eq_some_iff.1 this).2
end Go.Proofs.Ytlcbcggcmmlfdaa
