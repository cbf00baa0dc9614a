/- Words for slices whose elements take several cells each: what a slice reads as, that it is kept where old memory is kept, what a slice of the call's own reads as, cuts and appends. No condition but those that each line names. -/
import Derived.Test.YthbonabadelfdaaGreatVals
import Derived.Test.YthbonabadelfdaaGreatKept
import Derived.Laws.AppendOwn
import Derived.OwnWalk
namespace Go.Proofs.YthbonabadelfdaaGreat
open Go.RowKit

/-- The slice (A, n, c) reads as l, each element of sz cells by enc, and lies below block B. -/
structure Rs {α : Type} (enc : α → List Value) (sz : Nat) (w : World) (B : Nat) (A : Option Addr) (n c : Nat) (l : List α) : Prop where
  len : l.length = n
  cap : n ≤ c
  top : c ≤ maxLen
  none0 : A = none → c = 0
  spot : 0 < n → ∃ b o, A = some ⟨b, o, none⟩ ∧ b < B ∧ ∀ j (h : j < l.length) i u, (enc l[j])[i]? = some u → w.cell? ⟨b, o + j * sz + i, none⟩ = some u

section
variable {α : Type} {enc : α → List Value} {sz : Nat} {w w' : World} {B B' : Nat} {A : Option Addr} {n c : Nat} {l : List α}

theorem Rs.nil (w : World) (B : Nat) : Rs enc sz w B none 0 0 [] := ⟨rfl, Nat.le_refl _, Nat.zero_le _, fun _ => rfl, fun h => absurd h (by omega)⟩

theorem Rs.keep (h : Rs enc sz w B A n c l) (hk : ∀ k, k < B → w'.heap[k]? = w.heap[k]?) : Rs enc sz w' B A n c l :=
  ⟨h.len, h.cap, h.top, h.none0, fun hn => by
    obtain ⟨b, o, e, hb, hc⟩ := h.spot hn
    exact ⟨b, o, e, hb, fun j hj i u hu => (World.cell?_of_block (w := w) (w' := w') (a := ⟨b, o + j * sz + i, none⟩) (hk b hb)).trans (hc j hj i u hu)⟩⟩

theorem Rs.below (h : Rs enc sz w B A n c l) (hb : Below B w w') : Rs enc sz w' B A n c l := h.keep hb.block

theorem Rs.mono (h : Rs enc sz w B A n c l) (hB : B ≤ B') : Rs enc sz w B' A n c l :=
  ⟨h.len, h.cap, h.top, h.none0, fun hn => by
    obtain ⟨b, o, e, hb, hc⟩ := h.spot hn
    exact ⟨b, o, e, by omega, hc⟩⟩

theorem Rs.at_size (h : Rs enc sz w B A n c l) (hB : B ≤ w.heap.size) (hb : Below w.heap.size w w') : Rs enc sz w' w'.heap.size A n c l :=
  ((h.mono hB).below hb).mono hb.size

theorem Rs.heap (h : Rs enc sz w B A n c l) (e : w'.heap = w.heap) : Rs enc sz w' B A n c l := h.keep fun k _ => by rw [e]

/-- Elements of a row, each of sz cells. -/
theorem flat_len (he : ∀ x, (enc x).length = sz) : ∀ l : List α, (l.flatMap enc).length = l.length * sz
  | [] => by simp
  | x :: l => by
    rw [List.flatMap_cons, List.length_append, he, flat_len he l, List.length_cons, Nat.add_mul]
    omega

theorem flat_get (he : ∀ x, (enc x).length = sz) : ∀ (l : List α) (j : Nat) (h : j < l.length) (i : Nat), i < sz → (l.flatMap enc)[j * sz + i]? = (enc l[j])[i]?
  | [], j, h, _, _ => by simp at h
  | x :: l, 0, _, i, hi => by
    rw [List.flatMap_cons, Nat.zero_mul, Nat.zero_add, List.getElem?_append_left (by rw [he]; exact hi)]
    rfl
  | x :: l, j + 1, h, i, hi => by
    have := flat_get he l j (by simpa using h) i hi
    rw [List.flatMap_cons, List.getElem?_append_right (by rw [he, Nat.add_mul]; omega), he, show (j + 1) * sz + i - sz = j * sz + i by rw [Nat.add_mul]; omega, this]
    simp

/-- The cells of a slice, as the append laws ask for them. -/
theorem Rs.cells (he : ∀ x, (enc x).length = sz) (hsz : 0 < sz) {b o : Nat} (hc : ∀ j (h : j < l.length) i u, (enc l[j])[i]? = some u → w.cell? ⟨b, o + j * sz + i, none⟩ = some u) :
    ∀ j u, (l.flatMap enc)[j]? = some u → w.cell? ((⟨b, o, none⟩ : Addr).add j) = some u := by
  intro j u hu
  have hj : j < l.length * sz := by
    rcases Nat.lt_or_ge j (l.flatMap enc).length with h | h
    · rw [flat_len he] at h
      exact h
    · rw [List.getElem?_eq_none h] at hu
      cases hu
  have hq : j / sz < l.length := Nat.div_lt_of_lt_mul (by rw [Nat.mul_comm]; exact hj)
  have hr : j % sz < sz := Nat.mod_lt _ hsz
  have e : j / sz * sz + j % sz = j := by rw [Nat.mul_comm]; exact Nat.div_add_mod j sz
  have := flat_get he l (j / sz) hq (j % sz) hr
  rw [e, hu] at this
  have := hc (j / sz) hq (j % sz) u this.symm
  rw [Addr.add_lit]
  rwa [Nat.add_assoc, e] at this

theorem rs_own_len {E : TypeId} {base : Nat} {v : Value} (he : ∀ x, (enc x).length = sz) (hsz : 0 < sz) (h : w.ownsRow base E sz v n (l.flatMap enc)) : l.length = n := by
  have := h.1
  rw [flat_len he] at this
  exact Nat.eq_of_mul_eq_mul_right hsz this

theorem rs_own_form {E : TypeId} {base : Nat} {v : Value} {xs : List Value} (h : w.ownsRow base E sz v n xs) : ∃ A c, v = .slice A n c := by
  rcases h.2 with ⟨rfl, rfl⟩ | ⟨g, cap, cur, rfl, _⟩
  · exact ⟨none, 0, rfl⟩
  · exact ⟨_, _, rfl⟩

theorem Rs.of_own {E : TypeId} {base : Nat} (he : ∀ x, (enc x).length = sz) (hsz : 0 < sz) (h : w.ownsRow base E sz (.slice A n c) n (l.flatMap enc)) : Rs enc sz w w.heap.size A n c l := by
  have hl := rs_own_len he hsz h
  rcases h.2 with ⟨hv, rfl⟩ | ⟨g, cap, cur, hv, hb, hg, hnc, hcm, hcs, htake⟩
  · injection hv with h1 h2 h3
    subst h3
    exact ⟨hl, Nat.le_refl _, Nat.zero_le _, fun _ => rfl, fun h => absurd h (by omega)⟩
  · injection hv with h1 h2 h3
    subst h1
    subst h3
    refine ⟨hl, hnc, hcm, (fun h => by cases h), fun _ => ⟨g, 0, rfl, (Array.getElem?_eq_some_iff.1 hg).1, fun j hj i u hu => ?_⟩⟩
    have hi : i < sz := by
      rcases Nat.lt_or_ge i sz with h | h
      · exact h
      · rw [List.getElem?_eq_none (by rw [he]; exact h)] at hu
        cases hu
    have := h.cells (g := g) rfl (j * sz + i) u (by rw [flat_get he l j hj i hi]; exact hu)
    rw [Addr.add_lit, ← Nat.add_assoc] at this
    exact this

/-- A block that is known whole, as a slice from its beginning. -/
theorem Rs.of_blk {g : Nat} {cs : Array Value} {E : TypeId} (he : ∀ x, (enc x).length = sz) (hg : w.heap[g]? = some (.cells cs E (0, 0))) (hcs : ∃ tl, cs.toList = l.flatMap enc ++ tl) (hl : l.length = n) (hc : n ≤ c) (hm : c ≤ maxLen) :
    Rs enc sz w w.heap.size (some ⟨g, 0, none⟩) n c l := by
  refine ⟨hl, hc, hm, (fun h => by cases h), fun _ => ⟨g, 0, rfl, lt_blk hg, fun j hj i u hu => ?_⟩⟩
  have hi : i < sz := by
    rcases Nat.lt_or_ge i sz with h | h
    · exact h
    · rw [List.getElem?_eq_none (by rw [he]; exact h)] at hu
      cases hu
  obtain ⟨tl, hcs⟩ := hcs
  rw [cell_blk hg, ← Array.getElem?_toList, hcs, Nat.zero_add, List.getElem?_append_left, flat_get he l j hj i hi]
  · exact hu
  · rw [flat_len he]
    calc j * sz + i < j * sz + sz := by omega
      _ = (j + 1) * sz := by rw [Nat.add_mul]; omega
      _ ≤ l.length * sz := Nat.mul_le_mul_right _ hj

/-- A cut. -/
def cutAt' (A : Option Addr) (lo c sz : Nat) : Option Addr := if c = lo then A else A.map (·.add (lo * sz))

theorem Rs.cut (h : Rs enc sz w B A n c l) (lo hi : Nat) (h1 : lo ≤ hi) (h2 : hi ≤ n) : Rs enc sz w B (cutAt' A lo c sz) (hi - lo) (c - lo) ((l.drop lo).take (hi - lo)) := by
  have hc := h.cap
  have ht := h.top
  have hl := h.len
  refine ⟨by rw [List.length_take, List.length_drop]; omega, by omega, by omega, fun hn => ?_, fun hn => ?_⟩
  · unfold cutAt' at hn
    split at hn
    · omega
    · rcases A with _ | ad
      · have := h.none0 rfl
        omega
      · cases hn
  · obtain ⟨b, o, rfl, hb, hcell⟩ := h.spot (by omega)
    have hne : ¬ c = lo := by omega
    refine ⟨b, o + lo * sz, by simp [cutAt', hne, Addr.add_lit], hb, fun j hj i u hu => ?_⟩
    rw [List.length_take, List.length_drop] at hj
    simp only [List.getElem_take, List.getElem_drop] at hu
    have := hcell (lo + j) (by omega) i u hu
    rw [Nat.add_mul] at this
    rwa [show o + lo * sz + j * sz + i = o + (lo * sz + j * sz) + i by omega]

variable {P : Program} (t e : TypeId) (ht : P.underlying t = some (.slice e)) (hz : ∀ w, (Go.sizeOf e).run P w = .ok sz w)
include ht hz

/-- x[lo:hi] -/
theorem rs_slice_lh (h : Rs enc sz w B A n c l) (lo hi : Nat) (h1 : lo ≤ hi) (h2 : hi ≤ n) :
    ∃ A' n' c', (∀ W, (Instr.slice t (.slice A n c) (some (.int .i64 (lo : Int))) (some (.int .i64 (hi : Int))) none).run P W = .ok (.slice A' n' c') W) ∧ Rs enc sz w B A' n' c' ((l.drop lo).take (hi - lo)) := by
  have hc := h.cap
  refine ⟨_, _, _, fun W => ?_, h.cut lo hi h1 h2⟩
  have he : P.elem t = e := by simp [Program.elem, ht]
  have ht' : P.underlying t = some (.slice (P.elem t)) := by rw [he]; exact ht
  rw [run_slice_lh W t _ _ _ ht' .i64 .i64 _ _ (by omega) (by omega) (by omega), he, hz]
  simp [Result.andThen, sliced, cutAt']

/-- x[lo:] -/
theorem rs_slice_l (h : Rs enc sz w B A n c l) (lo : Nat) (h1 : lo ≤ n) :
    ∃ A' n' c', (∀ W, (Instr.slice t (.slice A n c) (some (.int .i64 (lo : Int))) none none).run P W = .ok (.slice A' n' c') W) ∧ Rs enc sz w B A' n' c' (l.drop lo) := by
  have hc := h.cap
  have hl := h.len
  have hcut := h.cut lo n h1 (Nat.le_refl _)
  rw [List.take_of_length_le (by rw [List.length_drop]; omega)] at hcut
  refine ⟨_, _, _, fun W => ?_, hcut⟩
  have he : P.elem t = e := by simp [Program.elem, ht]
  have ht' : P.underlying t = some (.slice (P.elem t)) := by rw [he]; exact ht
  rw [run_slice_l W t _ _ _ ht' .i64 _ (by omega) (by omega), he, hz]
  simp [Result.andThen, sliced, cutAt']

/-- x[:hi] -/
theorem rs_slice_h (h : Rs enc sz w B A n c l) (hi : Nat) (h1 : hi ≤ n) :
    ∃ A' n' c', (∀ W, (Instr.slice t (.slice A n c) none (some (.int .i64 (hi : Int))) none).run P W = .ok (.slice A' n' c') W) ∧ Rs enc sz w B A' n' c' (l.take hi) := by
  have hc := h.cap
  have hcut := h.cut 0 hi (by omega) h1
  rw [List.drop_zero, Nat.sub_zero] at hcut
  refine ⟨_, _, _, fun W => ?_, hcut⟩
  have he : P.elem t = e := by simp [Program.elem, ht]
  have ht' : P.underlying t = some (.slice (P.elem t)) := by rw [he]; exact ht
  rw [run_slice_h W t _ _ _ ht' .i64 _ (by omega) (by omega), he, hz]
  simp [Result.andThen, sliced, cutAt']
end

/-- What an append to a row of one's own leaves: the row, the rest as it was, in the same block or in a new one. -/
structure Appended (w w' : World) (base : Nat) (e : TypeId) (sz : Nat) (v v' : Value) (n : Nat) (xs : List Value) : Prop where
  own : w'.ownsRow base e sz v' n xs
  grown : w.grownBy w' v.ownBlock
  place : v'.ownBlock = v.ownBlock ∨ ∃ g, v'.ownBlock = some g ∧ w.heap.size ≤ g

theorem Appended.apart {w w' : World} {base : Nat} {e : TypeId} {sz : Nat} {v v' : Value} {n : Nat} {xs : List Value} (h : Appended w w' base e sz v v' n xs) {q : Nat} (hq : q < w.heap.size) (hv : v.ownBlock ≠ some q) : v'.ownBlock ≠ some q := by
  rcases h.place with e | ⟨g, e, hg⟩
  · rw [e]; exact hv
  · rw [e]; intro h; injection h with h; omega

theorem run_append_both {P : Program} (w : World) (base : Nat) (t s ty e : TypeId) (i : TypeInfo) (z : Value) (sz bytes : Nat) (ht : P.underlying t = some (.slice e)) (hi : P.info? e = some i) (hz : i.zero = some z) (hsize : i.size = sz) (hby : i.bytes = bytes) (hzs : z.cells.size = sz) (hsz : 0 < sz)
    (v : Value) (n : Nat) (xs : List Value) (hown : w.ownsRow base e sz v n xs) (a : Addr) (m c : Nat) (news : List Value) (hl : news.length = m * sz) (hnews : ∀ j u, news[j]? = some u → w.cell? (a.add j) = some u) (h1 : ∀ u ∈ news, u.oneCell' = true)
    (h63 : n + m ≤ maxLen) (hbytes : (n + m) * bytes ≤ 140737488355328) (hbase : base ≤ w.heap.size) (hst : (Builtin.append_ #[t, s] ty #[v, .slice (some a) m c]).run P w = (Builtin.append_ #[t, t] ty #[v, .slice (some a) m c]).run P w) :
    ∃ v' w', (Builtin.append_ #[t, s] ty #[v, .slice (some a) m c]).run P w = .ok v' w' ∧ Appended w w' base e sz v v' (n + m) (xs ++ news) := by
  rw [hst]
  rcases hown.2 with ⟨rfl, rfl⟩ | ⟨g, cap, cur, rfl, hb, hg, hnc, hcm, hcs, htake⟩
  · have hxs : xs = [] := List.eq_nil_of_length_eq_zero (by rw [hown.1]; omega)
    subst hxs
    obtain ⟨v', w', hrun, h2, h3, _⟩ := run_append_own (P := P) w w.heap.size t ty e i z sz bytes ht hi hz hsize hby hzs hsz (.slice none 0 0) 0 [] (World.ownsRow_nil w _ e sz) a m c news hl hnews h1 h63 hbytes (Nat.le_refl _)
    refine ⟨v', w', hrun, ⟨⟨h2.1, ?_⟩, h3, ?_⟩⟩
    · rcases h2.2 with h | ⟨g, cap, cur, hv, hb, r⟩
      · exact .inl h
      · exact .inr ⟨g, cap, cur, hv, Nat.le_trans hbase hb, r⟩
    · rcases h2.2 with ⟨rfl, _⟩ | ⟨g, cap, cur, rfl, hb, r⟩
      · exact .inl rfl
      · exact .inr ⟨g, rfl, hb⟩
  · subst hsize
    subst hby
    have hcl : (cur.toList.take (n * i.size)).length = n * i.size := by rw [htake]; exact hown.1
    by_cases hr : n + m ≤ cap
    · have hfit : n * i.size + news.length ≤ cur.size := by rw [hl, hcs, ← Nat.add_mul]; exact Nat.mul_le_mul_right _ hr
      have hrun := run_append_room (P := P) w t ty e i ht hi g n cap cur hg a m c news hl hnews h1 hr hfit
      refine ⟨_, _, hrun, ⟨⟨by rw [List.length_append, hown.1, hl, Nat.add_mul], .inr ⟨g, cap, _, rfl, hb, setRow_heap w g cur _ e _ hg, hr, hcm, ?_, ?_⟩⟩, ⟨rfl, rfl, rfl, by simp, fun k _ hk => setRow_other w g k _ (fun e => hk (by rw [e]; rfl))⟩, .inl rfl⟩⟩
      · simp only [List.size_toArray, List.length_append, List.length_drop, hcl, Array.length_toList]
        omega
      · rw [htake, List.take_append_of_le_length (by rw [List.length_append, hown.1, hl, ← Nat.add_mul]; exact Nat.le_refl _), List.take_of_length_le (by rw [List.length_append, hown.1, hl, ← Nat.add_mul]; exact Nat.le_refl _)]
    · have holds : ∀ j u, xs[j]? = some u → w.cell? ((⟨g, 0, none⟩ : Addr).add j) = some u := fun j u hu => hown.cells (g := g) rfl j u hu
      have hmx : n + m ≤ 9223372036854775807 := by simp only [maxLen] at h63; omega
      have hrun := run_append_grow (P := P) w t ty e i z ht hi hz ⟨g, 0, none⟩ n cap xs hown.1 holds a m c news hl hnews (by omega) (by omega) (growslice_fits (by omega) (by omega))
      have hge := grownCap_ge w (n + m) cap e
      have hle := grownCap_le_maxLen w (n + m) cap e h63
      refine ⟨_, _, hrun, ⟨⟨by rw [List.length_append, hown.1, hl, Nat.add_mul], .inr ⟨w.heap.size, _, _, rfl, hbase, heap_alloc_new w.drew _, hge, hle, ?_, ?_⟩⟩, ⟨rfl, rfl, rfl, by simp, fun k hk _ => heap_alloc_old w.drew _ k hk⟩, .inr ⟨_, rfl, Nat.le_refl _⟩⟩⟩
      · simp only [Array.size_append, List.size_toArray, size_zeroCells, hzs, hown.1, hl]
        rw [← Nat.add_mul, ← Nat.add_mul]
        congr 1
        omega
      · have hlen : (xs ++ news).length = (n + m) * i.size := by rw [List.length_append, hown.1, hl, Nat.add_mul]
        rw [Array.toList_append, Array.toList_append, List.take_append_of_le_length (by rw [← hlen]; simp), List.take_of_length_le (by rw [← hlen]; simp)]

end Go.Proofs.YthbonabadelfdaaGreat
