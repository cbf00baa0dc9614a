/- Words for slices whose elements take one cell each: what a slice reads as, that it is kept where old memory is kept, what a slice of the call's own reads as, cuts and appends. No condition but those that each line names. -/
import Derived.Below
import Derived.Laws.OwnMore
import Derived.Laws.Slices
import Derived.Laws.NewBlocks
import Derived.Deep.Draws
import Derived.Lib.Hide
namespace Go.Proofs.YthbonabadelfdaaGreat
open Go.RowKit

/-- The slice (A, n, c) reads as l, each element by enc, and lies below block B. -/
structure Rd {α : Type} (enc : α → Value) (w : World) (B : Nat) (A : Option Addr) (n c : Nat) (l : List α) : Prop where
  len : l.length = n
  cap : n ≤ c
  top : c ≤ maxLen
  none0 : A = none → c = 0
  spot : 0 < n → ∃ b o, A = some ⟨b, o, none⟩ ∧ b < B ∧ ∀ j (h : j < l.length), w.cell? ⟨b, o + j, none⟩ = some (enc l[j])

/-- A slice of memory that was made since w, and reads as l; old memory is as it was. -/
structure Fresh {α : Type} (enc : α → Value) (E : TypeId) (w w' : World) (A : Option Addr) (n c : Nat) (l : List α) : Prop where
  own : w'.ownsRow w.heap.size E 1 (.slice A n c) n (l.map enc)
  bel : Below w.heap.size w w'

section
variable {α : Type} {enc : α → Value} {w w' : World} {B B' : Nat} {A : Option Addr} {n c : Nat} {l : List α}

theorem Rd.nil (w : World) (B : Nat) : Rd enc w B none 0 0 [] := ⟨rfl, Nat.le_refl _, Nat.zero_le _, fun _ => rfl, fun h => absurd h (by omega)⟩

theorem Rd.keep (h : Rd enc w B A n c l) (hk : ∀ k, k < B → w'.heap[k]? = w.heap[k]?) : Rd enc w' B A n c l :=
  ⟨h.len, h.cap, h.top, h.none0, fun hn => by
    obtain ⟨b, o, e, hb, hc⟩ := h.spot hn
    exact ⟨b, o, e, hb, fun j hj => (World.cell?_of_block (w := w) (w' := w') (a := ⟨b, o + j, none⟩) (hk b hb)).trans (hc j hj)⟩⟩

theorem Rd.below (h : Rd enc w B A n c l) (hb : Below B w w') : Rd enc w' B A n c l := h.keep hb.block

theorem Rd.mono (h : Rd enc w B A n c l) (hB : B ≤ B') : Rd enc w B' A n c l :=
  ⟨h.len, h.cap, h.top, h.none0, fun hn => by
    obtain ⟨b, o, e, hb, hc⟩ := h.spot hn
    exact ⟨b, o, e, by omega, hc⟩⟩

theorem Rd.at_size (h : Rd enc w B A n c l) (hB : B ≤ w.heap.size) (hb : Below w.heap.size w w') : Rd enc w' w'.heap.size A n c l :=
  ((h.mono hB).below hb).mono hb.size

theorem own_len {E : TypeId} {base : Nat} {v : Value} (h : w.ownsRow base E 1 v n (l.map enc)) : l.length = n := by
  have := h.1
  rw [List.length_map] at this
  omega

/-- What the call owns has the form of a slice. -/
theorem own_form {E : TypeId} {base : Nat} {v : Value} {xs : List Value} (h : w.ownsRow base E 1 v n xs) : ∃ A c, v = .slice A n c := by
  rcases h.2 with ⟨rfl, rfl⟩ | ⟨g, cap, cur, rfl, _⟩
  · exact ⟨none, 0, rfl⟩
  · exact ⟨_, _, rfl⟩

theorem Rd.of_own {E : TypeId} {base : Nat} (h : w.ownsRow base E 1 (.slice A n c) n (l.map enc)) : Rd enc w w.heap.size A n c l := by
  have hl := own_len h
  rcases h.2 with ⟨hv, rfl⟩ | ⟨g, cap, cur, hv, hb, hg, hnc, hcm, hcs, htake⟩
  · injection hv with h1 h2 h3
    subst h3
    exact ⟨hl, Nat.le_refl _, Nat.zero_le _, fun _ => rfl, fun h => absurd h (by omega)⟩
  · injection hv with h1 h2 h3
    subst h1
    subst h3
    refine ⟨hl, hnc, hcm, (fun h => by cases h), fun _ => ⟨g, 0, rfl, (Array.getElem?_eq_some_iff.1 hg).1, fun j hj => ?_⟩⟩
    have := h.cells (g := g) rfl j (enc l[j]) (by simp [hj])
    simpa [Addr.add_lit] using this

theorem Fresh.rd {E : TypeId} (h : Fresh enc E w w' A n c l) : Rd enc w' w'.heap.size A n c l := Rd.of_own h.own
theorem Fresh.len {E : TypeId} (h : Fresh enc E w w' A n c l) : l.length = n := own_len h.own

/-- The cells of a slice, as the append laws ask for them. -/
theorem Rd.cells {b o : Nat} (h : ∀ j (h : j < l.length), w.cell? ⟨b, o + j, none⟩ = some (enc l[j])) :
    ∀ j u, (l.map enc)[j]? = some u → w.cell? ((⟨b, o, none⟩ : Addr).add j) = some u := by
  intro j u hu
  rw [List.getElem?_map] at hu
  rcases Nat.lt_or_ge j l.length with hj | hj
  · rw [List.getElem?_eq_getElem hj] at hu
    injection hu with hu
    rw [Addr.add_lit, ← hu]
    exact h j hj
  · rw [List.getElem?_eq_none hj] at hu
    cases hu

theorem map_one (h1 : ∀ x, (enc x).oneCell' = true) (l : List α) : ∀ u ∈ l.map enc, u.oneCell' = true := by
  intro u hu
  obtain ⟨x, _, rfl⟩ := List.mem_map.1 hu
  exact h1 x

/-- A new block of such elements. -/
theorem Rd.new (w : World) (cs : Array Value) (e : TypeId) (n : Nat) (l : List α) (hcs : cs.toList = l.map enc) (hn : l.length = n) (hm : n ≤ maxLen) :
    Rd enc (w.alloc (.cells cs e)) (w.alloc (.cells cs e)).heap.size (some ⟨w.heap.size, 0, none⟩) n n l := by
  refine ⟨hn, Nat.le_refl _, hm, (fun h => by cases h), fun _ => ⟨w.heap.size, 0, rfl, by simp, fun j hj => ?_⟩⟩
  rw [Nat.zero_add, cell_of_row _ w.heap.size j cs e (0, 0) (heap_alloc_new w _), ← Array.getElem?_toList, hcs]
  simp [hj]
end

/-- append(own, xs...), xs any slice that reads as ms. -/
theorem wp_append_rd {α : Type} {enc : α → Value} {P : Program} (w : World) {o : Oper} {a : Act} {K : Act → World → Prop} {Q : Exit → Act → World → Prop} (s x : Operand) (t : TypeId)
    (ho : o.op = .call { callee := .builtin .append, args := #[s, x], argTypes := #[t, t] })
    (base : Nat) (e : TypeId) (i : TypeInfo) (z : Value) (by1 : Nat) (ht : P.underlying t = some (.slice e)) (hi : P.info? e = some i) (hz : i.zero = some z) (hsize : i.size = 1) (hby : i.bytes = by1) (hzs : z.cells.size = 1) (h1 : ∀ x, (enc x).oneCell' = true)
    (v : Value) (n : Nat) (bs : List α) (hs : a.eval s = v) (hown : w.ownsRow base e 1 v n (bs.map enc))
    (B : Nat) (A : Option Addr) (m c : Nat) (ms : List α) (hx : a.eval x = .slice A m c) (hr : Rd enc w B A m c ms) (hmax : n + m ≤ maxLen) (hb : (n + m) * by1 ≤ 140737488355328) (hbase : base ≤ w.heap.size)
    (h : ∀ A' k c' w', Hid (k = n + m) → w'.ownsRow base e 1 (.slice A' k c') k ((bs ++ ms).map enc) → w.grownBy w' v.ownBlock → (∀ g, (Value.slice A' k c').ownBlock = some g → base ≤ g) → K (a.put o.dst (.slice A' k c')) w') :
    o.wp P a w K Q := by
  have key : ∃ v' w', (Builtin.append_ #[t, t] o.type #[v, .slice A m c]).run P w = .ok v' w' ∧ w'.ownsRow base e 1 v' (n + m) ((bs ++ ms).map enc) ∧ w.grownBy w' v.ownBlock := by
    rcases A with _ | ad
    · have hc0 := hr.none0 rfl
      have hm0 : m = 0 := by have := hr.cap; omega
      subst hc0
      subst hm0
      have hms : ms = [] := List.eq_nil_of_length_eq_zero hr.len
      subst hms
      refine ⟨v, w, run_append_owned_none (P := P) w base t o.type e i 1 ht hi v n _ hown, ?_, ⟨rfl, rfl, rfl, Nat.le_refl _, fun _ _ _ => rfl⟩⟩
      simpa using hown
    · have hcells : ∀ j u, (ms.map enc)[j]? = some u → w.cell? (ad.add j) = some u := by
        rcases Nat.eq_zero_or_pos m with h0 | h0
        · have hms : ms = [] := List.eq_nil_of_length_eq_zero (by rw [hr.len, h0])
          subst hms
          intro j u hu
          simp at hu
        · obtain ⟨b, q, hA, _, hc⟩ := hr.spot h0
          injection hA with hA
          subst hA
          exact Rd.cells hc
      obtain ⟨v', w', hrun, h2, h3, _⟩ := run_append_own (P := P) w base t o.type e i z 1 by1 ht hi hz hsize hby hzs (by decide) v n _ hown ad m c _ (by rw [List.length_map, hr.len, Nat.mul_one]) hcells (map_one h1 ms) hmax hb hbase
      exact ⟨v', w', hrun, by rw [List.map_append]; exact h2, h3⟩
  obtain ⟨v', w', hrun, h2, h3⟩ := key
  obtain ⟨A', c', rfl⟩ := own_form h2
  unfold Oper.wp execOp
  simp only [ho, resolve, invoke, builtin, Sem.run_bind, Sem.run_pure, Result.andThen_ok, List.map_toArray, List.map_cons, List.map_nil, hs, hx, hrun]
  exact h A' (n + m) c' w' rfl h2 h3 fun g hg => (h2.lt g hg).1

theorem wpList_append_rd {α : Type} {enc : α → Value} {P : Program} (w : World) {ops : Array Oper} {rest : List Oper} {o : Oper} {a : Act} {Q : Exit → Act → World → Prop} (hgd : o.guard = none) (s x : Operand) (t : TypeId)
    (ho : o.op = .call { callee := .builtin .append, args := #[s, x], argTypes := #[t, t] })
    (base : Nat) (e : TypeId) (i : TypeInfo) (z : Value) (by1 : Nat) (ht : P.underlying t = some (.slice e)) (hi : P.info? e = some i) (hz : i.zero = some z) (hsize : i.size = 1) (hby : i.bytes = by1) (hzs : z.cells.size = 1) (h1 : ∀ x, (enc x).oneCell' = true)
    (v : Value) (n : Nat) (bs : List α) (hs : a.eval s = v) (hown : w.ownsRow base e 1 v n (bs.map enc))
    (B : Nat) (A : Option Addr) (m c : Nat) (ms : List α) (hx : a.eval x = .slice A m c) (hr : Rd enc w B A m c ms) (hmax : n + m ≤ maxLen) (hb : (n + m) * by1 ≤ 140737488355328) (hbase : base ≤ w.heap.size)
    (h : ∀ A' k c' w', Hid (k = n + m) → w'.ownsRow base e 1 (.slice A' k c') k ((bs ++ ms).map enc) → w.grownBy w' v.ownBlock → (∀ g, (Value.slice A' k c').ownBlock = some g → base ≤ g) → wpList P ops Q rest (a.put o.dst (.slice A' k c')) w') :
    wpList P ops Q (o :: rest) a w :=
  wpList_plain hgd fun _ hK => wp_append_rd w s x t ho base e i z by1 ht hi hz hsize hby hzs h1 v n bs hs hown B A m c ms hx hr hmax hb hbase fun A' k c' w' g1 g2 g3 g4 => hK _ _ (h A' k c' w' g1 g2 g3 g4)

/-- A cut: where it lies. -/
def cutAt (A : Option Addr) (lo c : Nat) : Option Addr := if c = lo then A else A.map (·.add lo)

section
variable {α : Type} {enc : α → Value}

theorem Rd.cut {w : World} {B : Nat} {A : Option Addr} {n c : Nat} {l : List α} (h : Rd enc w B A n c l) (lo hi : Nat) (h1 : lo ≤ hi) (h2 : hi ≤ n) : Rd enc w B (cutAt A lo c) (hi - lo) (c - lo) ((l.drop lo).take (hi - lo)) := by
  have hc := h.cap
  have ht := h.top
  have hl := h.len
  refine ⟨by rw [List.length_take, List.length_drop]; omega, by omega, by omega, fun hn => ?_, fun hn => ?_⟩
  · unfold cutAt at hn
    split at hn
    · omega
    · rcases A with _ | ad
      · have := h.none0 rfl
        omega
      · cases hn
  · obtain ⟨b, o, rfl, hb, hcell⟩ := h.spot (by omega)
    have hne : ¬ c = lo := by omega
    refine ⟨b, o + lo, by simp [cutAt, hne, Addr.add_lit], hb, fun j hj => ?_⟩
    rw [List.length_take, List.length_drop] at hj
    rw [Nat.add_assoc, hcell (lo + j) (by omega)]
    simp

variable {P : Program} {w : World} {B : Nat} {A : Option Addr} {n c : Nat} {l : List α} (t e : TypeId) (ht : P.underlying t = some (.slice e)) (hz : ∀ w, (Go.sizeOf e).run P w = .ok 1 w)
include ht hz

/-- x[lo:] -/
theorem rd_slice_l (h : Rd enc w B A n c l) (lo : Int) (h0 : 0 ≤ lo) (h1 : lo ≤ (n : Int)) :
    ∃ A' n' c', (∀ W, (Instr.slice t (.slice A n c) (some (.int .i64 lo)) none none).run P W = .ok (.slice A' n' c') W) ∧ Rd enc w B A' n' c' (l.drop lo.toNat) := by
  have hc := h.cap
  have hl := h.len
  have hcut := h.cut lo.toNat n (by omega) (Nat.le_refl _)
  rw [List.take_of_length_le (by rw [List.length_drop]; omega)] at hcut
  refine ⟨_, _, _, fun W => ?_, hcut⟩
  have he : P.elem t = e := by simp [Program.elem, ht]
  have ht' : P.underlying t = some (.slice (P.elem t)) := by rw [he]; exact ht
  rw [run_slice_l W t _ _ _ ht' .i64 _ (by omega) (by omega), he, hz]
  simp [Result.andThen, sliced, cutAt]

/-- x[:hi] -/
theorem rd_slice_h (h : Rd enc w B A n c l) (hi : Int) (h0 : 0 ≤ hi) (h1 : hi ≤ (n : Int)) :
    ∃ A' n' c', (∀ W, (Instr.slice t (.slice A n c) none (some (.int .i64 hi)) none).run P W = .ok (.slice A' n' c') W) ∧ Rd enc w B A' n' c' (l.take hi.toNat) := by
  have hc := h.cap
  have hcut := h.cut 0 hi.toNat (by omega) (by omega)
  rw [List.drop_zero, Nat.sub_zero] at hcut
  refine ⟨_, _, _, fun W => ?_, hcut⟩
  have he : P.elem t = e := by simp [Program.elem, ht]
  have ht' : P.underlying t = some (.slice (P.elem t)) := by rw [he]; exact ht
  rw [run_slice_h W t _ _ _ ht' .i64 _ (by omega) (by omega), he, hz]
  simp [Result.andThen, sliced, cutAt]
end

/-- A new block of one cell, as an append's source. -/
theorem one_src (w : World) (u : Value) (e : TypeId) : ∀ j x, [u][j]? = some x → (w.alloc (.cells #[u] e)).cell? ((⟨w.heap.size, 0, none⟩ : Addr).add j) = some x := by
  intro j x hx
  rcases j with _ | j
  · simp only [List.getElem?_cons_zero, Option.some.injEq] at hx
    subst hx
    rw [Addr.add_lit, World.cell?_alloc_at _ _ _ _ rfl]
    rfl
  · simp at hx

theorem one_one {u : Value} (h : u.oneCell' = true) : ∀ x ∈ [u], x.oneCell' = true := by
  intro x hx
  simp only [List.mem_singleton] at hx
  subst hx
  exact h

/-- What is owned below a block stays so where old memory is kept. -/
theorem own_keep {w w' : World} {base n : Nat} {E : TypeId} {v : Value} {xs : List Value} (h : w.ownsRow base E 1 v n xs) (hb : Below w.heap.size w w') : w'.ownsRow base E 1 v n xs := by
  refine ⟨h.1, ?_⟩
  rcases h.2 with hn | ⟨g, cap, cur, hv, hg, hgg, r⟩
  · exact .inl hn
  · exact .inr ⟨g, cap, cur, hv, hg, (hb.block g (Array.getElem?_eq_some_iff.1 hgg).1).trans hgg, r⟩

theorem own_base {w : World} {base base' n : Nat} {E : TypeId} {v : Value} {xs : List Value} (h : w.ownsRow base E 1 v n xs) (hb : base' ≤ base) : w.ownsRow base' E 1 v n xs := by
  refine ⟨h.1, ?_⟩
  rcases h.2 with hn | ⟨g, cap, cur, hv, hg, r⟩
  · exact .inl hn
  · exact .inr ⟨g, cap, cur, hv, Nat.le_trans hb hg, r⟩
end Go.Proofs.YthbonabadelfdaaGreat
