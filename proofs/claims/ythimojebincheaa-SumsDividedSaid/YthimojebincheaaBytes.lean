/- Words for slices of bytes: what a slice reads as, that it is kept where old memory is kept, and what a slice of the call's own reads as. No condition but those that each line names. -/
import Derived.Below
import Derived.Laws.OwnMore
import Derived.Deep.Draws
import Derived.Lib.VarintMem
import Derived.Lib.Hide
import Derived.Lib.AppendStr
namespace Go.Proofs.Ythimojebincheaa
open Go.RowKit

/-- The slice (A, n, c) reads as the bytes l and lies below block B. -/
structure Rd (w : World) (B : Nat) (A : Option Addr) (n c : Nat) (l : List UInt8) : Prop where
  len : l.length = n
  cap : n ≤ c
  top : c ≤ maxLen
  none0 : A = none → c = 0
  spot : 0 < n → ∃ b o, A = some ⟨b, o, none⟩ ∧ b < B ∧ ∀ j (h : j < l.length), w.cell? ⟨b, o + j, none⟩ = some (.int .u8 (l[j].toNat : Int))

/-- A slice of memory that was made since w, and reads as l; old memory is as it was. -/
structure Fresh (E : TypeId) (w w' : World) (A : Option Addr) (n c : Nat) (l : List UInt8) : Prop where
  own : w'.ownsRow w.heap.size E 1 (.slice A n c) n (Lib.byteCells l)
  bel : Below w.heap.size w w'

section
variable {w w' : World} {B B' : Nat} {A : Option Addr} {n c : Nat} {l : List UInt8}

theorem Rd.nil (w : World) (B : Nat) : Rd w B none 0 0 [] := ⟨rfl, Nat.le_refl _, Nat.zero_le _, fun _ => rfl, fun h => absurd h (by omega)⟩

theorem Rd.keep (h : Rd w B A n c l) (hk : ∀ k, k < B → w'.heap[k]? = w.heap[k]?) : Rd w' B A n c l :=
  ⟨h.len, h.cap, h.top, h.none0, fun hn => by
    obtain ⟨b, o, e, hb, hc⟩ := h.spot hn
    exact ⟨b, o, e, hb, fun j hj => (World.cell?_of_block (w := w) (w' := w') (a := ⟨b, o + j, none⟩) (hk b hb)).trans (hc j hj)⟩⟩

theorem Rd.below (h : Rd w B A n c l) (hb : Below B w w') : Rd w' B A n c l := h.keep hb.block

theorem Rd.mono (h : Rd w B A n c l) (hB : B ≤ B') : Rd w B' A n c l :=
  ⟨h.len, h.cap, h.top, h.none0, fun hn => by
    obtain ⟨b, o, e, hb, hc⟩ := h.spot hn
    exact ⟨b, o, e, by omega, hc⟩⟩

theorem Rd.at_size (h : Rd w B A n c l) (hB : B ≤ w.heap.size) (hb : Below w.heap.size w w') : Rd w' w'.heap.size A n c l :=
  ((h.mono hB).below hb).mono hb.size

theorem own_len {E : TypeId} {base : Nat} {v : Value} (h : w.ownsRow base E 1 v n (Lib.byteCells l)) : l.length = n := by
  have := h.1
  rw [Lib.byteCells_length] at this
  omega

/-- What the call owns has the form of a slice. -/
theorem own_form {E : TypeId} {base : Nat} {v : Value} {xs : List Value} (h : w.ownsRow base E 1 v n xs) : ∃ A c, v = .slice A n c := by
  rcases h.2 with ⟨rfl, rfl⟩ | ⟨g, cap, cur, rfl, _⟩
  · exact ⟨none, 0, rfl⟩
  · exact ⟨_, _, rfl⟩

theorem Rd.of_own {E : TypeId} {base : Nat} (h : w.ownsRow base E 1 (.slice A n c) n (Lib.byteCells l)) : Rd w w.heap.size A n c l := by
  have hl := own_len h
  rcases h.2 with ⟨hv, rfl⟩ | ⟨g, cap, cur, hv, hb, hg, hnc, hcm, hcs, htake⟩
  · injection hv with h1 h2 h3
    subst h3
    exact ⟨hl, Nat.le_refl _, Nat.zero_le _, fun _ => rfl, fun h => absurd h (by omega)⟩
  · injection hv with h1 h2 h3
    subst h1
    subst h3
    refine ⟨hl, hnc, hcm, (fun h => by cases h), fun _ => ⟨g, 0, rfl, (Array.getElem?_eq_some_iff.1 hg).1, fun j hj => ?_⟩⟩
    have := h.cells (g := g) rfl j (.int .u8 (l[j].toNat : Int)) (by simp [Lib.byteCells, hj])
    simpa [Addr.add_lit] using this

theorem Fresh.rd {E : TypeId} (h : Fresh E w w' A n c l) : Rd w' w'.heap.size A n c l := Rd.of_own h.own
theorem Fresh.len {E : TypeId} (h : Fresh E w w' A n c l) : l.length = n := own_len h.own
end

/-- The cells of a slice, as the append laws ask for them. -/
theorem Rd.cells {w : World} {b o : Nat} {l : List UInt8} (h : ∀ j (h : j < l.length), w.cell? ⟨b, o + j, none⟩ = some (.int .u8 (l[j].toNat : Int))) :
    ∀ j u, (Lib.byteCells l)[j]? = some u → w.cell? ((⟨b, o, none⟩ : Addr).add j) = some u := by
  intro j u hu
  have hj : j < l.length := by
    rcases Nat.lt_or_ge j l.length with h | h
    · exact h
    · rw [List.getElem?_eq_none (by rw [Lib.byteCells_length]; exact h)] at hu
      cases hu
  have he : (Lib.byteCells l)[j]? = some (.int .u8 (l[j].toNat : Int)) := by simp [Lib.byteCells, hj]
  rw [he] at hu
  injection hu with hu
  subst hu
  rw [Addr.add_lit]
  exact h j hj

theorem byteCells_one (l : List UInt8) : ∀ u ∈ Lib.byteCells l, u.oneCell' = true := by
  intro u hu
  simp only [Lib.byteCells, List.mem_map] at hu
  obtain ⟨b, _, rfl⟩ := hu
  rfl

/-- A new block of bytes. -/
theorem Rd.new (w : World) (cs : Array Value) (e : TypeId) (n : Nat) (l : List UInt8) (hcs : cs.toList = Lib.byteCells l) (hn : l.length = n) (hm : n ≤ maxLen) :
    Rd (w.alloc (.cells cs e)) (w.alloc (.cells cs e)).heap.size (some ⟨w.heap.size, 0, none⟩) n n l := by
  refine ⟨hn, Nat.le_refl _, hm, (fun h => by cases h), fun _ => ⟨w.heap.size, 0, rfl, by simp, fun j hj => ?_⟩⟩
  rw [Nat.zero_add, cell_of_row _ w.heap.size j cs e (0, 0) (heap_alloc_new w _), ← Array.getElem?_toList, hcs]
  simp [Lib.byteCells, hj]

/-- append(own, xs...), xs any slice of bytes that reads as ms. -/
theorem wp_append_rd {P : Program} (w : World) {o : Oper} {a : Act} {K : Act → World → Prop} {Q : Exit → Act → World → Prop} (s x : Operand) (t : TypeId)
    (ho : o.op = .call { callee := .builtin .append, args := #[s, x], argTypes := #[t, t] })
    (base : Nat) (e : TypeId) (i : TypeInfo) (ht : P.underlying t = some (.slice e)) (hi : P.info? e = some i) (hz : i.zero = some (.int .u8 0)) (hsize : i.size = 1) (hby : i.bytes = 1)
    (v : Value) (n : Nat) (bs : List UInt8) (hs : a.eval s = v) (hown : w.ownsRow base e 1 v n (Lib.byteCells bs))
    (B : Nat) (A : Option Addr) (m c : Nat) (ms : List UInt8) (hx : a.eval x = .slice A m c) (hr : Rd w B A m c ms) (hb : n + m ≤ 140737488355328) (hbase : base ≤ w.heap.size)
    (h : ∀ A' k c' w', Hid (k = n + m) → w'.ownsRow base e 1 (.slice A' k c') k (Lib.byteCells (bs ++ ms)) → w.grownBy w' v.ownBlock → (∀ g, (Value.slice A' k c').ownBlock = some g → base ≤ g) → K (a.put o.dst (.slice A' k c')) w') :
    o.wp P a w K Q := by
  have key : ∃ v' w', (Builtin.append_ #[t, t] o.type #[v, .slice A m c]).run P w = .ok v' w' ∧ w'.ownsRow base e 1 v' (n + m) (Lib.byteCells (bs ++ ms)) ∧ w.grownBy w' v.ownBlock := by
    rcases A with _ | ad
    · have hc0 := hr.none0 rfl
      have hm0 : m = 0 := by have := hr.cap; omega
      subst hc0
      subst hm0
      have hms : ms = [] := List.eq_nil_of_length_eq_zero hr.len
      subst hms
      refine ⟨v, w, run_append_owned_none (P := P) w base t o.type e i 1 ht hi v n _ hown, ?_, ⟨rfl, rfl, rfl, Nat.le_refl _, fun _ _ _ => rfl⟩⟩
      simpa using hown
    · have hcells : ∀ j u, (Lib.byteCells ms)[j]? = some u → w.cell? (ad.add j) = some u := by
        rcases Nat.eq_zero_or_pos m with h0 | h0
        · have hms : ms = [] := List.eq_nil_of_length_eq_zero (by rw [hr.len, h0])
          subst hms
          intro j u hu
          simp [Lib.byteCells] at hu
        · obtain ⟨b, q, hA, _, hc⟩ := hr.spot h0
          injection hA with hA
          subst hA
          exact Rd.cells hc
      obtain ⟨v', w', hrun, h2, h3, _⟩ := run_append_own (P := P) w base t o.type e i (.int .u8 0) 1 1 ht hi hz hsize hby rfl (by decide) v n _ hown ad m c _ (by rw [Lib.byteCells_length, hr.len, Nat.mul_one]) hcells (byteCells_one ms) (by unfold maxLen; omega) (by omega) hbase
      exact ⟨v', w', hrun, by rw [Lib.byteCells_append]; exact h2, h3⟩
  obtain ⟨v', w', hrun, h2, h3⟩ := key
  obtain ⟨A', c', rfl⟩ := own_form h2
  unfold Oper.wp execOp
  simp only [ho, resolve, invoke, builtin, Sem.run_bind, Sem.run_pure, Result.andThen_ok, List.map_toArray, List.map_cons, List.map_nil, hs, hx, hrun]
  exact h A' (n + m) c' w' rfl h2 h3 fun g hg => (h2.lt g hg).1

theorem wpList_append_rd {P : Program} (w : World) {ops : Array Oper} {rest : List Oper} {o : Oper} {a : Act} {Q : Exit → Act → World → Prop} (hgd : o.guard = none) (s x : Operand) (t : TypeId)
    (ho : o.op = .call { callee := .builtin .append, args := #[s, x], argTypes := #[t, t] })
    (base : Nat) (e : TypeId) (i : TypeInfo) (ht : P.underlying t = some (.slice e)) (hi : P.info? e = some i) (hz : i.zero = some (.int .u8 0)) (hsize : i.size = 1) (hby : i.bytes = 1)
    (v : Value) (n : Nat) (bs : List UInt8) (hs : a.eval s = v) (hown : w.ownsRow base e 1 v n (Lib.byteCells bs))
    (B : Nat) (A : Option Addr) (m c : Nat) (ms : List UInt8) (hx : a.eval x = .slice A m c) (hr : Rd w B A m c ms) (hb : n + m ≤ 140737488355328) (hbase : base ≤ w.heap.size)
    (h : ∀ A' k c' w', Hid (k = n + m) → w'.ownsRow base e 1 (.slice A' k c') k (Lib.byteCells (bs ++ ms)) → w.grownBy w' v.ownBlock → (∀ g, (Value.slice A' k c').ownBlock = some g → base ≤ g) → wpList P ops Q rest (a.put o.dst (.slice A' k c')) w') :
    wpList P ops Q (o :: rest) a w :=
  wpList_plain hgd fun _ hK => wp_append_rd w s x t ho base e i ht hi hz hsize hby v n bs hs hown B A m c ms hx hr hb hbase fun A' k c' w' h1 h2 h3 h4 => hK _ _ (h A' k c' w' h1 h2 h3 h4)

/-- append(own, s...), s a text. -/
theorem wpList_append_text {P : Program} (w : World) {ops : Array Oper} {rest : List Oper} {o : Oper} {a : Act} {Q : Exit → Act → World → Prop} (hgd : o.guard = none) (sl x : Operand) (t u : TypeId)
    (ho : o.op = .call { callee := .builtin .append, args := #[sl, x], argTypes := #[t, u] })
    (base : Nat) (e : TypeId) (i : TypeInfo) (ht : P.underlying t = some (.slice e)) (hu : P.underlying u = some .string) (hi : P.info? e = some i) (hz : i.zero = some (.int .u8 0)) (hsize : i.size = 1) (hby : i.bytes = 1)
    (v : Value) (n : Nat) (bs : List UInt8) (hs : a.eval sl = v) (hown : w.ownsRow base e 1 v n (Lib.byteCells bs)) (s : ByteArray) (hx : a.eval x = .string s)
    (hb : n + s.size ≤ 140737488355328) (hbase : base ≤ w.heap.size)
    (h : ∀ A' k c' w', Hid (k = n + s.size) → w'.ownsRow base e 1 (.slice A' k c') k (Lib.byteCells (bs ++ s.data.toList)) → w.grownBy w' v.ownBlock → (∀ g, (Value.slice A' k c').ownBlock = some g → base ≤ g) → wpList P ops Q rest (a.put o.dst (.slice A' k c')) w') :
    wpList P ops Q (o :: rest) a w := by
  refine Lib.wpList_append_own_string w hgd sl x t u ho base e i ht hu hi hz hsize hby v n _ hs hown s hx (by unfold maxLen; omega) hb hbase fun v' w' h2 h3 _ => ?_
  rw [Lib.strCells_eq, ← Lib.byteCells_append] at h2
  obtain ⟨A', c', rfl⟩ := own_form h2
  exact h A' _ c' w' rfl h2 h3 fun g hg => (h2.lt g hg).1

end Go.Proofs.Ythimojebincheaa
