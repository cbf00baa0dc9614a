/- Rows of numbers of one's own: appends, stores, two of them apart. No condition but sizes. -/
import Derived.Test.YtnlgfiffhahpfaaGreatDoorApp
namespace Go.Proofs.YtnlgfiffhahpfaaGreatDoor
open Go.RowKit

def en (x : Nat) : List Value := [La.nm x]
theorem en_len (x : Nat) : (en x).length = 1 := rfl
theorem en_map (l : List Nat) : l.flatMap en = l.map La.nm := by
  induction l with
  | nil => rfl
  | cons x l ih => rw [List.flatMap_cons, ih]; rfl
theorem en_one (l : List Nat) : ∀ u ∈ l.flatMap en, u.oneCell' = true := by
  intro u hu
  rw [en_map] at hu
  obtain ⟨x, _, rfl⟩ := List.mem_map.1 hu
  rfl
theorem own_same {w w' : World} {base sz n : Nat} {e : TypeId} {v : Value} {xs : List Value} (h : w.ownsRow base e sz v n xs) (hq : ∀ q, v.ownBlock = some q → w'.heap[q]? = w.heap[q]?) : w'.ownsRow base e sz v n xs := by
  refine ⟨h.1, ?_⟩
  rcases h.2 with hn | ⟨g, cap, cur, rfl, hg, hgg, r⟩
  · exact .inl hn
  · exact .inr ⟨g, cap, cur, rfl, hg, (hq g rfl).trans hgg, r⟩

theorem wpList_nm {w : World} {ops : Array Oper} {rest : List Oper} {o : Oper} {a : Act} {Q : Exit → Act → World → Prop} (hgd : o.guard = none) (s x : Operand)
    (ho : o.op = .call { callee := .builtin .append, args := #[s, x], argTypes := #[22, 22] })
    (base : Nat) (v : Value) (n : Nat) (vs : List Nat) (hs : a.eval s = v) (hown : w.ownsRow base 73 1 v n (vs.flatMap en)) (B : Nat) (A : Option Addr) (m c : Nat) (ms : List Nat) (hx : a.eval x = .slice A m c) (hr : Rs en 1 w B A m c ms)
    (hsm : n + m ≤ 100000) (hbase : base ≤ w.heap.size)
    (h : ∀ A' k c' w', Hid (k = n + m) → Hid (Appended w w' base 73 1 v (.slice A' k c') k ((vs ++ ms).flatMap en)) → wpList Tryz.prog ops Q rest (a.put o.dst (.slice A' k c')) w') : wpList Tryz.prog ops Q (o :: rest) a w :=
  wpList_plain hgd fun _ hK => op_append en_len (by decide) en_one Tryz.underlying22 nm_inf rfl (by decide) s x ho base v n vs hs hown B A m c ms hx hr hsm hbase fun A' k c' w' g1 g2 => hK _ _ (h A' k c' w' g1 g2)

/-- Two rows of one's own, apart. -/
structure Jm (w : World) (base : Nat) (v5 v6 : Value) (k k' : Nat) (js ms : List Nat) : Prop where
  j : w.ownsRow base 73 1 v5 k (js.flatMap en)
  m : w.ownsRow base 73 1 v6 k' (ms.flatMap en)
  ap : ∀ q, v5.ownBlock = some q → v6.ownBlock ≠ some q
theorem Jm.keep {w w' : World} {base : Nat} {v5 v6 : Value} {k k' : Nat} {js ms : List Nat} (h : Jm w base v5 v6 k k' js ms) (hb : Below w.heap.size w w') : Jm w' base v5 v6 k k' js ms :=
  ⟨own_same h.j fun q hq => hb.block q (h.j.lt q hq).2, own_same h.m fun q hq => hb.block q (h.m.lt q hq).2, h.ap⟩
theorem Jm.one {w w' : World} {base : Nat} {v5 v6 v : Value} {k k' n : Nat} {js ms xs : List Nat} (h : Jm w base v5 v6 k k' js ms) (ha : Appended w w' base 73 1 v5 v n (xs.flatMap en)) : Jm w' base v v6 n k' xs ms :=
  ⟨ha.own, own_same h.m fun q hq => ha.grown.block q (h.m.lt q hq).2 fun e => h.ap q e.symm hq, fun q hq hv => ha.apart (h.m.lt q hv).2 (fun e => h.ap q e hv) hq⟩
theorem Jm.two {w w' : World} {base : Nat} {v5 v6 v : Value} {k k' n : Nat} {js ms xs : List Nat} (h : Jm w base v5 v6 k k' js ms) (ha : Appended w w' base 73 1 v6 v n (xs.flatMap en)) : Jm w' base v5 v k n js xs :=
  ⟨own_same h.j fun q hq => ha.grown.block q (h.j.lt q hq).2 fun e => h.ap q hq e.symm, ha.own, fun q hq => ha.apart (h.j.lt q hq).2 (h.ap q hq)⟩
theorem own_rd {w : World} {base k : Nat} {A : Option Addr} {c : Nat} {js : List Nat} (h : w.ownsRow base 73 1 (.slice A k c) k (js.flatMap en)) : Rd La.nm w w.heap.size A k c js := by
  rw [en_map] at h
  exact Rd.of_own h
theorem one_nm (w : World) (x : Nat) : Rs en 1 (w.alloc (.cells #[.int .u64 (x : Int)] 73)) (w.alloc (.cells #[.int .u64 (x : Int)] 73)).heap.size (some ⟨w.heap.size, 0, none⟩) 1 1 [x] :=
  Rs.of_blk en_len (heap_alloc_new w _) ⟨[], rfl⟩ rfl (Nat.le_refl _) (by unfold maxLen; omega)

/-- A store into a row of one's own. -/
theorem own_st {w : World} {base n : Nat} {A : Option Addr} {c : Nat} {lo : List Nat} (h : w.ownsRow base 73 1 (.slice A n c) n (lo.flatMap en)) {i : Nat} (hi : i < lo.length) :
    ∃ g, A = some ⟨g, 0, none⟩ ∧ base ≤ g ∧ g < w.heap.size ∧ w.cell? ⟨g, i, none⟩ = some (.int .u64 (lo.getD i 0 : Int)) ∧ w.frozen? ⟨g, i, none⟩ = false ∧
      ∀ x : Nat, (w.setCell ⟨g, i, none⟩ (.int .u64 (x : Int))).ownsRow base 73 1 (.slice A n c) n ((lo.set i x).flatMap en) := by
  have hl := (own_rd h).len
  rcases h.2 with ⟨_, h0⟩ | ⟨g, cap, cur, hv, hb, hg, hnc, hcm, hcs, htake⟩
  · omega
  · injection hv with h1 h2 h3
    subst h1
    subst h3
    rw [en_map, Nat.mul_one] at htake
    refine ⟨g, rfl, hb, lt_blk hg, ?_, frozen_blk hg, fun x => ⟨?_, .inr ⟨g, c, cur.setIfInBounds i (.int .u64 (x : Int)), rfl, hb, set_blk hg _, hnc, hcm, by simpa using hcs, ?_⟩⟩⟩
    · rw [cell_blk hg, ← Array.getElem?_toList]
      have : (cur.toList.take n)[i]? = cur.toList[i]? := by rw [List.getElem?_take, if_pos (by omega)]
      rw [← this, htake, List.getElem?_map, List.getElem?_eq_getElem hi, List.getD_eq_getElem?_getD, List.getElem?_eq_getElem hi]
      rfl
    · rw [en_map, List.length_map, List.length_set, Nat.mul_one, hl]
    · rw [en_map, Nat.mul_one, Array.toList_setIfInBounds, List.take_set, htake, List.map_set]
      rfl
end Go.Proofs.YtnlgfiffhahpfaaGreatDoor
