/- append of one text to a slice of a block that is known whole: it goes there if there is room, else into a new block. Conditions: sizes. -/
import Derived.Test.YtkjeejaecagbaaaGreatDoorKept
import Derived.Laws.AppendOwn
import Derived.OwnWalk
namespace Go.Proofs.YtkjeejaecagbaaaGreatDoor
open Go.RowKit

/-- What one more text makes of a list that lies at the head of block L. -/
structure OneMore (w w' : World) (L a c L' c' : Nat) (cur cur' : Array Value) (u : Value) : Prop where
  blk : w'.heap[L']? = some (.cells cur' 9 (0, 0))
  size : cur'.size = c'
  room : a + 1 ≤ c'
  top : c' ≤ maxLen
  old : ∀ j, j < a → cur'[j]? = cur[j]?
  new : cur'[a]? = some u
  kept : Kept (fun b => b = L ∧ L' = L) w w'
  place : (L' = L ∧ c' = c) ∨ L' = w.heap.size

theorem wpList_append_one {P : Program} (w : World) {ops : Array Oper} {rest : List Oper} {o : Oper} {a : Act} {Q : Exit → Act → World → Prop} (hgd : o.guard = none) (s x : Operand) (t : TypeId)
    (ho : o.op = .call { callee := .builtin .append, args := #[s, x], argTypes := #[t, t] }) (i : TypeInfo) (ht : P.underlying t = some (.slice 9)) (hi : P.info? 9 = some i) (hz : i.zero = some (.string ByteArray.empty)) (hsize : i.size = 1) (hby : i.bytes = 16)
    (L n c : Nat) (cur : Array Value) (hs : a.eval s = .slice (some ⟨L, 0, none⟩) n c) (hL : w.heap[L]? = some (.cells cur 9 (0, 0))) (hcs : cur.size = c) (hn : n ≤ c) (hc : c ≤ maxLen) (hb : (n + 1) * 16 ≤ 140737488355328)
    (X : Nat) (u : Value) (hx : a.eval x = .slice (some ⟨X, 0, none⟩) 1 1) (hX : w.cell? ⟨X, 0, none⟩ = some u) (hu : u.oneCell' = true)
    (h : ∀ L' c' cur' w', OneMore w w' L n c L' c' cur cur' u → wpList P ops Q rest (a.put o.dst (.slice (some ⟨L', 0, none⟩) (n + 1) c')) w') : wpList P ops Q (o :: rest) a w := by
  have hnews : ∀ j v, [u][j]? = some v → w.cell? ((⟨X, 0, none⟩ : Addr).add j) = some v := by
    intro j v hv
    rcases j with _ | j
    · simp only [List.getElem?_cons_zero, Option.some.injEq] at hv
      subst hv
      rw [Addr.add_lit]
      exact hX
    · simp at hv
  have h1 : ∀ v ∈ [u], v.oneCell' = true := by
    intro v hv
    simp only [List.mem_singleton] at hv
    subst hv
    exact hu
  have key : ∃ L' c' cur' w', (Builtin.append_ #[t, t] o.type #[.slice (some ⟨L, 0, none⟩) n c, .slice (some ⟨X, 0, none⟩) 1 1]).run P w = .ok (.slice (some ⟨L', 0, none⟩) (n + 1) c') w' ∧ OneMore w w' L n c L' c' cur cur' u := by
    by_cases hr : n + 1 ≤ c
    · have hrun := run_append_room (P := P) w t o.type 9 i ht hi L n c cur hL ⟨X, 0, none⟩ 1 1 [u] (by rw [hsize]; rfl) hnews h1 hr (by rw [hsize]; simp; omega)
      rw [hsize] at hrun
      refine ⟨L, c, _, _, hrun, ⟨setRow_heap w L cur _ 9 _ hL, ?_, hr, hc, ?_, ?_, ⟨rfl, rfl, rfl, by simp, fun b _ hn => setRow_other w L b _ (fun e => hn ⟨e.symm ▸ rfl, rfl⟩)⟩, .inl ⟨rfl, rfl⟩⟩⟩
      · simp; omega
      · intro j hj
        simp only [List.getElem?_toArray, Nat.mul_one]
        rw [List.append_assoc, List.getElem?_append_left (by simp; omega), List.getElem?_take_of_lt hj]
        simp
      · simp only [List.getElem?_toArray, Nat.mul_one]
        have hl : (List.take n cur.toList).length = n := by rw [List.length_take, Array.length_toList]; omega
        rw [List.append_assoc, List.getElem?_append_right (by omega), hl, Nat.sub_self]
        rfl
    · obtain rfl : n = c := by omega
      have holds : ∀ j v, cur.toList[j]? = some v → w.cell? ((⟨L, 0, none⟩ : Addr).add j) = some v := by
        intro j v hv
        rw [Addr.add_lit, Nat.zero_add, cell_blk hL]
        simpa using hv
      have hrun := run_append_grow (P := P) w t o.type 9 i (.string ByteArray.empty) ht hi hz ⟨L, 0, none⟩ n n cur.toList (by rw [hsize]; simpa using hcs) holds ⟨X, 0, none⟩ 1 1 [u] (by rw [hsize]; rfl) hnews (by omega) (by omega) (by rw [hby]; exact growslice_fits (by omega) (by omega))
      have hge := grownCap_ge w (n + 1) n 9
      have hle := grownCap_le_maxLen w (n + 1) n 9 (by unfold maxLen; omega)
      refine ⟨_, _, _, _, hrun, ⟨heap_alloc_new w.drew _, ?_, hge, hle, ?_, ?_, ?_, .inr rfl⟩⟩
      · have hz1 : (Value.string ByteArray.empty).cells.size = 1 := rfl
        simp only [Array.size_append, List.size_toArray, size_zeroCells, hz1, hcs, List.length_singleton]
        omega
      · intro j hj
        rw [Array.append_assoc, Array.getElem?_append_left (by simp; omega)]
      · rw [Array.append_assoc, Array.getElem?_append_right (by simp; omega)]
        have e : n - cur.toList.toArray.size = 0 := by simp [hcs]
        rw [e, Array.getElem?_append_left (by simp)]
        rfl
      · have hkk : Kept (fun b => b = L ∧ w.heap.size = L) w w.drew := (Kept.refl _ _).drew
        exact hkk.alloc _
  obtain ⟨L', c', cur', w', hrun, hone⟩ := key
  refine wpList_plain hgd fun K hK => ?_
  unfold Oper.wp execOp
  simp only [ho, resolve, invoke, builtin, Sem.run_bind, Sem.run_pure, Result.andThen_ok, List.map_toArray, List.map_cons, List.map_nil, hs, hx, hrun]
  exact hK _ _ (h L' c' cur' w' hone)

end Go.Proofs.YtkjeejaecagbaaaGreatDoor
