/- What is open: a list of depths behind a pointer; what grow and next do to it. No condition but sizes. -/
import Derived.Test.YtmiconjmeaammaaGreatDoorRepS
namespace Go.Proofs.YtmiconjmeaammaaGreatDoor
open Go.RowKit

/-- A number in a cell. -/
def ic (x : Nat) : Value := .int .i64 (x : Int)
theorem ic_one (x : Nat) : (ic x).oneCell' = true := rfl

theorem append_types {P : Program} (t s ty e : TypeId) (ht : P.underlying t = some (.slice e)) (hs : P.underlying s = some (.slice e)) (v x : Value) (w : World) :
    (Builtin.append_ #[t, s] ty #[v, x]).run P w = (Builtin.append_ #[t, t] ty #[v, x]).run P w := by
  cases v <;> simp [Builtin.append_, run_underlying ht, run_underlying hs]

/-- Behind block g stands a list of depths, the last one first: in memory of the call's own, apart from g. -/
structure OpenAt (w : World) (g base : Nat) (v : Value) (st : List Nat) : Prop where
  blk : w.heap[g]? = some (.cells #[v] 230 (0, 0))
  own : w.ownsRow base 3 1 v st.length (st.reverse.map ic)
  ne : v.ownBlock ≠ some g

theorem OpenAt.kept {w w' : World} {g base sz n : Nat} {e : TypeId} {v v' : Value} {st : List Nat} {xs : List Value} (h : OpenAt w g base v st) (k : Appended w w' base e sz v v' n xs) :
    w'.heap[g]? = some (.cells #[v] 230 (0, 0)) ∧ w'.cell? ⟨g, 0, none⟩ = some v ∧ w'.frozen? ⟨g, 0, none⟩ = false := by
  have hb := (k.grown.block g (lt_blk h.blk) (fun e => h.ne e.symm)).trans h.blk
  exact ⟨hb, by rw [cell_blk hb]; rfl, frozen_blk hb⟩

/-- append(own, xs...) of depths, as one operation. -/
theorem wpList_append_ic {w : World} {ops : Array Oper} {rest : List Oper} {o : Oper} {a : Act} {Q : Exit → Act → World → Prop} (hgd : o.guard = none) (s x : Operand) (t u : TypeId)
    (ho : o.op = .call { callee := .builtin .append, args := #[s, x], argTypes := #[t, u] }) (ht : Tryz.prog.underlying t = some (.slice 3)) (hu : Tryz.prog.underlying u = some (.slice 3))
    (base : Nat) (v : Value) (n : Nat) (vs : List Nat) (hs : a.eval s = v) (hown : w.ownsRow base 3 1 v n (vs.map ic)) (B : Nat) (A : Option Addr) (m c : Nat) (ms : List Nat) (hx : a.eval x = .slice A m c) (hr : Rd ic w B A m c ms)
    (hsm : n + m ≤ 100000) (hbase : base ≤ w.heap.size)
    (h : ∀ A' c' w', Hid (Appended w w' base 3 1 v (.slice A' (n + m) c') (n + m) ((vs ++ ms).map ic)) → wpList Tryz.prog ops Q rest (a.put o.dst (.slice A' (n + m) c')) w') : wpList Tryz.prog ops Q (o :: rest) a w := by
  obtain ⟨i0, hi0, hz0, hz1, hz2⟩ := info_parts int_inf
  have key : ∃ v' w', (Builtin.append_ #[t, u] o.type #[v, .slice A m c]).run Tryz.prog w = .ok v' w' ∧ Appended w w' base 3 1 v v' (n + m) ((vs ++ ms).map ic) := by
    rcases A with _ | ad
    · have hc0 := hr.none0 rfl
      have hm0 : m = 0 := by have := hr.cap; omega
      subst hc0
      subst hm0
      have hms : ms = [] := List.eq_nil_of_length_eq_zero hr.len
      subst hms
      refine ⟨v, w, ?_, ⟨by simpa using hown, ⟨rfl, rfl, rfl, Nat.le_refl _, fun _ _ _ => rfl⟩, .inl rfl⟩⟩
      rw [append_types t u _ 3 ht hu]
      exact run_append_owned_none (P := Tryz.prog) w base t o.type 3 i0 1 ht hi0 v n _ hown
    · have hcells : ∀ j y, (ms.map ic)[j]? = some y → w.cell? (ad.add j) = some y := by
        rcases Nat.eq_zero_or_pos m with h0 | h0
        · have hms : ms = [] := List.eq_nil_of_length_eq_zero (by rw [hr.len, h0])
          subst hms
          intro j u hu
          simp at hu
        · obtain ⟨b, q, hA, _, hc⟩ := hr.spot h0
          injection hA with hA
          subst hA
          exact Rd.cells hc
      have := run_append_both (P := Tryz.prog) w base t u o.type 3 i0 _ 1 8 ht hi0 hz0 hz1 hz2 rfl (by decide) v n _ hown ad m c (ms.map ic) (by rw [List.length_map, hr.len, Nat.mul_one]) hcells (map_one ic_one ms) (by unfold maxLen; omega) (by omega) hbase (append_types t u _ 3 ht hu _ _ _)
      rw [← List.map_append] at this
      exact this
  obtain ⟨v', w', hrun, h2⟩ := key
  obtain ⟨A', c', rfl⟩ := rs_own_form h2.own
  refine wpList_plain hgd fun K hK => ?_
  unfold Oper.wp execOp
  simp only [ho, resolve, invoke, builtin, Sem.run_bind, Sem.run_pure, Result.andThen_ok, List.map_toArray, List.map_cons, List.map_nil, hs, hx, hrun]
  exact hK _ _ (h A' c' w' h2)

set_option maxRecDepth 100000 in
set_option maxHeartbeats 400000 in
theorem grow_any (g base : Nat) (v : Value) (st : List Nat) (A : Option Addr) (m c : Nat) (ds : List Nat) (w : World) (h : OpenAt w g base v st) (hr : Rd ic w w.heap.size A m c ds) (hsm : st.length + m ≤ 100000) (hbase : base ≤ w.heap.size) :
    Calls Tryz.prog 149 #[.pointer (some ⟨g, 0, none⟩), .slice A m c] w fun e w' => e = .returned (.tuple #[]) ∧ ∃ v', OpenAt w' g base v' (ds.reverse ++ st) ∧ Kept (fun b => b = g ∨ v.ownBlock = some b) w w' ∧ (∀ q, q < w.heap.size → v.ownBlock ≠ some q → v'.ownBlock ≠ some q) := by
  have hlen := hr.len
  have hcell : w.cell? ⟨g, 0, none⟩ = some v := by rw [cell_blk h.blk]; rfl
  have hfr : w.frozen? ⟨g, 0, none⟩ = false := frozen_blk h.blk
  obtain ⟨n, hn⟩ : ∃ n, n = st.length := ⟨_, rfl⟩
  have hown : w.ownsRow base 3 1 v n (st.reverse.map ic) := by rw [hn]; exact h.own
  have HN := Lib.hid hn
  rw [← hn] at hsm
  clear hn
  obtain ⟨A0, c0, rfl⟩ := rs_own_form hown
  go_enter Tryz.func149, Tryz.ntmps149
  have hglt := lt_blk h.blk
  have hne := h.ne
  go_wp2_with (refine wpList_append_ic rfl (.tmp 7) (.tmp 8) 230 120 rfl Tryz.underlying230 Tryz.underlying120 base _ n _ rfl hown w.heap.size A m c ds rfl hr hsm hbase ?_; intro A' c' w1 HA; obtain ⟨hb1, hc1, hf1⟩ := h.kept HA.out)
  go_end0
  have hg1 := HA.out.grown
  refine ⟨rfl, _, ⟨?_, ?_, ?_⟩, ?_, fun q hq hv => HA.out.apart hq hv⟩
  · rw [set_blk hb1]; rfl
  · have h2 := HA.out.own
    have e : (st.reverse ++ ds) = (ds.reverse ++ st).reverse := by simp
    rw [e] at h2
    have e2 : n + m = (ds.reverse ++ st).length := by rw [HN.out, List.length_append, List.length_reverse, hlen, Nat.add_comm]
    rw [← e2]
    refine ⟨h2.1, ?_⟩
    rcases h2.2 with hh | ⟨q, cap, cur, hv, hb, hq, r⟩
    · exact .inl hh
    · refine .inr ⟨q, cap, cur, hv, hb, ?_, r⟩
      have hqg : q ≠ g := by
        rintro rfl
        exact HA.out.apart hglt hne (by rw [hv]; rfl)
      rw [Below.heap_setCell _ _ _ _ hqg]
      exact hq
  · exact HA.out.apart hglt hne
  · have hk : Kept (fun b => b = g ∨ (Value.slice A0 n c0).ownBlock = some b) w w1 := ⟨hg1.os, hg1.tape, hg1.output, hg1.size, fun b hb hn => hg1.block b hb fun e => hn (.inr e.symm)⟩
    exact hk.setCell (.inl (.inl rfl)) _

set_option maxRecDepth 100000 in
set_option maxHeartbeats 400000 in
theorem next_none (g base : Nat) (v : Value) (w : World) (h : OpenAt w g base v []) :
    Calls Tryz.prog 150 #[.pointer (some ⟨g, 0, none⟩)] w fun e w' => e = .returned (.tuple #[.int .i64 0, .bool false]) ∧ w = w' := by
  have hcell : w.cell? ⟨g, 0, none⟩ = some v := by rw [cell_blk h.blk]; rfl
  obtain ⟨A0, c0, rfl⟩ := rs_own_form h.own
  go_enter Tryz.func150, Tryz.ntmps150
  go_wp2
  exact bodyPost_ret (v := .tuple #[.int .i64 0, .bool false]) (by simp [results, Tryz.results150, go_sem]) rfl ⟨rfl, rfl⟩

set_option maxRecDepth 100000 in
set_option maxHeartbeats 400000 in
theorem next_some (g base : Nat) (v : Value) (d : Nat) (st : List Nat) (w : World) (h : OpenAt w g base v (d :: st)) :
    Calls Tryz.prog 150 #[.pointer (some ⟨g, 0, none⟩)] w fun e w' => ∃ v', e = .returned (.tuple #[ic d, .bool true]) ∧ OpenAt w' g base v' st ∧ Kept (fun b => b = g) w w' ∧ v'.ownBlock = v.ownBlock := by
  have hcell : w.cell? ⟨g, 0, none⟩ = some v := by rw [cell_blk h.blk]; rfl
  have hfr : w.frozen? ⟨g, 0, none⟩ = false := frozen_blk h.blk
  have hne := h.ne
  obtain ⟨n, hn⟩ : ∃ n, n = st.length := ⟨_, rfl⟩
  have hown := h.own
  rw [List.length_cons, ← hn, List.reverse_cons, List.map_append] at hown
  rcases hown.2 with ⟨_, hbad⟩ | ⟨q, cap, cur, rfl, hqb, hq, hnc, hcm, hcs, htake⟩
  · omega
  have hlast : w.cell? ⟨q, n, none⟩ = some (ic d) := by
    have := hown.cells (g := q) rfl n (ic d) (by rw [List.getElem?_append_right (by simp [hn])]; simp [hn])
    rwa [Addr.add_lit, Nat.zero_add] at this
  unfold ic at hlast
  have hmax : n + 1 ≤ 9223372036854775807 := by unfold maxLen at hcm; omega
  have hs : ∀ W, (Instr.slice 230 (.slice (some ⟨q, 0, none⟩) (n + 1) cap) none (some (.int .i64 (n : Int))) none).run Tryz.prog W = .ok (.slice (some ⟨q, 0, none⟩) n cap) W := by
    intro W
    rw [run_slice_h W 230 _ _ _ (by rw [show Tryz.prog.elem 230 = 3 by simp [Program.elem, Tryz.underlying230]]; exact Tryz.underlying230) .i64 _ (by omega) (by omega), show Tryz.prog.elem 230 = 3 by simp [Program.elem, Tryz.underlying230], int_size]
    simp [Result.andThen, sliced, Addr.add_lit]
  have HN := Lib.hid hn
  clear hn
  have hqg : q ≠ g := by
    rintro rfl
    exact hne rfl
  go_enter Tryz.func150, Tryz.ntmps150
  go_wp2
  refine bodyPost_ret (v := .tuple #[.int .i64 (d : Int), .bool true]) (by simp [results, Tryz.results150, go_sem]) rfl ⟨.slice (some ⟨q, 0, none⟩) n cap, rfl, ⟨?_, ?_, hne⟩, (Kept.refl (fun b => b = g) w).setCell (.inl rfl) _, rfl⟩
  · rw [set_blk h.blk]; rfl
  · rw [← HN.out]
    refine ⟨by simp [HN.out], .inr ⟨q, cap, cur, rfl, hqb, ?_, by omega, hcm, hcs, ?_⟩⟩
    · rw [Below.heap_setCell _ _ _ _ hqg]; exact hq
    · have := congrArg (List.take n) htake
      rw [List.take_take, Nat.mul_one, Nat.min_eq_left (by omega), List.take_left' (by simp [HN.out])] at this
      rw [Nat.mul_one]
      exact this
end Go.Proofs.YtmiconjmeaammaaGreatDoor
