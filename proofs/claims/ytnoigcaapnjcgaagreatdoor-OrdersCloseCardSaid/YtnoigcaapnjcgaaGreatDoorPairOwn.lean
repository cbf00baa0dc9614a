/- Pairs in memory of the call's own; appends of pairs. No condition but sizes. -/
import Derived.Test.YtnoigcaapnjcgaaGreatDoorPairs
namespace Go.Proofs.YtnoigcaapnjcgaaGreatDoor
open Go.RowKit

/-- The cells of pairs. -/
def flat (ps : List (Int × Int)) : List Value := ps.flatMap fun p => [.int .i64 p.1, .int .i64 p.2]

theorem flat_cons (p : Int × Int) (ps : List (Int × Int)) : flat (p :: ps) = .int .i64 p.1 :: .int .i64 p.2 :: flat ps := rfl
theorem flat_append (a b : List (Int × Int)) : flat (a ++ b) = flat a ++ flat b := by simp [flat]
theorem flat_len : ∀ ps : List (Int × Int), (flat ps).length = ps.length * 2
  | [] => rfl
  | p :: ps => by
    rw [flat_cons, List.length_cons, List.length_cons, flat_len ps, List.length_cons]
    omega
theorem flat_get : ∀ (ps : List (Int × Int)) (j : Nat) (h : j < ps.length), (flat ps)[j * 2]? = some (.int .i64 ps[j].1) ∧ (flat ps)[j * 2 + 1]? = some (.int .i64 ps[j].2)
  | [], j, h => by simp at h
  | p :: ps, 0, _ => ⟨rfl, rfl⟩
  | p :: ps, j + 1, h => by
    have := flat_get ps j (by simpa using h)
    rw [flat_cons, show (j + 1) * 2 = j * 2 + 1 + 1 by omega, show j * 2 + 1 + 1 + 1 = (j * 2 + 1) + 1 + 1 by omega]
    simpa using this
theorem flat_one (ps : List (Int × Int)) : ∀ u ∈ flat ps, u.oneCell' = true := by
  intro u hu
  obtain ⟨p, _, hp⟩ := List.mem_flatMap.1 hu
  simp only [List.mem_cons, List.not_mem_nil, or_false] at hp
  rcases hp with rfl | rfl <;> rfl

theorem Rp.flat {w : World} {ps : List (Int × Int)} {b o : Nat} (hc : ∀ j (h : j < ps.length), w.cell? ⟨b, o + j * 2, none⟩ = some (.int .i64 ps[j].1) ∧ w.cell? ⟨b, o + j * 2 + 1, none⟩ = some (.int .i64 ps[j].2)) :
    ∀ j u, (flat ps)[j]? = some u → w.cell? ((⟨b, o, none⟩ : Addr).add j) = some u := by
  intro j u hu
  have hj : j < (Proofs.YtnoigcaapnjcgaaGreatDoor.flat ps).length := by
    rcases Nat.lt_or_ge j (Proofs.YtnoigcaapnjcgaaGreatDoor.flat ps).length with h | h
    · exact h
    · rw [List.getElem?_eq_none h] at hu
      cases hu
  rw [flat_len] at hj
  have hk : j / 2 < ps.length := by omega
  obtain ⟨g1, g2⟩ := flat_get ps (j / 2) hk
  obtain ⟨c1, c2⟩ := hc (j / 2) hk
  rw [Addr.add_lit]
  rcases Nat.mod_two_eq_zero_or_one j with e | e
  · have e' : j = j / 2 * 2 := by omega
    rw [← e'] at g1 c1
    rw [c1, ← g1, hu]
  · have e' : j = j / 2 * 2 + 1 := by omega
    rw [← e'] at g2
    rw [show o + j = o + j / 2 * 2 + 1 by omega, c2, ← g2, hu]

theorem own_len2 {w : World} {n E base : Nat} {v : Value} {ps : List (Int × Int)} (h : w.ownsRow base E 2 v n (flat ps)) : ps.length = n := by
  have := h.1
  rw [flat_len] at this
  omega

theorem Rp.of_own {w : World} {E : TypeId} {base n c : Nat} {A : Option Addr} {ps : List (Int × Int)} (h : w.ownsRow base E 2 (.slice A n c) n (Proofs.YtnoigcaapnjcgaaGreatDoor.flat ps)) : Rp w w.heap.size A n c ps := by
  have hl := own_len2 h
  rcases h.2 with ⟨hv, rfl⟩ | ⟨g, cap, cur, hv, hb, hg, hnc, hcm, hcs, htake⟩
  · injection hv with h1 h2 h3
    subst h3
    exact ⟨hl, Nat.le_refl _, Nat.zero_le _, fun _ => rfl, fun h => absurd h (by omega)⟩
  · injection hv with h1 h2 h3
    subst h1
    subst h3
    refine ⟨hl, hnc, hcm, (fun h => by cases h), fun _ => ⟨g, 0, rfl, (Array.getElem?_eq_some_iff.1 hg).1, fun j hj => ?_⟩⟩
    obtain ⟨g1, g2⟩ := flat_get ps j hj
    have a1 := h.cells (g := g) rfl _ _ g1
    have a2 := h.cells (g := g) rfl _ _ g2
    rw [Addr.add_lit] at a1 a2
    exact ⟨a1, by rw [Nat.add_assoc]; exact a2⟩

/-- append(own, xs...), xs any slice of pairs. -/
theorem wp_append_rp {P : Program} (w : World) {o : Oper} {a : Act} {K : Act → World → Prop} {Q : Exit → Act → World → Prop} (s x : Operand) (t : TypeId)
    (ho : o.op = .call { callee := .builtin .append, args := #[s, x], argTypes := #[t, t] })
    (base : Nat) (e : TypeId) (i : TypeInfo) (z : Value) (ht : P.underlying t = some (.slice e)) (hi : P.info? e = some i) (hz : i.zero = some z) (hsize : i.size = 2) (hby : i.bytes = 16) (hzs : z.cells.size = 2)
    (v : Value) (n : Nat) (bs : List (Int × Int)) (hs : a.eval s = v) (hown : w.ownsRow base e 2 v n (flat bs))
    (B : Nat) (A : Option Addr) (m c : Nat) (ms : List (Int × Int)) (hx : a.eval x = .slice A m c) (hr : Rp w B A m c ms) (hmax : n + m ≤ maxLen) (hb : (n + m) * 16 ≤ 140737488355328) (hbase : base ≤ w.heap.size)
    (h : ∀ A' k c' w', Hid (k = n + m) → w'.ownsRow base e 2 (.slice A' k c') k (flat (bs ++ ms)) → w.grownBy w' v.ownBlock → K (a.put o.dst (.slice A' k c')) w') :
    o.wp P a w K Q := by
  have key : ∃ v' w', (Builtin.append_ #[t, t] o.type #[v, .slice A m c]).run P w = .ok v' w' ∧ w'.ownsRow base e 2 v' (n + m) (flat (bs ++ ms)) ∧ w.grownBy w' v.ownBlock := by
    rcases A with _ | ad
    · have hc0 := hr.none0 rfl
      have hm0 : m = 0 := by have := hr.cap; omega
      subst hc0
      subst hm0
      have hms : ms = [] := List.eq_nil_of_length_eq_zero hr.len
      subst hms
      refine ⟨v, w, run_append_owned_none (P := P) w base t o.type e i 2 ht hi v n _ hown, ?_, ⟨rfl, rfl, rfl, Nat.le_refl _, fun _ _ _ => rfl⟩⟩
      simpa using hown
    · have hcells : ∀ j u, (flat ms)[j]? = some u → w.cell? (ad.add j) = some u := by
        rcases Nat.eq_zero_or_pos m with h0 | h0
        · have hms : ms = [] := List.eq_nil_of_length_eq_zero (by rw [hr.len, h0])
          subst hms
          intro j u hu
          simp [flat] at hu
        · obtain ⟨b, q, hA, _, hc⟩ := hr.spot h0
          injection hA with hA
          subst hA
          exact Rp.flat hc
      obtain ⟨v', w', hrun, h2, h3, _⟩ := run_append_own (P := P) w base t o.type e i z 2 16 ht hi hz hsize hby hzs (by decide) v n _ hown ad m c _ (by rw [flat_len, hr.len]) hcells (flat_one ms) hmax hb hbase
      exact ⟨v', w', hrun, by rw [flat_append]; exact h2, h3⟩
  obtain ⟨v', w', hrun, h2, h3⟩ := key
  obtain ⟨A', c', rfl⟩ : ∃ A c, v' = .slice A (n + m) c := by
    rcases h2.2 with ⟨rfl, e⟩ | ⟨g, cap, cur, rfl, _⟩
    · exact ⟨none, 0, by rw [e]⟩
    · exact ⟨_, _, rfl⟩
  unfold Oper.wp execOp
  simp only [ho, resolve, invoke, builtin, Sem.run_bind, Sem.run_pure, Result.andThen_ok, List.map_toArray, List.map_cons, List.map_nil, hs, hx, hrun]
  exact h A' (n + m) c' w' rfl h2 h3

theorem wpList_append_rp {P : Program} (w : World) {ops : Array Oper} {rest : List Oper} {o : Oper} {a : Act} {Q : Exit → Act → World → Prop} (hgd : o.guard = none) (s x : Operand) (t : TypeId)
    (ho : o.op = .call { callee := .builtin .append, args := #[s, x], argTypes := #[t, t] })
    (base : Nat) (e : TypeId) (i : TypeInfo) (z : Value) (ht : P.underlying t = some (.slice e)) (hi : P.info? e = some i) (hz : i.zero = some z) (hsize : i.size = 2) (hby : i.bytes = 16) (hzs : z.cells.size = 2)
    (v : Value) (n : Nat) (bs : List (Int × Int)) (hs : a.eval s = v) (hown : w.ownsRow base e 2 v n (flat bs))
    (B : Nat) (A : Option Addr) (m c : Nat) (ms : List (Int × Int)) (hx : a.eval x = .slice A m c) (hr : Rp w B A m c ms) (hmax : n + m ≤ maxLen) (hb : (n + m) * 16 ≤ 140737488355328) (hbase : base ≤ w.heap.size)
    (h : ∀ A' k c' w', Hid (k = n + m) → w'.ownsRow base e 2 (.slice A' k c') k (flat (bs ++ ms)) → w.grownBy w' v.ownBlock → wpList P ops Q rest (a.put o.dst (.slice A' k c')) w') :
    wpList P ops Q (o :: rest) a w :=
  wpList_plain hgd fun _ hK => wp_append_rp w s x t ho base e i z ht hi hz hsize hby hzs v n bs hs hown B A m c ms hx hr hmax hb hbase fun A' k c' w' g1 g2 g3 => hK _ _ (h A' k c' w' g1 g2 g3)

end Go.Proofs.YtnoigcaapnjcgaaGreatDoor
