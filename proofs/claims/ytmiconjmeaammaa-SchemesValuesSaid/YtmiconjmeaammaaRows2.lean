/- Rows of sides and of terms, and what the laws' helpers do: sides and terms of spots, rows that are the same. Condition: rows can be read. -/
import Derived.Test.YtmiconjmeaammaaPutB
import Derived.Test.YtmiconjmeaammaaAlive
namespace Go.Proofs.Ytmiconjmeaammaa
open Go.RowKit

/-- The cell of a side. -/
def sdc (s : Nat) : List Value := [.int .u8 (s : Int)]
theorem sdc_len (s : Nat) : (sdc s).length = 1 := rfl
theorem sdc_one (l : List Nat) : ∀ u ∈ l.flatMap sdc, u.oneCell' = true := by
  intro u hu
  obtain ⟨x, _, hx⟩ := List.mem_flatMap.1 hu
  simp only [sdc, List.mem_cons, List.not_mem_nil, or_false] at hx
  rcases hx with rfl
  rfl
theorem tmc_one (l : List Tm) : ∀ u ∈ l.flatMap tmc, u.oneCell' = true := by
  intro u hu
  obtain ⟨x, _, hx⟩ := List.mem_flatMap.1 hu
  simp only [tmc, List.mem_cons, List.not_mem_nil, or_false] at hx
  rcases hx with rfl | rfl <;> rfl
theorem tm_inf : (Try.prog.info? 52).map (fun i => (i.zero, i.size, i.bytes)) = some (some (.agg #[.bool false, .int .u64 0]), 2, 16) := by kernel_rfl
theorem sd_inf : (Try.prog.info? 54).map (fun i => (i.zero, i.size, i.bytes)) = some (some (.int .u8 0), 1, 1) := by kernel_rfl

/-- append(own, xs...), as one operation. -/
theorem wpList_append_rs {α : Type} {enc : α → List Value} {sz bytes : Nat} {t E : TypeId} {z : Value} (he : ∀ x, (enc x).length = sz) (hsz : 0 < sz) (h1 : ∀ l : List α, ∀ u ∈ l.flatMap enc, u.oneCell' = true) (ht : Try.prog.underlying t = some (.slice E)) (hinf : (Try.prog.info? E).map (fun i => (i.zero, i.size, i.bytes)) = some (some z, sz, bytes)) (hzs : z.cells.size = sz) (hby : bytes ≤ 1000)
    {w : World} {ops : Array Oper} {rest : List Oper} {o : Oper} {a : Act} {Q : Exit → Act → World → Prop} (hgd : o.guard = none) (s x : Operand)
    (ho : o.op = .call { callee := .builtin .append, args := #[s, x], argTypes := #[t, t] })
    (base : Nat) (v : Value) (n : Nat) (vs : List α) (hs : a.eval s = v) (hown : w.ownsRow base E sz v n (vs.flatMap enc)) (B : Nat) (A : Option Addr) (m c : Nat) (ms : List α) (hx : a.eval x = .slice A m c) (hr : Rs enc sz w B A m c ms)
    (hsm : n + m ≤ 100000) (hbase : base ≤ w.heap.size)
    (h : ∀ A' k c' w', Hid (k = n + m) → Hid (Appended w w' base E sz v (.slice A' k c') k ((vs ++ ms).flatMap enc)) → wpList Try.prog ops Q rest (a.put o.dst (.slice A' k c')) w') : wpList Try.prog ops Q (o :: rest) a w := by
  obtain ⟨i0, hi0, hz0, hz1, hz2⟩ := info_parts hinf
  have key : ∃ v' w', (Builtin.append_ #[t, t] o.type #[v, .slice A m c]).run Try.prog w = .ok v' w' ∧ Appended w w' base E sz v v' (n + m) ((vs ++ ms).flatMap enc) := by
    rcases A with _ | ad
    · have hc0 := hr.none0 rfl
      have hm0 : m = 0 := by have := hr.cap; omega
      subst hc0
      subst hm0
      have hms : ms = [] := List.eq_nil_of_length_eq_zero hr.len
      subst hms
      exact ⟨v, w, run_append_owned_none (P := Try.prog) w base t o.type E i0 sz ht hi0 v n _ hown, ⟨by simpa using hown, ⟨rfl, rfl, rfl, Nat.le_refl _, fun _ _ _ => rfl⟩, .inl rfl⟩⟩
    · have hcells : ∀ j y, (ms.flatMap enc)[j]? = some y → w.cell? (ad.add j) = some y := by
        rcases Nat.eq_zero_or_pos m with h0 | h0
        · have hms : ms = [] := List.eq_nil_of_length_eq_zero (by rw [hr.len, h0])
          subst hms
          intro j u hu
          simp at hu
        · obtain ⟨b, q, hA, _, hc⟩ := hr.spot h0
          injection hA with hA
          subst hA
          exact Rs.cells he hsz hc
      have hbb : (n + m) * bytes ≤ 140737488355328 := Nat.le_trans (Nat.mul_le_mul hsm hby) (by omega)
      have := run_append_both (P := Try.prog) w base t t o.type E i0 _ sz bytes ht hi0 hz0 hz1 hz2 hzs hsz v n _ hown ad m c (ms.flatMap enc) (by rw [flat_len he, hr.len]) hcells (h1 ms) (by unfold maxLen; omega) hbb hbase rfl
      rw [← List.flatMap_append] at this
      exact this
  obtain ⟨v', w', hrun, h2⟩ := key
  obtain ⟨A', c', rfl⟩ := rs_own_form h2.own
  refine wpList_plain hgd fun K hK => ?_
  unfold Oper.wp execOp
  simp only [ho, resolve, invoke, builtin, Sem.run_bind, Sem.run_pure, Result.andThen_ok, List.map_toArray, List.map_cons, List.map_nil, hs, hx, hrun]
  exact hK _ _ (h A' (n + m) c' w' rfl h2)

theorem side_at {w : World} {B n c : Nat} {A : Option Addr} {l : List Nat} (h : Rs sdc 1 w B A n c l) {k : Nat} (hk : k < l.length) : ∃ b o, A = some ⟨b, o, none⟩ ∧ b < B ∧ w.cell? ⟨b, o + k, none⟩ = some (.int .u8 (l[k] : Int)) := by
  obtain ⟨b, o, e, hb, hc⟩ := h.spot (by have := h.len; omega)
  have := hc k hk 0 _ rfl
  rw [Nat.mul_one, Nat.add_zero] at this
  exact ⟨b, o, e, hb, this⟩





/-- Rows are read, and are the same. -/
def LfRel (n : Nat) (w : World) (i5 : Value) (wr : World) : Prop := ∃ k q : Nat, i5 = .int .i64 (k : Int) ∧ k ≤ n ∧ wr = w.drewN q

theorem drewN_two (w : World) (q n : Nat) : (w.drewN q).drewN n = w.drewN (q + n) := by simp [World.drewN, Nat.add_assoc]



set_option maxRecDepth 100000 in
set_option maxHeartbeats 1000000 in
theorem sameNodes_any (A A2 : Option Addr) (n c c2 B B2 : Nat) (l : List Nd) (w : World) (h : Ns w B A n c l) (h2 : Ns w B2 A2 n c2 l) :
    Calls Try.prog 13 #[.slice A n c, .slice A2 n c2] w fun e w' => e = .returned (.bool true) ∧ Below w.heap.size w w' := by
  have HL := Lib.hid h.len
  have HT := Lib.hid h
  have HR := Lib.hid h2
  have hn2 : ((n : Int) != (n : Int)) = false := by simp
  have htop := h.top
  have hcap := h.cap
  unfold maxLen at htop
  clear h h2
  go_enter Try.func13, Try.ntmps13
  go_wp2
  go_loopw [5] (fun i5 wr => LfRel n w i5 wr) (fun i5 _ => n - (intOf i5).toNat)
  case atStart => exact ⟨0, 0, rfl, by omega, rfl⟩
  case round =>
    obtain ⟨k, q, rfl, hk, rfl⟩ := hrel
    by_cases hlt : k < n
    · have hk' : k < l.length := by rw [HL.out]; exact hlt
      obtain ⟨b, o, rfl, -, c0, c1, c2, c3, c4, c5, c6, c7, c8, c9⟩ := HR.out.node hk'
      obtain ⟨b2, o2, rfl, -, d0, d1, d2, d3, d4, d5, d6, d7, d8, d9⟩ := HT.out.node hk'
      generalize l[k] = x at *
      obtain ⟨xk, xm, xs, xn, xlv, xln, xpv, xpn, xev, xen⟩ := x
      simp only at c0 c1 c2 c3 c4 c5 c6 c7 c8 c9 d0 d1 d2 d3 d4 d5 d6 d7 d8 d9
      go_wp2
      go_quiet (fail)
      go_wp2
      go_roundw
      case rel => exact ⟨k + 1, _, by go_num, by omega, rfl⟩
      case measure => simp [intOf]; omega
    · obtain rfl : k = n := by omega
      have hbW : Below w.heap.size w (w.drewN q) := below_drewN w q
      go_wp2
      go_ret
      exact ⟨rfl, hbW⟩
end Go.Proofs.Ytmiconjmeaammaa
