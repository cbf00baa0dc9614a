/- Rows2; Law; Law2: merged. -/
import Derived.Test.YthbonabadelfdaaGreatPutB
import Derived.Test.YthbonabadelfdaaGreatAlive

/- Rows of sides and of terms, and what the laws' helpers do: sides and terms of spots, rows that are the same. Condition: rows can be read. -/
namespace Go.Proofs.YthbonabadelfdaaGreat
open Go.RowKit

/-- The cell of a side. -/
def sdc (s : Nat) : List Value := [.int .u8 (s : Int)]
theorem sdc_len (s : Nat) : (sdc s).length = 1 := rfl
theorem sdc_one (l : List Nat) : ∀ u ∈ l.flatMap sdc, u.oneCell' = true := by
  intro u hu
  obtain ⟨x, _, hx⟩ := List.mem_flatMap.1 hu
  simp only [sdc, List.mem_cons, List.not_mem_nil, or_false] at hx
  rcases hx with rfl
  rfl
theorem tmc_one (l : List Tm) : ∀ u ∈ l.flatMap tmc, u.oneCell' = true := by
  intro u hu
  obtain ⟨x, _, hx⟩ := List.mem_flatMap.1 hu
  simp only [tmc, List.mem_cons, List.not_mem_nil, or_false] at hx
  rcases hx with rfl | rfl <;> rfl
theorem tm_inf : (Tryz.prog.info? 44).map (fun i => (i.zero, i.size, i.bytes)) = some (some (.agg #[.bool false, .int .u64 0]), 2, 16) := by kernel_rfl
theorem sd_inf : (Tryz.prog.info? 41).map (fun i => (i.zero, i.size, i.bytes)) = some (some (.int .u8 0), 1, 1) := by kernel_rfl

/-- append(own, xs...), as one operation. -/
theorem wpList_append_rs {α : Type} {enc : α → List Value} {sz bytes : Nat} {t E : TypeId} {z : Value} (he : ∀ x, (enc x).length = sz) (hsz : 0 < sz) (h1 : ∀ l : List α, ∀ u ∈ l.flatMap enc, u.oneCell' = true) (ht : Tryz.prog.underlying t = some (.slice E)) (hinf : (Tryz.prog.info? E).map (fun i => (i.zero, i.size, i.bytes)) = some (some z, sz, bytes)) (hzs : z.cells.size = sz) (hby : bytes ≤ 1000)
    {w : World} {ops : Array Oper} {rest : List Oper} {o : Oper} {a : Act} {Q : Exit → Act → World → Prop} (hgd : o.guard = none) (s x : Operand)
    (ho : o.op = .call { callee := .builtin .append, args := #[s, x], argTypes := #[t, t] })
    (base : Nat) (v : Value) (n : Nat) (vs : List α) (hs : a.eval s = v) (hown : w.ownsRow base E sz v n (vs.flatMap enc)) (B : Nat) (A : Option Addr) (m c : Nat) (ms : List α) (hx : a.eval x = .slice A m c) (hr : Rs enc sz w B A m c ms)
    (hsm : n + m ≤ 100000) (hbase : base ≤ w.heap.size)
    (h : ∀ A' k c' w', Hid (k = n + m) → Hid (Appended w w' base E sz v (.slice A' k c') k ((vs ++ ms).flatMap enc)) → wpList Tryz.prog ops Q rest (a.put o.dst (.slice A' k c')) w') : wpList Tryz.prog ops Q (o :: rest) a w := by
  obtain ⟨i0, hi0, hz0, hz1, hz2⟩ := info_parts hinf
  have key : ∃ v' w', (Builtin.append_ #[t, t] o.type #[v, .slice A m c]).run Tryz.prog w = .ok v' w' ∧ Appended w w' base E sz v v' (n + m) ((vs ++ ms).flatMap enc) := by
    rcases A with _ | ad
    · have hc0 := hr.none0 rfl
      have hm0 : m = 0 := by have := hr.cap; omega
      subst hc0
      subst hm0
      have hms : ms = [] := List.eq_nil_of_length_eq_zero hr.len
      subst hms
      exact ⟨v, w, run_append_owned_none (P := Tryz.prog) w base t o.type E i0 sz ht hi0 v n _ hown, ⟨by simpa using hown, ⟨rfl, rfl, rfl, Nat.le_refl _, fun _ _ _ => rfl⟩, .inl rfl⟩⟩
    · have hcells : ∀ j y, (ms.flatMap enc)[j]? = some y → w.cell? (ad.add j) = some y := by
        rcases Nat.eq_zero_or_pos m with h0 | h0
        · have hms : ms = [] := List.eq_nil_of_length_eq_zero (by rw [hr.len, h0])
          subst hms
          intro j u hu
          simp at hu
        · obtain ⟨b, q, hA, _, hc⟩ := hr.spot h0
          injection hA with hA
          subst hA
          exact Rs.cells he hsz hc
      have hbb : (n + m) * bytes ≤ 140737488355328 := Nat.le_trans (Nat.mul_le_mul hsm hby) (by omega)
      have := run_append_both (P := Tryz.prog) w base t t o.type E i0 _ sz bytes ht hi0 hz0 hz1 hz2 hzs hsz v n _ hown ad m c (ms.flatMap enc) (by rw [flat_len he, hr.len]) hcells (h1 ms) (by unfold maxLen; omega) hbb hbase rfl
      rw [← List.flatMap_append] at this
      exact this
  obtain ⟨v', w', hrun, h2⟩ := key
  obtain ⟨A', c', rfl⟩ := rs_own_form h2.own
  refine wpList_plain hgd fun K hK => ?_
  unfold Oper.wp execOp
  simp only [ho, resolve, invoke, builtin, Sem.run_bind, Sem.run_pure, Result.andThen_ok, List.map_toArray, List.map_cons, List.map_nil, hs, hx, hrun]
  exact hK _ _ (h A' (n + m) c' w' rfl h2)

theorem side_at {w : World} {B n c : Nat} {A : Option Addr} {l : List Nat} (h : Rs sdc 1 w B A n c l) {k : Nat} (hk : k < l.length) : ∃ b o, A = some ⟨b, o, none⟩ ∧ b < B ∧ w.cell? ⟨b, o + k, none⟩ = some (.int .u8 (l[k] : Int)) := by
  obtain ⟨b, o, e, hb, hc⟩ := h.spot (by have := h.len; omega)
  have := hc k hk 0 _ rfl
  rw [Nat.mul_one, Nat.add_zero] at this
  exact ⟨b, o, e, hb, this⟩





/-- Rows are read, and are the same. -/
def LfRel (n : Nat) (w : World) (i5 : Value) (wr : World) : Prop := ∃ k q : Nat, i5 = .int .i64 (k : Int) ∧ k ≤ n ∧ wr = w.drewN q

theorem drewN_two (w : World) (q n : Nat) : (w.drewN q).drewN n = w.drewN (q + n) := by simp [World.drewN, Nat.add_assoc]



end Go.Proofs.YthbonabadelfdaaGreat

/- The examples that the laws make; spots told with the row laid. Condition: rows can be read. -/
namespace Go.Proofs.YthbonabadelfdaaGreat
open Go.RowKit

theorem k_l1 : (labB [nFun, nInt, nInt]).map Sp.s = [0, 1, 1, 0] := by decide +kernel
theorem k_e1 : (effB [nFun, nInt, nInt]).map Sp.s = [0] := by decide +kernel
theorem k_l2 : (labB [nRef, nInt]).map Sp.s = [0, 2] := by decide +kernel
theorem k_e2 : effB [nRef, nInt] = [] := by
  have : (effB [nRef, nInt]).length = 0 := by decide +kernel
  exact List.eq_nil_of_length_eq_zero this

theorem Alks.fits : ∀ {a b : List Nd}, Alks a b → (∀ x ∈ a, x.Fits) → ∀ y ∈ b, y.Fits
  | _, _, .nil, _ => by simp
  | _, _, .cons (x := x) (y := y) h t, hf => by
    refine fits_cons ?_ (t.fits fun z hz => hf z (List.mem_cons_of_mem _ hz))
    have g := hf x List.mem_cons_self
    exact ⟨h.k ▸ g.k0, h.k ▸ g.k1, h.m ▸ g.m0, h.m ▸ g.m1, h.n ▸ g.n0, h.n ▸ g.n1, h.s ▸ g.s1⟩
theorem fits_putB {l : List Nd} (ts us : List Tm) (h : ∀ x ∈ l, x.Fits) : ∀ y ∈ putB l ts us, y.Fits := (alks_putB l ts us).fits h

/-- What Of tells, its rows named. -/
theorem of_lit (A : Option Addr) (m c : Nat) (l : List Nd) (ls es : List Sp) (w : World) (hr : Ns w w.heap.size A m c l) (hf : ∀ x ∈ l, x.Fits) (e1 : labB l = ls) (e2 : effB l = es) :
    Calls Tryz.prog 32 #[.slice A m c] w fun e w' => ∃ A1 n1 c1 A2 n2 c2, e = .returned (.tuple #[.slice A1 n1 c1, .slice A2 n2 c2]) ∧ w'.ownsRow w.heap.size 46 5 (.slice A1 n1 c1) n1 (ls.flatMap spc) ∧ w'.ownsRow w.heap.size 46 5 (.slice A2 n2 c2) n2 (es.flatMap spc) ∧
      (∀ q, (Value.slice A1 n1 c1).ownBlock = some q → (Value.slice A2 n2 c2).ownBlock ≠ some q) ∧ Below w.heap.size w w' := by
  have := of_any A m c l w hr hf
  rw [e1, e2] at this
  refine this.mono ?_
  rintro e w' ⟨v, u, rfl, h⟩
  obtain ⟨A1, c1, rfl⟩ := rs_own_form h.o2
  obtain ⟨A2, c2, rfl⟩ := rs_own_form h.o3
  exact ⟨A1, _, c1, A2, _, c2, rfl, h.o2, h.o3, h.ap, h.bel⟩

theorem Rs.of_ownW {α : Type} {enc : α → List Value} {sz : Nat} {w : World} {A : Option Addr} {n c : Nat} {l : List α} {E : TypeId} {base : Nat} (he : ∀ x, (enc x).length = sz) (hsz : 0 < sz) (h : w.ownsRow base E sz (.slice A n c) n (l.flatMap enc)) : Rs enc sz w w.heap.size A n c l := Rs.of_own he hsz h

abbrev oRefI : Obj := .cells #[.int .u8 4, .int .i64 0, .string (str []), .int .i64 1, .bool false, .int .u64 0, .bool false, .int .u64 0, .bool false, .int .u64 0, .int .u8 1, .int .i64 0, .string (str [105, 110, 116]), .int .i64 0, .bool false, .int .u64 0, .bool false, .int .u64 0, .bool false, .int .u64 0] 97
theorem fits_l1 : ∀ x ∈ [nFun, nInt, nInt], x.Fits := fits_cons fits_fun (fits_cons fits_int (fits_cons fits_int fits_nil))
theorem fits_l2 : ∀ x ∈ [nRef, nInt], x.Fits := fits_cons fits_ref (fits_cons fits_int fits_nil)
abbrev oS4 : Obj := .cells #[.int .u8 0, .int .u8 1, .int .u8 1, .int .u8 0] 41
abbrev oS1 : Obj := .cells #[.int .u8 0] 41
abbrev oS2 : Obj := .cells #[.int .u8 0, .int .u8 2] 41

end Go.Proofs.YthbonabadelfdaaGreat

/- What Of tells, its rows' lengths named. Condition: nodes can be read. -/
namespace Go.Proofs.YthbonabadelfdaaGreat
open Go.RowKit

/-- Two rows of spots. -/
structure Two2 (w w' : World) (A1 : Option Addr) (n1 c1 : Nat) (ls : List Sp) (A2 : Option Addr) (n2 c2 : Nat) (es : List Sp) : Prop where
  o1 : w'.ownsRow w.heap.size 46 5 (.slice A1 n1 c1) n1 (ls.flatMap spc)
  o2 : w'.ownsRow w.heap.size 46 5 (.slice A2 n2 c2) n2 (es.flatMap spc)
  ap : ∀ q, (Value.slice A1 n1 c1).ownBlock = some q → (Value.slice A2 n2 c2).ownBlock ≠ some q
  bel : Below w.heap.size w w'

theorem Two2.r1 {w w' : World} {A1 A2 : Option Addr} {n1 c1 n2 c2 : Nat} {ls es : List Sp} (h : Two2 w w' A1 n1 c1 ls A2 n2 c2 es) : Rs spc 5 w' w'.heap.size A1 n1 c1 ls := Rs.of_own spc_len (by decide) h.o1
theorem Two2.r2 {w w' : World} {A1 A2 : Option Addr} {n1 c1 n2 c2 : Nat} {ls es : List Sp} (h : Two2 w w' A1 n1 c1 ls A2 n2 c2 es) : Rs spc 5 w' w'.heap.size A2 n2 c2 es := Rs.of_own spc_len (by decide) h.o2

theorem of_len (A : Option Addr) (m c : Nat) (l : List Nd) (ls es : List Sp) (kl ke : Nat) (w : World) (hr : Ns w w.heap.size A m c l) (hf : ∀ x ∈ l, x.Fits) (e1 : labB l = ls) (e2 : effB l = es) (e3 : ls.length = kl) (e4 : es.length = ke) :
    Calls Tryz.prog 32 #[.slice A m c] w fun e w' => ∃ A1 c1 A2 c2, e = .returned (.tuple #[.slice A1 kl c1, .slice A2 ke c2]) ∧ Two2 w w' A1 kl c1 ls A2 ke c2 es := by
  refine (of_lit A m c l ls es w hr hf e1 e2).mono ?_
  rintro e w1 ⟨Av, nv, cv, Au, nu, cu, rfl, ov, ou, ap, hb⟩
  have e1 := rs_own_len spc_len (by decide) ov
  have e2 := rs_own_len spc_len (by decide) ou
  rw [e3] at e1
  rw [e4] at e2
  subst e1
  subst e2
  exact ⟨Av, cv, Au, cu, rfl, ov, ou, ap, hb⟩
end Go.Proofs.YthbonabadelfdaaGreat
