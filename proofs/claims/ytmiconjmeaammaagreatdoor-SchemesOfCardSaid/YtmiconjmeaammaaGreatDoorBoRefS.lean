/- BoApp; BoRefT; BoRefS: merged. -/
import Derived.Test.YtmiconjmeaammaaGreatDoorBoChk
import Derived.Test.YtmiconjmeaammaaGreatDoorBoGvn
import Derived.Test.YtmiconjmeaammaaGreatDoorLaRefCheck
import Derived.Test.YtmiconjmeaammaaGreatDoorEfRef

/- A region in which two hard operations may come up at one place; appends of bounds and of numbers to rows of one's own. Condition: rows can be read. -/
namespace Go.Proofs.YtmiconjmeaammaaGreatDoor.Bo
open Go

section
variable (P : Program) (ops : Array Oper)

/-- Operations that yield the same in every world that meets S, in the given order; then E. -/
def wpSoft (S : World → Prop) (E : Act → World → Prop) : List (Nat × Oper) → Act → World → Prop
  | [], a, w => E a w
  | (_, o) :: r, a, w => Region.wanted o (yielded ops a.tmps) = true ∧ ∃ v, (∀ w', S w' → (execOp a.eval o).run P w' = .ok (.value v) w') ∧ wpSoft S E r (a.put o.dst v) w

def okSoft (stop : Nat) : List (Nat × Oper) → Array Bool → Bool
  | [], _ => true
  | x :: r, listed => (Region.ready .any ops listed).contains x.1 && Region.free .any ops listed x.1 && waits ops stop x.1 && x.1 != stop && okSoft stop r (listed.setIfInBounds x.1 true)

/-- What is listed behind them. -/
def marks : List (Nat × Oper) → Array Bool → Array Bool
  | [], listed => listed
  | x :: r, listed => marks r (listed.setIfInBounds x.1 true)
end

section
variable {P : Program} {ops : Array Oper} {Q : Exit → Act → World → Prop} {S : World → Prop} {stop : Nat} {hards : List Nat}

theorem soft_any (hsel : Region.noSelect ops = true) (hQ : ∀ c a d v w, Q (.panic c) (Act.put a (some d) v) w → Q (.panic c) a w) {E : Act → World → Prop} {rest : Nat} :
    ∀ (order : List (Nat × Oper)) (listed : Array Bool) (a : Act) (w : World), (∀ x ∈ order, ops[x.1]? = some x.2) → okSoft ops stop order listed = true → S w →
      (∀ a w, S w → E a w → wpAnyG P ops Q S stop rest (marks order listed) a w) → wpSoft P ops S E order a w → wpAnyG P ops Q S stop (order.length + rest) listed a w
  | [], listed, a, w, _, _, hS, hE, h => by
    rw [List.length_nil, Nat.zero_add]
    exact hE a w hS h
  | (i, o) :: r, listed, a, w, hm, hok, hS, hE, ⟨hw, v, hy, h⟩ => by
    simp only [okSoft, Bool.and_eq_true, bne_iff_ne, ne_eq] at hok
    obtain ⟨⟨⟨⟨hc, hf⟩, hwt⟩, hns⟩, hrest⟩ := hok
    have ho : ops[i]? = some o := hm (i, o) List.mem_cons_self
    have ih := soft_any hsel hQ r (listed.setIfInBounds i true) (a.put o.dst v) w (fun x hx => hm x (List.mem_cons_of_mem _ hx)) hrest hS hE h
    rw [List.length_cons, show r.length + 1 + rest = (r.length + rest) + 1 by omega]
    exact anyG_first ho (Region.noSelect_spec hsel) (fun c a w => put_any_dst hQ c a _ _ w) hns (waits_spec hwt) _ listed a w (Region.free_spec ho hf) (by simpa using hc) (.inl ⟨hw, hy⟩) hS ih

/-- Two may come up: both ways. -/
theorem fork_any {i j : Nat} {oi oj : Oper} {listed : Array Bool} {a : Act} {w : World} {fuel : Nat} (hr : Region.ready .any ops listed = [i, j]) (hi : ops[i]? = some oi) (hj : ops[j]? = some oj)
    (hwi : Region.wanted oi (yielded ops a.tmps) = true) (hwj : Region.wanted oj (yielded ops a.tmps) = true)
    (h1 : Oper.wp P oi a w (fun a' w' => (i ≠ stop → S w') ∧ wpAnyG P ops Q S stop fuel (listed.setIfInBounds i true) a' w') Q)
    (h2 : Oper.wp P oj a w (fun a' w' => (j ≠ stop → S w') ∧ wpAnyG P ops Q S stop fuel (listed.setIfInBounds j true) a' w') Q) : wpAnyG P ops Q S stop (fuel + 1) listed a w := by
  refine ⟨fun h0 => (by rw [hr] at h0; cases h0), fun k hk => ?_⟩
  rw [hr] at hk
  have hk' : k = i ∨ k = j := by simpa using hk
  unfold wpOp
  rcases hk' with rfl | rfl
  · simp only [hi, hwi, if_true]
    exact .inl h1
  · simp only [hj, hwj, if_true]
    exact .inl h2

theorem wp_region_fork {id : Nat} {l : List Oper} {a : Act} {w : World} (first : List Nat) (i j : Nat) (oi oj : Oper) (ri rj : List Nat) (hards : List Nat) (stop : Nat) (S : World → Prop) (hm : P.follows .mixedOrders = true) (hsel : Region.noSelect l.toArray = true)
    (hi : l[i]? = some oi) (hj : l[j]? = some oj) (hgi : oi.guard = none) (hgj : oj.guard = none)
    (hok : okSoft l.toArray stop (steps l first) (Array.replicate l.length false) = true) (hr : (Region.ready .any l.toArray (marks (steps l first) (Array.replicate l.length false)) == [i, j]) = true)
    (hoki : okOrd l.toArray stop hards (steps l ri) ((marks (steps l first) (Array.replicate l.length false)).setIfInBounds i true) = true)
    (hokj : okOrd l.toArray stop hards (steps l rj) ((marks (steps l first) (Array.replicate l.length false)).setIfInBounds j true) = true)
    (hleni : ((steps l first).length + (steps l ri).length + 1 == l.length) = true) (hlenj : ((steps l rj).length == (steps l ri).length) = true)
    (hQ : ∀ c a d v w, Q (.panic c) (Act.put a (some d) v) w → Q (.panic c) a w) (hS : S w.drew)
    (h : wpSoft P l.toArray S (fun a w => Oper.wp P oi a w (fun a' w' => S w' ∧ wpOrd P l.toArray Q S stop hards (steps l ri) a' w') Q ∧ Oper.wp P oj a w (fun a' w' => S w' ∧ wpOrd P l.toArray Q S stop hards (steps l rj) a' w') Q) (steps l first) a w.drew) :
    (Code.region id l.toArray true).wp P Q a w := by
  have hmem : ∀ (o : List Nat) (x : Nat × Oper), x ∈ steps l o → l.toArray[x.1]? = some x.2 := fun o x hx => by rw [List.getElem?_toArray]; exact steps_mem l o x hx
  have hlen : (steps l first).length + ((steps l ri).length + 1) = l.toArray.size := by rw [List.size_toArray]; simp only [beq_iff_eq] at hleni; omega
  simp only [beq_iff_eq] at hr hlenj
  suffices key : wpAnyG P l.toArray Q S stop ((steps l first).length + ((steps l ri).length + 1)) (Array.replicate l.length false) a w.drew by
    rw [hlen] at key
    exact wp_region_any hm (anyG_any (S := S) (stop := stop) _ _ _ _ key)
  refine soft_any hsel hQ (steps l first) _ a w.drew (hmem first) hok hS (fun a w _ hE => ?_) h
  refine fork_any hr (by rw [List.getElem?_toArray]; exact hi) (by rw [List.getElem?_toArray]; exact hj) (by simp [Region.wanted, hgi]) (by simp [Region.wanted, hgj]) ?_ ?_
  · exact Oper.wp_mono (fun a' w' ⟨s1, s2⟩ => ⟨fun _ => s1, ord_any hsel hQ (steps l ri) _ _ a' w' (hmem ri) (Nat.le_refl _) hoki (fun _ => s1) s2⟩) hE.1
  · exact Oper.wp_mono (fun a' w' ⟨s1, s2⟩ => ⟨fun _ => s1, ord_any hsel hQ (steps l rj) _ _ a' w' (hmem rj) (by omega) hokj (fun _ => s1) s2⟩) hE.2

theorem soft_yes {E : Act → World → Prop} {i : Nat} {r : List (Nat × Oper)} {a : Act} {w : World} {o : Oper} {v : Value} (hw : Region.wanted o (yielded ops a.tmps) = true)
    (hy : ∀ w', S w' → (execOp a.eval o).run P w' = .ok (.value v) w') (h : wpSoft P ops S E r (a.put o.dst v) w) : wpSoft P ops S E ((i, o) :: r) a w :=
  ⟨hw, v, hy, h⟩

theorem soft_end {E : Act → World → Prop} {a : Act} {w : World} (h : E a w) : wpSoft P ops S E [] a w := h
end

open Go.RowKit
theorem bdc_one (l : List Bd) : ∀ u ∈ l.flatMap bdc, u.oneCell' = true := by
  intro u hu
  obtain ⟨x, _, hx⟩ := List.mem_flatMap.1 hu
  simp only [bdc, List.mem_cons, List.not_mem_nil, or_false] at hx
  rcases hx with rfl | rfl | rfl | rfl <;> rfl
theorem bnd_inf : (Tryz.prog.info? 91).map (fun i => (i.zero, i.size, i.bytes)) = some (some (.agg #[.bool false, .int .u64 0, .bool false, .int .u64 0]), 4, 32) := by kernel_rfl
theorem nm_inf : (Tryz.prog.info? 80).map (fun i => (i.zero, i.size, i.bytes)) = some (some (.int .u64 0), 1, 8) := by kernel_rfl
theorem info_of {E : TypeId} {z : Value} {sz bytes : Nat} (h : (Tryz.prog.info? E).map (fun i => (i.zero, i.size, i.bytes)) = some (some z, sz, bytes)) : ∃ i, Tryz.prog.info? E = some i ∧ i.zero = some z ∧ i.size = sz ∧ i.bytes = bytes := by
  cases hi : Tryz.prog.info? E with
  | none => rw [hi] at h; cases h
  | some i =>
    rw [hi] at h
    simp only [Option.map_some, Option.some.injEq, Prod.mk.injEq] at h
    exact ⟨i, rfl, h.1, h.2.1, h.2.2⟩

/-- append(own, xs...), as one operation. -/
theorem op_append {α : Type} {enc : α → List Value} {sz bytes : Nat} {t E : TypeId} {z : Value} (he : ∀ x, (enc x).length = sz) (hsz : 0 < sz) (h1 : ∀ l : List α, ∀ u ∈ l.flatMap enc, u.oneCell' = true) (ht : Tryz.prog.underlying t = some (.slice E)) (hinf : (Tryz.prog.info? E).map (fun i => (i.zero, i.size, i.bytes)) = some (some z, sz, bytes)) (hzs : z.cells.size = sz) (hby : bytes ≤ 1000)
    {w : World} {o : Oper} {a : Act} {K : Act → World → Prop} {Q : Exit → Act → World → Prop} (s x : Operand)
    (ho : o.op = .call { callee := .builtin .append, args := #[s, x], argTypes := #[t, t] })
    (base : Nat) (v : Value) (n : Nat) (vs : List α) (hs : a.eval s = v) (hown : w.ownsRow base E sz v n (vs.flatMap enc)) (B : Nat) (A : Option Addr) (m c : Nat) (ms : List α) (hx : a.eval x = .slice A m c) (hr : Rs enc sz w B A m c ms)
    (hsm : n + m ≤ 100000) (hbase : base ≤ w.heap.size)
    (h : ∀ A' k c' w', Hid (k = n + m) → Hid (Appended w w' base E sz v (.slice A' k c') k ((vs ++ ms).flatMap enc)) → K (a.put o.dst (.slice A' k c')) w') : o.wp Tryz.prog a w K Q := by
  obtain ⟨i0, hi0, hz0, hz1, hz2⟩ := info_of hinf
  have key : ∃ v' w', (Builtin.append_ #[t, t] o.type #[v, .slice A m c]).run Tryz.prog w = .ok v' w' ∧ Appended w w' base E sz v v' (n + m) ((vs ++ ms).flatMap enc) := by
    rcases A with _ | ad
    · have hc0 := hr.none0 rfl
      have hm0 : m = 0 := by have := hr.cap; omega
      subst hc0
      subst hm0
      have hms : ms = [] := List.eq_nil_of_length_eq_zero hr.len
      subst hms
      exact ⟨v, w, run_append_owned_none (P := Tryz.prog) w base t o.type E i0 sz ht hi0 v n _ hown, ⟨by simpa using hown, ⟨rfl, rfl, rfl, Nat.le_refl _, fun _ _ _ => rfl⟩, .inl rfl⟩⟩
    · have hcells : ∀ j y, (ms.flatMap enc)[j]? = some y → w.cell? (ad.add j) = some y := by
        rcases Nat.eq_zero_or_pos m with h0 | h0
        · have hms : ms = [] := List.eq_nil_of_length_eq_zero (by rw [hr.len, h0])
          subst hms
          intro j u hu
          simp at hu
        · obtain ⟨b, q, hA, _, hc⟩ := hr.spot h0
          injection hA with hA
          subst hA
          exact Rs.cells he hsz hc
      have hbb : (n + m) * bytes ≤ 140737488355328 := Nat.le_trans (Nat.mul_le_mul hsm hby) (by omega)
      have := run_append_both (P := Tryz.prog) w base t t o.type E i0 _ sz bytes ht hi0 hz0 hz1 hz2 hzs hsz v n _ hown ad m c (ms.flatMap enc) (by rw [flat_len he, hr.len]) hcells (h1 ms) (by unfold maxLen; omega) hbb hbase rfl
      rw [← List.flatMap_append] at this
      exact this
  obtain ⟨v', w', hrun, h2⟩ := key
  obtain ⟨A', c', rfl⟩ := rs_own_form h2.own
  unfold Oper.wp execOp
  simp only [ho, resolve, invoke, builtin, Sem.run_bind, Sem.run_pure, Result.andThen_ok, List.map_toArray, List.map_cons, List.map_nil, hs, hx, hrun]
  exact h A' (n + m) c' w' rfl h2

/-- The same for bounds. -/
theorem bd_append {w : World} {o : Oper} {a : Act} {K : Act → World → Prop} {Q : Exit → Act → World → Prop} (s x : Operand)
    (ho : o.op = .call { callee := .builtin .append, args := #[s, x], argTypes := #[23, 23] })
    (base : Nat) (v : Value) (n : Nat) (vs : List Bd) (hs : a.eval s = v) (hown : w.ownsRow base 91 4 v n (vs.flatMap bdc)) (B : Nat) (A : Option Addr) (m c : Nat) (ms : List Bd) (hx : a.eval x = .slice A m c) (hr : Rs bdc 4 w B A m c ms)
    (hsm : n + m ≤ 100000) (hbase : base ≤ w.heap.size)
    (h : ∀ A' k c' w', Hid (k = n + m) → Hid (Appended w w' base 91 4 v (.slice A' k c') k ((vs ++ ms).flatMap bdc)) → K (a.put o.dst (.slice A' k c')) w') : o.wp Tryz.prog a w K Q :=
  op_append bdc_len (by decide) bdc_one Tryz.underlying23 bnd_inf rfl (by decide) s x ho base v n vs hs hown B A m c ms hx hr hsm hbase h

/-- Two ways meet: what follows is shown once. -/
theorem meet3 {F G : Option Addr → Nat → World → Prop} {Z : Prop} (h1 : (∀ A c w, F A c w → G A c w) → Z) (h : ∀ A c w, F A c w → G A c w) : Z := h1 h
end Go.Proofs.YtmiconjmeaammaaGreatDoor.Bo

/- The document's Term and Check, of any sort of the document's. No condition but sizes. -/
namespace Go.Proofs.YtmiconjmeaammaaGreatDoor.Bo
open Go.RowKit

/-- A sort of the document's, as a value. -/
def rsV (t : Nat) (A : Option Addr) (n c : Nat) (m : Nat) : Value := .agg #[.int .i64 (t : Int), .slice A n c, .int .i64 (m : Int)]
/-- What its Has tells, in every world behind w. -/
def RHas (w : World) (p : Value) (S : Sr) : Prop := ∀ W, Below w.heap.size w W → ∀ x : Nat, x < 18446744073709551616 → Calls Tryz.prog 107 #[p, .int .u64 (x : Int)] W fun e w' => e = .returned (.bool (S.has x)) ∧ Below W.heap.size W w'
theorem RHas.keep {w W : World} {p : Value} {S : Sr} (h : RHas w p S) (hb : Below w.heap.size w W) : RHas W p S := fun V hV => h V (hb.trans (hV.mono hb.size))

set_option maxRecDepth 100000 in
set_option maxHeartbeats 1000000 in
theorem term_ref (t : Nat) (A : Option Addr) (m c e : Nat) (S : Sr) (b : Bool) (n k : Nat) (w : World) (hs : RHas w (rsV t A m c e) S) (hn : n < 18446744073709551616) (hk : k ≤ 64) :
    Calls Tryz.prog 40 #[rsV t A m c e, .int .i64 (k : Int), tmv b n] w fun e w' => e = .returned (.bool (mayT S k b n)) ∧ Below w.heap.size w w' := by
  have hw := wrap_small (k := k) (by omega)
  have hal : Below w.heap.size w ((w.alloc (.cells #[.int .i64 (t : Int), .slice A m c, .int .i64 (e : Int)] 44)).alloc (.cells #[.bool b, .int .u64 (n : Int)] 89)) := ((Below.refl _ _).alloc (Nat.le_refl _) _).alloc (by simp) _
  unfold tmv mayT
  have HS := Lib.hid hs
  unfold rsV at HS ⊢
  cases b with
  | true =>
    clear hs HS
    simp only [cond_true]
    by_cases h0 : k = 0
    · subst h0
      have e : decide (n < 0) = false := by simp
      rw [e]
      go_enter Tryz.func40, Tryz.ntmps40
      go_wp2
      go_ret
      exact ⟨rfl, hal⟩
    · have e : decide (n < k) = decide ((n : Int) < (k : Int)) := by congr 1; simp
      rw [e]
      have h1 : (0 : Int) < (k : Int) := by omega
      generalize hd : decide ((n : Int) < (k : Int)) = d at *
      clear h0
      go_enter Tryz.func40, Tryz.ntmps40
      go_wp2
      go_ret
      exact ⟨rfl, hal⟩
  | false =>
    simp only [cond_false]
    have HN := Lib.hid hn
    clear hw hk hn hs
    have H := Lib.hid (HS.out _ hal n HN.out)
    generalize S.has n = r at *
    have HA := Lib.hid hal
    clear hal HS
    go_enter Tryz.func40, Tryz.ntmps40
    go_wp2_with fail
    refine H.out.mono ?_
    rintro e w1 ⟨rfl, hb⟩
    go_wp2_with fail
    go_ret
    exact ⟨rfl, HA.out.trans (hb.mono HA.out.size)⟩

set_option maxRecDepth 100000 in
set_option maxHeartbeats 2000000 in
theorem check_ref (t : Nat) (At : Option Addr) (mt ct et : Nat) (k : Int) (A : Option Addr) (n c : Nat) (l : List Bd) (S : Sr) (w : World) (x : Int) (hs : RHas w (rsV t At mt ct et) S) (h : Rs bdc 4 w w.heap.size A n c l) (hf : ∀ b ∈ l, b.Fit) (hx : chkS S k l = x) :
    Calls Tryz.prog 39 #[rsV t At mt ct et, .int .i64 k, .slice A n c] w fun e w' => e = .returned (.int .i64 x) ∧ Below w.heap.size w w' := by
  have hlen := h.len
  have hal : Below w.heap.size w (w.alloc (.cells #[.int .i64 (t : Int), .slice At mt ct, .int .i64 (et : Int)] 44)) := (Below.refl _ _).alloc (Nat.le_refl _) _
  unfold rsV at hs ⊢
  by_cases h0 : k < 0
  · obtain rfl : (3 : Int) = x := by rw [← hx, chkS, if_pos (.inl h0)]
    clear hx hs h hf
    go_enter Tryz.func39, Tryz.ntmps39
    go_wp2
    go_ret
    exact ⟨rfl, hal⟩
  by_cases h1 : 64 < k
  · obtain rfl : (3 : Int) = x := by rw [← hx, chkS, if_pos (.inr (.inl h1))]
    clear hx hs h hf
    go_enter Tryz.func39, Tryz.ntmps39
    go_wp2
    go_ret
    exact ⟨rfl, hal⟩
  by_cases h2 : 256 < n
  · obtain rfl : (3 : Int) = x := by rw [← hx, chkS, if_pos (.inr (.inr (by rw [hlen]; exact h2)))]
    have h2' : (256 : Int) < (n : Int) := by omega
    clear hx hs h hf h2
    go_enter Tryz.func39, Tryz.ntmps39
    go_wp2
    go_ret
    exact ⟨rfl, hal⟩
  obtain ⟨q, rfl⟩ : ∃ q : Nat, k = (q : Int) := ⟨k.toNat, by omega⟩
  have hq : q ≤ 64 := by omega
  have h0' : ¬ (q : Int) < 0 := by omega
  have h2' : ¬ (256 : Int) < (n : Int) := by omega
  have hx' : (if l.all (mayB S q) then (0 : Int) else 1) = x := by rw [← hx, chkS, if_neg (show ¬ ((q : Int) < 0 ∨ 64 < (q : Int) ∨ 256 < l.length) by omega), Int.toNat_natCast]
  have HX := Lib.hid hx'
  have HF := Lib.hid hf
  have HQ := Lib.hid hq
  have HL := Lib.hid hlen
  have htop := h.top
  have hcap := h.cap
  unfold maxLen at htop
  have HR := Lib.hid (h.at_size (Nat.le_refl _) hal)
  have HS := Lib.hid (hs.keep hal)
  have hbx := heap_alloc_new w (.cells #[.int .i64 (t : Int), .slice At mt ct, .int .i64 (et : Int)] 44)
  have hz0 := (cell_blk (i := 0) hbx).trans rfl
  have hz1 := (cell_blk (i := 1) hbx).trans rfl
  have hz2 := (cell_blk (i := 2) hbx).trans rfl
  have HAL := Lib.hid hal
  clear hx hx' hf hq hlen h hs h0 h2 hbx hal
  go_enter Tryz.func39, Tryz.ntmps39
  go_wp2_with fail
  clear h0' h1 h2'
  obtain ⟨w0, hw0⟩ : ∃ w0, w0 = w.alloc (.cells #[.int .i64 (t : Int), .slice At mt ct, .int .i64 (et : Int)] 44) := ⟨_, rfl⟩
  rw [← hw0] at hz0 hz1 hz2 HAL HS HR ⊢
  clear hw0
  go_loopw [7] (fun v7 wr => AllRel (mayB S q) l w0 v7 wr) (fun v7 _ => n - (intOf v7).toNat)
  case atStart => exact ⟨0, rfl, by omega, rfl, Below.refl _ _⟩
  case round =>
    obtain ⟨i, rfl, hi, hall, hb⟩ := hrel
    by_cases hlt : i < n
    · have hi' : i < l.length := by rw [HL.out]; exact hlt
      have hr := (HR.out.at_size (Nat.le_refl _) hb)
      replace hz0 := cell_old hz0 hb
      replace hz1 := cell_old hz1 hb
      replace hz2 := cell_old hz2 hb
      obtain ⟨b, o, rfl, hbb, e0, e1, e2, e3⟩ := bd_at hr hi'
      have hu := HF.out _ (List.getElem_mem hi')
      obtain ⟨r1, hr1⟩ : ∃ r, mayT S q l[i].av l[i].an = r := ⟨_, rfl⟩
      obtain ⟨r2, hr2⟩ : ∃ r, mayT S q l[i].bv l[i].bn = r := ⟨_, rfl⟩
      have HST : Hid ((l.take (i + 1)).all (mayB S q) = (r1 && r2)) := Lib.hid (by rw [all_step hi' hall, mayB, hr1, hr2])
      have HNO : Hid ((r1 && r2) = false → l.all (mayB S q) = false) := Lib.hid fun e => all_off hi' (by rw [mayB, hr1, hr2]; exact e)
      generalize l[i] = y at *
      obtain ⟨av, an, bv, bn⟩ := y
      simp only at e0 e1 e2 e3 hu hr1 hr2
      have HM1 : Hid (∀ W, Below w0.heap.size w0 W → Calls Tryz.prog 40 #[rsV t At mt ct et, .int .i64 (q : Int), tmv av an] W fun e w' => e = .returned (.bool r1) ∧ Below W.heap.size W w') :=
        Lib.hid fun W hW => hr1 ▸ term_ref t At mt ct et S av an q W (HS.out.keep hW) hu.1 HQ.out
      have HM2 : Hid (∀ W, Below w0.heap.size w0 W → Calls Tryz.prog 40 #[rsV t At mt ct et, .int .i64 (q : Int), tmv bv bn] W fun e w' => e = .returned (.bool r2) ∧ Below W.heap.size W w') :=
        Lib.hid fun W hW => hr2 ▸ term_ref t At mt ct et S bv bn q W (HS.out.keep hW) hu.2 HQ.out
      have HLT := Lib.hid hlt
      clear hall hr hu hr1 hr2 hbb hi'
      unfold tmv rsV at HM1 HM2
      go_wp2_with fail
      refine wp_region_ord [0, 1, 2, 3, 4, 5, 6, 7, 8, 9, 10, 11, 12, 13, 14, 15, 16, 17, 18, 19] [7, 17] 20 (fun w' => w'.cell? ⟨w.heap.size, 0, none⟩ = some (.int .i64 (t : Int)) ∧ w'.cell? ⟨w.heap.size, 1, none⟩ = some (.slice At mt ct) ∧ w'.cell? ⟨w.heap.size, 2, none⟩ = some (.int .i64 (et : Int)) ∧ w'.cell? ⟨b, o + i * 4, none⟩ = some (.bool av) ∧ w'.cell? ⟨b, o + i * 4 + 1, none⟩ = some (.int .u64 (an : Int)) ∧ w'.cell? ⟨b, o + i * 4 + 2, none⟩ = some (.bool bv) ∧ w'.cell? ⟨b, o + i * 4 + 3, none⟩ = some (.int .u64 (bn : Int))) (by kernel_rfl) (by kernel_rfl) (by kernel_rfl) (by kernel_rfl) (fun _ _ _ _ _ h => h) ⟨hz0, hz1, hz2, e0, e1, e2, e3⟩ ?_
      simp only [steps, List.getElem?_cons_zero, List.getElem?_cons_succ]
      repeat (first
        | (refine ord_no rfl ?_; simp only [Act.put, List.setIfInBounds_toArray, List.set_cons_zero, List.set_cons_succ])
        | (refine ord_yes (v := ?_) rfl rfl ?_ ?_; rotate_left; (focus (rintro w' ⟨hS0, hS1, hS2, hS3, hS4, hS5, hS6⟩; go_simp; try with_reducible rfl)); simp only [Act.put, List.setIfInBounds_toArray, List.set_cons_zero, List.set_cons_succ]))
      have hv : Below wr.heap.size wr wr.drew := (Below.refl _ _).drew
      replace hz0 := cell_old hz0 hv
      replace hz1 := cell_old hz1 hv
      replace hz2 := cell_old hz2 hv
      replace e0 := cell_old e0 hv
      replace e1 := cell_old e1 hv
      replace e2 := cell_old e2 hv
      replace e3 := cell_old e3 hv
      replace hb := hb.trans (hv.mono hb.size)
      clear hv
      generalize wr.drew = w5 at *
      refine ord_hard rfl rfl (fun K hK => ?_)
      go_simp
      refine (HM1.out _ hb).mono ?_
      rintro e w6 ⟨rfl, hv⟩
      replace hz0 := cell_old hz0 hv
      replace hz1 := cell_old hz1 hv
      replace hz2 := cell_old hz2 hv
      replace e0 := cell_old e0 hv
      replace e1 := cell_old e1 hv
      replace e2 := cell_old e2 hv
      replace e3 := cell_old e3 hv
      replace hb := hb.trans (hv.mono hb.size)
      clear hv
      refine hK.out _ _ (fun _ => ⟨hz0, hz1, hz2, e0, e1, e2, e3⟩) ?_
      clear hK K
      try simp only [Act.put, List.setIfInBounds_toArray, List.set_cons_zero, List.set_cons_succ]
      cases r1 with
      | false =>
        have HN := Lib.hid (HNO.out rfl)
        clear HNO HST
        repeat (first
          | (refine ord_no rfl ?_; simp only [Act.put, List.setIfInBounds_toArray, List.set_cons_zero, List.set_cons_succ])
          | (refine ord_yes (v := ?_) rfl rfl ?_ ?_; rotate_left; (focus (rintro w' ⟨hS0, hS1, hS2, hS3, hS4, hS5, hS6⟩; go_simp; try with_reducible rfl)); simp only [Act.put, List.setIfInBounds_toArray, List.set_cons_zero, List.set_cons_succ]))
        refine ord_end ?_
        go_wp2_with fail
        go_ret
        refine ⟨?_, HAL.out.trans (hb.mono HAL.out.size)⟩
        rw [← HX.out, HN.out]
        rfl
      | true =>
        repeat (first
          | (refine ord_no rfl ?_; simp only [Act.put, List.setIfInBounds_toArray, List.set_cons_zero, List.set_cons_succ])
          | (refine ord_yes (v := ?_) rfl rfl ?_ ?_; rotate_left; (focus (rintro w' ⟨hS0, hS1, hS2, hS3, hS4, hS5, hS6⟩; go_simp; try with_reducible rfl)); simp only [Act.put, List.setIfInBounds_toArray, List.set_cons_zero, List.set_cons_succ]))
        refine ord_hard rfl rfl (fun K hK => ?_)
        go_simp
        refine (HM2.out _ hb).mono ?_
        rintro e w7 ⟨rfl, hv⟩
        replace hz0 := cell_old hz0 hv
        replace hz1 := cell_old hz1 hv
        replace hz2 := cell_old hz2 hv
        replace e0 := cell_old e0 hv
        replace e1 := cell_old e1 hv
        replace e2 := cell_old e2 hv
        replace e3 := cell_old e3 hv
        replace hb := hb.trans (hv.mono hb.size)
        clear hv
        refine hK.out _ _ (fun _ => ⟨hz0, hz1, hz2, e0, e1, e2, e3⟩) ?_
        clear hK K
        try simp only [Act.put, List.setIfInBounds_toArray, List.set_cons_zero, List.set_cons_succ]
        repeat (first
          | (refine ord_no rfl ?_; simp only [Act.put, List.setIfInBounds_toArray, List.set_cons_zero, List.set_cons_succ])
          | (refine ord_yes (v := ?_) rfl rfl ?_ ?_; rotate_left; (focus (rintro w' ⟨hS0, hS1, hS2, hS3, hS4, hS5, hS6⟩; go_simp; try with_reducible rfl)); simp only [Act.put, List.setIfInBounds_toArray, List.set_cons_zero, List.set_cons_succ]))
        refine ord_end ?_
        cases r2 with
        | false =>
          have HN := Lib.hid (HNO.out rfl)
          clear HNO HST
          go_wp2_with fail
          go_ret
          refine ⟨?_, HAL.out.trans (hb.mono HAL.out.size)⟩
          rw [← HX.out, HN.out]
          rfl
        | true =>
          clear HNO
          go_wp2_with fail
          go_roundw
          case rel => exact ⟨i + 1, by go_num, by have := HLT.out; have := HL.out; omega, HST.out, hb⟩
          case measure =>
            have := HLT.out
            simp [intOf]
            omega
    · obtain rfl : i = n := by have := HL.out; omega
      have HE : Hid ((0 : Int) = x) := Lib.hid (by
        rw [List.take_of_length_le (by rw [HL.out]; omega)] at hall
        rw [← HX.out, hall]
        rfl)
      clear hall
      go_wp2
      go_ret
      exact ⟨by rw [← HE.out]; rfl, HAL.out.trans (hb.mono HAL.out.size)⟩
end Go.Proofs.YtmiconjmeaammaaGreatDoor.Bo

/- The document's sorts: what asked makes, and what their methods tell. No condition but sizes. -/
namespace Go.Proofs.YtmiconjmeaammaaGreatDoor.Bo
open Go.RowKit

/-- A sort of the document's: nothing, labels, or sets of effects. -/
def RSrt (B : Nat) (w : World) (t : Nat) (A : Option Addr) (n c m : Nat) (S : Sr) : Prop :=
  (t = 0 ∧ A = none ∧ n = 0 ∧ c = 0 ∧ m = 0 ∧ S = dead) ∨ (t = 1 ∧ m = 0 ∧ ∃ l, Rd La.nm w B A n c l ∧ La.Fit l ∧ La.checkN l = 0 ∧ S = laS l) ∨ (t = 2 ∧ A = none ∧ n = 0 ∧ c = 0 ∧ m ≤ 64 ∧ S = efS true (Ef.topN m))
theorem RSrt.below {B : Nat} {w W : World} {t : Nat} {A : Option Addr} {n c m : Nat} {S : Sr} (h : RSrt B w t A n c m S) (hb : Below B w W) : RSrt B W t A n c m S := by
  rcases h with h | ⟨h1, h2, l, h3, h4⟩ | h
  · exact .inl h
  · exact .inr (.inl ⟨h1, h2, l, h3.below hb, h4⟩)
  · exact .inr (.inr h)
theorem RSrt.mono {B B' : Nat} {w : World} {t : Nat} {A : Option Addr} {n c m : Nat} {S : Sr} (h : RSrt B w t A n c m S) (hb : B ≤ B') : RSrt B' w t A n c m S := by
  rcases h with h | ⟨h1, h2, l, h3, h4⟩ | h
  · exact .inl h
  · exact .inr (.inl ⟨h1, h2, l, h3.mono hb, h4⟩)
  · exact .inr (.inr h)
theorem RSrt.keep {w W : World} {t : Nat} {A : Option Addr} {n c m : Nat} {S : Sr} (h : RSrt w.heap.size w t A n c m S) (hb : Below w.heap.size w W) : RSrt W.heap.size W t A n c m S := (h.below hb).mono hb.size

theorem st3 {w : World} {g : Nat} {a b c : Value} (h : w.heap[g]? = some (.cells #[a, b, c] 44 (0, 0))) (x y z : Value) :
    (((w.setCell ⟨g, 0, none⟩ x).setCell ⟨g, 1, none⟩ y).setCell ⟨g, 2, none⟩ z).heap[g]? = some (.cells #[x, y, z] 44 (0, 0)) := by
  have h1 := set_blk (i := 0) h x
  have h2 := set_blk (i := 1) h1 y
  have h3 := set_blk (i := 2) h2 z
  simpa using h3
theorem st3_below {B : Nat} {w w1 : World} (h : Below B w w1) (g : Nat) (hg : B ≤ g) (x y z : Value) : Below B w (((w1.setCell ⟨g, 0, none⟩ x).setCell ⟨g, 1, none⟩ y).setCell ⟨g, 2, none⟩ z) :=
  ((h.setCell (p := ⟨g, 0, none⟩) hg x).setCell (p := ⟨g, 1, none⟩) hg y).setCell (p := ⟨g, 2, none⟩) hg z

set_option maxRecDepth 100000 in
set_option maxHeartbeats 2000000 in
theorem rhas_any (t : Nat) (A : Option Addr) (n c m : Nat) (S : Sr) (x : Nat) (w : World) (h : RSrt w.heap.size w t A n c m S) (hx : x < 18446744073709551616) :
    Calls Tryz.prog 107 #[rsV t A n c m, .int .u64 (x : Int)] w fun e w' => e = .returned (.bool (S.has x)) ∧ Below w.heap.size w w' := by
  have hal : Below w.heap.size w (w.alloc (.cells #[.int .i64 (t : Int), .slice A n c, .int .i64 (m : Int)] 44)) := (Below.refl _ _).alloc (Nat.le_refl _) _
  unfold rsV
  rcases h with ⟨rfl, rfl, rfl, rfl, rfl, rfl⟩ | ⟨rfl, rfl, l, h1, h2, h3, rfl⟩ | ⟨rfl, rfl, rfl, rfl, h1, rfl⟩
  · go_enter Tryz.func107, Tryz.ntmps107
    go_wp2
    go_ret
    exact ⟨rfl, hal⟩
  · have hr := h1.at_size (Nat.le_refl _) hal
    have hlen := h1.len
    have hok := La.latOK_of h3
    have h64 := hok.known.1.2
    have HC := Lib.hid (show Calls Tryz.prog 159 #[.slice A n c, .int .u64 (x : Int)] (w.alloc (.cells #[.int .i64 ((1 : Nat) : Int), .slice A n c, .int .i64 ((0 : Nat) : Int)] 44)) fun e w' => e = .returned (.bool ((laS l).has x)) ∧ Below (w.alloc (.cells #[.int .i64 ((1 : Nat) : Int), .slice A n c, .int .i64 ((0 : Nat) : Int)] 44)).heap.size (w.alloc (.cells #[.int .i64 ((1 : Nat) : Int), .slice A n c, .int .i64 ((0 : Nat) : Int)] 44)) w' from
      (La.refHas_any A n c x _ (by omega)).mono fun _ _ k => ⟨by rw [k.1, ← hlen]; rfl, same_below k.2⟩)
    generalize (laS l).has x = r at HC ⊢
    have HAL := Lib.hid hal
    have hbx := heap_alloc_new w (.cells #[.int .i64 ((1 : Nat) : Int), .slice A n c, .int .i64 ((0 : Nat) : Int)] 44)
    have hz0 := (cell_blk (i := 0) hbx).trans rfl
    clear hr hlen hok h64 h1 h2 h3 hal hbx
    go_enter Tryz.func107, Tryz.ntmps107
    go_wp2_with fail
    refine HC.out.mono ?_
    rintro e w1 ⟨rfl, hb⟩
    replace hz0 := cell_old hz0 hb
    cases r with
    | false =>
      go_wp2_with fail
      go_ret
      exact ⟨rfl, HAL.out.trans (hb.mono HAL.out.size)⟩
    | true =>
      go_wp2_with fail
      go_ret
      exact ⟨rfl, HAL.out.trans (hb.mono HAL.out.size)⟩
  · have HC := Lib.hid fun W => (Ef.refHas_any m h1 W x hx)
    have HE : Hid (∀ v, v = (efS true (Ef.topN m)).has x → v = (efS true (Ef.topN m)).has x) := Lib.hid fun _ h => h
    have HAL := Lib.hid hal
    clear hal
    go_enter Tryz.func107, Tryz.ntmps107
    go_wp2_with fail
    refine (HC.out _).mono ?_
    rintro e w1 ⟨rfl, rfl⟩
    go_wp2_with fail
    go_ret
    exact ⟨rfl, HAL.out⟩






theorem zero31 (W : World) : (zeroValue 44).run Tryz.prog W = .ok (rsV 0 none 0 0 0) W := by kernel_rfl

set_option maxRecDepth 100000 in
set_option maxHeartbeats 2000000 in
theorem effects_any (k : Int) (w : World) :
    Calls Tryz.prog 13 #[.int .i64 k] w fun e w' => ∃ t A n c m, e = .returned (rsV t A n c m) ∧ (∀ B, RSrt B w' t A n c m (if 0 ≤ k ∧ k ≤ 64 then efS true (Ef.topN k.toNat) else dead)) ∧ Below w.heap.size w w' := by
  by_cases hk : 0 ≤ k ∧ k ≤ 64
  · rw [if_pos hk]
    obtain ⟨q, rfl⟩ : ∃ q : Nat, k = (q : Int) := ⟨k.toNat, by omega⟩
    have h0 : ¬ (q : Int) < 0 := by omega
    have h1 : ¬ 64 < (q : Int) := by omega
    have HQ : Hid (q ≤ 64) := Lib.hid (by omega)
    clear hk
    go_enter Tryz.func13, Tryz.ntmps13
    go_wp2
    exact bodyPost_ret (results_cell_row (P := Tryz.prog) rfl _ _ w.heap.size 44 _ (0, 0) _ rfl (heap_alloc_new w _) Tryz.underlying44 rfl rfl) rfl ⟨2, none, 0, 0, q, rfl, fun _ => .inr (.inr ⟨rfl, rfl, rfl, rfl, HQ.out, rfl⟩), (Below.refl _ _).alloc (Nat.le_refl _) _⟩
  · rw [if_neg hk]
    by_cases h0 : k < 0
    · clear hk
      go_enter Tryz.func13, Tryz.ntmps13
      go_wp2
      exact bodyPost_ret (results_cell_row (P := Tryz.prog) rfl _ _ w.heap.size 44 _ (0, 0) _ rfl (heap_alloc_new w _) Tryz.underlying44 rfl rfl) rfl ⟨0, none, 0, 0, 0, rfl, fun _ => .inl ⟨rfl, rfl, rfl, rfl, rfl, rfl⟩, (Below.refl _ _).alloc (Nat.le_refl _) _⟩
    · have h1 : 64 < k := by omega
      clear hk
      go_enter Tryz.func13, Tryz.ntmps13
      go_wp2
      exact bodyPost_ret (results_cell_row (P := Tryz.prog) rfl _ _ w.heap.size 44 _ (0, 0) _ rfl (heap_alloc_new w _) Tryz.underlying44 rfl rfl) rfl ⟨0, none, 0, 0, 0, rfl, fun _ => .inl ⟨rfl, rfl, rfl, rfl, rfl, rfl⟩, (Below.refl _ _).alloc (Nat.le_refl _) _⟩

set_option maxRecDepth 100000 in
set_option maxHeartbeats 2000000 in
theorem labels_any (A : Option Addr) (n c : Nat) (l : List Nat) (w : World) (B : Nat) (hB : B ≤ w.heap.size) (h : Rd La.nm w B A n c l) (hf : La.Fit l) :
    Calls Tryz.prog 12 #[.slice A n c] w fun e w' => ∃ t A n c m, e = .returned (rsV t A n c m) ∧ RSrt B w' t A n c m (if La.checkN l = 0 then laS l else dead) ∧ Below w.heap.size w w' := by
  have hal : Below w.heap.size w (w.alloc (.cells #[.int .i64 0, .slice none 0 0, .int .i64 0] 44)) := (Below.refl _ _).alloc (Nat.le_refl _) _
  have hnew := heap_alloc_new w (.cells #[.int .i64 0, .slice none 0 0, .int .i64 0] 44)
  have HC := Lib.hid (La.refCheck_any A n c l _ (h.at_size hB hal) hf)
  have HR := Lib.hid h
  have HF := Lib.hid hf
  have HAL := Lib.hid hal
  have hlt : w.heap.size < (w.alloc (.cells #[.int .i64 0, .slice none 0 0, .int .i64 0] 44)).heap.size := by simp
  clear h hf hal
  by_cases hx0 : La.checkN l = 0
  · rw [if_pos hx0]
    have HX0 := Lib.hid hx0
    clear hx0
    go_enter Tryz.func12, Tryz.ntmps12
    go_wp2_with fail
    refine HC.out.mono ?_
    rintro e w1 ⟨x, rfl, hx, hb⟩
    obtain rfl : x = 0 := (La.checkN_of hx).trans HX0.out
    have hnew1 := (hb.block w.heap.size hlt).trans hnew
    have HB := Lib.hid (HAL.out.trans (hb.mono HAL.out.size))
    clear hx hb HC hnew hlt
    have hf0 : w1.frozen? ⟨w.heap.size, 0, none⟩ = false := frozen_blk hnew1
    have hf1 : w1.frozen? ⟨w.heap.size, 1, none⟩ = false := frozen_blk hnew1
    have hf2 : w1.frozen? ⟨w.heap.size, 2, none⟩ = false := frozen_blk hnew1
    have hc0 := (cell_blk (i := 0) hnew1).trans rfl
    have hc1 := (cell_blk (i := 1) hnew1).trans rfl
    have hc2 := (cell_blk (i := 2) hnew1).trans rfl
    have HN := Lib.hid hnew1
    clear hnew1
    go_wp2
    have hblk := st3 HN.out (.int .i64 1) (.slice A n c) (.int .i64 0)
    have hb3 := st3_below HB.out w.heap.size (Nat.le_refl _) (.int .i64 1) (.slice A n c) (.int .i64 0)
    exact bodyPost_ret (results_cell_row (P := Tryz.prog) rfl _ _ w.heap.size 44 _ (0, 0) _ rfl hblk Tryz.underlying44 rfl rfl) rfl ⟨1, A, n, c, 0, rfl, .inr (.inl ⟨rfl, rfl, l, HR.out.below (hb3.mono hB), HF.out, HX0.out, rfl⟩), hb3⟩
  · rw [if_neg hx0]
    have HX0 := Lib.hid hx0
    clear hx0
    go_enter Tryz.func12, Tryz.ntmps12
    go_wp2_with fail
    refine HC.out.mono ?_
    rintro e w1 ⟨x, rfl, hx, hb⟩
    have hne : ((x : Int) != 0) = true := by have := La.checkN_of hx; have h2 := HX0.out; simp; omega
    have hnew1 := (hb.block w.heap.size hlt).trans hnew
    have HB := Lib.hid (HAL.out.trans (hb.mono HAL.out.size))
    clear hx hb HC hnew hlt
    have hf0 : w1.frozen? ⟨w.heap.size, 0, none⟩ = false := frozen_blk hnew1
    have hf1 : w1.frozen? ⟨w.heap.size, 1, none⟩ = false := frozen_blk hnew1
    have hf2 : w1.frozen? ⟨w.heap.size, 2, none⟩ = false := frozen_blk hnew1
    have hc0 := (cell_blk (i := 0) hnew1).trans rfl
    have hc1 := (cell_blk (i := 1) hnew1).trans rfl
    have hc2 := (cell_blk (i := 2) hnew1).trans rfl
    have HN := Lib.hid hnew1
    clear hnew1
    go_wp2
    have hblk := st3 HN.out (.int .i64 0) (.slice none 0 0) (.int .i64 0)
    have hb3 := st3_below HB.out w.heap.size (Nat.le_refl _) (.int .i64 0) (.slice none 0 0) (.int .i64 0)
    exact bodyPost_ret (results_cell_row (P := Tryz.prog) rfl _ _ w.heap.size 44 _ (0, 0) _ rfl hblk Tryz.underlying44 rfl rfl) rfl ⟨0, none, 0, 0, 0, rfl, .inl ⟨rfl, rfl, rfl, rfl, rfl, rfl⟩, hb3⟩

end Go.Proofs.YtmiconjmeaammaaGreatDoor.Bo
