/- What comes in: rows, bounds and values by value; what great tells, and what sort makes of them. Condition: they can be read. -/
import Derived.Test.YtnlgfiffhahpfaaGreatDoorSlv
import Derived.Test.YtnlgfiffhahpfaaGreatDoorLaTwin
import Derived.Test.YtnlgfiffhahpfaaGreatDoorLaOpen
import Derived.Deep.Slices
namespace Go.Proofs.YtnlgfiffhahpfaaGreatDoor
open Go.ChangeShapes Go.WideShapes Go.ChangeAt Go.RowKit Go.Deep

/-- A cell of old memory. -/
theorem cell_old {w w' : World} {p : Addr} {v : Value} (h : w.cell? p = some v) (hb : Below w.heap.size w w') : w'.cell? p = some v := (hb.cell (World.block_lt_of_cell? w p h)).trans h

theorem c22 : Tryz.prog.cellsOf 22 = 1 := by kernel_rfl
theorem c23 : Tryz.prog.cellsOf 23 = 1 := by kernel_rfl
theorem c25 : Tryz.prog.cellsOf 25 = 6 := by kernel_rfl
theorem c3 : Tryz.prog.cellsOf 3 = 1 := by kernel_rfl
theorem c4 : Tryz.prog.cellsOf 4 = 1 := by kernel_rfl
theorem c28 : Tryz.prog.cellsOf 73 = 1 := by kernel_rfl
theorem c51 : Tryz.prog.cellsOf 75 = 2 := by kernel_rfl
theorem c53 : Tryz.prog.cellsOf 77 = 4 := by kernel_rfl

theorem two_of {α : Type} : ∀ {l : List α}, l.length = 2 → ∃ a b, l = [a, b]
  | [a, b], _ => ⟨a, b, rfl⟩
theorem four_of {α : Type} : ∀ {l : List α}, l.length = 4 → ∃ a b c d, l = [a, b, c, d]
  | [a, b, c, d], _ => ⟨a, b, c, d, rfl⟩
theorem six_of {α : Type} : ∀ {l : List α}, l.length = 6 → ∃ a b c d e f, l = [a, b, c, d, e, f]
  | [a, b, c, d, e, f], _ => ⟨a, b, c, d, e, f, rfl⟩
theorem agg_of {v : Value} {x y : Value} {l : List Value} (h : v.cells.toList = x :: y :: l) : v = .agg (x :: y :: l).toArray := by
  cases v <;> simp [Value.cells] at h
  rename_i xs
  congr 1
  apply Array.toList_inj.1
  simpa using h

section
variable {H : Type} {enc : TypeId × Value → H} {W : World}

theorem open_term {n : Nat} {cs : List Value} {x : DataW H × List MemPlace} (h : DataW.trod enc Tryz.prog W 0 (fun _ => true) true n 75 cs = some x) : ∃ (b : Bool) (z : Nat), cs = [.bool b, .int .u64 (z : Int)] ∧ z < 18446744073709551616 := by
  obtain ⟨xs, m, _, _, hl, hlen, hf⟩ := DataW.trod_struct Tryz.underlying75 h
  rw [c51] at hl
  match xs, hlen with
  | [y0, y1], _ =>
    have h0 : DataW.trod enc Tryz.prog W 0 (fun _ => true) true m 4 (List.take (Tryz.prog.cellsOf 4) (List.drop 0 cs)) = some y0 := hf 0 _ rfl
    have h1 : DataW.trod enc Tryz.prog W 0 (fun _ => true) true m 73 (List.take (Tryz.prog.cellsOf 73) (List.drop 1 cs)) = some y1 := hf 1 _ rfl
    rw [c4] at h0
    rw [c28] at h1
    obtain ⟨b, e0, _⟩ := DataW.trod_bool Tryz.underlying4 h0
    obtain ⟨z, e1, _, wz⟩ := DataW.trod_int Tryz.underlying73 h1
    obtain ⟨y, rfl, hy⟩ := La.u64_nat wz
    obtain ⟨u0, u1, rfl⟩ := two_of hl
    simp at e0 e1
    exact ⟨b, y, by rw [e0, e1], hy⟩

theorem open_bd {n : Nat} {cs : List Value} {x : DataW H × List MemPlace} (h : DataW.trod enc Tryz.prog W 0 (fun _ => true) true n 77 cs = some x) : ∃ y : Bd, cs = bdc y ∧ y.Fit := by
  obtain ⟨xs, m, _, _, hl, hlen, hf⟩ := DataW.trod_struct Tryz.underlying77 h
  rw [c53] at hl
  match xs, hlen with
  | [y0, y1], _ =>
    have h0 : DataW.trod enc Tryz.prog W 0 (fun _ => true) true m 75 (List.take (Tryz.prog.cellsOf 75) (List.drop 0 cs)) = some y0 := hf 0 _ rfl
    have h1 : DataW.trod enc Tryz.prog W 0 (fun _ => true) true m 75 (List.take (Tryz.prog.cellsOf 75) (List.drop 2 cs)) = some y1 := hf 1 _ rfl
    rw [c51] at h0 h1
    obtain ⟨av, an, e0, t0⟩ := open_term h0
    obtain ⟨bv, bn, e1, t1⟩ := open_term h1
    obtain ⟨u0, u1, u2, u3, rfl⟩ := four_of hl
    simp at e0 e1
    exact ⟨⟨av, an, bv, bn⟩, by rw [bdc, e0.1, e0.2, e1.1, e1.2], t0, t1⟩

theorem open_bds {n : Nat} {cs : List Value} {x : DataW H × List MemPlace} (h : DataW.trod enc Tryz.prog W 0 (fun _ => true) true n 23 cs = some x) :
    ∃ (a0 : Option Addr) (len0 cap0 : Nat) (l : List Bd), cs = [.slice a0 len0 cap0] ∧ Rs bdc 4 W W.heap.size a0 len0 cap0 l ∧ ∀ b ∈ l, b.Fit := by
  rcases open_slice Tryz.underlying23 h with ⟨hcs, _⟩ | ⟨x, l, c, m, n, D, Pl, hcs, _, hl, hm, hmm, _, hx⟩
  · exact ⟨none, 0, 0, [], hcs, Rs.nil _ _, fun _ h => by cases h⟩
  · have hm' : m = c := by simpa using hmm
    have each : ∀ i, i < l → ∃ y : Bd, y.Fit ∧ ∀ j u, (bdc y)[j]? = some u → W.cell? ((x.add (i * 4)).add j) = some u := by
      intro i hi
      obtain ⟨cs', h1, h2⟩ := hx i (by omega)
      obtain ⟨y, rfl, hy⟩ := open_bd h2
      rw [c53] at h1
      obtain ⟨_, _, hc⟩ := World.cells?_some h1
      refine ⟨y, hy, fun j u hu => ?_⟩
      have hj : j < (bdc y).length := (List.getElem?_eq_some_iff.1 hu).1
      have := hc j (by rw [bdc_len] at hj; exact hj)
      rw [this]
      exact hu
    obtain ⟨f, hf, hg⟩ : ∃ f : Nat → Bd, (∀ i, i < l → (f i).Fit) ∧ ∀ i, i < l → ∀ j u, (bdc (f i))[j]? = some u → W.cell? ((x.add (i * 4)).add j) = some u :=
      ⟨fun i => if h : i < l then Classical.choose (each i h) else zeroB, fun i h => by
        simp only [dif_pos h]
        exact (Classical.choose_spec (each i h)).1, fun i h => by
        simp only [dif_pos h]
        exact (Classical.choose_spec (each i h)).2⟩
    refine ⟨some x, l, c, (List.range l).map f, hcs, ⟨by simp, hl, hm, (fun h => by cases h), fun h0 => ?_⟩, fun b hb => ?_⟩
    · obtain ⟨b, o, spot⟩ := x
      have hc0 := hg 0 (by omega) 0 _ rfl
      have hspot : spot = none := by simpa [Addr.add] using World.cell?_spot hc0
      subst hspot
      refine ⟨b, o, rfl, ?_, fun j hj i u hu => ?_⟩
      · exact World.block_lt_of_cell? W ⟨b, o, none⟩ (by simpa [Addr.add] using hc0)
      · rw [List.length_map, List.length_range] at hj
        simp only [List.getElem_map, List.getElem_range] at hu
        have := hg j hj i u hu
        rwa [Addr.add_lit, Addr.add_lit] at this
    · obtain ⟨i, hi, rfl⟩ := List.mem_map.1 hb
      exact hf i (List.mem_range.1 hi)

theorem open_rows {n : Nat} {cs : List Value} {x : DataW H × List MemPlace} (h : DataW.trod enc Tryz.prog W 0 (fun _ => true) true n 22 cs = some x) :
    ∃ (a0 : Option Addr) (len0 cap0 : Nat) (l : List Nat), cs = [.slice a0 len0 cap0] ∧ Rd La.nm W W.heap.size a0 len0 cap0 l ∧ La.Fit l := by
  obtain ⟨a0, len0, cap0, e⟩ : ∃ a0 len0 cap0, cs = [Value.slice a0 len0 cap0] := by
    rcases open_slice Tryz.underlying22 h with ⟨hcs, _⟩ | ⟨x, l, c, m, n, D, Pl, hcs, _⟩
    · exact ⟨_, _, _, hcs⟩
    · exact ⟨_, _, _, hcs⟩
  subst e
  obtain ⟨us, h1, h2⟩ := La.opened_nums (t := 22) (e := 73) (d := x.1) (p := x.2) Tryz.underlying22 Tryz.underlying73 c28 ⟨n, h⟩
  exact ⟨a0, len0, cap0, us, rfl, h1, h2⟩

/-- What came in, as a value. -/
def gV (A : Option Addr) (n c : Nat) (s : Bool) (k z : Int) (A1 : Option Addr) (n1 c1 : Nat) (A2 : Option Addr) (n2 c2 : Nat) : Value := .agg #[.slice A n c, .bool s, .int .i64 k, .int .i64 z, .slice A1 n1 c1, .slice A2 n2 c2]

/-- What came in, as it reads. -/
structure Came (W : World) (A : Option Addr) (n c : Nat) (rows : List Nat) (A1 : Option Addr) (n1 c1 : Nat) (l : List Bd) (A2 : Option Addr) (n2 c2 : Nat) (u : List Nat) : Prop where
  hr : Rd La.nm W W.heap.size A n c rows
  hrf : La.Fit rows
  hl : Rs bdc 4 W W.heap.size A1 n1 c1 l
  hlf : ∀ b ∈ l, b.Fit
  hu : Rd La.nm W W.heap.size A2 n2 c2 u
  huf : La.Fit u

theorem opened_given {v : Value} {d : DataW H} {p : List MemPlace} (h : DataW.Trod enc Tryz.prog W 0 (fun _ => true) true 25 v d p) :
    ∃ (A : Option Addr) (n c : Nat) (s : Bool) (k z : Int) (A1 : Option Addr) (n1 c1 : Nat) (A2 : Option Addr) (n2 c2 : Nat) (rows : List Nat) (l : List Bd) (u : List Nat), v = gV A n c s k z A1 n1 c1 A2 n2 c2 ∧ Came W A n c rows A1 n1 c1 l A2 n2 c2 u ∧ (Lit.int .i64 z).wf = true := by
  obtain ⟨fuel, h⟩ := h
  obtain ⟨xs, m, _, _, hl, hlen, hf⟩ := DataW.trod_struct Tryz.underlying25 h
  rw [c25] at hl
  match xs, hlen with
  | [y0, y1, y2, y3, y4, y5], _ =>
    have h0 : DataW.trod enc Tryz.prog W 0 (fun _ => true) true m 22 (List.take (Tryz.prog.cellsOf 22) (List.drop 0 v.cells.toList)) = some y0 := hf 0 _ rfl
    have h1 : DataW.trod enc Tryz.prog W 0 (fun _ => true) true m 4 (List.take (Tryz.prog.cellsOf 4) (List.drop 1 v.cells.toList)) = some y1 := hf 1 _ rfl
    have h2 : DataW.trod enc Tryz.prog W 0 (fun _ => true) true m 3 (List.take (Tryz.prog.cellsOf 3) (List.drop 2 v.cells.toList)) = some y2 := hf 2 _ rfl
    have h3 : DataW.trod enc Tryz.prog W 0 (fun _ => true) true m 3 (List.take (Tryz.prog.cellsOf 3) (List.drop 3 v.cells.toList)) = some y3 := hf 3 _ rfl
    have h4 : DataW.trod enc Tryz.prog W 0 (fun _ => true) true m 23 (List.take (Tryz.prog.cellsOf 23) (List.drop 4 v.cells.toList)) = some y4 := hf 4 _ rfl
    have h5 : DataW.trod enc Tryz.prog W 0 (fun _ => true) true m 22 (List.take (Tryz.prog.cellsOf 22) (List.drop 5 v.cells.toList)) = some y5 := hf 5 _ rfl
    rw [c22] at h0 h5
    rw [c4] at h1
    rw [c3] at h2 h3
    rw [c23] at h4
    obtain ⟨A, n, c, rows, e0, hr, hrf⟩ := open_rows h0
    obtain ⟨s, e1, _⟩ := DataW.trod_bool Tryz.underlying4 h1
    obtain ⟨k, e2, _, _⟩ := DataW.trod_int Tryz.underlying3 h2
    obtain ⟨z, e3, _, wz⟩ := DataW.trod_int Tryz.underlying3 h3
    obtain ⟨A1, n1, c1, l, e4, hb, hbf⟩ := open_bds h4
    obtain ⟨A2, n2, c2, u, e5, hu, huf⟩ := open_rows h5
    obtain ⟨u0, u1, u2, u3, u4, u5, e⟩ := six_of hl
    rw [e] at e0 e1 e2 e3 e4 e5
    simp at e0 e1 e2 e3 e4 e5
    subst e0 e1 e2 e3 e4 e5
    exact ⟨A, n, c, s, k, z, A1, n1, c1, A2, n2, c2, rows, l, u, agg_of e, ⟨hr, hrf, hb, hbf, hu, huf⟩, wz⟩

theorem opened_bound {v : Value} {d : DataW H} {p : List MemPlace} (h : DataW.Trod enc Tryz.prog W 0 (fun _ => true) true 77 v d p) : ∃ y : Bd, v = .agg (bdc y).toArray ∧ y.Fit := by
  obtain ⟨fuel, h⟩ := h
  obtain ⟨y, e, hy⟩ := open_bd h
  exact ⟨y, agg_of e, hy⟩
end

theorem Came.keep {w W : World} {A : Option Addr} {n c : Nat} {rows : List Nat} {A1 : Option Addr} {n1 c1 : Nat} {l : List Bd} {A2 : Option Addr} {n2 c2 : Nat} {u : List Nat} (h : Came w A n c rows A1 n1 c1 l A2 n2 c2 u) (hb : Below w.heap.size w W) : Came W A n c rows A1 n1 c1 l A2 n2 c2 u :=
  ⟨h.hr.at_size (Nat.le_refl _) hb, h.hrf, h.hl.at_size (Nat.le_refl _) hb, h.hlf, h.hu.at_size (Nat.le_refl _) hb, h.huf⟩

/-- The sort of such rows, or of so many effects. -/
def srOf (rows : List Nat) (s : Bool) (k : Int) : Sr := if s then (if 0 ≤ k ∧ k ≤ 64 then efS true (Ef.topN k.toNat) else dead) else (if La.checkN rows = 0 then laS rows else dead)
theorem srOf_ok (rows : List Nat) (s : Bool) (k : Int) : (srOf rows s k).Ok := by
  unfold srOf
  split
  · split
    · exact ef_ok true (Ef.topN_lt (by omega))
    · exact dead_ok
  · split
    · rename_i h
      exact la_ok (La.latOK_of h)
    · exact dead_ok

theorem ef_dead : efS false 0 = dead := by
  unfold efS dead
  congr

/-- A sort behind an interface that a pointer stands behind. -/
def Srt2 (w : World) (v : Value) (S : Sr) : Prop := (∃ a, v = .iface 68 (.pointer a) ∧ Ans w 192 190 193 194 191 195 (.pointer a) S) ∨ (∃ a, v = .iface 65 (.pointer a) ∧ Ans w 182 180 183 184 181 185 (.pointer a) S)
theorem Srt2.keep {w W : World} {v : Value} {S : Sr} (h : Srt2 w v S) (hb : Below w.heap.size w W) : Srt2 W v S := by
  rcases h with ⟨a, e, h⟩ | ⟨a, e, h⟩
  · exact .inl ⟨a, e, h.keep hb⟩
  · exact .inr ⟨a, e, h.keep hb⟩
theorem Srt2.into {w : World} {v : Value} {S : Sr} (h : Srt2 w v S) : SrtIn w v S := by
  rcases h with h | h
  · exact .inr (.inl h)
  · exact .inr (.inr (.inl h))

set_option maxRecDepth 100000 in
set_option maxHeartbeats 1000000 in
theorem sort_any (A : Option Addr) (n c : Nat) (s : Bool) (k z : Int) (A1 : Option Addr) (n1 c1 : Nat) (A2 : Option Addr) (n2 c2 : Nat) (rows : List Nat) (w : World) (h : Rd La.nm w w.heap.size A n c rows) (hf : La.Fit rows) :
    Calls Tryz.prog 5 #[gV A n c s k z A1 n1 c1 A2 n2 c2] w fun e w' => ∃ v, e = .returned v ∧ Srt2 w' v (srOf rows s k) ∧ Below w.heap.size w w' := by
  have hal : Below w.heap.size w (w.alloc (.cells #[.slice A n c, .bool s, .int .i64 k, .int .i64 z, .slice A1 n1 c1, .slice A2 n2 c2] 25)) := (Below.refl _ _).alloc (Nat.le_refl _) _
  have h1 := h.at_size (Nat.le_refl _) hal
  unfold gV srOf
  cases s with
  | true =>
    rw [if_pos rfl]
    by_cases hk : 0 ≤ k ∧ k ≤ 64
    · rw [if_pos hk]
      obtain ⟨y, rfl⟩ : ∃ y : Nat, k = (y : Int) := ⟨k.toNat, by omega⟩
      have hc := Ef.new_yes y (by omega) (w.alloc (.cells #[.slice A n c, .bool true, .int .i64 (y : Int), .int .i64 z, .slice A1 n1 c1, .slice A2 n2 c2] 25))
      have HAL := Lib.hid hal
      clear h h1 hk hal
      go_enter Tryz.func5, Tryz.ntmps5
      go_wp2_with fail
      refine hc.mono ?_
      rintro e w1 ⟨g, rfl, he, hb⟩
      have HE := Lib.hid he
      have HB := Lib.hid (HAL.out.trans (hb.mono HAL.out.size))
      clear he hb hc
      go_wp2_with fail
      go_ret
      refine ⟨_, rfl, .inr ⟨_, rfl, ?_⟩, HB.out⟩
      rw [Int.toNat_natCast]
      exact ans_ef (.inr ⟨g, rfl, HE.out⟩)
    · rw [if_neg hk]
      have hc := Ef.new_no k hk (w.alloc (.cells #[.slice A n c, .bool true, .int .i64 k, .int .i64 z, .slice A1 n1 c1, .slice A2 n2 c2] 25))
      have HAL := Lib.hid hal
      clear h h1 hk hal
      go_enter Tryz.func5, Tryz.ntmps5
      go_wp2_with fail
      refine hc.mono ?_
      rintro e w1 ⟨rfl, rfl⟩
      clear hc
      go_wp2_with fail
      go_ret
      refine ⟨_, rfl, .inr ⟨_, rfl, ?_⟩, HAL.out⟩
      rw [← ef_dead]
      exact ans_ef (.inl ⟨rfl, rfl, rfl⟩)
  | false =>
    rw [if_neg (by decide)]
    have hlen := h.len
    by_cases hx : La.checkN rows = 0
    · rw [if_pos hx]
      have hc := La.new_yes A n c rows _ h1 hf hx
      have HAL := Lib.hid hal
      have HLEN := Lib.hid hlen
      clear h h1 hx hal hlen
      go_enter Tryz.func5, Tryz.ntmps5
      go_wp2_with fail
      refine hc.mono ?_
      rintro e w1 ⟨g, rfl, -, he, hb⟩
      have HE := Lib.hid he
      have HB := Lib.hid (HAL.out.trans (hb.mono HAL.out.size))
      clear he hb hc
      go_wp2_with fail
      go_ret
      refine ⟨_, rfl, .inl ⟨_, rfl, ?_⟩, HB.out⟩
      have := HE.out
      rw [← HLEN.out] at this
      exact ans_la this
    · rw [if_neg hx]
      have hc := La.new_no A n c rows _ h1 hf _ rfl hx
      have HAL := Lib.hid hal
      clear h h1 hx hal hlen
      generalize La.checkN rows = x at *
      go_enter Tryz.func5, Tryz.ntmps5
      go_wp2_with fail
      refine hc.mono ?_
      rintro e w1 ⟨rfl, hb⟩
      have HB := Lib.hid (HAL.out.trans (hb.mono HAL.out.size))
      clear hc hb
      go_wp2_with fail
      go_ret
      exact ⟨_, rfl, .inl ⟨_, rfl, ans_la_nil _⟩, HB.out⟩

set_option maxRecDepth 100000 in
set_option maxHeartbeats 1000000 in
/-- Too great. -/
theorem great_any (A : Option Addr) (n c : Nat) (s : Bool) (k z : Int) (A1 : Option Addr) (n1 c1 : Nat) (A2 : Option Addr) (n2 c2 : Nat) (w : World) (r : Bool) (hr : r = (decide (64 < n) || (decide (300 < n1) || decide (200 < n2)))) :
    Calls Tryz.prog 4 #[gV A n c s k z A1 n1 c1 A2 n2 c2] w fun e w' => e = .returned (.bool r) ∧ Below w.heap.size w w' := by
  have HR := Lib.hid hr
  clear hr
  unfold gV
  have hal : Below w.heap.size w (w.alloc (.cells #[.slice A n c, .bool s, .int .i64 k, .int .i64 z, .slice A1 n1 c1, .slice A2 n2 c2] 25)) := (Below.refl _ _).alloc (Nat.le_refl _) _
  by_cases h0 : 64 < n
  · have h0' : (64 : Int) < (n : Int) := by omega
    rw [decide_eq_true h0, Bool.true_or] at HR
    obtain rfl := HR.out
    clear h0
    go_enter Tryz.func4, Tryz.ntmps4
    go_wp2_with fail
    go_ret
    exact ⟨rfl, hal⟩
  have h0' : ¬ (64 : Int) < (n : Int) := by omega
  rw [decide_eq_false h0, Bool.false_or] at HR
  by_cases h1 : 300 < n1
  · have h1' : (300 : Int) < (n1 : Int) := by omega
    rw [decide_eq_true h1, Bool.true_or] at HR
    obtain rfl := HR.out
    clear h0 h1
    go_enter Tryz.func4, Tryz.ntmps4
    go_wp2_with fail
    go_ret
    exact ⟨rfl, hal⟩
  have h1' : ¬ (300 : Int) < (n1 : Int) := by omega
  rw [decide_eq_false h1, Bool.false_or] at HR
  by_cases h2 : 200 < n2
  · have h2' : (200 : Int) < (n2 : Int) := by omega
    rw [decide_eq_true h2] at HR
    obtain rfl := HR.out
    clear h0 h1 h2
    go_enter Tryz.func4, Tryz.ntmps4
    go_wp2_with fail
    go_ret
    exact ⟨rfl, hal⟩
  · have h2' : ¬ (200 : Int) < (n2 : Int) := by omega
    rw [decide_eq_false h2] at HR
    obtain rfl := HR.out
    clear h0 h1 h2
    go_enter Tryz.func4, Tryz.ntmps4
    go_wp2_with fail
    go_ret
    exact ⟨rfl, hal⟩

/-- The same numbers, or not. -/
theorem same_lit {B B' : Nat} {A A' : Option Addr} {n n' c c' : Nat} {l l' : List Nat} {w : World} (r : Bool) (h : Rd La.nm w B A n c l) (h' : Rd La.nm w B' A' n' c' l') (hr : r = true ↔ l = l') :
    Calls Tryz.prog 13 #[.slice A n c, .slice A' n' c'] w fun e w' => e = .returned (.bool r) ∧ Below w.heap.size w w' := (La.same_any B B' A A' n n' c c' l l' w h h').mono fun e w' ⟨⟨b, he, hb⟩, hd⟩ => ⟨by
      rw [he]
      have : b = r := Bool.eq_iff_iff.2 (hb.trans hr.symm)
      rw [this], drawn_below hd⟩
end Go.Proofs.YtnlgfiffhahpfaaGreatDoor
