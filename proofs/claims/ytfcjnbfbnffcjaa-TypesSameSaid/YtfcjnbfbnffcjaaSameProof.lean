/- Proved: whatever the nodes, the terms, and whichever node, TypesSame answers true: bodies that are the same but for their terms may both be, or neither; with one node other they are not the same; the arguments stay as they were. No condition. -/
import Derived.Test.YtfcjnbfbnffcjaaTerms
import Derived.Test.YtfcjnbfbnffcjaaRows
import Derived.SizedLaws
namespace Go.Proofs.Ytfcjnbfbnffcjaa.typesSame
open Go.ChangeShapes Go.WideShapes Go.ChangeAt Go.RowKit

theorem own : ownKnob Try.prog.godebug = none := by kernel_rfl
theorem laidOut : laidOutB Try.prog = true := by kernel_rfl

section
variable {H : Type} {enc : TypeId × Value → H} {W : World}
open Go.Deep
theorem open_nd_w {n : Nat} {cs : List Value} {x : DataW H × List MemPlace} (h : DataW.trod enc Try.prog W 0 (fun _ => true) true n 36 cs = some x) : ∃ y : Nd, cs = ndc y ∧ y.Fits ∧ y.s.length ∈ x.1.weights Try.prog 36 := by
  obtain ⟨xs, m, _, hxe, hl, hlen, hf⟩ := DataW.trod_struct Try.underlying36 h
  rw [c36] at hl
  match xs, hlen with
  | [y0, y1, y2, y3, y4, y5, y6], _ =>
    have h0 : DataW.trod enc Try.prog W 0 (fun _ => true) true m 31 (List.take (Try.prog.cellsOf 31) (List.drop 0 cs)) = some y0 := hf 0 _ rfl
    rw [c31] at h0
    have h1 : DataW.trod enc Try.prog W 0 (fun _ => true) true m 3 (List.take (Try.prog.cellsOf 3) (List.drop 1 cs)) = some y1 := hf 1 _ rfl
    rw [c3] at h1
    have h2 : DataW.trod enc Try.prog W 0 (fun _ => true) true m 9 (List.take (Try.prog.cellsOf 9) (List.drop 2 cs)) = some y2 := hf 2 _ rfl
    rw [c9] at h2
    have h3 : DataW.trod enc Try.prog W 0 (fun _ => true) true m 3 (List.take (Try.prog.cellsOf 3) (List.drop 3 cs)) = some y3 := hf 3 _ rfl
    rw [c3] at h3
    have h4 : DataW.trod enc Try.prog W 0 (fun _ => true) true m 34 (List.take (Try.prog.cellsOf 34) (List.drop 4 cs)) = some y4 := hf 4 _ rfl
    rw [c34] at h4
    have h5 : DataW.trod enc Try.prog W 0 (fun _ => true) true m 34 (List.take (Try.prog.cellsOf 34) (List.drop 6 cs)) = some y5 := hf 5 _ rfl
    rw [c34] at h5
    have h6 : DataW.trod enc Try.prog W 0 (fun _ => true) true m 34 (List.take (Try.prog.cellsOf 34) (List.drop 8 cs)) = some y6 := hf 6 _ rfl
    rw [c34] at h6
    obtain ⟨k, e0, _, w0⟩ := DataW.trod_int Try.underlying31 h0
    obtain ⟨md, e1, _, w1⟩ := DataW.trod_int Try.underlying3 h1
    obtain ⟨s, e2, x2, w2⟩ := DataW.trod_string Try.underlying9 h2
    obtain ⟨nk, e3, _, w3⟩ := DataW.trod_int Try.underlying3 h3
    obtain ⟨lv, ln, e4⟩ := open_term h4
    obtain ⟨pv, pn, e5⟩ := open_term h5
    obtain ⟨ev, en, e6⟩ := open_term h6
    match cs, hl with
    | [u0, u1, u2, u3, u4, u5, u6, u7, u8, u9], _ =>
      simp at e0 e1 e2 e3 e4 e5 e6
      obtain ⟨f0, f1⟩ := u8_fits w0
      obtain ⟨f2, f3⟩ := i64_fits w1
      obtain ⟨f4, f5⟩ := i64_fits w3
      refine ⟨⟨k, md, s.data.toList, nk, lv, ln, pv, pn, ev, en⟩, ?_, ⟨f0, f1, f2, f3, f4, f5, ?_⟩, ?_⟩
      · simp only [ndc, txt, str_of]
        rw [e0, e1, e2, e3, e4.1, e4.2, e5.1, e5.2, e6.1, e6.2]
      · show s.data.toList.length ≤ _
        rw [Array.length_toList]
        unfold maxLen at w2
        exact w2
      · rw [hxe, x2]
        simp only [DataW.weights, Try.underlying36]
        refine DataW.weights_mem_each (j := 2) (t := 9) (d := .lit (.string s.data.toList)) rfl rfl _ ?_
        simp [DataW.weights]

theorem weights_all {H : Type} {e : TypeId} {n : Nat} {d : DataW H} : ∀ {l : List (DataW H)}, d ∈ l → n ∈ d.weights Try.prog e → n ∈ DataW.weightsAll Try.prog e l
  | x :: l, h, hn => by
    rw [DataW.weightsAll, List.mem_append]
    rcases List.mem_cons.1 h with rfl | h
    · exact .inl hn
    · exact .inr (weights_all h hn)
  | [], h, _ => by simp at h

theorem opened_nodes_w {a0 : Option Addr} {len0 cap0 : Nat} {d : DataW H} {p : List MemPlace} (h : DataW.Trod enc Try.prog W 0 (fun _ => true) true 22 (.slice a0 len0 cap0) d p) :
    ∃ l : List Nd, Ns W W.heap.size a0 len0 cap0 l ∧ ∀ x ∈ l, x.Fits ∧ x.s.length ∈ d.weights Try.prog 22 := by
  obtain ⟨fuel, hf⟩ := h
  rcases open_slice Try.underlying22 hf with ⟨hcs, _⟩ | ⟨x, l, c, m, n, D, Pl, hcs, _, hl, hm, hmm, hdat, hx⟩
  · simp [Value.cells] at hcs
    obtain ⟨rfl, rfl, rfl⟩ := hcs
    exact ⟨[], Rs.nil _ _, by simp⟩
  · simp [Value.cells] at hcs
    obtain ⟨rfl, rfl, rfl⟩ := hcs
    have hm' : m = cap0 := by simpa using hmm
    have each : ∀ i, i < len0 → ∃ y : Nd, (y.Fits ∧ y.s.length ∈ (D i).weights Try.prog 36) ∧ ∀ j u, (ndc y)[j]? = some u → W.cell? ((x.add (i * 10)).add j) = some u := by
      intro i hi
      obtain ⟨cs', h1, h2⟩ := hx i (by omega)
      obtain ⟨y, rfl, hy⟩ := open_nd_w h2
      rw [c36] at h1
      obtain ⟨_, _, hc⟩ := World.cells?_some h1
      refine ⟨y, hy, fun j u hu => ?_⟩
      have hj : j < (ndc y).length := (List.getElem?_eq_some_iff.1 hu).1
      have := hc j (by rw [ndc_len] at hj; exact hj)
      rw [this]
      exact hu
    obtain ⟨f, hf⟩ : ∃ f : Nat → Nd, ∀ i, i < len0 → ((f i).Fits ∧ (f i).s.length ∈ (D i).weights Try.prog 36) ∧ ∀ j u, (ndc (f i))[j]? = some u → W.cell? ((x.add (i * 10)).add j) = some u :=
      ⟨fun i => if h : i < len0 then Classical.choose (each i h) else ⟨0, 0, [], 0, false, 0, false, 0, false, 0⟩, fun i h => by
        simp only [dif_pos h]
        exact Classical.choose_spec (each i h)⟩
    refine ⟨(List.range len0).map f, ⟨by simp, hl, hm, (fun h => by cases h), fun h0 => ?_⟩, fun y hy => ?_⟩
    · obtain ⟨b, o, spot⟩ := x
      have hc0 := (hf 0 (by omega)).2 0 _ rfl
      have hspot : spot = none := by simpa [Addr.add] using World.cell?_spot hc0
      subst hspot
      refine ⟨b, o, rfl, ?_, fun j hj i u hu => ?_⟩
      · exact World.block_lt_of_cell? W ⟨b, o, none⟩ (by simpa [Addr.add] using hc0)
      · rw [List.length_map, List.length_range] at hj
        simp only [List.getElem_map, List.getElem_range] at hu
        have := (hf j hj).2 i u hu
        rwa [Addr.add_lit, Addr.add_lit] at this
    · obtain ⟨i, hi, rfl⟩ := List.mem_map.1 hy
      have hi' := List.mem_range.1 hi
      refine ⟨(hf i hi').1.1, ?_⟩
      rw [Prod.mk.injEq] at hdat
      rw [hdat.1]
      simp only [DataW.weights, Try.underlying22, List.mem_cons, List.mem_append]
      exact .inr (.inl (weights_all (List.mem_map.2 ⟨i, List.mem_range.2 hi', rfl⟩) (hf i hi').1.2))
end

open Go.Deep in
theorem open_two {H : Type} {enc : TypeId × Value → H} {P : Program} {W : World} {e q : TypeId} {k : IntKind} {n : Nat} {cs : List Value} {x : DataW H × List MemPlace}
    (he : P.underlying e = some (.array 2 q)) (hq : P.underlying q = some (.int k)) (hce : P.cellsOf e = 2) (hcq : P.cellsOf q = 1) (h : DataW.trod enc P W 0 (fun _ => true) true n e cs = some x) :
    ∃ a b : Int, cs = [.int k a, .int k b] ∧ (Lit.int k a).wf = true ∧ (Lit.int k b).wf = true := by
  obtain ⟨xs, m, _, _, hlen, hxl, hel⟩ := DataW.trod_array he h
  rw [hce] at hlen
  match cs, hlen with
  | [c0, c1], _ =>
    match xs, hxl with
    | [y0, y1], _ =>
      have h0 := hel 0 (by decide)
      have h1 := hel 1 (by decide)
      rw [hcq] at h0 h1
      have h0 : DataW.trod enc P W 0 (fun _ => true) true m q [c0] = some y0 := h0
      have h1 : DataW.trod enc P W 0 (fun _ => true) true m q [c1] = some y1 := h1
      obtain ⟨a, ha, _, wa⟩ := DataW.trod_int hq h0
      obtain ⟨b, hb, _, wb⟩ := DataW.trod_int hq h1
      injection ha with ha
      injection hb with hb
      exact ⟨a, b, by rw [ha, hb], wa, wb⟩

open Go.Deep in
theorem opened_two {H : Type} {enc : TypeId × Value → H} {P : Program} {W : World} {e q : TypeId} {k : IntKind} {v : Value} {d : DataW H} {p : List MemPlace}
    (he : P.underlying e = some (.array 2 q)) (hq : P.underlying q = some (.int k)) (hce : P.cellsOf e = 2) (hcq : P.cellsOf q = 1) (h : DataW.Trod enc P W 0 (fun _ => true) true e v d p) :
    ∃ a b : Int, v = .agg #[.int k a, .int k b] ∧ (Lit.int k a).wf = true ∧ (Lit.int k b).wf = true := by
  obtain ⟨fuel, hf⟩ := h
  obtain ⟨a, b, hv, wa, wb⟩ := open_two he hq hce hcq hf
  refine ⟨a, b, ?_, wa, wb⟩
  cases v <;> simp [Value.cells] at hv
  rename_i xs
  congr 1
  apply Array.toList_inj.1
  simpa using hv

theorem u8_nat {a : Int} (h : (Lit.int .u8 a).wf = true) : ∃ x : Nat, a = (x : Int) ∧ x < 256 := by
  obtain ⟨h1, h2⟩ := u8_fits h
  exact ⟨a.toNat, by omega, by omega⟩

/-- A label is set anew. -/
theorem own_two {w : World} {base g n c : Nat} {o : List Nd} (h : w.ownsRow base 36 10 (.slice (some ⟨g, 0, none⟩) n c) n (o.flatMap ndc)) {i : Nat} (hi : i < o.length) (t : Bool × Int) :
    ((w.setCell ⟨g, i * 10 + 4, none⟩ (.bool t.1)).setCell ⟨g, i * 10 + 5, none⟩ (.int .u64 t.2)).ownsRow base 36 10 (.slice (some ⟨g, 0, none⟩) n c) n ((o.set i (withL o[i] t)).flatMap ndc) := by
  have h1 := own_set h hi (i := 4) (u := .bool t.1) (by decide) (y := { o[i] with lv := t.1 }) rfl
  have hi2 : i < (o.set i { o[i] with lv := t.1 }).length := by simpa using hi
  have h2 := own_set h1 hi2 (i := 5) (u := .int .u64 t.2) (by decide) (y := withL o[i] t) (by simp [withL, ndc])
  rwa [List.set_set] at h2

/-- All terms of a function are set anew. -/
theorem own_six {w : World} {base g n c : Nat} {o : List Nd} (h : w.ownsRow base 36 10 (.slice (some ⟨g, 0, none⟩) n c) n (o.flatMap ndc)) {i : Nat} (hi : i < o.length) (t u v : Bool × Int) :
    ((((((w.setCell ⟨g, i * 10 + 4, none⟩ (.bool t.1)).setCell ⟨g, i * 10 + 5, none⟩ (.int .u64 t.2)).setCell ⟨g, i * 10 + 6, none⟩ (.bool u.1)).setCell ⟨g, i * 10 + 7, none⟩ (.int .u64 u.2)).setCell ⟨g, i * 10 + 8, none⟩ (.bool v.1)).setCell ⟨g, i * 10 + 9, none⟩ (.int .u64 v.2)).ownsRow base 36 10 (.slice (some ⟨g, 0, none⟩) n c) n ((o.set i (withF (withL o[i] t) u v)).flatMap ndc) := by
  have h1 := own_two h hi t
  have step : ∀ (W : World) (y y' : Nd) (j : Nat) (x : Value), W.ownsRow base 36 10 (.slice (some ⟨g, 0, none⟩) n c) n ((o.set i y).flatMap ndc) → j < 10 → ndc y' = (ndc y).set j x → (W.setCell ⟨g, i * 10 + j, none⟩ x).ownsRow base 36 10 (.slice (some ⟨g, 0, none⟩) n c) n ((o.set i y').flatMap ndc) := by
    intro W y y' j x hW hj hy
    have := own_set hW (k := i) (by simpa using hi) (i := j) (u := x) hj (y := y') (by simpa using hy)
    rwa [List.set_set] at this
  have h2 := step _ _ { withL o[i] t with pv := u.1 } 6 (.bool u.1) h1 (by decide) rfl
  have h3 := step _ _ { withL o[i] t with pv := u.1, pn := u.2 } 7 (.int .u64 u.2) h2 (by decide) rfl
  have h4 := step _ _ { withL o[i] t with pv := u.1, pn := u.2, ev := v.1 } 8 (.bool v.1) h3 (by decide) rfl
  exact step _ _ (withF (withL o[i] t) u v) 9 (.int .u64 v.2) h4 (by decide) rfl

theorem below_set {w wr : World} {g j : Nat} (hb : Below w.heap.size w wr) (hg : w.heap.size ≤ g) (u : Value) : Below w.heap.size w (wr.setCell ⟨g, j, none⟩ u) :=
  ((Kept.of_below (D := fun b => w.heap.size ≤ b) hb).setCell (p := ⟨g, j, none⟩) (.inl hg) u).below (Nat.le_refl _) fun _ h => h

theorem str_x (s : List UInt8) : str (s ++ [120]) = str s ++ (⟨#[120]⟩ : ByteArray) := by
  apply ByteArray.ext
  simp [str, ByteArray.data_append]

theorem box_set {wr : World} {q g j : Nat} {bx : Obj} (h : wr.heap[q]? = some bx) (hne : q ≠ g) (u : Value) : (wr.setCell ⟨g, j, none⟩ u).heap[q]? = some bx := by
  rw [Below.heap_setCell _ _ _ _ hne]
  exact h

theorem sm_step {l o : List Nd} {i : Nat} {y : Nd} (hol : o.length = l.length) (halk : ∀ j (h : j < l.length) (h' : j < o.length), Alk l[j] o[j]) (hrest : ∀ j (h : j < l.length) (h' : j < o.length), i ≤ j → o[j] = l[j]) (hil : i < l.length) (hy : Alk l[i] y) :
    (o.set i y).length = l.length ∧ (∀ j (h : j < l.length) (h' : j < (o.set i y).length), Alk l[j] (o.set i y)[j]) ∧ (∀ j (h : j < l.length) (h' : j < (o.set i y).length), i + 1 ≤ j → (o.set i y)[j] = l[j]) := by
  refine ⟨by simp [hol], fun j h h' => ?_, fun j h h' hj => ?_⟩
  · rw [List.getElem_set]
    split
    · rename_i e
      subst e
      exact hy
    · exact halk j h (by simpa using h')
  · rw [List.getElem_set_ne (by omega)]
    exact hrest j h (by simpa using h') (by omega)

/-- Where the loop stands that gives other terms. -/
def SmRel (l : List Nd) (w : World) (bx : Obj) (base g n c : Nat) (v8 : Value) (wr : World) : Prop := ∃ (i : Nat) (o : List Nd),
  v8 = .int .i64 (i : Int) ∧ i ≤ n ∧ wr.ownsRow base 36 10 (.slice (some ⟨g, 0, none⟩) n c) n (o.flatMap ndc) ∧ o.length = l.length ∧ (∀ j (h : j < l.length) (h' : j < o.length), Alk l[j] o[j]) ∧ (∀ j (h : j < l.length) (h' : j < o.length), i ≤ j → o[j] = l[j]) ∧ Below w.heap.size w wr ∧ wr.heap[w.heap.size]? = some bx

set_option maxRecDepth 100000 in
set_option maxHeartbeats 4000000 in
theorem walk (A : Option Addr) (n c : Nat) (l : List Nd) (A2 : Option Addr) (n2 c2 : Nat) (ts : List (Bool × Int)) (z0 z1 : Nat) (w : World) (h : Ns w w.heap.size A n c l) (hf : ∀ x ∈ l, x.Fits) (h2 : Rs tmc 2 w w.heap.size A2 n2 c2 ts) (hz0 : z0 < 256) (hz1 : z1 < 256) (hsz : ∀ x ∈ l, x.s.length ≤ 9223372036854775806) :
    Calls Try.prog 5 #[.slice A n c, .slice A2 n2 c2, .agg #[.int .u8 (z0 : Int), .int .u8 (z1 : Int)]] w fun e w' => e = .returned (.bool true) ∧ Below w.heap.size w w' := by
  have HL := Lib.hid h.len
  have HL2 := Lib.hid h2.len
  have HF := Lib.hid hf
  have HSZ := Lib.hid hsz
  clear hf hsz
  have hal := (Below.refl w.heap.size w).alloc (Nat.le_refl _) (.cells #[.int .u8 (z0 : Int), .int .u8 (z1 : Int)] 39)
  go_enter Try.func5, Try.ntmps5
  by_cases g0 : n = 0
  · subst g0
    go_wp2_with fail
    refine (alive_any _).mono ?_
    rintro e v1 ⟨rfl, hv⟩
    have hb := hal.trans (hv.mono hal.size)
    go_wp2_with fail
    go_ret
    exact ⟨rfl, hb⟩
  have g0' : ((n : Int) == 0) = false := by simp; omega
  by_cases g1 : 300 < n
  · have g1' : (300 : Int) < (n : Int) := by omega
    go_wp2_with fail
    refine (alive_any _).mono ?_
    rintro e v1 ⟨rfl, hv⟩
    have hb := hal.trans (hv.mono hal.size)
    go_wp2_with fail
    go_ret
    exact ⟨rfl, hb⟩
  have g1' : ¬ (300 : Int) < (n : Int) := by omega
  by_cases g2 : n2 = 0
  · subst g2
    go_wp2_with fail
    refine (alive_any _).mono ?_
    rintro e v1 ⟨rfl, hv⟩
    have hb := hal.trans (hv.mono hal.size)
    go_wp2_with fail
    go_ret
    exact ⟨rfl, hb⟩
  have g2' : ((n2 : Int) == 0) = false := by simp; omega
  have hw0 : w.heap.size < (w.alloc (.cells #[.int .u8 (z0 : Int), .int .u8 (z1 : Int)] 39)).heap.size := by simp
  have HB := Lib.hid (h.at_size (Nat.le_refl _) hal)
  have HTB := Lib.hid h2
  have HB0 := Lib.hid h
  have HAL := Lib.hid hal
  have htop2 := h2.top
  have hcap2 := h2.cap
  unfold maxLen at htop2
  have r1 : ¬ (n2 : Int) = 0 := by omega
  clear h h2 hal
  go_wp2_with (refine wpList_append_nd rfl (.const (.slice none 0 0)) (.tmp 24) rfl (w.heap.size + 1) _ 0 [] rfl (World.ownsRow_nil _ _ _ _) _ A n c l rfl HB.out (by omega) (by simp) ?_; intro A0 k0 c0 u0 HK0 HA0)
  have hk0 : k0 = n := by have := HK0.out; omega
  subst hk0
  have hown := HA0.out.own
  rw [List.nil_append] at hown
  have hbu : Below w.heap.size w u0 := HAL.out.grown HA0.out.grown (Nat.le_of_lt hw0) fun j hj => by cases hj
  have hbe : Below (w.alloc (.cells #[.int .u8 (z0 : Int), .int .u8 (z1 : Int)] 39)).heap.size (w.alloc (.cells #[.int .u8 (z0 : Int), .int .u8 (z1 : Int)] 39)) u0 := (Below.refl _ _).grown HA0.out.grown (Nat.le_refl _) fun j hj => by cases hj
  obtain ⟨g, rfl, hgb, hgl, -, -⟩ := own_node hown (k := 0) (by rw [HL.out]; omega)
  have HBU := Lib.hid hbu
  have HBX0 : Hid (u0.heap[w.heap.size]? = some (.cells #[.int .u8 (z0 : Int), .int .u8 (z1 : Int)] 39)) := Lib.hid ((hbe.block _ hw0).trans (heap_alloc_new w _))
  have hgw : w.heap.size < g := by omega
  have HOWN := Lib.hid hown
  clear hown hbu hbe HA0 HK0 hgb
  go_loopw [8] (fun v8 wr => SmRel l w (.cells #[.int .u8 (z0 : Int), .int .u8 (z1 : Int)] 39) (w.heap.size + 1) g k0 c0 v8 wr) (fun v8 _ => k0 - (intOf v8).toNat)
  case atStart => exact ⟨0, l, rfl, by omega, HOWN.out, rfl, fun j h h' => Alk.refl _, fun j h h' _ => rfl, HBU.out, HBX0.out⟩
  case round =>
    obtain ⟨i, o, rfl, hi, hown, hol, halk, hrest, hb, hbx⟩ := hrel
    by_cases hlt : i < k0
    · have hil : i < l.length := by rw [HL.out]; exact hlt
      have hio : i < o.length := by omega
      have hx : o[i] = l[i] := hrest i hil hio (Nat.le_refl _)
      obtain ⟨g', hg', _, _, hgc, hgf⟩ := own_node hown (k := i) hio
      injection hg' with hg'
      injection hg' with hg'
      subst hg'
      have hj0 : i % n2 < ts.length := by rw [HL2.out]; exact Nat.mod_lt _ (by omega)
      have hTW : Below (w.alloc (.cells #[.int .u8 (z0 : Int), .int .u8 (z1 : Int)] 39)).heap.size (w.alloc (.cells #[.int .u8 (z0 : Int), .int .u8 (z1 : Int)] 39)) wr ∨ True := .inr trivial
      clear hTW
      have hlti : (i : Int) < (k0 : Int) := by omega
      have HM0 : Hid ((i : Int) % (n2 : Int) = ((i % n2 : Nat) : Int)) := Lib.hid (by rw [Int.natCast_emod])
      obtain ⟨b, q, hA2, hbq, t0, t1⟩ := term_at (HTB.out.keep (w' := wr) fun r hr => hb.block r hr) hj0
      subst hA2
      have f4 := hgf (i * 10 + 4)
      have f5 := hgf (i * 10 + 5)
      have d4 := hgc 4 _ rfl
      have d5 := hgc 5 _ rfl
      have d0 : wr.cell? ⟨g, i * 10, none⟩ = some (.int .u8 o[i].k) := hgc 0 _ rfl
      have hmd : i % n2 < n2 := Nat.mod_lt _ (by omega)
      have HOX := Lib.hid hx
      by_cases hk5 : o[i].k = 5
      · have hj1 : (i + 1) % n2 < ts.length := by rw [HL2.out]; exact Nat.mod_lt _ (by omega)
        have hj2 : (i + 2) % n2 < ts.length := by rw [HL2.out]; exact Nat.mod_lt _ (by omega)
        obtain ⟨b', q', hA3, _, t2, t3⟩ := term_at (HTB.out.keep (w' := wr) fun r hr => hb.block r hr) hj1
        obtain ⟨b'', q'', hA4, _, t4, t5⟩ := term_at (HTB.out.keep (w' := wr) fun r hr => hb.block r hr) hj2
        injection hA3 with hA3
        injection hA3 with e1 e2
        subst e1
        subst e2
        injection hA4 with hA4
        injection hA4 with e1 e2
        subst e1
        subst e2
        have f6 := hgf (i * 10 + 6)
        have f7 := hgf (i * 10 + 7)
        have f8 := hgf (i * 10 + 8)
        have f9 := hgf (i * 10 + 9)
        have d6 := hgc 6 _ rfl
        have d7 := hgc 7 _ rfl
        have d8 := hgc 8 _ rfl
        have d9 := hgc 9 _ rfl
        have HM1 : Hid (((i : Int) + 1) % (n2 : Int) = (((i + 1) % n2 : Nat) : Int)) := Lib.hid (by rw [Int.natCast_emod]; rfl)
        have HM2 : Hid (((i : Int) + 2) % (n2 : Int) = (((i + 2) % n2 : Nat) : Int)) := Lib.hid (by rw [Int.natCast_emod]; rfl)
        have hm1 : (i + 1) % n2 < n2 := Nat.mod_lt _ (by omega)
        have hm2 : (i + 2) % n2 < n2 := Nat.mod_lt _ (by omega)
        have HST := Lib.hid (sm_step hol halk hrest hil (y := withF (withL o[i] ts[i % n2]) ts[(i + 1) % n2] ts[(i + 2) % n2]) (by
          have h1 := alk_L o[i] ts[i % n2]
          have h2 := alk_F (withL o[i] ts[i % n2]) ts[(i + 1) % n2] ts[(i + 2) % n2] hk5
          rw [← hx]
          exact ⟨rfl, rfl, rfl, rfl, h1.may.trans h2.may⟩))
        have HW := Lib.hid (own_six hown hio ts[i % n2] ts[(i + 1) % n2] ts[(i + 2) % n2])
        have hbw2 := below_set (below_set hb (j := i * 10 + 4) (Nat.le_of_lt hgw) (.bool ts[i % n2].1)) (j := i * 10 + 5) (Nat.le_of_lt hgw) (.int .u64 ts[i % n2].2)
        have hbw4 := below_set (below_set hbw2 (j := i * 10 + 6) (Nat.le_of_lt hgw) (.bool ts[(i + 1) % n2].1)) (j := i * 10 + 7) (Nat.le_of_lt hgw) (.int .u64 ts[(i + 1) % n2].2)
        have HBW := Lib.hid (below_set (below_set hbw4 (j := i * 10 + 8) (Nat.le_of_lt hgw) (.bool ts[(i + 2) % n2].1)) (j := i * 10 + 9) (Nat.le_of_lt hgw) (.int .u64 ts[(i + 2) % n2].2))
        clear hbw2 hbw4
        rw [hk5] at d0
        generalize ts[i % n2] = t at *
        generalize ts[(i + 1) % n2] = u at *
        generalize ts[(i + 2) % n2] = v at *
        generalize i % n2 = j0 at *
        generalize (i + 1) % n2 = j1 at *
        generalize (i + 2) % n2 = j2 at *
        have HBX := Lib.hid (box_set (box_set (box_set (box_set (box_set (box_set hbx (Nat.ne_of_lt hgw) (j := i * 10 + 4) (.bool t.1)) (Nat.ne_of_lt hgw) (j := i * 10 + 5) (.int .u64 t.2)) (Nat.ne_of_lt hgw) (j := i * 10 + 6) (.bool u.1)) (Nat.ne_of_lt hgw) (j := i * 10 + 7) (.int .u64 u.2)) (Nat.ne_of_lt hgw) (j := i * 10 + 8) (.bool v.1)) (Nat.ne_of_lt hgw) (j := i * 10 + 9) (.int .u64 v.2))
        clear hgc hgf hx halk hrest hk5 hj1 hj2 hbx
        go_wp2_with (first | (rw [HM0.out]) | (rw [HM1.out]) | (rw [HM2.out]))
        exact ⟨⟨i + 1, o.set i (withF (withL o[i] t) u v), by go_num, by omega, HW.out, HST.out.1, HST.out.2.1, HST.out.2.2, HBW.out, HBX.out⟩, by simp [intOf]; omega⟩
      · have hk5' : (o[i].k == 5) = false := by simpa using hk5
        have HST := Lib.hid (sm_step hol halk hrest hil (y := withL o[i] ts[i % n2]) (by rw [← hx]; exact alk_L _ _))
        have HW := Lib.hid (own_two hown hio ts[i % n2])
        have HBW := Lib.hid (below_set (below_set hb (j := i * 10 + 4) (Nat.le_of_lt hgw) (.bool ts[i % n2].1)) (j := i * 10 + 5) (Nat.le_of_lt hgw) (.int .u64 ts[i % n2].2))
        generalize o[i].k = xk at *
        generalize ts[i % n2] = t at *
        generalize i % n2 = j0 at *
        have HBX := Lib.hid (box_set (box_set hbx (Nat.ne_of_lt hgw) (j := i * 10 + 4) (.bool t.1)) (Nat.ne_of_lt hgw) (j := i * 10 + 5) (.int .u64 t.2))
        clear hgc hgf hx halk hrest hbx
        go_wp2_with (rw [HM0.out])
        exact ⟨⟨i + 1, o.set i (withL o[i] t), by go_num, by omega, HW.out, HST.out.1, HST.out.2.1, HST.out.2.2, HBW.out, HBX.out⟩, by simp [intOf]; omega⟩
    · obtain rfl : i = k0 := by omega
      have hsame := same_alk hol.symm halk
      have hchk := check_alk hol.symm halk
      have hO : Ns wr wr.heap.size (some ⟨g, 0, none⟩) i c0 o := Rs.of_own ndc_len (by decide) hown
      have hB := HB0.out.at_size (Nat.le_refl _) hb
      have hfo : ∀ x ∈ o, x.Fits := fun x hx => by
        obtain ⟨j, hj, rfl⟩ := List.mem_iff_getElem.1 hx
        have h1 := halk j (by omega) hj
        have h2 := HF.out _ (List.getElem_mem (show j < l.length by omega))
        exact ⟨by rw [← h1.k]; exact h2.k0, by rw [← h1.k]; exact h2.k1, by rw [← h1.m]; exact h2.m0, by rw [← h1.m]; exact h2.m1, by rw [← h1.n]; exact h2.n0, by rw [← h1.n]; exact h2.n1, by rw [← h1.s]; exact h2.s1⟩
      obtain ⟨r, hr⟩ : ∃ r, r = checkB l := ⟨_, rfl⟩
      rw [← hr] at hchk
      have e0 : ((r : Int) != (r : Int)) = false := by simp
      have q1 := Lib.hid (fun (W : World) (h1 : Ns W W.heap.size A i c l) (h2 : Ns W W.heap.size (some ⟨g, 0, none⟩) i c0 o) => same_lit' A _ i c i c0 l o true W h1 h2 hsame)
      have q2 := Lib.hid (fun (W : World) (h1 : Ns W W.heap.size A i c l) => check_lit A i c l r W h1 HF.out hr.symm)
      have q3 := Lib.hid (fun (W : World) (h1 : Ns W W.heap.size (some ⟨g, 0, none⟩) i c0 o) => check_lit _ i c0 o r W h1 hfo hchk.symm)
      have HOB := Lib.hid hO
      have HBB := Lib.hid hB
      have HOWN2 := Lib.hid hown
      have HALK := Lib.hid halk
      clear hsame hchk hr hO hB hown halk hrest hfo
      go_wp2_with fail
      refine (q1.out _ HBB.out HOB.out).mono ?_
      rintro e v1 ⟨rfl, hv⟩
      have HBB := Lib.hid (HBB.out.at_size (Nat.le_refl _) hv)
      have HOB := Lib.hid (HOB.out.at_size (Nat.le_refl _) hv)
      have hv0 := hv
      clear hv
      go_wp2_with fail
      refine (q2.out _ HBB.out).mono ?_
      rintro e v2 ⟨rfl, hv⟩
      have HBB := Lib.hid (HBB.out.at_size (Nat.le_refl _) hv)
      have HOB := Lib.hid (HOB.out.at_size (Nat.le_refl _) hv)
      have hv0 := hv0.trans (hv.mono hv0.size)
      clear hv
      go_wp2_with fail
      refine (q3.out _ HOB.out).mono ?_
      rintro e v3 ⟨rfl, hv⟩
      have HBB := Lib.hid (HBB.out.at_size (Nat.le_refl _) hv)
      have hv0 := hv0.trans (hv.mono hv0.size)
      have hb3 := hb.trans (hv0.mono hb.size)
      have hown3 := own_same HOWN2.out fun q hq => hv0.block q (HOWN2.out.lt q hq).2
      have hbx3 := (hv0.block _ (lt_blk hbx)).trans hbx
      have bz0 : v3.cell? ⟨w.heap.size, 0, none⟩ = some (.int .u8 (z0 : Int)) := by rw [cell_blk hbx3]; rfl
      have bz1 : v3.cell? ⟨w.heap.size, 1, none⟩ = some (.int .u8 (z1 : Int)) := by rw [cell_blk hbx3]; rfl
      clear hv hv0 hbx hbx3 hb HOB q1 q2 q3
      have hll := HL.out
      have hki : z0 % i < i := Nat.mod_lt _ (by omega)
      have hko : z0 % i < o.length := by rw [hol, HL.out]; exact hki
      have HM9 : Hid ((z0 : Int) % (i : Int) = ((z0 % i : Nat) : Int)) := Lib.hid (by rw [Int.natCast_emod])
      obtain ⟨g', hg', _, _, hgc, hgf⟩ := own_node hown3 (k := z0 % i) hko
      injection hg' with hg'
      injection hg' with hg'
      subst hg'
      have hx := HALK.out (z0 % i) (by rw [HL.out]; exact hki) hko
      generalize z0 % i = k at *
      have s0 : i ≠ 0 := g0
      have s1 : ¬ (i : Int) = 0 := by omega
      have hr4 : z1 % 4 = 0 ∨ z1 % 4 = 1 ∨ z1 % 4 = 2 ∨ z1 % 4 = 3 := by omega
      have hm4 : ((z1 : Int) % 4) = ((z1 % 4 : Nat) : Int) := by omega
      have F0 := hgf (k * 10)
      have D0 : v3.cell? ⟨g, k * 10, none⟩ = some (.int .u8 o[k].k) := hgc 0 _ rfl
      rcases hr4 with hr4 | hr4 | hr4 | hr4 <;> rw [hr4] at hm4
      · go_wp2_with (rw [HM9.out])
        have hO4 : Ns _ _ (some ⟨g, 0, none⟩) i c0 (o.set k { o[k] with k := (o[k].k + 1) % 256 }) := Rs.of_own ndc_len (by decide) (own_set hown3 (k := k) hko (i := 0) (u := (.int .u8 ((o[k].k + 1) % 256))) (by decide) (y := { o[k] with k := (o[k].k + 1) % 256 }) rfl)
        have hb4 : Below w.heap.size w (v3.setCell ⟨g, k * 10 + 0, none⟩ (.int .u8 ((o[k].k + 1) % 256))) := below_set hb3 (Nat.le_of_lt hgw) _
        have hB4 := HB0.out.at_size (Nat.le_refl _) hb4
        have hd1 : sameB l (o.set k { o[k] with k := (o[k].k + 1) % 256 }) = false := same_at (j := k) (by omega) (by simp; omega) (by
          simp only [List.getElem_set_self]
          have h1 := hx.k; have h2 := HF.out _ (List.getElem_mem (show k < l.length by omega)); have h3 := h2.k0; have h4 := h2.k1; simp only [alikeB, Bool.and_eq_false_iff, decide_eq_false_iff_not]; left; omega)
        have hd2 : sameB l (l.drop 1) = false := same_no (by rw [List.length_drop]; omega)
        have Q1 := Lib.hid (fun (W : World) (h1 : Ns W W.heap.size A i c l) (h2 : Ns W W.heap.size (some ⟨g, 0, none⟩) i c0 (o.set k { o[k] with k := (o[k].k + 1) % 256 })) => same_lit' A _ i c i c0 l _ false W h1 h2 hd1)
        obtain ⟨A9, n9, c9, hsl9, hcut9⟩ := rs_slice_l 22 36 Try.underlying22 nd_size HB0.out 1 (by omega)
        have HCUT9 := Lib.hid hcut9
        have HSL9 : Hid (∀ W, (Instr.slice 22 (.slice A i c) (some (.int .i64 1)) none none).run Try.prog W = .ok (.slice A9 n9 c9) W) := Lib.hid hsl9
        have Q2 := Lib.hid (fun (W : World) (h1 : Ns W W.heap.size A i c l) (h2 : Ns W W.heap.size A9 n9 c9 (l.drop 1)) => same_lit' A A9 i c n9 c9 l _ false W h1 h2 hd2)
        clear hd1 hd2 hcut9 hsl9 hgc hgf hx F0 D0
        refine (alive_any _).mono ?_
        rintro e v4 ⟨rfl, hv⟩
        have hO5 := hO4.at_size (Nat.le_refl _) hv
        have hB5 := hB4.at_size (Nat.le_refl _) hv
        have hb5 := hb4.trans (hv.mono hb4.size)
        clear hv hO4 hB4 hb4
        go_wp2_with fail
        refine (Q1.out _ hB5 hO5).mono ?_
        rintro e v5 ⟨rfl, hv⟩
        have hb6 := hb5.trans (hv.mono hb5.size)
        clear hv hO5 hB5 hb5
        have hsl9 := HSL9.out
        go_wp2_with fail
        clear hsl9
        refine (Q2.out _ (HB0.out.at_size (Nat.le_refl _) hb6) (HCUT9.out.at_size (Nat.le_refl _) hb6)).mono ?_
        rintro e v6 ⟨rfl, hv⟩
        have hb7 := hb6.trans (hv.mono hb6.size)
        clear hv
        go_wp2_with fail
        go_ret
        exact ⟨rfl, hb7⟩
      · have D2 : v3.cell? ⟨g, k * 10 + 2, none⟩ = some (.string (str o[k].s)) := hgc 2 _ rfl
        have F2 := hgf (k * 10 + 2)
        have hsz : (str o[k].s).size + 1 ≤ 9223372036854775807 := by
          have h1 := HSZ.out _ (List.getElem_mem (show k < l.length by omega))
          rw [hx.s] at h1
          rw [str_size]
          omega
        have hsz2 : ¬ (9223372036854775807 : Int) < ((str o[k].s).size : Int) + 1 := by omega
        go_wp2_with (rw [HM9.out])
        clear hsz hsz2
        have hO4 : Ns _ _ (some ⟨g, 0, none⟩) i c0 (o.set k { o[k] with s := o[k].s ++ [120] }) := Rs.of_own ndc_len (by decide) (own_set hown3 (k := k) hko (i := 2) (u := (.string (str o[k].s ++ ⟨#[120]⟩))) (by decide) (y := { o[k] with s := o[k].s ++ [120] }) (by simp [ndc, txt, str_x]))
        have hb4 : Below w.heap.size w (v3.setCell ⟨g, k * 10 + 2, none⟩ (.string (str o[k].s ++ ⟨#[120]⟩))) := below_set hb3 (Nat.le_of_lt hgw) _
        have hB4 := HB0.out.at_size (Nat.le_refl _) hb4
        have hd1 : sameB l (o.set k { o[k] with s := o[k].s ++ [120] }) = false := same_at (j := k) (by omega) (by simp; omega) (by
          simp only [List.getElem_set_self]
          have h1 := hx.s; simp only [alikeB, Bool.and_eq_false_iff, decide_eq_false_iff_not]; right; right; left; rw [h1]; exact fun e => by have h9 := congrArg List.length e; simp at h9)
        have hd2 : sameB l (l.drop 1) = false := same_no (by rw [List.length_drop]; omega)
        have Q1 := Lib.hid (fun (W : World) (h1 : Ns W W.heap.size A i c l) (h2 : Ns W W.heap.size (some ⟨g, 0, none⟩) i c0 (o.set k { o[k] with s := o[k].s ++ [120] })) => same_lit' A _ i c i c0 l _ false W h1 h2 hd1)
        obtain ⟨A9, n9, c9, hsl9, hcut9⟩ := rs_slice_l 22 36 Try.underlying22 nd_size HB0.out 1 (by omega)
        have HCUT9 := Lib.hid hcut9
        have HSL9 : Hid (∀ W, (Instr.slice 22 (.slice A i c) (some (.int .i64 1)) none none).run Try.prog W = .ok (.slice A9 n9 c9) W) := Lib.hid hsl9
        have Q2 := Lib.hid (fun (W : World) (h1 : Ns W W.heap.size A i c l) (h2 : Ns W W.heap.size A9 n9 c9 (l.drop 1)) => same_lit' A A9 i c n9 c9 l _ false W h1 h2 hd2)
        clear hd1 hd2 hcut9 hsl9 hgc hgf hx
        refine (alive_any _).mono ?_
        rintro e v4 ⟨rfl, hv⟩
        have hO5 := hO4.at_size (Nat.le_refl _) hv
        have hB5 := hB4.at_size (Nat.le_refl _) hv
        have hb5 := hb4.trans (hv.mono hb4.size)
        clear hv hO4 hB4 hb4
        go_wp2_with fail
        refine (Q1.out _ hB5 hO5).mono ?_
        rintro e v5 ⟨rfl, hv⟩
        have hb6 := hb5.trans (hv.mono hb5.size)
        clear hv hO5 hB5 hb5
        have hsl9 := HSL9.out
        go_wp2_with fail
        clear hsl9
        refine (Q2.out _ (HB0.out.at_size (Nat.le_refl _) hb6) (HCUT9.out.at_size (Nat.le_refl _) hb6)).mono ?_
        rintro e v6 ⟨rfl, hv⟩
        have hb7 := hb6.trans (hv.mono hb6.size)
        clear hv
        go_wp2_with fail
        go_ret
        exact ⟨rfl, hb7⟩
      · have D1 := hgc 1 _ rfl
        have F1 := hgf (k * 10 + 1)
        go_wp2_with (rw [HM9.out])
        have hO4 : Ns _ _ (some ⟨g, 0, none⟩) i c0 (o.set k { o[k] with m := wrap64 (o[k].m + 1) }) := Rs.of_own ndc_len (by decide) (own_set hown3 (k := k) hko (i := 1) (u := (.int .i64 (wrap64 (o[k].m + 1)))) (by decide) (y := { o[k] with m := wrap64 (o[k].m + 1) }) rfl)
        have hb4 : Below w.heap.size w (v3.setCell ⟨g, k * 10 + 1, none⟩ (.int .i64 (wrap64 (o[k].m + 1)))) := below_set hb3 (Nat.le_of_lt hgw) _
        have hB4 := HB0.out.at_size (Nat.le_refl _) hb4
        have hd1 : sameB l (o.set k { o[k] with m := wrap64 (o[k].m + 1) }) = false := same_at (j := k) (by omega) (by simp; omega) (by
          simp only [List.getElem_set_self]
          have h1 := hx.m; have h3 : wrap64 (o[k].m + 1) ≠ o[k].m := (by unfold wrap64; omega); simp only [alikeB, Bool.and_eq_false_iff, decide_eq_false_iff_not]; right; left; rw [h1]; exact fun e => h3 e.symm)
        have hd2 : sameB l (l.drop 1) = false := same_no (by rw [List.length_drop]; omega)
        have Q1 := Lib.hid (fun (W : World) (h1 : Ns W W.heap.size A i c l) (h2 : Ns W W.heap.size (some ⟨g, 0, none⟩) i c0 (o.set k { o[k] with m := wrap64 (o[k].m + 1) })) => same_lit' A _ i c i c0 l _ false W h1 h2 hd1)
        obtain ⟨A9, n9, c9, hsl9, hcut9⟩ := rs_slice_l 22 36 Try.underlying22 nd_size HB0.out 1 (by omega)
        have HCUT9 := Lib.hid hcut9
        have HSL9 : Hid (∀ W, (Instr.slice 22 (.slice A i c) (some (.int .i64 1)) none none).run Try.prog W = .ok (.slice A9 n9 c9) W) := Lib.hid hsl9
        have Q2 := Lib.hid (fun (W : World) (h1 : Ns W W.heap.size A i c l) (h2 : Ns W W.heap.size A9 n9 c9 (l.drop 1)) => same_lit' A A9 i c n9 c9 l _ false W h1 h2 hd2)
        clear hd1 hd2 hcut9 hsl9 hgc hgf hx
        refine (alive_any _).mono ?_
        rintro e v4 ⟨rfl, hv⟩
        have hO5 := hO4.at_size (Nat.le_refl _) hv
        have hB5 := hB4.at_size (Nat.le_refl _) hv
        have hb5 := hb4.trans (hv.mono hb4.size)
        clear hv hO4 hB4 hb4
        go_wp2_with fail
        refine (Q1.out _ hB5 hO5).mono ?_
        rintro e v5 ⟨rfl, hv⟩
        have hb6 := hb5.trans (hv.mono hb5.size)
        clear hv hO5 hB5 hb5
        have hsl9 := HSL9.out
        go_wp2_with fail
        clear hsl9
        refine (Q2.out _ (HB0.out.at_size (Nat.le_refl _) hb6) (HCUT9.out.at_size (Nat.le_refl _) hb6)).mono ?_
        rintro e v6 ⟨rfl, hv⟩
        have hb7 := hb6.trans (hv.mono hb6.size)
        clear hv
        go_wp2_with fail
        go_ret
        exact ⟨rfl, hb7⟩
      · have D3 := hgc 3 _ rfl
        have F3 := hgf (k * 10 + 3)
        go_wp2_with (rw [HM9.out])
        have hO4 : Ns _ _ (some ⟨g, 0, none⟩) i c0 (o.set k { o[k] with n := wrap64 (o[k].n + 1) }) := Rs.of_own ndc_len (by decide) (own_set hown3 (k := k) hko (i := 3) (u := (.int .i64 (wrap64 (o[k].n + 1)))) (by decide) (y := { o[k] with n := wrap64 (o[k].n + 1) }) rfl)
        have hb4 : Below w.heap.size w (v3.setCell ⟨g, k * 10 + 3, none⟩ (.int .i64 (wrap64 (o[k].n + 1)))) := below_set hb3 (Nat.le_of_lt hgw) _
        have hB4 := HB0.out.at_size (Nat.le_refl _) hb4
        have hd1 : sameB l (o.set k { o[k] with n := wrap64 (o[k].n + 1) }) = false := same_at (j := k) (by omega) (by simp; omega) (by
          simp only [List.getElem_set_self]
          have h1 := hx.n; have h3 : wrap64 (o[k].n + 1) ≠ o[k].n := (by unfold wrap64; omega); simp only [alikeB, Bool.and_eq_false_iff, decide_eq_false_iff_not]; right; right; right; rw [h1]; exact fun e => h3 e.symm)
        have hd2 : sameB l (l.drop 1) = false := same_no (by rw [List.length_drop]; omega)
        have Q1 := Lib.hid (fun (W : World) (h1 : Ns W W.heap.size A i c l) (h2 : Ns W W.heap.size (some ⟨g, 0, none⟩) i c0 (o.set k { o[k] with n := wrap64 (o[k].n + 1) })) => same_lit' A _ i c i c0 l _ false W h1 h2 hd1)
        obtain ⟨A9, n9, c9, hsl9, hcut9⟩ := rs_slice_l 22 36 Try.underlying22 nd_size HB0.out 1 (by omega)
        have HCUT9 := Lib.hid hcut9
        have HSL9 : Hid (∀ W, (Instr.slice 22 (.slice A i c) (some (.int .i64 1)) none none).run Try.prog W = .ok (.slice A9 n9 c9) W) := Lib.hid hsl9
        have Q2 := Lib.hid (fun (W : World) (h1 : Ns W W.heap.size A i c l) (h2 : Ns W W.heap.size A9 n9 c9 (l.drop 1)) => same_lit' A A9 i c n9 c9 l _ false W h1 h2 hd2)
        clear hd1 hd2 hcut9 hsl9 hgc hgf hx
        refine (alive_any _).mono ?_
        rintro e v4 ⟨rfl, hv⟩
        have hO5 := hO4.at_size (Nat.le_refl _) hv
        have hB5 := hB4.at_size (Nat.le_refl _) hv
        have hb5 := hb4.trans (hv.mono hb4.size)
        clear hv hO4 hB4 hb4
        go_wp2_with fail
        refine (Q1.out _ hB5 hO5).mono ?_
        rintro e v5 ⟨rfl, hv⟩
        have hb6 := hb5.trans (hv.mono hb5.size)
        clear hv hO5 hB5 hb5
        have hsl9 := HSL9.out
        go_wp2_with fail
        clear hsl9
        refine (Q2.out _ (HB0.out.at_size (Nat.le_refl _) hb6) (HCUT9.out.at_size (Nat.le_refl _) hb6)).mono ?_
        rintro e v6 ⟨rfl, hv⟩
        have hb7 := hb6.trans (hv.mono hb6.size)
        clear hv
        go_wp2_with fail
        go_ret
        exact ⟨rfl, hb7⟩
set_option maxRecDepth 100000 in
theorem lifted (os : Os) (started : os.Started) (H : Type) (enc : TypeId × Value → H) :
    ReturnsInHanded {} Try.checked os 5 .any (Rows.typesSameSpec.pre6 enc Try.prog Try.f5 Rows.typesSameRow.domain false) (Rows.typesSameSpec.post enc Try.prog Try.f5 false true false false) := by
  refine returnsInHanded_of_change_sized (C := Try.checked) own started (by kernel_rfl) Try.func5
    (ChangeSpec.witness6 (enc := enc) (C := Try.checked) false ⟨#[], #[.slice none 0 0, .slice none 0 0, .agg #[.int .u8 0, .int .u8 0]], []⟩ 8 (by kernel_rfl) (by kernel_rfl) (by kernel_rfl) (by kernel_rfl)) ?_
  intro W base args ds gs before hval0 hW hcnd hsz0 _
  have hval : ∀ (j : Nat) t v, Try.f5.params[j]? = some t → args[j]? = some v → Value.okWide Try.prog W .any base t v := hval0
  have hW' := hW
  obtain ⟨p, q, hA0, hV, rfl, hfz, hnd⟩ := hW
  have hA : DataW.TrodAll enc Try.prog W 0 (fun _ => true) true Try.f5.params.toList args.toList ds p := hA0
  have hsz : (DataW.weightsEach Try.prog (Try.f5.params.toList ++ Rows.typesSameSpec.plain.varTypes Try.prog) (ds ++ gs)).all (· ≤ reachBytes) = true := hsz0
  rw [Try.params5] at hA hval hsz
  obtain ⟨v0, vs0, d0, ds0, p0, q0, hargs, rfl, rfl, h0, r0⟩ := trodAll_cons hA
  obtain ⟨v1, vs1, d1, ds1, p1, q1, rfl, rfl, rfl, h1, r1⟩ := trodAll_cons r0
  obtain ⟨v2, vs2, d2, ds2, p2, q2, rfl, rfl, rfl, h2, r2⟩ := trodAll_cons r1
  obtain ⟨rfl, rfl, rfl⟩ := trodAll_nil r2
  obtain rfl : args = #[v0, v1, v2] := by cases args; simp_all
  obtain ⟨rfl, rfl⟩ := trodVars_none hV
  obtain ⟨a0, len0, cap0, rfl⟩ := okWide_slice Try.underlying22 (hval 0 22 v0 rfl rfl)
  have lt0 : ∀ x ∈ p0, x.block < W.heap.size := by obtain ⟨m, hm⟩ := h0; exact DataW.trod_lt m _ _ _ hm
  obtain ⟨l0, hr0, hw0⟩ := opened_nodes_w h0
  obtain ⟨a1, len1, cap1, rfl⟩ := okWide_slice Try.underlying38 (hval 1 38 v1 rfl rfl)
  have lt1 : ∀ x ∈ p1, x.block < W.heap.size := by obtain ⟨m, hm⟩ := h1; exact DataW.trod_lt m _ _ _ hm
  obtain ⟨l1, hr1⟩ := opened_terms h1
  have lt2 : ∀ x ∈ p2, x.block < W.heap.size := by obtain ⟨m, hm⟩ := h2; exact DataW.trod_lt m _ _ _ hm
  obtain ⟨z0, z1, rfl, wz0, wz1⟩ := opened_two Try.underlying39 Try.underlying5 (by kernel_rfl) (by kernel_rfl) h2
  have hname : ∀ x ∈ l0, x.s.length ≤ 9223372036854775806 := fun x hx => by
    have h1 := List.all_eq_true.1 hsz _ (DataW.weights_mem_each (j := 0) (t := 22) (d := d0) rfl rfl _ (hw0 x hx).2)
    have h2 : x.s.length ≤ reachBytes := by simpa using h1
    have h3 := reachBytes_lt
    have h4 : (2 : Nat) ^ 47 = 140737488355328 := by decide
    omega
  clear hA0 hval0
  obtain ⟨y0, rfl, hy0⟩ := u8_nat wz0
  obtain ⟨y1, rfl, hy1⟩ := u8_nat wz1
  refine (walk a0 len0 cap0 l0 a1 len1 cap1 l1 y0 y1 W hr0 (fun x hx => (hw0 x hx).1) hr1 hy0 hy1 hname).mono fun e W' ⟨he, bel⟩ => ?_
  subst he
  exact ⟨_, rfl, _, _, _, [], _, [], hW', trodAll_mk1 (shut_bool Try.underlying4 _), (trodAll_cons_mk (Below.trod laidOut (by kernel_rfl) (of_decide_eq_true (by kernel_rfl)) h0 bel lt0) (trodAll_cons_mk (Below.trod laidOut (by kernel_rfl) (of_decide_eq_true (by kernel_rfl)) h1 bel lt1) (trodAll_cons_mk (Below.trod laidOut (by kernel_rfl) (of_decide_eq_true (by kernel_rfl)) h2 bel lt2) trodAll_mk0))), rfl, bel.frame _, fun h => by cases h⟩

theorem over : Rows.typesSameRow.holds Try.pinned (OpenSpec.ofChange Rows.typesSameSpec) :=
  OpenClaim.holds_of_wide 5 Try.f5 rfl rfl rfl rfl rfl rfl rfl ⟨rfl, rfl, rfl, rfl, rfl⟩ rfl rfl rfl rfl rfl (by kernel_rfl) Try.func5 (by kernel_rfl)
    (of_decide_eq_true (by kernel_rfl)) (by unfold Func.isWrapper; first | (rw [if_pos (by decide +kernel)]; kernel_rfl) | (rw [if_neg (by decide +kernel)]; exact ⟨rfl, rfl⟩))
    (fun os started H enc _ => lifted os started H enc)

theorem proved : Rows.TypesSameSaid := over
#print axioms proved

end Go.Proofs.Ytfcjnbfbnffcjaa.typesSame
