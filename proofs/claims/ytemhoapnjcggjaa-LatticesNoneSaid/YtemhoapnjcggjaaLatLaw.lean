/- A lattice that New made, asked: what its methods tell, in the words of its rows, in every world with the same memory; and three bytes that came in. No condition but sizes. -/
import Derived.Test.YtemhoapnjcggjaaLatAlive
import Derived.Test.YtemhoapnjcggjaaOpen
import Derived.Deep.Slices
namespace Go.Proofs.Ytemhoapnjcggjaa
open Go.ChangeShapes Go.WideShapes Go.ChangeAt Go.RowKit Go.Deep

section
variable {w : World} {g n : Nat} {l : List Nat} (h : LatAt w g n (pad l) (pad (turnedN l))) (hl : l.length = n)
include h hl

omit hl in
theorem l_has (a : Nat) (x : Bool) (hx : decide (a < n) = x) : ∀ W, W.heap = w.heap → Calls Try.prog 12 #[.pointer (some ⟨g, 0, none⟩), .int .u64 (a : Int)] W fun e w' => e = .returned (.bool x) ∧ W = w' :=
  fun W hW => hx ▸ hasL_any g n _ _ a W (h.heap hW)
theorem l_below (a b : Nat) (x : Bool) (ha : a < 18446744073709551616) (hb : b < 18446744073709551616) (hx : belowB l a b = x) : ∀ W, W.heap = w.heap → Calls Try.prog 14 #[.pointer (some ⟨g, 0, none⟩), .int .u64 (a : Int), .int .u64 (b : Int)] W fun e w' => e = .returned (.bool x) ∧ Drawn W w' :=
  fun W hW => hx ▸ (belowL_any g n _ _ a b W (h.heap hW) ha hb).mono fun _ _ ⟨he, hd⟩ => ⟨by rw [he, ← hl, pad_take], hd⟩
theorem l_join (a b x : Nat) (ha : a < 18446744073709551616) (hb : b < 18446744073709551616) (hx : nearN l n a b = x) : ∀ W, W.heap = w.heap → Calls Try.prog 20 #[.pointer (some ⟨g, 0, none⟩), .int .u64 (a : Int), .int .u64 (b : Int)] W fun e w' => e = .returned (.int .u64 (x : Int)) ∧ W = w' :=
  fun W hW => hx ▸ (joinL_any g n _ _ a b W (h.heap hW) ha hb).mono fun _ _ ⟨he, hd⟩ => ⟨by rw [he, nearN_congr fun i hi => pad_getD (by rw [hl]; exact hi)], hd⟩
theorem l_meet (a b x : Nat) (ha : a < 18446744073709551616) (hb : b < 18446744073709551616) (hx : nearN (turnedN l) n a b = x) : ∀ W, W.heap = w.heap → Calls Try.prog 22 #[.pointer (some ⟨g, 0, none⟩), .int .u64 (a : Int), .int .u64 (b : Int)] W fun e w' => e = .returned (.int .u64 (x : Int)) ∧ W = w' :=
  fun W hW => hx ▸ (meetL_any g n _ _ a b W (h.heap hW) ha hb).mono fun _ _ ⟨he, hd⟩ => ⟨by rw [he, nearN_congr fun i hi => pad_getD (by rw [turnedN_len, hl]; exact hi)], hd⟩
theorem l_bottom (x : Nat) (hx : endN l n = x) : ∀ W, W.heap = w.heap → Calls Try.prog 16 #[.pointer (some ⟨g, 0, none⟩)] W fun e w' => e = .returned (.int .u64 (x : Int)) ∧ W = w' :=
  fun W hW => hx ▸ (bottomL_any g n _ _ W (h.heap hW)).mono fun _ _ ⟨he, hd⟩ => ⟨by rw [he, endN_congr fun i hi => pad_getD (by rw [hl]; exact hi)], hd⟩
theorem l_top (x : Nat) (hx : endN (turnedN l) n = x) : ∀ W, W.heap = w.heap → Calls Try.prog 18 #[.pointer (some ⟨g, 0, none⟩)] W fun e w' => e = .returned (.int .u64 (x : Int)) ∧ W = w' :=
  fun W hW => hx ▸ (topL_any g n _ _ W (h.heap hW)).mono fun _ _ ⟨he, hd⟩ => ⟨by rw [he, endN_congr fun i hi => pad_getD (by rw [turnedN_len, hl]; exact hi)], hd⟩
end

/-! ### What the three laws lean on, n labels -/
section
variable {l : List Nat} {n a b c : Nat} (h : LatOK l) (hl : l.length = n)
include h hl

theorem turns_facts (ha : a < n) (hb : b < n) (hc : c < n) : ∃ x1 y1 x2 y2 u v, x1 < n ∧ y1 < n ∧ x2 < n ∧ y2 < n ∧ nearN l n a b = x1 ∧ nearN l n b a = x1 ∧ nearN (turnedN l) n a b = y1 ∧ nearN (turnedN l) n b a = y1 ∧ nearN l n a a = a ∧ nearN (turnedN l) n a a = a ∧
    nearN l n x1 c = u ∧ nearN l n b c = x2 ∧ nearN l n a x2 = u ∧ nearN (turnedN l) n y1 c = v ∧ nearN (turnedN l) n b c = y2 ∧ nearN (turnedN l) n a y2 = v ∧ nearN l n a y1 = a ∧ nearN (turnedN l) n a x1 = a := by
  subst hl
  exact ⟨_, _, _, _, _, _, (join_is h ha hb).lt, (meet_is h ha hb).lt, (join_is h hb hc).lt, (meet_is h hb hc).lt, rfl, (join_comm h ha hb).symm, rfl, (meet_comm h ha hb).symm, join_self h ha, meet_self h ha,
    rfl, rfl, (join_assoc h ha hb hc).symm, rfl, rfl, (meet_assoc h ha hb hc).symm, join_meet h ha hb, meet_join h ha hb⟩

theorem below_facts (ha : a < n) (hb : b < n) : ∃ x y s t r, s < n ∧ t < n ∧ belowB l a b = r ∧ nearN l n a b = x ∧ nearN (turnedN l) n a b = y ∧ ((x : Int) == (b : Int)) = r ∧ ((y : Int) == (a : Int)) = r ∧ endN l n = s ∧ endN (turnedN l) n = t ∧
    belowB l s a = true ∧ belowB l a t = true ∧ nearN l n a s = a ∧ nearN (turnedN l) n a t = a ∧ nearN l n a t = t ∧ nearN (turnedN l) n a s = s := by
  subst hl
  have h64 := h.known.1.2
  have e : ∀ p q : Nat, ((p : Int) == (q : Int)) = (p == q) := fun p q => by
    rw [Bool.eq_iff_iff, beq_iff_eq, beq_iff_eq]
    omega
  have hs := bot_is h
  have ht := top_is h
  refine ⟨_, _, _, _, _, hs.lt, ht.lt, belowB_bt h64 ha hb, rfl, rfl, ?_, ?_, rfl, rfl, ?_, ?_, join_bot h ha, meet_top h ha, join_top h ha, meet_bot h ha⟩
  · rw [e, join_below h ha hb]
  · rw [e, meet_below h ha hb]
  · rw [belowB_bt h64 hs.lt ha]
    exact hs.all a ha
  · rw [belowB_bt h64 ha ht.lt]
    exact ht.all a ha

theorem bounds_facts (ha : a < n) (hb : b < n) (hc : c < n) : ∃ j m r1 r2 s1 s2, j < n ∧ m < n ∧ nearN l n a b = j ∧ nearN (turnedN l) n a b = m ∧ belowB l a j = true ∧ belowB l b j = true ∧ belowB l m a = true ∧ belowB l m b = true ∧
    belowB l a c = r1 ∧ belowB l b c = r2 ∧ belowB l j c = (r1 && r2) ∧ belowB l c a = s1 ∧ belowB l c b = s2 ∧ belowB l c m = (s1 && s2) := by
  subst hl
  have h64 := h.known.1.2
  have hj := join_is h ha hb
  have hm := meet_is h ha hb
  refine ⟨_, _, _, _, _, _, hj.lt, hm.lt, rfl, rfl, ?_, ?_, ?_, ?_, belowB_bt h64 ha hc, belowB_bt h64 hb hc, ?_, belowB_bt h64 hc ha, belowB_bt h64 hc hb, ?_⟩
  · rw [belowB_bt h64 ha hj.lt]
    exact hj.fst
  · rw [belowB_bt h64 hb hj.lt]
    exact hj.snd
  · rw [belowB_bt h64 hm.lt ha]
    exact hm.fst
  · rw [belowB_bt h64 hm.lt hb]
    exact hm.snd
  · rw [belowB_bt h64 hj.lt hc, join_all h ha hb hc]
  · rw [belowB_bt h64 hc hm.lt, meet_all h ha hb hc]
end

/-! ### Two, or three, bytes by value -/
theorem open_two {H : Type} {enc : TypeId × Value → H} {P : Program} {W : World} {e q : TypeId} {k : IntKind} {n : Nat} {cs : List Value} {x : DataW H × List MemPlace}
    (he : P.underlying e = some (.array 2 q)) (hq : P.underlying q = some (.int k)) (hce : P.cellsOf e = 2) (hcq : P.cellsOf q = 1) (h : DataW.trod enc P W 0 (fun _ => true) true n e cs = some x) :
    ∃ a b : Int, cs = [.int k a, .int k b] ∧ (Lit.int k a).wf = true ∧ (Lit.int k b).wf = true := by
  obtain ⟨xs, m, _, _, hlen, hxl, hel⟩ := DataW.trod_array he h
  rw [hce] at hlen
  match cs, hlen with
  | [c0, c1], _ =>
    match xs, hxl with
    | [y0, y1], _ =>
      have h0 := hel 0 (by decide)
      have h1 := hel 1 (by decide)
      rw [hcq] at h0 h1
      have h0 : DataW.trod enc P W 0 (fun _ => true) true m q [c0] = some y0 := h0
      have h1 : DataW.trod enc P W 0 (fun _ => true) true m q [c1] = some y1 := h1
      obtain ⟨a, ha, _, wa⟩ := DataW.trod_int hq h0
      obtain ⟨b, hb, _, wb⟩ := DataW.trod_int hq h1
      injection ha with ha
      injection hb with hb
      exact ⟨a, b, by rw [ha, hb], wa, wb⟩

theorem opened_two {H : Type} {enc : TypeId × Value → H} {P : Program} {W : World} {e q : TypeId} {k : IntKind} {v : Value} {d : DataW H} {p : List MemPlace}
    (he : P.underlying e = some (.array 2 q)) (hq : P.underlying q = some (.int k)) (hce : P.cellsOf e = 2) (hcq : P.cellsOf q = 1) (h : DataW.Trod enc P W 0 (fun _ => true) true e v d p) :
    ∃ a b : Int, v = .agg #[.int k a, .int k b] ∧ (Lit.int k a).wf = true ∧ (Lit.int k b).wf = true := by
  obtain ⟨fuel, hf⟩ := h
  obtain ⟨a, b, hv, wa, wb⟩ := open_two he hq hce hcq hf
  refine ⟨a, b, ?_, wa, wb⟩
  cases v <;> simp [Value.cells] at hv
  rename_i xs
  congr 1
  apply Array.toList_inj.1
  simpa using hv

theorem open_three {H : Type} {enc : TypeId × Value → H} {P : Program} {W : World} {e q : TypeId} {k : IntKind} {n : Nat} {cs : List Value} {x : DataW H × List MemPlace}
    (he : P.underlying e = some (.array 3 q)) (hq : P.underlying q = some (.int k)) (hce : P.cellsOf e = 3) (hcq : P.cellsOf q = 1) (h : DataW.trod enc P W 0 (fun _ => true) true n e cs = some x) :
    ∃ a b c : Int, cs = [.int k a, .int k b, .int k c] ∧ (Lit.int k a).wf = true ∧ (Lit.int k b).wf = true ∧ (Lit.int k c).wf = true := by
  obtain ⟨xs, m, _, _, hlen, hxl, hel⟩ := DataW.trod_array he h
  rw [hce] at hlen
  match cs, hlen with
  | [c0, c1, c2], _ =>
    match xs, hxl with
    | [y0, y1, y2], _ =>
      have h0 := hel 0 (by decide)
      have h1 := hel 1 (by decide)
      have h2 := hel 2 (by decide)
      rw [hcq] at h0 h1 h2
      have h0 : DataW.trod enc P W 0 (fun _ => true) true m q [c0] = some y0 := h0
      have h1 : DataW.trod enc P W 0 (fun _ => true) true m q [c1] = some y1 := h1
      have h2 : DataW.trod enc P W 0 (fun _ => true) true m q [c2] = some y2 := h2
      obtain ⟨a, ha, _, wa⟩ := DataW.trod_int hq h0
      obtain ⟨b, hb, _, wb⟩ := DataW.trod_int hq h1
      obtain ⟨c, hc, _, wc⟩ := DataW.trod_int hq h2
      injection ha with ha
      injection hb with hb
      injection hc with hc
      exact ⟨a, b, c, by rw [ha, hb, hc], wa, wb, wc⟩

theorem opened_three {H : Type} {enc : TypeId × Value → H} {P : Program} {W : World} {e q : TypeId} {k : IntKind} {v : Value} {d : DataW H} {p : List MemPlace}
    (he : P.underlying e = some (.array 3 q)) (hq : P.underlying q = some (.int k)) (hce : P.cellsOf e = 3) (hcq : P.cellsOf q = 1) (h : DataW.Trod enc P W 0 (fun _ => true) true e v d p) :
    ∃ a b c : Int, v = .agg #[.int k a, .int k b, .int k c] ∧ (Lit.int k a).wf = true ∧ (Lit.int k b).wf = true ∧ (Lit.int k c).wf = true := by
  obtain ⟨fuel, hf⟩ := h
  obtain ⟨a, b, c, hv, wa, wb, wc⟩ := open_three he hq hce hcq hf
  refine ⟨a, b, c, ?_, wa, wb, wc⟩
  cases v <;> simp [Value.cells] at hv
  rename_i xs
  congr 1
  apply Array.toList_inj.1
  simpa using hv

theorem u8_nat2 {a : Int} (h : (Lit.int .u8 a).wf = true) : ∃ y : Nat, a = (y : Int) ∧ y < 256 := by
  have := u8_nat h
  exact ⟨a.toNat, by omega, by omega⟩

theorem rem_nat (z n : Nat) : (z : Int) % (n : Int) = ((z % n : Nat) : Int) := by rw [Int.natCast_emod]
end Go.Proofs.Ytemhoapnjcggjaa
