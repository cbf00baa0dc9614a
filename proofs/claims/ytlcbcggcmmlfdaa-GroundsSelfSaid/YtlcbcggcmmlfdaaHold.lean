/- Pairs; Hold; Valued: merged. -/
import Derived.Test.YtlcbcggcmmlfdaaPut
import Derived.Test.YtlcbcggcmmlfdaaOrder
import Derived.Test.YtlcbcggcmmlfdaaRound
import Derived.Shelf.RegionOpen
import Derived.RangeFuncFrom
import Derived.Sort.QuietIn
import Derived.Laws.Cover1
import Derived.RangeFuncNested

/- What grounds.pairs hands out: the spots of both, one of each at a time. Condition: they can be read, and the second ones are as many. -/
namespace Go.Proofs.Ytlcbcggcmmlfdaa
open Go.RowKit Go.Shelf

attribute [local go_sem] Oper.semAt_some

theorem pairs_in (F : Fence) (n : Nat) (h50 : F.fn 50) (hro : F.round = none) (A A2 : Option Addr) (m c m2 c2 : Nat) (w : World) :
    CallsIn F n Try.prog 50 #[.slice A m c, .slice A2 m2 c2] w fun e w' => e = .returned (.func (.func 70) #[] #[.pointer (some ⟨w.heap.size, 0, none⟩), .pointer (some ⟨w.heap.size + 1, 0, none⟩)]) ∧ w' = (w.alloc (.cells #[.slice A m c] 49)).alloc (.cells #[.slice A2 m2 c2] 49) := by
  refine callsIn_of_wp Try.func50 rfl h50 ?_ hro
  simp only [Try.ntmps50, List.size_toArray, List.length_cons, List.length_nil, Nat.reduceAdd, Nat.reduceSub, Array.replicate_succ, Array.replicate_zero, List.push_toArray, List.append_toArray, List.nil_append, List.cons_append]
  gi_wp2
  go_ret
  exact ⟨rfl, rfl⟩

/-- One of each. -/
def spv2 (ls ms : List Sp) (h : ls.length ≤ ms.length) (i : Fin ls.length) : Array Value := #[spv ls[i.val], spv (ms[i.val]'(Nat.lt_of_lt_of_le i.isLt h))]

/-- Old memory is kept, and the block b. -/
structure KeepAt (n₀ b : Nat) (W W' : World) : Prop where
  bel : Below n₀ W W'
  blk : W'.heap[b]? = W.heap[b]?

theorem keepAt_t {n₀ b : Nat} {A B C : World} (h : KeepAt n₀ b A B) (k : KeepAt n₀ b B C) : KeepAt n₀ b A C := ⟨h.bel.trans k.bel, k.blk.trans h.blk⟩
theorem keepAt_b {n₀ b : Nat} {w : World} (hn : n₀ ≤ w.heap.size) (hb : b < w.heap.size) (W : World) (l : Nat) (o o' : Obj) (hl : w.heap.size ≤ l) (h : W.heap[l]? = some o) (h1 : o.isCells = false) (h2 : o.isWalk = false) : KeepAt n₀ b W (W.putObj l o') :=
  ⟨belowK_b hn W l o o' hl h h1 h2, World.putObj_heap_other (by omega)⟩
theorem KeepAt.cell {n₀ b o : Nat} {W W' : World} (h : KeepAt n₀ b W W') {v : Value} (hc : W.cell? ⟨b, o, none⟩ = some v) : W'.cell? ⟨b, o, none⟩ = some v :=
  (World.cell?_of_block (w := W) (w' := W') (a := ⟨b, o, none⟩) h.blk).trans hc

/-- k pairs have come. -/
def PrRel (ls ms : List Sp) (B : Nat) (A A2 : Option Addr) (m c m2 c2 Bn : Nat) (J : List (Fin ls.length) → World → Prop) (i8 : Value) (wr : World) : Prop :=
  ∃ k : Nat, i8 = .int .i64 (k : Int) ∧ k ≤ ls.length ∧ Rs spc 5 wr B A m c ls ∧ Rs spc 5 wr B A2 m2 c2 ms ∧ wr.cell? ⟨Bn, 0, none⟩ = some (.slice A2 m2 c2) ∧ B ≤ wr.heap.size ∧ J ((List.finRange ls.length).take k) wr

set_option maxRecDepth 100000 in
set_option maxHeartbeats 2000000 in
theorem pairs1_in (n : Nat) (hn : 1 ≤ n) (l Ba Bn n₀ : Nat) (A A2 : Option Addr) (m c m2 c2 : Nat) (ls ms : List Sp) (hlen : ls.length ≤ ms.length) (J Jx : List (Fin ls.length) → World → Prop) (W : World) (hJ : AbidesFrom W.heap.size J)
    (hY : ∀ pre (x : Fin ls.length) W, J pre W → pre.length < (List.finRange ls.length).length → YieldAt Fence.wide (n - 1) Try.prog l (spv2 ls ms hlen x) W fun e W' =>
      (e = .returned (.bool true) ∧ J (pre ++ [x]) W' ∧ KeepAt n₀ Bn W W') ∨ (e = .returned (.bool false) ∧ Jx (pre ++ [x]) W'))
    (hca : W.cell? ⟨Ba, 0, none⟩ = some (.slice A m c)) (hcn : W.cell? ⟨Bn, 0, none⟩ = some (.slice A2 m2 c2)) (hL : Rs spc 5 W n₀ A m c ls) (hM : Rs spc 5 W n₀ A2 m2 c2 ms) (hB : n₀ ≤ W.heap.size) (h0 : J [] W) :
    CallsIn Fence.wide n Try.prog 70 #[.func (.yield l) #[] #[], .pointer (some ⟨Ba, 0, none⟩), .pointer (some ⟨Bn, 0, none⟩)] W fun e W' => (∃ v, e = .returned v) ∧
      ((∃ ys, ys = List.finRange ls.length ∧ J ys W') ∨ (∃ pre, pre <+: List.finRange ls.length ∧ Jx pre W')) := by
  have HL := Lib.hid hL.len
  have HM := Lib.hid hM.len
  have HJ := Lib.hid hJ
  have HY := Lib.hid hY
  have HZ := Lib.hid (show (List.finRange ls.length).length = m by rw [List.length_finRange, HL.out])
  have hmm : m ≤ m2 := by rw [← HL.out, ← HM.out]; exact hlen
  have htop := hL.top
  have hcap := hL.cap
  unfold maxLen at htop
  have H0 := Lib.hid (show PrRel ls ms n₀ A A2 m c m2 c2 Bn J (.int .i64 0) W from ⟨0, rfl, Nat.zero_le _, hL, hM, hcn, hB, h0⟩)
  clear hJ hY hL hM h0 hcn hB
  refine callsIn_of_wp Try.func70 rfl trivial ?_ rfl
  simp only [Try.ntmps70, List.size_toArray, List.length_cons, List.length_nil, Nat.reduceAdd, Nat.reduceSub, Array.replicate_succ, Array.replicate_zero, List.push_toArray, List.append_toArray, List.nil_append, List.cons_append]
  gi_wp2
  gi_loopw [8] (fun i8 wr => PrRel ls ms n₀ A A2 m c m2 c2 Bn J i8 wr) (fun i8 _ => m - (intOf i8).toNat)
  case atStart => exact H0.out
  case round =>
    clear H0 hca
    obtain ⟨k, rfl, hk, hr, hr2, hcn', hsz, hJs⟩ := hrel
    by_cases hlt : k < m
    · have hk' : k < ls.length := by rw [HL.out]; exact hlt
      have hk2 : k < ms.length := by rw [HM.out]; omega
      obtain ⟨b, o, rfl, hbb, e0, e1, e2, e3, e4⟩ := spot_at hr hk'
      obtain ⟨b2, o2, rfl, hbb2, g0, g1, g2, g3, g4⟩ := spot_at hr2 hk2
      have HS := Lib.hid (fin_take hk')
      have hx1 : spv2 ls ms hlen ⟨k, hk'⟩ = #[spv ls[k], spv ms[k]] := rfl
      unfold spv at hx1
      generalize ls[k] = x at *
      generalize ms[k] = y at *
      obtain ⟨xn, xp, xs, xv, xz⟩ := x
      obtain ⟨yn, yp, ys, yv, yz⟩ := y
      simp only at e0 e1 e2 e3 e4 g0 g1 g2 g3 g4 hx1
      obtain ⟨xcs, hxcs⟩ : ∃ xcs : Array Value, xcs = #[.int .i64 (xn : Int), .int .u8 (xp : Int), .int .u8 (xs : Int), .bool xv, .int .u64 xz] := ⟨_, rfl⟩
      have hal : Below wr.heap.size wr (wr.alloc (.cells xcs 58)) := (Below.refl _ _).alloc (Nat.le_refl _) _
      have hJa := HJ.out _ _ _ none hJs ((World.grownBy_alloc wr (.cells xcs 58) none)) (fun r e => by cases e)
      have hJd := HJ.out _ _ (wr.alloc (.cells xcs 58)).drew none hJa ⟨rfl, rfl, rfl, Nat.le_refl _, fun _ _ _ => rfl⟩ (fun r e => by cases e)
      obtain ⟨fn, tmps, assign, body, hy, hR⟩ := HY.out _ ⟨k, hk'⟩ _ hJd (by rw [List.length_take, HZ.out]; omega)
      rw [hx1] at hy
      have hltm : (k : Int) < (m : Int) := by omega
      have hltm2 : (k : Int) < (m2 : Int) := by omega
      have hmx : Try.prog.follows .mixedOrders = true := by kernel_rfl
      have hR' := hR.mono (R' := fun e W' => ∃ bv : Bool, e = .returned (.bool bv) ∧ Hid ((bv = true → J ((List.finRange ls.length).take (k + 1)) W' ∧ KeepAt n₀ Bn (wr.alloc (.cells xcs 58)).drew W') ∧ (bv = false → Jx ((List.finRange ls.length).take (k + 1)) W'))) (by
        rintro e W' (⟨rfl, h1, h2⟩ | ⟨rfl, h1⟩)
        · exact ⟨true, rfl, fun _ => ⟨by rw [HS.out]; exact h1, h2⟩, fun h => by cases h⟩
        · exact ⟨false, rfl, (fun h => by cases h), fun _ => by rw [HS.out]; exact h1⟩)
      have HR1 := Lib.hid (hr.below ((hal.mono hsz)))
      have HR2 := Lib.hid (hr2.below ((hal.mono hsz)))
      have HCN := Lib.hid ((hal.cell (p := ⟨Bn, 0, none⟩) (World.block_lt_of_cell? wr ⟨Bn, 0, none⟩ hcn')).trans hcn')
      have HSZ := Lib.hid (Nat.le_trans hsz hal.size)
      have hcn2 := HCN.out
      have q0 := (hal.cell (p := ⟨b2, o2 + k * 5, none⟩) (World.block_lt_of_cell? wr _ g0)).trans g0
      have q1 := (hal.cell (p := ⟨b2, o2 + k * 5 + 1, none⟩) (World.block_lt_of_cell? wr _ g1)).trans g1
      have q2 := (hal.cell (p := ⟨b2, o2 + k * 5 + 2, none⟩) (World.block_lt_of_cell? wr _ g2)).trans g2
      have q3 := (hal.cell (p := ⟨b2, o2 + k * 5 + 3, none⟩) (World.block_lt_of_cell? wr _ g3)).trans g3
      have q4 := (hal.cell (p := ⟨b2, o2 + k * 5 + 4, none⟩) (World.block_lt_of_cell? wr _ g4)).trans g4
      clear hR hJs hJa hJd hr hr2 hsz hal
      subst hxcs
      gi_wp2
      gi_region_with_o (refine hR'.mono ?_; rintro e W3 ⟨bv, rfl, HB⟩)
      all_goals (
        clear hR' hy
        cases bv with
        | false =>
          have hJ3 := HB.out.2 rfl
          clear HB
          gi_wp2
          refine bodyPost_ret (results_none rfl _ _ _) rfl ?_
          exact ⟨⟨_, rfl⟩, .inr ⟨_, List.take_prefix _ _, hJ3⟩⟩
        | true =>
          obtain ⟨hJ3, hk3⟩ := HB.out.1 rfl
          clear HB
          gi_wp2
          go_roundw
          case rel => exact ⟨k + 1, by go_num, by omega, (HR1.out.below ((Below.refl _ _).drew.trans hk3.bel)), (HR2.out.below ((Below.refl _ _).drew.trans hk3.bel)), hk3.cell HCN.out, Nat.le_trans HSZ.out hk3.bel.size, hJ3⟩
          case measure => simp [intOf]; omega)
    · gi_wp2
      go_end0
      exact ⟨⟨_, rfl⟩, .inl ⟨_, by rw [List.take_of_length_le (by rw [HZ.out]; omega)], hJs⟩⟩

theorem pairs_stops (n : Nat) (hn : 1 ≤ n) (Ba Bn n₀ : Nat) (A A2 : Option Addr) (m c m2 c2 : Nat) (ls ms : List Sp) (hlen : ls.length ≤ ms.length) (w : World) (hn₀ : n₀ ≤ w.heap.size)
    (hca : w.cell? ⟨Ba, 0, none⟩ = some (.slice A m c)) (hcn : w.cell? ⟨Bn, 0, none⟩ = some (.slice A2 m2 c2)) (hL : Rs spc 5 w n₀ A m c ls) (hM : Rs spc 5 w n₀ A2 m2 c2 ms) :
    SeqStopsK Fence.wide n Try.prog 70 #[.pointer (some ⟨Ba, 0, none⟩), .pointer (some ⟨Bn, 0, none⟩)] (spv2 ls ms hlen) (KeepAt n₀ Bn) (fun ys => ys = List.finRange ls.length) (fun pre => pre <+: List.finRange ls.length) (List.finRange ls.length).length w := fun l J Jx W hW hJ _ hY h0 =>
  pairs1_in n hn l Ba Bn n₀ A A2 m c m2 c2 ls ms hlen J Jx W hJ hY ((hW.cell (p := ⟨Ba, 0, none⟩) (World.block_lt_of_cell? w ⟨Ba, 0, none⟩ hca)).trans hca) ((hW.cell (p := ⟨Bn, 0, none⟩) (World.block_lt_of_cell? w ⟨Bn, 0, none⟩ hcn)).trans hcn) (hL.below (hW.mono hn₀)) (hM.below (hW.mono hn₀)) (Nat.le_trans hn₀ hW.size) h0

end Go.Proofs.Ytlcbcggcmmlfdaa

/- What grounds.must and grounds.hold tell. Condition: the spots can be read, the second ones are as many, and what is asked of two values is answered. -/
namespace Go.Proofs.Ytlcbcggcmmlfdaa
open Go.RowKit Go.Shelf

attribute [local go_sem] Oper.semAt_some

/-- What must hold of two values, by the side. -/
def mustB (s : Nat) (R : Nat → Nat → Bool) (a b : Nat) : Bool := if s = 0 then R a b else if s = 1 then R b a else decide (a = b)
/-- It holds at all pairs of spots. -/
def pairB (R : Nat → Nat → Bool) (x : Sp × Sp) : Bool := mustB x.1.s R x.1.z.toNat x.2.z.toNat
def holdB (ls ms : List Sp) (R : Nat → Nat → Bool) : Bool := (ls.zip ms).all (pairB R)

/-- A function value that tells R of any two values, in every world behind w. -/
def Tells (w : World) (v : Value) (R : Nat → Nat → Bool) : Prop := ∃ F p, (F = 23 ∨ F = 29) ∧ v = .func (.func F) #[.pointer p] #[] ∧ ∀ W, Below w.heap.size w W → ∀ x y : Nat, x < 18446744073709551616 → y < 18446744073709551616 →
  Calls Try.prog F #[.pointer p, .int .u64 (x : Int), .int .u64 (y : Int)] W fun e w' => e = .returned (.bool (R x y)) ∧ Below W.heap.size W w'

set_option maxRecDepth 100000 in
theorem must_any (s F : Nat) (bound : Array Value) (w : World) :
    Calls Try.prog 51 #[.int .u8 (s : Int), .func (.func F) bound #[]] w fun e w' => e = .returned (if s = 0 then .func (.func F) bound #[] else if s = 1 then .func (.func 71) #[] #[.pointer (some ⟨w.heap.size, 0, none⟩)] else .func (.func 72) #[] #[]) ∧ w' = w.alloc (.cells #[.func (.func F) bound #[]] 101) := by
  by_cases h0 : s = 0
  · subst h0
    go_enter Try.func51, Try.ntmps51
    go_wp2
    go_ret
    exact ⟨rfl, rfl⟩
  by_cases h1 : s = 1
  · subst h1
    go_enter Try.func51, Try.ntmps51
    go_wp2
    go_ret
    exact ⟨rfl, rfl⟩
  rw [if_neg h0, if_neg h1]
  have e0 : ((s : Int) == 0) = false := by simp; omega
  have e1 : ((s : Int) == 1) = false := by simp; omega
  clear h0 h1
  go_enter Try.func51, Try.ntmps51
  go_wp2
  go_ret
  exact ⟨rfl, rfl⟩

theorem eq_any (x y : Nat) (w : World) : Calls Try.prog 72 #[.int .u64 (x : Int), .int .u64 (y : Int)] w fun e w' => e = .returned (.bool (decide (x = y))) ∧ w = w' := by
  by_cases h : x = y
  · subst h
    have e0 : ((x : Int) == (x : Int)) = true := by simp
    rw [decide_eq_true rfl]
    go_enter Try.func72, Try.ntmps72
    go_wp2
    go_ret
    exact ⟨rfl, rfl⟩
  · have e0 : ((x : Int) == (y : Int)) = false := by simp; omega
    rw [decide_eq_false h]
    clear h
    go_enter Try.func72, Try.ntmps72
    go_wp2
    go_ret
    exact ⟨rfl, rfl⟩


set_option maxRecDepth 100000 in
/-- What a side's closure tells. -/
theorem must_tells {w : World} {rv : Value} {R : Nat → Nat → Bool} (h : Tells w rv R) (s B : Nat) (W : World) (hW : Below w.heap.size w W) (hB : W.cell? ⟨B, 0, none⟩ = some rv) :
    ∀ x y : Nat, x < 18446744073709551616 → y < 18446744073709551616 → ∃ F bound cp, (if s = 0 then rv else if s = 1 then Value.func (.func 71) #[] #[.pointer (some ⟨B, 0, none⟩)] else .func (.func 72) #[] #[]) = .func (.func F) bound cp ∧
      Calls Try.prog F (bound ++ #[.int .u64 (x : Int), .int .u64 (y : Int)] ++ cp) W fun e w' => e = .returned (.bool (mustB s R x y)) ∧ Below W.heap.size W w' := by
  intro x y hx hy
  obtain ⟨F, p, hF2, rfl, hF⟩ := h
  unfold mustB
  by_cases h0 : s = 0
  · rw [if_pos h0, if_pos h0]
    exact ⟨F, #[.pointer p], #[], rfl, hF W hW x y hx hy⟩
  by_cases h1 : s = 1
  · rw [if_neg h0, if_pos h1, if_neg h0, if_pos h1]
    refine ⟨71, #[], _, rfl, ?_⟩
    have HF := Lib.hid (hF W hW y x hy hx)
    clear h0 h1 hF
    generalize R y x = r at *
    show Calls Try.prog 71 #[.int .u64 (x : Int), .int .u64 (y : Int), .pointer (some ⟨B, 0, none⟩)] W _
    rcases hF2 with rfl | rfl
    all_goals (
      go_enter Try.func71, Try.ntmps71
      go_wp2_with fail
      refine HF.out.mono ?_
      rintro e w1 ⟨rfl, hb⟩
      go_wp2_with fail
      go_ret
      exact ⟨rfl, hb⟩)
  · rw [if_neg h0, if_neg h1, if_neg h0, if_neg h1]
    exact ⟨72, #[], #[], rfl, (eq_any x y W).mono fun e w' ⟨he, hw⟩ => ⟨he, hw ▸ Below.refl _ _⟩⟩

theorem holdB_yes {ls ms : List Sp} {R : Nat → Nat → Bool} (hl : ls.length ≤ ms.length) (h : ∀ i ∈ List.finRange ls.length, pairB R (ls[i.val], ms[i.val]'(Nat.lt_of_lt_of_le i.isLt hl)) = true) : holdB ls ms R = true := by
  refine List.all_eq_true.2 fun x hx => ?_
  obtain ⟨k, hk, e⟩ := List.mem_iff_getElem.1 hx
  rw [List.length_zip] at hk
  rw [List.getElem_zip] at e
  subst e
  exact h ⟨k, by omega⟩ (List.mem_finRange _)
theorem holdB_no {ls ms : List Sp} {R : Nat → Nat → Bool} (hl : ls.length ≤ ms.length) (i : Fin ls.length) (h : pairB R (ls[i.val], ms[i.val]'(Nat.lt_of_lt_of_le i.isLt hl)) = false) : holdB ls ms R = false := by
  have hz : i.val < (ls.zip ms).length := by rw [List.length_zip]; have := i.isLt; omega
  have hm : (ls[i.val], ms[i.val]'(Nat.lt_of_lt_of_le i.isLt hl)) ∈ ls.zip ms := List.mem_iff_getElem.2 ⟨i.val, hz, List.getElem_zip⟩
  refine Bool.eq_false_iff.2 fun e => ?_
  have := List.all_eq_true.1 e _ hm
  rw [h] at this
  cases this

/-- Where the round's two variables lie. -/
def HoAx (ls ms : List Sp) (hl : ls.length ≤ ms.length) (A A2 : Option Addr) (m c m2 c2 F : Nat) (p : Option Addr) (n : Nat) (i : Fin ls.length) (a' : Act) (W : World) : Prop :=
  ∃ b1 b2, a' = { tmps := #[.slice A m c, .slice A2 m2 c2, .func (.func F) #[.pointer p] #[], undef, undef, .pointer (some ⟨n, 0, none⟩), .pointer (some ⟨n + 1, 0, none⟩), .pointer (some ⟨b1, 0, none⟩), .pointer (some ⟨b2, 0, none⟩), undef, .slice A m c, .slice A2 m2 c2, .func (.func 70) #[] #[.pointer (some ⟨n + 1 + 1, 0, none⟩), .pointer (some ⟨n + 1 + 1 + 1, 0, none⟩)], spv ls[i.val], spv (ms[i.val]'(Nat.lt_of_lt_of_le i.isLt hl)), undef, undef, undef, undef, undef, undef, undef, undef, undef, undef, undef, undef, undef], defers := [] } ∧
    W.heap[b1]? = some (.cells (spc ls[i.val]).toArray 58 (0, 0)) ∧ W.heap[b2]? = some (.cells (spc (ms[i.val]'(Nat.lt_of_lt_of_le i.isLt hl))).toArray 58 (0, 0))

theorem ownFrom_size {β : Type} (B k : Nat) : OwnFrom B (fun (_ : β) W => k < W.heap.size) := fun _ _ _ _ hs hg _ => Nat.lt_of_lt_of_le hs hg.size
theorem cells_kept {W W' : World} {row : Option Nat} {b : Nat} {cs : Array Value} {t : TypeId} (h : W.heap[b]? = some (.cells cs t (0, 0))) (hg : W.grownBy W' row) {B : Nat} (hr : ∀ r, row = some r → B ≤ r ∧ ∃ o : Obj, W.heap[r]? = some o ∧ o.isCells = false) : W'.heap[b]? = some (.cells cs t (0, 0)) :=
  (hg.block b (lt_blk h) fun e => by
    obtain ⟨_, o, ho, hc⟩ := hr b e.symm
    rw [h] at ho
    cases ho
    cases hc).trans h
theorem below_keeps {W W' : World} {B : Nat} (h : Below W.heap.size W W') : KeepsFrom B W W' := ⟨h.size, fun k _ _ hk _ => (h.block k (lt_blk hk)).trans hk⟩

set_option maxRecDepth 100000 in
set_option maxHeartbeats 4000000 in
theorem hold_wide (A A2 : Option Addr) (m c m2 c2 : Nat) (ls ms : List Sp) (rv : Value) (R : Nat → Nat → Bool) (w : World) (hl : ls.length ≤ ms.length) (hR : Tells w rv R) (h1 : Rs spc 5 w w.heap.size A m c ls) (h2 : Rs spc 5 w w.heap.size A2 m2 c2 ms) (hz : ∀ p ∈ ls, U64 p.z) (hz2 : ∀ p ∈ ms, U64 p.z) :
    CallsIn Fence.wide 6 Try.prog 28 #[.slice A m c, .slice A2 m2 c2, rv] w fun e w' => e = .returned (.bool (holdB ls ms R)) ∧ Below w.heap.size w w' := by
  have HT := Lib.hid (fun (s B : Nat) (W : World) (hW : Below w.heap.size w W) (hB : W.cell? ⟨B, 0, none⟩ = some rv) (x y : Nat) (hx : x < 18446744073709551616) (hy : y < 18446744073709551616) => must_tells hR s B W hW hB x y hx hy)
  obtain ⟨F, p, hF, rfl, -⟩ := hR
  have hro : Fence.wide.round = none := rfl
  refine callsIn_of_wp_marks Try.func28 rfl trivial ?_ hro
  simp only [Try.ntmps28, List.size_toArray, List.length_cons, List.length_nil, Nat.reduceAdd, Nat.reduceSub, Array.replicate_succ, Array.replicate_zero, List.push_toArray, List.append_toArray, List.nil_append, List.cons_append]
  gi_wp2_with fail
  refine ⟨trivial, (pairs_in Fence.wide _ trivial rfl A A2 m c m2 c2 _).mono ?_⟩
  rintro e w2 ⟨rfl, rfl⟩
  gi_wp2_with fail
  have k4 : Below w.heap.size w ((((w.alloc (.cells #[.func (.func F) #[.pointer p] #[]] 101)).alloc (.cells #[.bool false] 4)).alloc (.cells #[.slice A m c] 49)).alloc (.cells #[.slice A2 m2 c2] 49)) := ((((Below.refl _ w).alloc (Nat.le_refl _) _).alloc (by simp) _).alloc (by simp; omega) _).alloc (by simp; omega) _
  have c5 : Boxed ((((w.alloc (.cells #[.func (.func F) #[.pointer p] #[]] 101)).alloc (.cells #[.bool false] 4)).alloc (.cells #[.slice A m c] 49)).alloc (.cells #[.slice A2 m2 c2] 49)) w.heap.size 101 (.func (.func F) #[.pointer p] #[]) := (((Boxed.new w 101 (.func (.func F) #[.pointer p] #[])).alloc _).alloc _).alloc _
  have c6 : Boxed ((((w.alloc (.cells #[.func (.func F) #[.pointer p] #[]] 101)).alloc (.cells #[.bool false] 4)).alloc (.cells #[.slice A m c] 49)).alloc (.cells #[.slice A2 m2 c2] 49)) (w.heap.size + 1) 4 (.bool false) := by
    have := ((Boxed.new (w.alloc (.cells #[.func (.func F) #[.pointer p] #[]] 101)) 4 (.bool false)).alloc (.cells #[.slice A m c] 49)).alloc (.cells #[.slice A2 m2 c2] 49)
    simpa using this
  have c7 : Boxed ((((w.alloc (.cells #[.func (.func F) #[.pointer p] #[]] 101)).alloc (.cells #[.bool false] 4)).alloc (.cells #[.slice A m c] 49)).alloc (.cells #[.slice A2 m2 c2] 49)) (w.heap.size + 1 + 1) 49 (.slice A m c) := by
    have := (Boxed.new ((w.alloc (.cells #[.func (.func F) #[.pointer p] #[]] 101)).alloc (.cells #[.bool false] 4)) 49 (.slice A m c)).alloc (.cells #[.slice A2 m2 c2] 49)
    simpa using this
  have c8 : Boxed ((((w.alloc (.cells #[.func (.func F) #[.pointer p] #[]] 101)).alloc (.cells #[.bool false] 4)).alloc (.cells #[.slice A m c] 49)).alloc (.cells #[.slice A2 m2 c2] 49)) (w.heap.size + 1 + 1 + 1) 49 (.slice A2 m2 c2) := by
    have := Boxed.new (((w.alloc (.cells #[.func (.func F) #[.pointer p] #[]] 101)).alloc (.cells #[.bool false] 4)).alloc (.cells #[.slice A m c] 49)) 49 (.slice A2 m2 c2)
    simpa using this
  have hsz : ((((w.alloc (.cells #[.func (.func F) #[.pointer p] #[]] 101)).alloc (.cells #[.bool false] 4)).alloc (.cells #[.slice A m c] 49)).alloc (.cells #[.slice A2 m2 c2] 49)).heap.size = w.heap.size + 1 + 1 + 1 + 1 := by simp
  generalize ((((w.alloc (.cells #[.func (.func F) #[.pointer p] #[]] 101)).alloc (.cells #[.bool false] 4)).alloc (.cells #[.slice A m c] 49)).alloc (.cells #[.slice A2 m2 c2] 49)) = w5 at *
  refine wpIn_rangeFunc_ownH hro (by decide) (gf := 70) (lb := #[.pointer (some ⟨w.heap.size + 1 + 1, 0, none⟩), .pointer (some ⟨w.heap.size + 1 + 1 + 1, 0, none⟩)]) rfl trivial (enters_of Try.func70 (by kernel_rfl) rfl)
    (pairs_stops (6 - 1) (by decide) (w.heap.size + 1 + 1) (w.heap.size + 1 + 1 + 1) w.heap.size A A2 m c m2 c2 ls ms hl w5 (by omega) c7.cell c8.cell (h1.below k4) (h2.below k4)) keepAt_t (keepAt_b (by omega) (by omega)) (Below.refl _ _) (fun _ => by rfl)
    (fun pre W => ((Boxed W w.heap.size 101 (.func (.func F) #[.pointer p] #[]) ∧ Boxed W (w.heap.size + 1) 4 (.bool false)) ∧ (Below w.heap.size w W ∧ w.heap.size + 1 + 1 + 1 < W.heap.size)) ∧ ∀ i ∈ pre, pairB R (ls[i.val], ms[i.val]'(Nat.lt_of_lt_of_le i.isLt hl)) = true)
    (fun c pre W => (Boxed W (w.heap.size + 1) 4 (.bool false) ∧ Below w.heap.size w W) ∧ c = .ret ∧ ∃ (q : List (Fin ls.length)) (i : Fin ls.length), pre = q ++ [i] ∧ pairB R (ls[i.val], ms[i.val]'(Nat.lt_of_lt_of_le i.isLt hl)) = false)
    (OwnFrom.and (OwnFrom.and (OwnFrom.and (Own.from (boxed_own _ _ _) _) (Own.from (boxed_own _ _ _) _)) (OwnFrom.and (ownFrom_below (Nat.le_refl _) (by omega)) (ownFrom_size _ _))) (fun _ _ _ _ hs _ _ => hs))
    (fun _ => OwnFrom.and (OwnFrom.and (Own.from (boxed_own _ _ _) _) (ownFrom_below (Nat.le_refl _) (by omega))) (fun _ _ _ _ hs _ _ => hs))
    ⟨⟨⟨c5, c6⟩, k4, by omega⟩, by simp⟩
    (HoAx ls ms hl A A2 m c m2 c2 F p w.heap.size) (fun x a' _ W W' row hs hg hr => by
      obtain ⟨b1, b2, e, g1, g2⟩ := hs
      exact ⟨b1, b2, e, cells_kept g1 hg hr, cells_kept g2 hg hr⟩) ?assign ?body ?done ?stop
  case assign =>
    intro l pre x W K hI hK
    have hx1 : spv2 ls ms hl x = #[spv ls[x.val], spv (ms[x.val]'(Nat.lt_of_lt_of_le x.isLt hl))] := rfl
    rw [hx1]
    obtain ⟨⟨⟨i1, i2⟩, i3, i4⟩, i5⟩ := hI
    have HK := Lib.hid hK
    have hax : ∀ b1 b2 W', W'.heap[b1]? = some (.cells (spc ls[x.val]).toArray 58 (0, 0)) → W'.heap[b2]? = some (.cells (spc (ms[x.val]'(Nat.lt_of_lt_of_le x.isLt hl))).toArray 58 (0, 0)) →
        HoAx ls ms hl A A2 m c m2 c2 F p w.heap.size x { tmps := #[.slice A m c, .slice A2 m2 c2, .func (.func F) #[.pointer p] #[], undef, undef, .pointer (some ⟨w.heap.size, 0, none⟩), .pointer (some ⟨w.heap.size + 1, 0, none⟩), .pointer (some ⟨b1, 0, none⟩), .pointer (some ⟨b2, 0, none⟩), undef, .slice A m c, .slice A2 m2 c2, .func (.func 70) #[] #[.pointer (some ⟨w.heap.size + 1 + 1, 0, none⟩), .pointer (some ⟨w.heap.size + 1 + 1 + 1, 0, none⟩)], spv ls[x.val], spv (ms[x.val]'(Nat.lt_of_lt_of_le x.isLt hl)), undef, undef, undef, undef, undef, undef, undef, undef, undef, undef, undef, undef, undef], defers := [] } W' :=
      fun b1 b2 W' h1 h2 => ⟨b1, b2, rfl, h1, h2⟩
    have HAX := Lib.hid hax
    unfold spv spc at HAX
    unfold spv
    generalize ls[x.val] = q1 at *
    generalize (ms[x.val]'(Nat.lt_of_lt_of_le x.isLt hl)) = q2 at *
    obtain ⟨xn, xp, xs, xv, xz⟩ := q1
    obtain ⟨yn, yp, ys, yv, yz⟩ := q2
    simp only at HAX
    clear hK hx1 hax
    gi_wp2
    have ha1 := (Below.refl W.heap.size W).alloc (Nat.le_refl _) (.cells #[.int .i64 (xn : Int), .int .u8 (xp : Int), .int .u8 (xs : Int), .bool xv, .int .u64 xz] 58)
    have ha2 := ha1.alloc ha1.size (.cells #[.int .i64 (yn : Int), .int .u8 (yp : Int), .int .u8 (ys : Int), .bool yv, .int .u64 yz] 58)
    refine HK.out _ _ (below_keeps ha2) ⟨ha2.mono i3.size, ha2.block _ i4⟩ ⟨⟨⟨i1.keep ha2, i2.keep ha2⟩, i3.trans (ha2.mono i3.size), Nat.lt_of_lt_of_le i4 ha2.size⟩, i5⟩ ?_
    refine HAX.out W.heap.size (W.heap.size + 1) _ ?_ ?_
    · exact (Below.heap_alloc _ _ _ (by simp)).trans (heap_alloc_new W _)
    · have := heap_alloc_new (W.alloc (.cells #[.int .i64 (xn : Int), .int .u8 (xp : Int), .int .u8 (xs : Int), .bool xv, .int .u64 xz] 58)) (.cells #[.int .i64 (yn : Int), .int .u8 (yp : Int), .int .u8 (ys : Int), .bool yv, .int .u64 yz] 58)
      rwa [World.size_alloc] at this
  case body =>
    rintro l pre x a' W hlw - ⟨⟨⟨i1, i2⟩, i3, i4⟩, i5⟩ ⟨b1, b2, rfl, g1, g2⟩ hlen
    have hu1 := hz _ (List.getElem_mem (l := ls) x.isLt)
    have hu2 := hz2 _ (List.getElem_mem (l := ms) (Nat.lt_of_lt_of_le x.isLt hl))
    obtain ⟨r, hr⟩ : ∃ r, pairB R (ls[x.val], ms[x.val]'(Nat.lt_of_lt_of_le x.isLt hl)) = r := ⟨_, rfl⟩
    have HR1 := Lib.hid hr
    have HI := Lib.hid i5
    have hpb : mustB ls[x.val].s R ls[x.val].z.toNat (ms[x.val]'(Nat.lt_of_lt_of_le x.isLt hl)).z.toNat = r := hr
    clear hr i5 hlen
    unfold spv
    generalize ls[x.val] = q1 at hu1 hpb g1 ⊢
    generalize (ms[x.val]'(Nat.lt_of_lt_of_le x.isLt hl)) = q2 at hu2 hpb g2 ⊢
    obtain ⟨xn, xp, xs, xv, xz⟩ := q1
    obtain ⟨yn, yp, ys, yv, yz⟩ := q2
    simp only at hu1 hu2 hpb
    obtain ⟨zx, rfl, hzx⟩ := hu1.nat
    obtain ⟨zy, rfl, hzy⟩ := hu2.nat
    rw [Int.toNat_natCast, Int.toNat_natCast] at hpb
    have e2 : W.cell? ⟨b1, 2, none⟩ = some (.int .u8 (xs : Int)) := (cell_blk (i := 2) g1).trans rfl
    have e4 : W.cell? ⟨b1, 4, none⟩ = some (.int .u64 (zx : Int)) := (cell_blk (i := 4) g1).trans rfl
    have k4' : W.cell? ⟨b2, 4, none⟩ = some (.int .u64 (zy : Int)) := (cell_blk (i := 4) g2).trans rfl
    have hc5 := i1.cell
    have hal : Below W.heap.size W (W.alloc (.cells #[.func (.func F) #[.pointer p] #[]] 101)) := (Below.refl _ _).alloc (Nat.le_refl _) _
    have e4a := (hal.cell (p := ⟨b1, 4, none⟩) (World.block_lt_of_cell? W _ e4)).trans e4
    have k4a := (hal.cell (p := ⟨b2, 4, none⟩) (World.block_lt_of_cell? W _ k4')).trans k4'
    have hm := must_any xs F #[.pointer p] W
    have hc := HT.out xs W.heap.size (W.alloc (.cells #[.func (.func F) #[.pointer p] #[]] 101)) (i3.trans (hal.mono i3.size)) ((cell_blk (i := 0) (heap_alloc_new W _)).trans rfl) zx zy hzx hzy
    rw [hpb] at hc
    obtain ⟨G, bd, cp, hm, hc, hG⟩ : ∃ (G : Nat) (bd cp : Array Value), Calls Try.prog 51 #[.int .u8 (xs : Int), .func (.func F) #[.pointer p] #[]] W (fun e w' => e = .returned (.func (.func G) bd cp) ∧ w' = W.alloc (.cells #[.func (.func F) #[.pointer p] #[]] 101)) ∧
        Calls Try.prog G (bd ++ #[.int .u64 (zx : Int), .int .u64 (zy : Int)] ++ cp) (W.alloc (.cells #[.func (.func F) #[.pointer p] #[]] 101)) (fun e w' => e = .returned (.bool r) ∧ Below (W.alloc (.cells #[.func (.func F) #[.pointer p] #[]] 101)).heap.size (W.alloc (.cells #[.func (.func F) #[.pointer p] #[]] 101)) w') ∧
        ((G = 23 ∧ bd = #[.pointer p] ∧ cp = #[]) ∨ (G = 29 ∧ bd = #[.pointer p] ∧ cp = #[]) ∨ (G = 71 ∧ bd = #[] ∧ cp = #[.pointer (some ⟨W.heap.size, 0, none⟩)]) ∨ (G = 72 ∧ bd = #[] ∧ cp = #[])) := by
      obtain ⟨G, bd, cp, he, hc⟩ := hc
      refine ⟨G, bd, cp, he ▸ hm, hc, ?_⟩
      by_cases h0 : xs = 0
      · rw [if_pos h0] at he
        injection he with h1 h2 h3
        injection h1 with h1
        subst h1 h2 h3
        rcases hF with h | h
        · exact .inl ⟨h, rfl, rfl⟩
        · exact .inr (.inl ⟨h, rfl, rfl⟩)
      by_cases h1 : xs = 1
      · rw [if_neg h0, if_pos h1] at he
        injection he with h1 h2 h3
        injection h1 with h1
        exact .inr (.inr (.inl ⟨h1.symm, h2.symm, h3.symm⟩))
      · rw [if_neg h0, if_neg h1] at he
        injection he with h1 h2 h3
        injection h1 with h1
        exact .inr (.inr (.inr ⟨h1.symm, h2.symm, h3.symm⟩))
    have HSZ := Lib.hid (show ∀ w', Below (W.alloc (.cells #[.func (.func F) #[.pointer p] #[]] 101)).heap.size (W.alloc (.cells #[.func (.func F) #[.pointer p] #[]] 101)) w' → Below W.heap.size W w' from fun w' hb => hal.trans (hb.mono hal.size))
    clear hpb hzx hzy hz hz2 hu1 hu2 HT h1 h2 e4 k4' hal g1 g2
    have HM := Lib.hid hm
    rcases hG with ⟨rfl, rfl, rfl⟩ | ⟨rfl, rfl, rfl⟩ | ⟨rfl, rfl, rfl⟩ | ⟨rfl, rfl, rfl⟩
    all_goals (
      simp only [List.append_toArray, List.nil_append, List.cons_append, List.append_nil] at hc
      have HC := Lib.hid hc
      clear hm hc
      gi_wp2_with fail
      refine ⟨trivial, ((CallsIn.inRound l (callsIn_wide.2 HM.out))).mono ?_⟩
      rintro e w6 ⟨rfl, rfl⟩
      gi_wp2_with fail
      refine ⟨trivial, ((CallsIn.inRound l (callsIn_wide.2 HC.out))).mono ?_⟩
      rintro e w7 ⟨rfl, hb7⟩
      have hb := HSZ.out _ hb7
      clear hb7 e4a k4a
      cases r with
      | true =>
        gi_wp2_with fail
        refine ⟨below_keeps hb, ⟨hb.mono i3.size, hb.block _ i4⟩, ⟨⟨i1.keep hb, i2.keep hb⟩, i3.trans (hb.mono i3.size), Nat.lt_of_lt_of_le i4 hb.size⟩, fun i hi => ?_⟩
        rcases List.mem_append.1 hi with h | h
        · exact HI.out i h
        · obtain rfl : i = x := by simpa using h
          exact HR1.out
      | false =>
        have j2 := i2.keep hb
        have hcn := j2.cell
        have hfn := j2.frozen
        gi_wp2_with fail
        exact ⟨(below_keeps hb).trans ((KeepsOthers.setCell _ _ _).from _), ⟨j2.set _, (i3.trans (hb.mono i3.size)).setCell (p := ⟨w.heap.size + 1, 0, none⟩) (by simp) _⟩, rfl, _, _, rfl, HR1.out⟩)
  case done =>
    rintro D ys W hD rfl ⟨⟨⟨i1, i2⟩, i3, i4⟩, i5⟩ hK
    have HR := Lib.hid (holdB_yes hl i5)
    have hcn := i2.cell
    have hfn := i2.frozen
    clear i5
    gi_wp2
    have hK' := (KeepsOthers.setCell W ⟨w.heap.size + 1, 0, none⟩ (.bool true)).same D _ hK rfl
    refine ⟨by simp, .inl ⟨_, _, rfl, run_takeDeferred hK', ?_⟩⟩
    have hc5 := cell_kept (i2.set (.bool true)).cell (grownBy_putObj' _ D (.deferred none)) (fun r e => by cases e; exact ⟨_, hK', rfl⟩)
    refine ⟨.bool true, ?_, by rw [HR.out], (i3.setCell (p := ⟨w.heap.size + 1, 0, none⟩) (by simp) _).trans (belowK_b (w := w5) (by omega) _ D _ _ (by omega) hK' rfl rfl)⟩
    simp [results, Try.f28, go_sem, hc5]
  case stop =>
    rintro D c pre W hD hpre ⟨⟨i2, i3⟩, rfl, q, x, rfl, hx⟩ hK
    have HR := Lib.hid (holdB_no hl x hx)
    have hcn := i2.cell
    have hfn := i2.frozen
    clear hpre hx
    gi_wp2
    refine ⟨by simp, .inl ⟨_, _, rfl, run_takeDeferred hK, ?_⟩⟩
    have hc5 := cell_kept i2.cell (grownBy_putObj' _ D (.deferred none)) (fun r e => by cases e; exact ⟨_, hK, rfl⟩)
    refine ⟨.bool false, ?_, by rw [HR.out], i3.trans (belowK_b (w := w5) (by omega) W D _ _ (by omega) hK rfl rfl)⟩
    simp [results, Try.f28, go_sem, hc5]

theorem hold_any (A A2 : Option Addr) (m c m2 c2 : Nat) (ls ms : List Sp) (rv : Value) (R : Nat → Nat → Bool) (w : World) (hl : ls.length ≤ ms.length) (hR : Tells w rv R) (h1 : Rs spc 5 w w.heap.size A m c ls) (h2 : Rs spc 5 w w.heap.size A2 m2 c2 ms) (hz : ∀ p ∈ ls, U64 p.z) (hz2 : ∀ p ∈ ms, U64 p.z) :
    Calls Try.prog 28 #[.slice A m c, .slice A2 m2 c2, rv] w fun e w' => e = .returned (.bool (holdB ls ms R)) ∧ Below w.heap.size w w' :=
  callsIn_wide.1 (hold_wide A A2 m c m2 c2 ls ms rv R w hl hR h1 h2 hz hz2)
end Go.Proofs.Ytlcbcggcmmlfdaa

/- What grounds.valued tells. Condition: the spots can be read, and what is asked of a value is answered. -/
namespace Go.Proofs.Ytlcbcggcmmlfdaa
open Go.RowKit

/-- A function value that tells H of any value, in every world behind w. -/
def Tells1 (w : World) (v : Value) (H : Nat → Bool) : Prop := ∃ F p, (F = 21 ∨ F = 27) ∧ v = .func (.func F) #[.pointer p] #[] ∧ ∀ W, Below w.heap.size w W → ∀ x : Nat, x < 18446744073709551616 →
  Calls Try.prog F #[.pointer p, .int .u64 (x : Int)] W fun e w' => e = .returned (.bool (H x)) ∧ Below W.heap.size W w'

/-- A spot has a value. -/
def okS (H : Nat → Bool) (p : Sp) : Bool := !p.v && H p.z.toNat
def valB (H : Nat → Bool) (l : List Sp) : Bool := l.all (okS H)
def valN (H : Nat → Bool) (ls ms : List Sp) (k : Nat) : Bool := if k = 0 then true else if k = 1 then valB H ls else valB H ls && valB H ms

/-- One of two lists. -/
structure Lst (w : World) (g k : Nat) (A : Option Addr) (n c : Nat) (l : List Sp) : Prop where
  cell : w.cell? ⟨g, k, none⟩ = some (.slice A n c)
  rs : Rs spc 5 w w.heap.size A n c l
  fit : ∀ p ∈ l, U64 p.z
theorem Lst.keep {w W : World} {g k n c : Nat} {A : Option Addr} {l : List Sp} (h : Lst w g k A n c l) (hb : Below w.heap.size w W) : Lst W g k A n c l :=
  ⟨(hb.cell (p := ⟨g, k, none⟩) (World.block_lt_of_cell? w _ h.cell)).trans h.cell, h.rs.at_size (Nat.le_refl _) hb, h.fit⟩

def VaRel (H : Nat → Bool) (ls ms : List Sp) (w : World) (v11 : Value) (wr : World) : Prop := ∃ k : Nat, v11 = .int .i64 (k : Int) ∧ k ≤ 2 ∧ valN H ls ms k = true ∧ Below w.heap.size w wr
def ViRel (H : Nat → Bool) (l : List Sp) (w : World) (v17 : Value) (wr : World) : Prop := ∃ i : Nat, v17 = .int .i64 (i : Int) ∧ i ≤ l.length ∧ valB H (l.take i) = true ∧ Below w.heap.size w wr

theorem valB_step {H : Nat → Bool} {l : List Sp} {i : Nat} (hi : i < l.length) (h : valB H (l.take i) = true) : valB H (l.take (i + 1)) = okS H l[i] := by
  unfold valB at *
  rw [List.take_succ_eq_append_getElem hi, List.all_append, h]
  simp
theorem valB_no {H : Nat → Bool} {l : List Sp} {i : Nat} (hi : i < l.length) (h : okS H l[i] = false) : valB H l = false := by
  refine Bool.eq_false_iff.2 fun e => ?_
  have := List.all_eq_true.1 e _ (List.getElem_mem hi)
  rw [h] at this
  cases this

set_option maxRecDepth 100000 in
set_option maxHeartbeats 2000000 in
theorem valued_any (rv : Value) (H : Nat → Bool) (g : Nat) (A A2 : Option Addr) (n c n2 c2 : Nat) (ls ms : List Sp) (w : World) (hH : Tells1 w rv H) (h1 : Lst w g 0 A n c ls) (h2 : Lst w g 1 A2 n2 c2 ms) :
    Calls Try.prog 26 #[rv, .slice (some ⟨g, 0, none⟩) 2 2] w fun e w' => e = .returned (.bool (valB H ls && valB H ms)) ∧ Below w.heap.size w w' := by
  obtain ⟨F, p, hF, rfl, hT⟩ := hH
  have HT := Lib.hid hT
  have HL1 := Lib.hid h1
  have HL2 := Lib.hid h2
  clear hT h1 h2
  rcases hF with rfl | rfl
  all_goals (
    go_enter Try.func26, Try.ntmps26
    go_wp2
    go_loopw [11] (fun v11 wr => VaRel H ls ms w v11 wr) (fun v11 _ => 2 - (intOf v11).toNat)
    case atStart => exact ⟨0, rfl, by omega, rfl, Below.refl _ _⟩
    case round =>
      obtain ⟨k, rfl, hk, hval, hb⟩ := hrel
      have HV := Lib.hid hval
      clear hval
      by_cases hlt : k < 2
      · obtain ⟨Ax, nx, cx, l, hx, hstep, hno⟩ : ∃ Ax nx cx l, Lst w g k Ax nx cx l ∧ Hid (valB H l = true → valN H ls ms (k + 1) = true) ∧ Hid (valB H l = false → (valB H ls && valB H ms) = false) := by
          have : k = 0 ∨ k = 1 := by omega
          rcases this with rfl | rfl
          · exact ⟨A, n, c, ls, HL1.out, Lib.hid fun h => h, Lib.hid fun h => by rw [h]; rfl⟩
          · refine ⟨A2, n2, c2, ms, HL2.out, Lib.hid fun h => ?_, Lib.hid fun h => by rw [h, Bool.and_false]⟩
            have h1 := HV.out
            unfold valN at h1 ⊢
            simp at h1 ⊢
            exact ⟨h1, h⟩
        clear HV
        have hx1 := hx.keep hb
        have hcell := hx1.cell
        have HL := Lib.hid hx1.rs.len
        have htop := hx1.rs.top
        have hcap := hx1.rs.cap
        unfold maxLen at htop
        have HX := Lib.hid hx
        clear hx hx1
        go_wp2
        have HK2 := Lib.hid hlt
        have hdk : decide ((k : Int) < 2) = true := decide_eq_true (by omega)
        simp only [hdk]
        clear hlt hdk
        go_loopw [17] (fun v17 wr => ViRel H l w v17 wr) (fun v17 _ => nx - (intOf v17).toNat)
        case atStart => exact ⟨0, rfl, by omega, rfl, hb⟩
        case round =>
          clear hcell hb
          obtain ⟨i, rfl, hi, hvi, hb⟩ := hrel
          by_cases hlti : i < nx
          · have hi' : i < l.length := by rw [HL.out]; exact hlti
            have hr := (HX.out.keep hb).rs
            obtain ⟨b, o, rfl, hbb, e0, e1, e2, e3, e4⟩ := spot_at hr hi'
            have hu := HX.out.fit _ (List.getElem_mem hi')
            obtain ⟨q, hq⟩ : ∃ q, okS H l[i] = q := ⟨_, rfl⟩
            have HST := Lib.hid (valB_step hi' hvi)
            have HNO := Lib.hid (fun e : okS H l[i] = false => valB_no hi' e)
            have hdef : okS H l[i] = (!l[i].v && H l[i].z.toNat) := rfl
            generalize okS H l[i] = okq at *
            generalize l[i] = x at *
            obtain ⟨xn, xp, xs, xv, xz⟩ := x
            simp only at e0 e1 e2 e3 e4 hu hdef
            obtain ⟨z, rfl, hzz⟩ := hu.nat
            rw [Int.toNat_natCast] at hdef
            have hal : Below wr.heap.size wr (wr.alloc (.cells #[.int .i64 (xn : Int), .int .u8 (xp : Int), .int .u8 (xs : Int), .bool xv, .int .u64 (z : Int)] 58)) := (Below.refl _ _).alloc (Nat.le_refl _) _
            have HB := Lib.hid (hb.trans (hal.mono hb.size))
            clear hvi hr hu hq hbb hal
            cases xv with
            | true =>
              obtain rfl : okq = false := by rw [hdef]; rfl
              have HN := Lib.hid (hno.out (HNO.out rfl))
              clear hdef HNO hno hstep HST
              go_wp2_with fail
              go_ret
              exact ⟨by rw [HN.out]; rfl, HB.out⟩
            | false =>
              obtain rfl : okq = H z := by rw [hdef]; rfl
              clear hdef
              have hcall := HT.out _ HB.out z hzz
              generalize H z = r at *
              clear hzz
              have HC := Lib.hid hcall
              clear hcall
              go_wp2_with fail
              refine HC.out.mono ?_
              rintro e w3 ⟨rfl, hb3⟩
              have HB3 := Lib.hid (HB.out.trans (hb3.mono HB.out.size))
              clear hb3
              cases r with
              | true =>
                have HST := Lib.hid HST.out
                clear HNO
                go_wp2_with fail
                go_roundw
                case rel => exact ⟨i + 1, by go_num, by omega, HST.out, HB3.out⟩
                case measure => simp [intOf]; omega
              | false =>
                have HN := Lib.hid (hno.out (HNO.out rfl))
                clear HNO hno hstep HST
                go_wp2_with fail
                go_ret
                exact ⟨by rw [HN.out]; rfl, HB3.out⟩
          · obtain rfl : i = nx := by have := HL.out; omega
            have HK := Lib.hid (hstep.out (by rw [List.take_of_length_le (by rw [HL.out]; omega)] at hvi; exact hvi))
            clear hvi
            go_wp2
            go_roundw
            case rel => exact ⟨k + 1, by go_num, HK2.out, HK.out, hb⟩
            case measure =>
              have := HK2.out
              simp [intOf]
              omega
      · obtain rfl : k = 2 := by omega
        have HE : Hid ((valB H ls && valB H ms) = true) := Lib.hid HV.out
        clear HV
        go_wp2
        go_ret
        exact ⟨by rw [HE.out]; rfl, hb⟩)
end Go.Proofs.Ytlcbcggcmmlfdaa
