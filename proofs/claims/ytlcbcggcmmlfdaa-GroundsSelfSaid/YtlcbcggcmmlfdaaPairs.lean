/- What grounds.pairs hands out: the spots of both, one of each at a time. Condition: they can be read, and the second ones are as many. -/
import Derived.Test.YtlcbcggcmmlfdaaPut
import Derived.Test.YtlcbcggcmmlfdaaOrder
import Derived.Test.YtlcbcggcmmlfdaaRound
import Derived.Shelf.RegionOpen
import Derived.RangeFuncFrom
import Derived.Sort.QuietIn
namespace Go.Proofs.Ytlcbcggcmmlfdaa
open Go.RowKit Go.Shelf

attribute [local go_sem] Oper.semAt_some

theorem pairs_in (F : Fence) (n : Nat) (h50 : F.fn 50) (hro : F.round = none) (A A2 : Option Addr) (m c m2 c2 : Nat) (w : World) :
    CallsIn F n Try.prog 50 #[.slice A m c, .slice A2 m2 c2] w fun e w' => e = .returned (.func (.func 70) #[] #[.pointer (some ⟨w.heap.size, 0, none⟩), .pointer (some ⟨w.heap.size + 1, 0, none⟩)]) ∧ w' = (w.alloc (.cells #[.slice A m c] 49)).alloc (.cells #[.slice A2 m2 c2] 49) := by
  refine callsIn_of_wp Try.func50 rfl h50 ?_ hro
  simp only [Try.ntmps50, List.size_toArray, List.length_cons, List.length_nil, Nat.reduceAdd, Nat.reduceSub, Array.replicate_succ, Array.replicate_zero, List.push_toArray, List.append_toArray, List.nil_append, List.cons_append]
  gi_wp2
  go_ret
  exact ⟨rfl, rfl⟩

/-- One of each. -/
def spv2 (ls ms : List Sp) (h : ls.length ≤ ms.length) (i : Fin ls.length) : Array Value := #[spv ls[i.val], spv (ms[i.val]'(Nat.lt_of_lt_of_le i.isLt h))]

/-- Old memory is kept, and the block b. -/
structure KeepAt (n₀ b : Nat) (W W' : World) : Prop where
  bel : Below n₀ W W'
  blk : W'.heap[b]? = W.heap[b]?

theorem keepAt_t {n₀ b : Nat} {A B C : World} (h : KeepAt n₀ b A B) (k : KeepAt n₀ b B C) : KeepAt n₀ b A C := ⟨h.bel.trans k.bel, k.blk.trans h.blk⟩
theorem keepAt_b {n₀ b : Nat} {w : World} (hn : n₀ ≤ w.heap.size) (hb : b < w.heap.size) (W : World) (l : Nat) (o o' : Obj) (hl : w.heap.size ≤ l) (h : W.heap[l]? = some o) (h1 : o.isCells = false) (h2 : o.isWalk = false) : KeepAt n₀ b W (W.putObj l o') :=
  ⟨belowK_b hn W l o o' hl h h1 h2, World.putObj_heap_other (by omega)⟩
theorem KeepAt.cell {n₀ b o : Nat} {W W' : World} (h : KeepAt n₀ b W W') {v : Value} (hc : W.cell? ⟨b, o, none⟩ = some v) : W'.cell? ⟨b, o, none⟩ = some v :=
  (World.cell?_of_block (w := W) (w' := W') (a := ⟨b, o, none⟩) h.blk).trans hc

/-- k pairs have come. -/
def PrRel (ls ms : List Sp) (B : Nat) (A A2 : Option Addr) (m c m2 c2 Bn : Nat) (J : List (Fin ls.length) → World → Prop) (i8 : Value) (wr : World) : Prop :=
  ∃ k : Nat, i8 = .int .i64 (k : Int) ∧ k ≤ ls.length ∧ Rs spc 5 wr B A m c ls ∧ Rs spc 5 wr B A2 m2 c2 ms ∧ wr.cell? ⟨Bn, 0, none⟩ = some (.slice A2 m2 c2) ∧ B ≤ wr.heap.size ∧ J ((List.finRange ls.length).take k) wr

set_option maxRecDepth 100000 in
set_option maxHeartbeats 2000000 in
theorem pairs1_in (n : Nat) (hn : 1 ≤ n) (l Ba Bn n₀ : Nat) (A A2 : Option Addr) (m c m2 c2 : Nat) (ls ms : List Sp) (hlen : ls.length ≤ ms.length) (J Jx : List (Fin ls.length) → World → Prop) (W : World) (hJ : AbidesFrom W.heap.size J)
    (hY : ∀ pre (x : Fin ls.length) W, J pre W → pre.length < (List.finRange ls.length).length → YieldAt Fence.wide (n - 1) Try.prog l (spv2 ls ms hlen x) W fun e W' =>
      (e = .returned (.bool true) ∧ J (pre ++ [x]) W' ∧ KeepAt n₀ Bn W W') ∨ (e = .returned (.bool false) ∧ Jx (pre ++ [x]) W'))
    (hca : W.cell? ⟨Ba, 0, none⟩ = some (.slice A m c)) (hcn : W.cell? ⟨Bn, 0, none⟩ = some (.slice A2 m2 c2)) (hL : Rs spc 5 W n₀ A m c ls) (hM : Rs spc 5 W n₀ A2 m2 c2 ms) (hB : n₀ ≤ W.heap.size) (h0 : J [] W) :
    CallsIn Fence.wide n Try.prog 70 #[.func (.yield l) #[] #[], .pointer (some ⟨Ba, 0, none⟩), .pointer (some ⟨Bn, 0, none⟩)] W fun e W' => (∃ v, e = .returned v) ∧
      ((∃ ys, ys = List.finRange ls.length ∧ J ys W') ∨ (∃ pre, pre <+: List.finRange ls.length ∧ Jx pre W')) := by
  have HL := Lib.hid hL.len
  have HM := Lib.hid hM.len
  have HJ := Lib.hid hJ
  have HY := Lib.hid hY
  have HZ := Lib.hid (show (List.finRange ls.length).length = m by rw [List.length_finRange, HL.out])
  have hmm : m ≤ m2 := by rw [← HL.out, ← HM.out]; exact hlen
  have htop := hL.top
  have hcap := hL.cap
  unfold maxLen at htop
  have H0 := Lib.hid (show PrRel ls ms n₀ A A2 m c m2 c2 Bn J (.int .i64 0) W from ⟨0, rfl, Nat.zero_le _, hL, hM, hcn, hB, h0⟩)
  clear hJ hY hL hM h0 hcn hB
  refine callsIn_of_wp Try.func70 rfl trivial ?_ rfl
  simp only [Try.ntmps70, List.size_toArray, List.length_cons, List.length_nil, Nat.reduceAdd, Nat.reduceSub, Array.replicate_succ, Array.replicate_zero, List.push_toArray, List.append_toArray, List.nil_append, List.cons_append]
  gi_wp2
  gi_loopw [8] (fun i8 wr => PrRel ls ms n₀ A A2 m c m2 c2 Bn J i8 wr) (fun i8 _ => m - (intOf i8).toNat)
  case atStart => exact H0.out
  case round =>
    clear H0 hca
    obtain ⟨k, rfl, hk, hr, hr2, hcn', hsz, hJs⟩ := hrel
    by_cases hlt : k < m
    · have hk' : k < ls.length := by rw [HL.out]; exact hlt
      have hk2 : k < ms.length := by rw [HM.out]; omega
      obtain ⟨b, o, rfl, hbb, e0, e1, e2, e3, e4⟩ := spot_at hr hk'
      obtain ⟨b2, o2, rfl, hbb2, g0, g1, g2, g3, g4⟩ := spot_at hr2 hk2
      have HS := Lib.hid (fin_take hk')
      have hx1 : spv2 ls ms hlen ⟨k, hk'⟩ = #[spv ls[k], spv ms[k]] := rfl
      unfold spv at hx1
      generalize ls[k] = x at *
      generalize ms[k] = y at *
      obtain ⟨xn, xp, xs, xv, xz⟩ := x
      obtain ⟨yn, yp, ys, yv, yz⟩ := y
      simp only at e0 e1 e2 e3 e4 g0 g1 g2 g3 g4 hx1
      obtain ⟨xcs, hxcs⟩ : ∃ xcs : Array Value, xcs = #[.int .i64 (xn : Int), .int .u8 (xp : Int), .int .u8 (xs : Int), .bool xv, .int .u64 xz] := ⟨_, rfl⟩
      have hal : Below wr.heap.size wr (wr.alloc (.cells xcs 58)) := (Below.refl _ _).alloc (Nat.le_refl _) _
      have hJa := HJ.out _ _ _ none hJs ((World.grownBy_alloc wr (.cells xcs 58) none)) (fun r e => by cases e)
      have hJd := HJ.out _ _ (wr.alloc (.cells xcs 58)).drew none hJa ⟨rfl, rfl, rfl, Nat.le_refl _, fun _ _ _ => rfl⟩ (fun r e => by cases e)
      obtain ⟨fn, tmps, assign, body, hy, hR⟩ := HY.out _ ⟨k, hk'⟩ _ hJd (by rw [List.length_take, HZ.out]; omega)
      rw [hx1] at hy
      have hltm : (k : Int) < (m : Int) := by omega
      have hltm2 : (k : Int) < (m2 : Int) := by omega
      have hmx : Try.prog.follows .mixedOrders = true := by kernel_rfl
      have hR' := hR.mono (R' := fun e W' => ∃ bv : Bool, e = .returned (.bool bv) ∧ Hid ((bv = true → J ((List.finRange ls.length).take (k + 1)) W' ∧ KeepAt n₀ Bn (wr.alloc (.cells xcs 58)).drew W') ∧ (bv = false → Jx ((List.finRange ls.length).take (k + 1)) W'))) (by
        rintro e W' (⟨rfl, h1, h2⟩ | ⟨rfl, h1⟩)
        · exact ⟨true, rfl, fun _ => ⟨by rw [HS.out]; exact h1, h2⟩, fun h => by cases h⟩
        · exact ⟨false, rfl, (fun h => by cases h), fun _ => by rw [HS.out]; exact h1⟩)
      have HR1 := Lib.hid (hr.below ((hal.mono hsz)))
      have HR2 := Lib.hid (hr2.below ((hal.mono hsz)))
      have HCN := Lib.hid ((hal.cell (p := ⟨Bn, 0, none⟩) (World.block_lt_of_cell? wr ⟨Bn, 0, none⟩ hcn')).trans hcn')
      have HSZ := Lib.hid (Nat.le_trans hsz hal.size)
      have hcn2 := HCN.out
      have q0 := (hal.cell (p := ⟨b2, o2 + k * 5, none⟩) (World.block_lt_of_cell? wr _ g0)).trans g0
      have q1 := (hal.cell (p := ⟨b2, o2 + k * 5 + 1, none⟩) (World.block_lt_of_cell? wr _ g1)).trans g1
      have q2 := (hal.cell (p := ⟨b2, o2 + k * 5 + 2, none⟩) (World.block_lt_of_cell? wr _ g2)).trans g2
      have q3 := (hal.cell (p := ⟨b2, o2 + k * 5 + 3, none⟩) (World.block_lt_of_cell? wr _ g3)).trans g3
      have q4 := (hal.cell (p := ⟨b2, o2 + k * 5 + 4, none⟩) (World.block_lt_of_cell? wr _ g4)).trans g4
      clear hR hJs hJa hJd hr hr2 hsz hal
      subst hxcs
      gi_wp2
      gi_region_with_o (refine hR'.mono ?_; rintro e W3 ⟨bv, rfl, HB⟩)
      all_goals (
        clear hR' hy
        cases bv with
        | false =>
          have hJ3 := HB.out.2 rfl
          clear HB
          gi_wp2
          refine bodyPost_ret (results_none rfl _ _ _) rfl ?_
          exact ⟨⟨_, rfl⟩, .inr ⟨_, List.take_prefix _ _, hJ3⟩⟩
        | true =>
          obtain ⟨hJ3, hk3⟩ := HB.out.1 rfl
          clear HB
          gi_wp2
          go_roundw
          case rel => exact ⟨k + 1, by go_num, by omega, (HR1.out.below ((Below.refl _ _).drew.trans hk3.bel)), (HR2.out.below ((Below.refl _ _).drew.trans hk3.bel)), hk3.cell HCN.out, Nat.le_trans HSZ.out hk3.bel.size, hJ3⟩
          case measure => simp [intOf]; omega)
    · gi_wp2
      go_end0
      exact ⟨⟨_, rfl⟩, .inl ⟨_, by rw [List.take_of_length_le (by rw [HZ.out]; omega)], hJs⟩⟩

theorem pairs_stops (n : Nat) (hn : 1 ≤ n) (Ba Bn n₀ : Nat) (A A2 : Option Addr) (m c m2 c2 : Nat) (ls ms : List Sp) (hlen : ls.length ≤ ms.length) (w : World) (hn₀ : n₀ ≤ w.heap.size)
    (hca : w.cell? ⟨Ba, 0, none⟩ = some (.slice A m c)) (hcn : w.cell? ⟨Bn, 0, none⟩ = some (.slice A2 m2 c2)) (hL : Rs spc 5 w n₀ A m c ls) (hM : Rs spc 5 w n₀ A2 m2 c2 ms) :
    SeqStopsK Fence.wide n Try.prog 70 #[.pointer (some ⟨Ba, 0, none⟩), .pointer (some ⟨Bn, 0, none⟩)] (spv2 ls ms hlen) (KeepAt n₀ Bn) (fun ys => ys = List.finRange ls.length) (fun pre => pre <+: List.finRange ls.length) (List.finRange ls.length).length w := fun l J Jx W hW hJ _ hY h0 =>
  pairs1_in n hn l Ba Bn n₀ A A2 m c m2 c2 ls ms hlen J Jx W hJ hY ((hW.cell (p := ⟨Ba, 0, none⟩) (World.block_lt_of_cell? w ⟨Ba, 0, none⟩ hca)).trans hca) ((hW.cell (p := ⟨Bn, 0, none⟩) (World.block_lt_of_cell? w ⟨Bn, 0, none⟩ hcn)).trans hcn) (hL.below (hW.mono hn₀)) (hM.below (hW.mono hn₀)) (Nat.le_trans hn₀ hW.size) h0

end Go.Proofs.Ytlcbcggcmmlfdaa
