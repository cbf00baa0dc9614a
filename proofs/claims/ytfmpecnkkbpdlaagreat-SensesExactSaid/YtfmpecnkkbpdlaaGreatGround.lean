/- Hold; Ground: merged. -/
import Derived.Test.YtfmpecnkkbpdlaaGreatPutB
import Derived.Test.YtfmpecnkkbpdlaaGreatOrder
import Derived.Test.YtfmpecnkkbpdlaaGreatRange
import Derived.Shelf.RegionOpen
import Derived.RangeFuncFrom
import Derived.Sort.QuietIn
import Derived.Laws.Cover1
import Derived.RangeFuncNested
import Derived.Test.YtfmpecnkkbpdlaaGreatLaw2
import Derived.Test.YtfmpecnkkbpdlaaGreatLaLat
import Derived.Test.YtfmpecnkkbpdlaaGreatEfEff
import Derived.Test.YtfmpecnkkbpdlaaGreatSpBelow
import Derived.Test.YtfmpecnkkbpdlaaGreatFits

/- Pairs; Hold; Valued: merged. -/
/- What grounds.pairs hands out: the spots of both, one of each at a time. Condition: they can be read, and the second ones are as many. -/
namespace Go.Proofs.YtfmpecnkkbpdlaaGreat
open Go.RowKit Go.Shelf

attribute [local go_sem] Oper.semAt_some

theorem pairs_in (F : Fence) (n : Nat) (h50 : F.fn 100) (hro : F.round = none) (A A2 : Option Addr) (m c m2 c2 : Nat) (w : World) :
    CallsIn F n Tryz.prog 100 #[.slice A m c, .slice A2 m2 c2] w fun e w' => e = .returned (.func (.func 131) #[] #[.pointer (some ⟨w.heap.size, 0, none⟩), .pointer (some ⟨w.heap.size + 1, 0, none⟩)]) ∧ w' = (w.alloc (.cells #[.slice A m c] 25)).alloc (.cells #[.slice A2 m2 c2] 25) := by
  refine callsIn_of_wp Tryz.func100 rfl h50 ?_ hro
  simp only [Tryz.ntmps100, List.size_toArray, List.length_cons, List.length_nil, Nat.reduceAdd, Nat.reduceSub, Array.replicate_succ, Array.replicate_zero, List.push_toArray, List.append_toArray, List.nil_append, List.cons_append]
  gi_wp2
  go_ret
  exact ⟨rfl, rfl⟩

/-- One of each. -/
def spv2 (ls ms : List Sp) (h : ls.length ≤ ms.length) (i : Fin ls.length) : Array Value := #[spv ls[i.val], spv (ms[i.val]'(Nat.lt_of_lt_of_le i.isLt h))]

/-- Old memory is kept, and the block b. -/
structure KeepAt (n₀ b : Nat) (W W' : World) : Prop where
  bel : Below n₀ W W'
  blk : W'.heap[b]? = W.heap[b]?

theorem keepAt_t {n₀ b : Nat} {A B C : World} (h : KeepAt n₀ b A B) (k : KeepAt n₀ b B C) : KeepAt n₀ b A C := ⟨h.bel.trans k.bel, k.blk.trans h.blk⟩
theorem keepAt_b {n₀ b : Nat} {w : World} (hn : n₀ ≤ w.heap.size) (hb : b < w.heap.size) (W : World) (l : Nat) (o o' : Obj) (hl : w.heap.size ≤ l) (h : W.heap[l]? = some o) (h1 : o.isCells = false) (h2 : o.isWalk = false) : KeepAt n₀ b W (W.putObj l o') :=
  ⟨belowK_b hn W l o o' hl h h1 h2, World.putObj_heap_other (by omega)⟩
theorem KeepAt.cell {n₀ b o : Nat} {W W' : World} (h : KeepAt n₀ b W W') {v : Value} (hc : W.cell? ⟨b, o, none⟩ = some v) : W'.cell? ⟨b, o, none⟩ = some v :=
  (World.cell?_of_block (w := W) (w' := W') (a := ⟨b, o, none⟩) h.blk).trans hc

/-- k pairs have come. -/
def PrRel (ls ms : List Sp) (B : Nat) (A A2 : Option Addr) (m c m2 c2 Bn : Nat) (J : List (Fin ls.length) → World → Prop) (i8 : Value) (wr : World) : Prop :=
  ∃ k : Nat, i8 = .int .i64 (k : Int) ∧ k ≤ ls.length ∧ Rs spc 5 wr B A m c ls ∧ Rs spc 5 wr B A2 m2 c2 ms ∧ wr.cell? ⟨Bn, 0, none⟩ = some (.slice A2 m2 c2) ∧ B ≤ wr.heap.size ∧ J ((List.finRange ls.length).take k) wr

set_option maxRecDepth 100000 in
set_option maxHeartbeats 2000000 in
theorem pairs1_in (n : Nat) (hn : 1 ≤ n) (l Ba Bn n₀ : Nat) (A A2 : Option Addr) (m c m2 c2 : Nat) (ls ms : List Sp) (hlen : ls.length ≤ ms.length) (J Jx : List (Fin ls.length) → World → Prop) (W : World) (hJ : AbidesFrom W.heap.size J)
    (hY : ∀ pre (x : Fin ls.length) W, J pre W → pre.length < (List.finRange ls.length).length → YieldAt Fence.wide (n - 1) Tryz.prog l (spv2 ls ms hlen x) W fun e W' =>
      (e = .returned (.bool true) ∧ J (pre ++ [x]) W' ∧ KeepAt n₀ Bn W W') ∨ (e = .returned (.bool false) ∧ Jx (pre ++ [x]) W'))
    (hca : W.cell? ⟨Ba, 0, none⟩ = some (.slice A m c)) (hcn : W.cell? ⟨Bn, 0, none⟩ = some (.slice A2 m2 c2)) (hL : Rs spc 5 W n₀ A m c ls) (hM : Rs spc 5 W n₀ A2 m2 c2 ms) (hB : n₀ ≤ W.heap.size) (h0 : J [] W) :
    CallsIn Fence.wide n Tryz.prog 131 #[.func (.yield l) #[] #[], .pointer (some ⟨Ba, 0, none⟩), .pointer (some ⟨Bn, 0, none⟩)] W fun e W' => (∃ v, e = .returned v) ∧
      ((∃ ys, ys = List.finRange ls.length ∧ J ys W') ∨ (∃ pre, pre <+: List.finRange ls.length ∧ Jx pre W')) := by
  have HL := Lib.hid hL.len
  have HM := Lib.hid hM.len
  have HJ := Lib.hid hJ
  have HY := Lib.hid hY
  have HZ := Lib.hid (show (List.finRange ls.length).length = m by rw [List.length_finRange, HL.out])
  have hmm : m ≤ m2 := by rw [← HL.out, ← HM.out]; exact hlen
  have htop := hL.top
  have hcap := hL.cap
  unfold maxLen at htop
  have H0 := Lib.hid (show PrRel ls ms n₀ A A2 m c m2 c2 Bn J (.int .i64 0) W from ⟨0, rfl, Nat.zero_le _, hL, hM, hcn, hB, h0⟩)
  clear hJ hY hL hM h0 hcn hB
  refine callsIn_of_wp Tryz.func131 rfl trivial ?_ rfl
  simp only [Tryz.ntmps131, List.size_toArray, List.length_cons, List.length_nil, Nat.reduceAdd, Nat.reduceSub, Array.replicate_succ, Array.replicate_zero, List.push_toArray, List.append_toArray, List.nil_append, List.cons_append]
  gi_wp2
  gi_loopw [8] (fun i8 wr => PrRel ls ms n₀ A A2 m c m2 c2 Bn J i8 wr) (fun i8 _ => m - (intOf i8).toNat)
  case atStart => exact H0.out
  case round =>
    clear H0 hca
    obtain ⟨k, rfl, hk, hr, hr2, hcn', hsz, hJs⟩ := hrel
    by_cases hlt : k < m
    · have hk' : k < ls.length := by rw [HL.out]; exact hlt
      have hk2 : k < ms.length := by rw [HM.out]; omega
      obtain ⟨b, o, rfl, hbb, e0, e1, e2, e3, e4⟩ := spot_at hr hk'
      obtain ⟨b2, o2, rfl, hbb2, g0, g1, g2, g3, g4⟩ := spot_at hr2 hk2
      have HS := Lib.hid (fin_take hk')
      have hx1 : spv2 ls ms hlen ⟨k, hk'⟩ = #[spv ls[k], spv ms[k]] := rfl
      unfold spv at hx1
      generalize ls[k] = x at *
      generalize ms[k] = y at *
      obtain ⟨xn, xp, xs, xv, xz⟩ := x
      obtain ⟨yn, yp, ys, yv, yz⟩ := y
      simp only at e0 e1 e2 e3 e4 g0 g1 g2 g3 g4 hx1
      obtain ⟨xcs, hxcs⟩ : ∃ xcs : Array Value, xcs = #[.int .i64 (xn : Int), .int .u8 (xp : Int), .int .u8 (xs : Int), .bool xv, .int .u64 xz] := ⟨_, rfl⟩
      have hal : Below wr.heap.size wr (wr.alloc (.cells xcs 101)) := (Below.refl _ _).alloc (Nat.le_refl _) _
      have hJa := HJ.out _ _ _ none hJs ((World.grownBy_alloc wr (.cells xcs 101) none)) (fun r e => by cases e)
      have hJd := HJ.out _ _ (wr.alloc (.cells xcs 101)).drew none hJa ⟨rfl, rfl, rfl, Nat.le_refl _, fun _ _ _ => rfl⟩ (fun r e => by cases e)
      obtain ⟨fn, tmps, assign, body, hy, hR⟩ := HY.out _ ⟨k, hk'⟩ _ hJd (by rw [List.length_take, HZ.out]; omega)
      rw [hx1] at hy
      have hltm : (k : Int) < (m : Int) := by omega
      have hltm2 : (k : Int) < (m2 : Int) := by omega
      have hmx : Tryz.prog.follows .mixedOrders = true := by kernel_rfl
      have hR' := hR.mono (R' := fun e W' => ∃ bv : Bool, e = .returned (.bool bv) ∧ Hid ((bv = true → J ((List.finRange ls.length).take (k + 1)) W' ∧ KeepAt n₀ Bn (wr.alloc (.cells xcs 101)).drew W') ∧ (bv = false → Jx ((List.finRange ls.length).take (k + 1)) W'))) (by
        rintro e W' (⟨rfl, h1, h2⟩ | ⟨rfl, h1⟩)
        · exact ⟨true, rfl, fun _ => ⟨by rw [HS.out]; exact h1, h2⟩, fun h => by cases h⟩
        · exact ⟨false, rfl, (fun h => by cases h), fun _ => by rw [HS.out]; exact h1⟩)
      have HR1 := Lib.hid (hr.below ((hal.mono hsz)))
      have HR2 := Lib.hid (hr2.below ((hal.mono hsz)))
      have HCN := Lib.hid ((hal.cell (p := ⟨Bn, 0, none⟩) (World.block_lt_of_cell? wr ⟨Bn, 0, none⟩ hcn')).trans hcn')
      have HSZ := Lib.hid (Nat.le_trans hsz hal.size)
      have hcn2 := HCN.out
      have q0 := (hal.cell (p := ⟨b2, o2 + k * 5, none⟩) (World.block_lt_of_cell? wr _ g0)).trans g0
      have q1 := (hal.cell (p := ⟨b2, o2 + k * 5 + 1, none⟩) (World.block_lt_of_cell? wr _ g1)).trans g1
      have q2 := (hal.cell (p := ⟨b2, o2 + k * 5 + 2, none⟩) (World.block_lt_of_cell? wr _ g2)).trans g2
      have q3 := (hal.cell (p := ⟨b2, o2 + k * 5 + 3, none⟩) (World.block_lt_of_cell? wr _ g3)).trans g3
      have q4 := (hal.cell (p := ⟨b2, o2 + k * 5 + 4, none⟩) (World.block_lt_of_cell? wr _ g4)).trans g4
      clear hR hJs hJa hJd hr hr2 hsz hal
      subst hxcs
      gi_wp2
      gi_region_with_o (refine hR'.mono ?_; rintro e W3 ⟨bv, rfl, HB⟩)
      all_goals (
        clear hR' hy
        cases bv with
        | false =>
          have hJ3 := HB.out.2 rfl
          clear HB
          gi_wp2
          refine bodyPost_ret (results_none rfl _ _ _) rfl ?_
          exact ⟨⟨_, rfl⟩, .inr ⟨_, List.take_prefix _ _, hJ3⟩⟩
        | true =>
          obtain ⟨hJ3, hk3⟩ := HB.out.1 rfl
          clear HB
          gi_wp2
          go_roundw
          case rel => exact ⟨k + 1, by go_num, by omega, (HR1.out.below ((Below.refl _ _).drew.trans hk3.bel)), (HR2.out.below ((Below.refl _ _).drew.trans hk3.bel)), hk3.cell HCN.out, Nat.le_trans HSZ.out hk3.bel.size, hJ3⟩
          case measure => simp [intOf]; omega)
    · gi_wp2
      go_end0
      exact ⟨⟨_, rfl⟩, .inl ⟨_, by rw [List.take_of_length_le (by rw [HZ.out]; omega)], hJs⟩⟩

theorem pairs_stops (n : Nat) (hn : 1 ≤ n) (Ba Bn n₀ : Nat) (A A2 : Option Addr) (m c m2 c2 : Nat) (ls ms : List Sp) (hlen : ls.length ≤ ms.length) (w : World) (hn₀ : n₀ ≤ w.heap.size)
    (hca : w.cell? ⟨Ba, 0, none⟩ = some (.slice A m c)) (hcn : w.cell? ⟨Bn, 0, none⟩ = some (.slice A2 m2 c2)) (hL : Rs spc 5 w n₀ A m c ls) (hM : Rs spc 5 w n₀ A2 m2 c2 ms) :
    SeqStopsK Fence.wide n Tryz.prog 131 #[.pointer (some ⟨Ba, 0, none⟩), .pointer (some ⟨Bn, 0, none⟩)] (spv2 ls ms hlen) (KeepAt n₀ Bn) (fun ys => ys = List.finRange ls.length) (fun pre => pre <+: List.finRange ls.length) (List.finRange ls.length).length w := fun l J Jx W hW hJ _ hY h0 =>
  pairs1_in n hn l Ba Bn n₀ A A2 m c m2 c2 ls ms hlen J Jx W hJ hY ((hW.cell (p := ⟨Ba, 0, none⟩) (World.block_lt_of_cell? w ⟨Ba, 0, none⟩ hca)).trans hca) ((hW.cell (p := ⟨Bn, 0, none⟩) (World.block_lt_of_cell? w ⟨Bn, 0, none⟩ hcn)).trans hcn) (hL.below (hW.mono hn₀)) (hM.below (hW.mono hn₀)) (Nat.le_trans hn₀ hW.size) h0

end Go.Proofs.YtfmpecnkkbpdlaaGreat

/- What grounds.must and grounds.hold tell. Condition: the spots can be read, the second ones are as many, and what is asked of two values is answered. -/
namespace Go.Proofs.YtfmpecnkkbpdlaaGreat
open Go.RowKit Go.Shelf

attribute [local go_sem] Oper.semAt_some

/-- What must hold of two values, by the side. -/
def mustB (s : Nat) (R : Nat → Nat → Bool) (a b : Nat) : Bool := if s = 0 then R a b else if s = 1 then R b a else decide (a = b)
/-- It holds at all pairs of spots. -/
def pairB (R : Nat → Nat → Bool) (x : Sp × Sp) : Bool := mustB x.1.s R x.1.z.toNat x.2.z.toNat
def holdB (ls ms : List Sp) (R : Nat → Nat → Bool) : Bool := (ls.zip ms).all (pairB R)

/-- A function value that tells R of any two values, in every world behind w. -/
def Tells (w : World) (v : Value) (R : Nat → Nat → Bool) : Prop := ∃ F p, (F = 66 ∨ F = 67) ∧ v = .func (.func F) #[.pointer p] #[] ∧ ∀ W, Below w.heap.size w W → ∀ x y : Nat, x < 18446744073709551616 → y < 18446744073709551616 →
  Calls Tryz.prog F #[.pointer p, .int .u64 (x : Int), .int .u64 (y : Int)] W fun e w' => e = .returned (.bool (R x y)) ∧ Below W.heap.size W w'

set_option maxRecDepth 100000 in
theorem must_any (s F : Nat) (bound : Array Value) (w : World) :
    Calls Tryz.prog 101 #[.int .u8 (s : Int), .func (.func F) bound #[]] w fun e w' => e = .returned (if s = 0 then .func (.func F) bound #[] else if s = 1 then .func (.func 132) #[] #[.pointer (some ⟨w.heap.size, 0, none⟩)] else .func (.func 133) #[] #[]) ∧ w' = w.alloc (.cells #[.func (.func F) bound #[]] 171) := by
  by_cases h0 : s = 0
  · subst h0
    go_enter Tryz.func101, Tryz.ntmps101
    go_wp2
    go_ret
    exact ⟨rfl, rfl⟩
  by_cases h1 : s = 1
  · subst h1
    go_enter Tryz.func101, Tryz.ntmps101
    go_wp2
    go_ret
    exact ⟨rfl, rfl⟩
  rw [if_neg h0, if_neg h1]
  have e0 : ((s : Int) == 0) = false := by simp; omega
  have e1 : ((s : Int) == 1) = false := by simp; omega
  clear h0 h1
  go_enter Tryz.func101, Tryz.ntmps101
  go_wp2
  go_ret
  exact ⟨rfl, rfl⟩

theorem eq_any (x y : Nat) (w : World) : Calls Tryz.prog 133 #[.int .u64 (x : Int), .int .u64 (y : Int)] w fun e w' => e = .returned (.bool (decide (x = y))) ∧ w = w' := by
  by_cases h : x = y
  · subst h
    have e0 : ((x : Int) == (x : Int)) = true := by simp
    rw [decide_eq_true rfl]
    go_enter Tryz.func133, Tryz.ntmps133
    go_wp2
    go_ret
    exact ⟨rfl, rfl⟩
  · have e0 : ((x : Int) == (y : Int)) = false := by simp; omega
    rw [decide_eq_false h]
    clear h
    go_enter Tryz.func133, Tryz.ntmps133
    go_wp2
    go_ret
    exact ⟨rfl, rfl⟩


set_option maxRecDepth 100000 in
/-- What a side's closure tells. -/
theorem must_tells {w : World} {rv : Value} {R : Nat → Nat → Bool} (h : Tells w rv R) (s B : Nat) (W : World) (hW : Below w.heap.size w W) (hB : W.cell? ⟨B, 0, none⟩ = some rv) :
    ∀ x y : Nat, x < 18446744073709551616 → y < 18446744073709551616 → ∃ F bound cp, (if s = 0 then rv else if s = 1 then Value.func (.func 132) #[] #[.pointer (some ⟨B, 0, none⟩)] else .func (.func 133) #[] #[]) = .func (.func F) bound cp ∧
      Calls Tryz.prog F (bound ++ #[.int .u64 (x : Int), .int .u64 (y : Int)] ++ cp) W fun e w' => e = .returned (.bool (mustB s R x y)) ∧ Below W.heap.size W w' := by
  intro x y hx hy
  obtain ⟨F, p, hF2, rfl, hF⟩ := h
  unfold mustB
  by_cases h0 : s = 0
  · rw [if_pos h0, if_pos h0]
    exact ⟨F, #[.pointer p], #[], rfl, hF W hW x y hx hy⟩
  by_cases h1 : s = 1
  · rw [if_neg h0, if_pos h1, if_neg h0, if_pos h1]
    refine ⟨132, #[], _, rfl, ?_⟩
    have HF := Lib.hid (hF W hW y x hy hx)
    clear h0 h1 hF
    generalize R y x = r at *
    show Calls Tryz.prog 132 #[.int .u64 (x : Int), .int .u64 (y : Int), .pointer (some ⟨B, 0, none⟩)] W _
    rcases hF2 with rfl | rfl
    all_goals (
      go_enter Tryz.func132, Tryz.ntmps132
      go_wp2_with fail
      refine HF.out.mono ?_
      rintro e w1 ⟨rfl, hb⟩
      go_wp2_with fail
      go_ret
      exact ⟨rfl, hb⟩)
  · rw [if_neg h0, if_neg h1, if_neg h0, if_neg h1]
    exact ⟨133, #[], #[], rfl, (eq_any x y W).mono fun e w' ⟨he, hw⟩ => ⟨he, hw ▸ Below.refl _ _⟩⟩

theorem holdB_yes {ls ms : List Sp} {R : Nat → Nat → Bool} (hl : ls.length ≤ ms.length) (h : ∀ i ∈ List.finRange ls.length, pairB R (ls[i.val], ms[i.val]'(Nat.lt_of_lt_of_le i.isLt hl)) = true) : holdB ls ms R = true := by
  refine List.all_eq_true.2 fun x hx => ?_
  obtain ⟨k, hk, e⟩ := List.mem_iff_getElem.1 hx
  rw [List.length_zip] at hk
  rw [List.getElem_zip] at e
  subst e
  exact h ⟨k, by omega⟩ (List.mem_finRange _)
theorem holdB_no {ls ms : List Sp} {R : Nat → Nat → Bool} (hl : ls.length ≤ ms.length) (i : Fin ls.length) (h : pairB R (ls[i.val], ms[i.val]'(Nat.lt_of_lt_of_le i.isLt hl)) = false) : holdB ls ms R = false := by
  have hz : i.val < (ls.zip ms).length := by rw [List.length_zip]; have := i.isLt; omega
  have hm : (ls[i.val], ms[i.val]'(Nat.lt_of_lt_of_le i.isLt hl)) ∈ ls.zip ms := List.mem_iff_getElem.2 ⟨i.val, hz, List.getElem_zip⟩
  refine Bool.eq_false_iff.2 fun e => ?_
  have := List.all_eq_true.1 e _ hm
  rw [h] at this
  cases this

/-- Where the round's two variables lie. -/
def HoAx (ls ms : List Sp) (hl : ls.length ≤ ms.length) (A A2 : Option Addr) (m c m2 c2 F : Nat) (p : Option Addr) (n : Nat) (i : Fin ls.length) (a' : Act) (W : World) : Prop :=
  ∃ b1 b2, a' = { tmps := #[.slice A m c, .slice A2 m2 c2, .func (.func F) #[.pointer p] #[], undef, undef, .pointer (some ⟨n, 0, none⟩), .pointer (some ⟨n + 1, 0, none⟩), .pointer (some ⟨b1, 0, none⟩), .pointer (some ⟨b2, 0, none⟩), undef, .slice A m c, .slice A2 m2 c2, .func (.func 131) #[] #[.pointer (some ⟨n + 1 + 1, 0, none⟩), .pointer (some ⟨n + 1 + 1 + 1, 0, none⟩)], spv ls[i.val], spv (ms[i.val]'(Nat.lt_of_lt_of_le i.isLt hl)), undef, undef, undef, undef, undef, undef, undef, undef, undef, undef, undef, undef, undef], defers := [] } ∧
    W.heap[b1]? = some (.cells (spc ls[i.val]).toArray 101 (0, 0)) ∧ W.heap[b2]? = some (.cells (spc (ms[i.val]'(Nat.lt_of_lt_of_le i.isLt hl))).toArray 101 (0, 0))

theorem ownFrom_size {β : Type} (B k : Nat) : OwnFrom B (fun (_ : β) W => k < W.heap.size) := fun _ _ _ _ hs hg _ => Nat.lt_of_lt_of_le hs hg.size
theorem cells_kept {W W' : World} {row : Option Nat} {b : Nat} {cs : Array Value} {t : TypeId} (h : W.heap[b]? = some (.cells cs t (0, 0))) (hg : W.grownBy W' row) {B : Nat} (hr : ∀ r, row = some r → B ≤ r ∧ ∃ o : Obj, W.heap[r]? = some o ∧ o.isCells = false) : W'.heap[b]? = some (.cells cs t (0, 0)) :=
  (hg.block b (lt_blk h) fun e => by
    obtain ⟨_, o, ho, hc⟩ := hr b e.symm
    rw [h] at ho
    cases ho
    cases hc).trans h
theorem below_keeps {W W' : World} {B : Nat} (h : Below W.heap.size W W') : KeepsFrom B W W' := ⟨h.size, fun k _ _ hk _ => (h.block k (lt_blk hk)).trans hk⟩

set_option maxRecDepth 100000 in
set_option maxHeartbeats 4000000 in
theorem hold_wide (A A2 : Option Addr) (m c m2 c2 : Nat) (ls ms : List Sp) (rv : Value) (R : Nat → Nat → Bool) (w : World) (hl : ls.length ≤ ms.length) (hR : Tells w rv R) (h1 : Rs spc 5 w w.heap.size A m c ls) (h2 : Rs spc 5 w w.heap.size A2 m2 c2 ms) (hz : ∀ p ∈ ls, U64 p.z) (hz2 : ∀ p ∈ ms, U64 p.z) :
    CallsIn Fence.wide 6 Tryz.prog 65 #[.slice A m c, .slice A2 m2 c2, rv] w fun e w' => e = .returned (.bool (holdB ls ms R)) ∧ Below w.heap.size w w' := by
  have HT := Lib.hid (fun (s B : Nat) (W : World) (hW : Below w.heap.size w W) (hB : W.cell? ⟨B, 0, none⟩ = some rv) (x y : Nat) (hx : x < 18446744073709551616) (hy : y < 18446744073709551616) => must_tells hR s B W hW hB x y hx hy)
  obtain ⟨F, p, hF, rfl, -⟩ := hR
  have hro : Fence.wide.round = none := rfl
  refine callsIn_of_wp_marks Tryz.func65 rfl trivial ?_ hro
  simp only [Tryz.ntmps65, List.size_toArray, List.length_cons, List.length_nil, Nat.reduceAdd, Nat.reduceSub, Array.replicate_succ, Array.replicate_zero, List.push_toArray, List.append_toArray, List.nil_append, List.cons_append]
  gi_wp2_with fail
  refine ⟨trivial, (pairs_in Fence.wide _ trivial rfl A A2 m c m2 c2 _).mono ?_⟩
  rintro e w2 ⟨rfl, rfl⟩
  gi_wp2_with fail
  have k4 : Below w.heap.size w ((((w.alloc (.cells #[.func (.func F) #[.pointer p] #[]] 171)).alloc (.cells #[.bool false] 4)).alloc (.cells #[.slice A m c] 25)).alloc (.cells #[.slice A2 m2 c2] 25)) := ((((Below.refl _ w).alloc (Nat.le_refl _) _).alloc (by simp) _).alloc (by simp; omega) _).alloc (by simp; omega) _
  have c5 : Boxed ((((w.alloc (.cells #[.func (.func F) #[.pointer p] #[]] 171)).alloc (.cells #[.bool false] 4)).alloc (.cells #[.slice A m c] 25)).alloc (.cells #[.slice A2 m2 c2] 25)) w.heap.size 171 (.func (.func F) #[.pointer p] #[]) := (((Boxed.new w 171 (.func (.func F) #[.pointer p] #[])).alloc _).alloc _).alloc _
  have c6 : Boxed ((((w.alloc (.cells #[.func (.func F) #[.pointer p] #[]] 171)).alloc (.cells #[.bool false] 4)).alloc (.cells #[.slice A m c] 25)).alloc (.cells #[.slice A2 m2 c2] 25)) (w.heap.size + 1) 4 (.bool false) := by
    have := ((Boxed.new (w.alloc (.cells #[.func (.func F) #[.pointer p] #[]] 171)) 4 (.bool false)).alloc (.cells #[.slice A m c] 25)).alloc (.cells #[.slice A2 m2 c2] 25)
    simpa using this
  have c7 : Boxed ((((w.alloc (.cells #[.func (.func F) #[.pointer p] #[]] 171)).alloc (.cells #[.bool false] 4)).alloc (.cells #[.slice A m c] 25)).alloc (.cells #[.slice A2 m2 c2] 25)) (w.heap.size + 1 + 1) 25 (.slice A m c) := by
    have := (Boxed.new ((w.alloc (.cells #[.func (.func F) #[.pointer p] #[]] 171)).alloc (.cells #[.bool false] 4)) 25 (.slice A m c)).alloc (.cells #[.slice A2 m2 c2] 25)
    simpa using this
  have c8 : Boxed ((((w.alloc (.cells #[.func (.func F) #[.pointer p] #[]] 171)).alloc (.cells #[.bool false] 4)).alloc (.cells #[.slice A m c] 25)).alloc (.cells #[.slice A2 m2 c2] 25)) (w.heap.size + 1 + 1 + 1) 25 (.slice A2 m2 c2) := by
    have := Boxed.new (((w.alloc (.cells #[.func (.func F) #[.pointer p] #[]] 171)).alloc (.cells #[.bool false] 4)).alloc (.cells #[.slice A m c] 25)) 25 (.slice A2 m2 c2)
    simpa using this
  have hsz : ((((w.alloc (.cells #[.func (.func F) #[.pointer p] #[]] 171)).alloc (.cells #[.bool false] 4)).alloc (.cells #[.slice A m c] 25)).alloc (.cells #[.slice A2 m2 c2] 25)).heap.size = w.heap.size + 1 + 1 + 1 + 1 := by simp
  generalize ((((w.alloc (.cells #[.func (.func F) #[.pointer p] #[]] 171)).alloc (.cells #[.bool false] 4)).alloc (.cells #[.slice A m c] 25)).alloc (.cells #[.slice A2 m2 c2] 25)) = w5 at *
  refine wpIn_rangeFunc_ownH hro (by decide) (gf := 131) (lb := #[.pointer (some ⟨w.heap.size + 1 + 1, 0, none⟩), .pointer (some ⟨w.heap.size + 1 + 1 + 1, 0, none⟩)]) rfl trivial (enters_of Tryz.func131 (by kernel_rfl) rfl)
    (pairs_stops (6 - 1) (by decide) (w.heap.size + 1 + 1) (w.heap.size + 1 + 1 + 1) w.heap.size A A2 m c m2 c2 ls ms hl w5 (by omega) c7.cell c8.cell (h1.below k4) (h2.below k4)) keepAt_t (keepAt_b (by omega) (by omega)) (Below.refl _ _) (fun _ => by rfl)
    (fun pre W => ((Boxed W w.heap.size 171 (.func (.func F) #[.pointer p] #[]) ∧ Boxed W (w.heap.size + 1) 4 (.bool false)) ∧ (Below w.heap.size w W ∧ w.heap.size + 1 + 1 + 1 < W.heap.size)) ∧ ∀ i ∈ pre, pairB R (ls[i.val], ms[i.val]'(Nat.lt_of_lt_of_le i.isLt hl)) = true)
    (fun c pre W => (Boxed W (w.heap.size + 1) 4 (.bool false) ∧ Below w.heap.size w W) ∧ c = .ret ∧ ∃ (q : List (Fin ls.length)) (i : Fin ls.length), pre = q ++ [i] ∧ pairB R (ls[i.val], ms[i.val]'(Nat.lt_of_lt_of_le i.isLt hl)) = false)
    (OwnFrom.and (OwnFrom.and (OwnFrom.and (Own.from (boxed_own _ _ _) _) (Own.from (boxed_own _ _ _) _)) (OwnFrom.and (ownFrom_below (Nat.le_refl _) (by omega)) (ownFrom_size _ _))) (fun _ _ _ _ hs _ _ => hs))
    (fun _ => OwnFrom.and (OwnFrom.and (Own.from (boxed_own _ _ _) _) (ownFrom_below (Nat.le_refl _) (by omega))) (fun _ _ _ _ hs _ _ => hs))
    ⟨⟨⟨c5, c6⟩, k4, by omega⟩, by simp⟩
    (HoAx ls ms hl A A2 m c m2 c2 F p w.heap.size) (fun x a' _ W W' row hs hg hr => by
      obtain ⟨b1, b2, e, g1, g2⟩ := hs
      exact ⟨b1, b2, e, cells_kept g1 hg hr, cells_kept g2 hg hr⟩) ?assign ?body ?done ?stop
  case assign =>
    intro l pre x W K hI hK
    have hx1 : spv2 ls ms hl x = #[spv ls[x.val], spv (ms[x.val]'(Nat.lt_of_lt_of_le x.isLt hl))] := rfl
    rw [hx1]
    obtain ⟨⟨⟨i1, i2⟩, i3, i4⟩, i5⟩ := hI
    have HK := Lib.hid hK
    have hax : ∀ b1 b2 W', W'.heap[b1]? = some (.cells (spc ls[x.val]).toArray 101 (0, 0)) → W'.heap[b2]? = some (.cells (spc (ms[x.val]'(Nat.lt_of_lt_of_le x.isLt hl))).toArray 101 (0, 0)) →
        HoAx ls ms hl A A2 m c m2 c2 F p w.heap.size x { tmps := #[.slice A m c, .slice A2 m2 c2, .func (.func F) #[.pointer p] #[], undef, undef, .pointer (some ⟨w.heap.size, 0, none⟩), .pointer (some ⟨w.heap.size + 1, 0, none⟩), .pointer (some ⟨b1, 0, none⟩), .pointer (some ⟨b2, 0, none⟩), undef, .slice A m c, .slice A2 m2 c2, .func (.func 131) #[] #[.pointer (some ⟨w.heap.size + 1 + 1, 0, none⟩), .pointer (some ⟨w.heap.size + 1 + 1 + 1, 0, none⟩)], spv ls[x.val], spv (ms[x.val]'(Nat.lt_of_lt_of_le x.isLt hl)), undef, undef, undef, undef, undef, undef, undef, undef, undef, undef, undef, undef, undef], defers := [] } W' :=
      fun b1 b2 W' h1 h2 => ⟨b1, b2, rfl, h1, h2⟩
    have HAX := Lib.hid hax
    unfold spv spc at HAX
    unfold spv
    generalize ls[x.val] = q1 at *
    generalize (ms[x.val]'(Nat.lt_of_lt_of_le x.isLt hl)) = q2 at *
    obtain ⟨xn, xp, xs, xv, xz⟩ := q1
    obtain ⟨yn, yp, ys, yv, yz⟩ := q2
    simp only at HAX
    clear hK hx1 hax
    gi_wp2
    have ha1 := (Below.refl W.heap.size W).alloc (Nat.le_refl _) (.cells #[.int .i64 (xn : Int), .int .u8 (xp : Int), .int .u8 (xs : Int), .bool xv, .int .u64 xz] 101)
    have ha2 := ha1.alloc ha1.size (.cells #[.int .i64 (yn : Int), .int .u8 (yp : Int), .int .u8 (ys : Int), .bool yv, .int .u64 yz] 101)
    refine HK.out _ _ (below_keeps ha2) ⟨ha2.mono i3.size, ha2.block _ i4⟩ ⟨⟨⟨i1.keep ha2, i2.keep ha2⟩, i3.trans (ha2.mono i3.size), Nat.lt_of_lt_of_le i4 ha2.size⟩, i5⟩ ?_
    refine HAX.out W.heap.size (W.heap.size + 1) _ ?_ ?_
    · exact (Below.heap_alloc _ _ _ (by simp)).trans (heap_alloc_new W _)
    · have := heap_alloc_new (W.alloc (.cells #[.int .i64 (xn : Int), .int .u8 (xp : Int), .int .u8 (xs : Int), .bool xv, .int .u64 xz] 101)) (.cells #[.int .i64 (yn : Int), .int .u8 (yp : Int), .int .u8 (ys : Int), .bool yv, .int .u64 yz] 101)
      rwa [World.size_alloc] at this
  case body =>
    rintro l pre x a' W hlw - ⟨⟨⟨i1, i2⟩, i3, i4⟩, i5⟩ ⟨b1, b2, rfl, g1, g2⟩ hlen
    have hu1 := hz _ (List.getElem_mem (l := ls) x.isLt)
    have hu2 := hz2 _ (List.getElem_mem (l := ms) (Nat.lt_of_lt_of_le x.isLt hl))
    obtain ⟨r, hr⟩ : ∃ r, pairB R (ls[x.val], ms[x.val]'(Nat.lt_of_lt_of_le x.isLt hl)) = r := ⟨_, rfl⟩
    have HR1 := Lib.hid hr
    have HI := Lib.hid i5
    have hpb : mustB ls[x.val].s R ls[x.val].z.toNat (ms[x.val]'(Nat.lt_of_lt_of_le x.isLt hl)).z.toNat = r := hr
    clear hr i5 hlen
    unfold spv
    generalize ls[x.val] = q1 at hu1 hpb g1 ⊢
    generalize (ms[x.val]'(Nat.lt_of_lt_of_le x.isLt hl)) = q2 at hu2 hpb g2 ⊢
    obtain ⟨xn, xp, xs, xv, xz⟩ := q1
    obtain ⟨yn, yp, ys, yv, yz⟩ := q2
    simp only at hu1 hu2 hpb
    obtain ⟨zx, rfl, hzx⟩ := hu1.nat
    obtain ⟨zy, rfl, hzy⟩ := hu2.nat
    rw [Int.toNat_natCast, Int.toNat_natCast] at hpb
    have e2 : W.cell? ⟨b1, 2, none⟩ = some (.int .u8 (xs : Int)) := (cell_blk (i := 2) g1).trans rfl
    have e4 : W.cell? ⟨b1, 4, none⟩ = some (.int .u64 (zx : Int)) := (cell_blk (i := 4) g1).trans rfl
    have k4' : W.cell? ⟨b2, 4, none⟩ = some (.int .u64 (zy : Int)) := (cell_blk (i := 4) g2).trans rfl
    have hc5 := i1.cell
    have hal : Below W.heap.size W (W.alloc (.cells #[.func (.func F) #[.pointer p] #[]] 171)) := (Below.refl _ _).alloc (Nat.le_refl _) _
    have e4a := (hal.cell (p := ⟨b1, 4, none⟩) (World.block_lt_of_cell? W _ e4)).trans e4
    have k4a := (hal.cell (p := ⟨b2, 4, none⟩) (World.block_lt_of_cell? W _ k4')).trans k4'
    have hm := must_any xs F #[.pointer p] W
    have hc := HT.out xs W.heap.size (W.alloc (.cells #[.func (.func F) #[.pointer p] #[]] 171)) (i3.trans (hal.mono i3.size)) ((cell_blk (i := 0) (heap_alloc_new W _)).trans rfl) zx zy hzx hzy
    rw [hpb] at hc
    obtain ⟨G, bd, cp, hm, hc, hG⟩ : ∃ (G : Nat) (bd cp : Array Value), Calls Tryz.prog 101 #[.int .u8 (xs : Int), .func (.func F) #[.pointer p] #[]] W (fun e w' => e = .returned (.func (.func G) bd cp) ∧ w' = W.alloc (.cells #[.func (.func F) #[.pointer p] #[]] 171)) ∧
        Calls Tryz.prog G (bd ++ #[.int .u64 (zx : Int), .int .u64 (zy : Int)] ++ cp) (W.alloc (.cells #[.func (.func F) #[.pointer p] #[]] 171)) (fun e w' => e = .returned (.bool r) ∧ Below (W.alloc (.cells #[.func (.func F) #[.pointer p] #[]] 171)).heap.size (W.alloc (.cells #[.func (.func F) #[.pointer p] #[]] 171)) w') ∧
        ((G = 66 ∧ bd = #[.pointer p] ∧ cp = #[]) ∨ (G = 67 ∧ bd = #[.pointer p] ∧ cp = #[]) ∨ (G = 132 ∧ bd = #[] ∧ cp = #[.pointer (some ⟨W.heap.size, 0, none⟩)]) ∨ (G = 133 ∧ bd = #[] ∧ cp = #[])) := by
      obtain ⟨G, bd, cp, he, hc⟩ := hc
      refine ⟨G, bd, cp, he ▸ hm, hc, ?_⟩
      by_cases h0 : xs = 0
      · rw [if_pos h0] at he
        injection he with h1 h2 h3
        injection h1 with h1
        subst h1 h2 h3
        rcases hF with h | h
        · exact .inl ⟨h, rfl, rfl⟩
        · exact .inr (.inl ⟨h, rfl, rfl⟩)
      by_cases h1 : xs = 1
      · rw [if_neg h0, if_pos h1] at he
        injection he with h1 h2 h3
        injection h1 with h1
        exact .inr (.inr (.inl ⟨h1.symm, h2.symm, h3.symm⟩))
      · rw [if_neg h0, if_neg h1] at he
        injection he with h1 h2 h3
        injection h1 with h1
        exact .inr (.inr (.inr ⟨h1.symm, h2.symm, h3.symm⟩))
    have HSZ := Lib.hid (show ∀ w', Below (W.alloc (.cells #[.func (.func F) #[.pointer p] #[]] 171)).heap.size (W.alloc (.cells #[.func (.func F) #[.pointer p] #[]] 171)) w' → Below W.heap.size W w' from fun w' hb => hal.trans (hb.mono hal.size))
    clear hpb hzx hzy hz hz2 hu1 hu2 HT h1 h2 e4 k4' hal g1 g2
    have HM := Lib.hid hm
    rcases hG with ⟨rfl, rfl, rfl⟩ | ⟨rfl, rfl, rfl⟩ | ⟨rfl, rfl, rfl⟩ | ⟨rfl, rfl, rfl⟩
    all_goals (
      simp only [List.append_toArray, List.nil_append, List.cons_append, List.append_nil] at hc
      have HC := Lib.hid hc
      clear hm hc
      gi_wp2_with fail
      refine ⟨trivial, ((CallsIn.inRound l (callsIn_wide.2 HM.out))).mono ?_⟩
      rintro e w6 ⟨rfl, rfl⟩
      gi_wp2_with fail
      refine ⟨trivial, ((CallsIn.inRound l (callsIn_wide.2 HC.out))).mono ?_⟩
      rintro e w7 ⟨rfl, hb7⟩
      have hb := HSZ.out _ hb7
      clear hb7 e4a k4a
      cases r with
      | true =>
        gi_wp2_with fail
        refine ⟨below_keeps hb, ⟨hb.mono i3.size, hb.block _ i4⟩, ⟨⟨i1.keep hb, i2.keep hb⟩, i3.trans (hb.mono i3.size), Nat.lt_of_lt_of_le i4 hb.size⟩, fun i hi => ?_⟩
        rcases List.mem_append.1 hi with h | h
        · exact HI.out i h
        · obtain rfl : i = x := by simpa using h
          exact HR1.out
      | false =>
        have j2 := i2.keep hb
        have hcn := j2.cell
        have hfn := j2.frozen
        gi_wp2_with fail
        exact ⟨(below_keeps hb).trans ((KeepsOthers.setCell _ _ _).from _), ⟨j2.set _, (i3.trans (hb.mono i3.size)).setCell (p := ⟨w.heap.size + 1, 0, none⟩) (by simp) _⟩, rfl, _, _, rfl, HR1.out⟩)
  case done =>
    rintro D ys W hD rfl ⟨⟨⟨i1, i2⟩, i3, i4⟩, i5⟩ hK
    have HR := Lib.hid (holdB_yes hl i5)
    have hcn := i2.cell
    have hfn := i2.frozen
    clear i5
    gi_wp2
    have hK' := (KeepsOthers.setCell W ⟨w.heap.size + 1, 0, none⟩ (.bool true)).same D _ hK rfl
    refine ⟨by simp, .inl ⟨_, _, rfl, run_takeDeferred hK', ?_⟩⟩
    have hc5 := cell_kept (i2.set (.bool true)).cell (grownBy_putObj' _ D (.deferred none)) (fun r e => by cases e; exact ⟨_, hK', rfl⟩)
    refine ⟨.bool true, ?_, by rw [HR.out], (i3.setCell (p := ⟨w.heap.size + 1, 0, none⟩) (by simp) _).trans (belowK_b (w := w5) (by omega) _ D _ _ (by omega) hK' rfl rfl)⟩
    simp [results, Tryz.f65, go_sem, hc5]
  case stop =>
    rintro D c pre W hD hpre ⟨⟨i2, i3⟩, rfl, q, x, rfl, hx⟩ hK
    have HR := Lib.hid (holdB_no hl x hx)
    have hcn := i2.cell
    have hfn := i2.frozen
    clear hpre hx
    gi_wp2
    refine ⟨by simp, .inl ⟨_, _, rfl, run_takeDeferred hK, ?_⟩⟩
    have hc5 := cell_kept i2.cell (grownBy_putObj' _ D (.deferred none)) (fun r e => by cases e; exact ⟨_, hK, rfl⟩)
    refine ⟨.bool false, ?_, by rw [HR.out], i3.trans (belowK_b (w := w5) (by omega) W D _ _ (by omega) hK rfl rfl)⟩
    simp [results, Tryz.f65, go_sem, hc5]

theorem hold_any (A A2 : Option Addr) (m c m2 c2 : Nat) (ls ms : List Sp) (rv : Value) (R : Nat → Nat → Bool) (w : World) (hl : ls.length ≤ ms.length) (hR : Tells w rv R) (h1 : Rs spc 5 w w.heap.size A m c ls) (h2 : Rs spc 5 w w.heap.size A2 m2 c2 ms) (hz : ∀ p ∈ ls, U64 p.z) (hz2 : ∀ p ∈ ms, U64 p.z) :
    Calls Tryz.prog 65 #[.slice A m c, .slice A2 m2 c2, rv] w fun e w' => e = .returned (.bool (holdB ls ms R)) ∧ Below w.heap.size w w' :=
  callsIn_wide.1 (hold_wide A A2 m c m2 c2 ls ms rv R w hl hR h1 h2 hz hz2)
end Go.Proofs.YtfmpecnkkbpdlaaGreat

/- What grounds.valued tells. Condition: the spots can be read, and what is asked of a value is answered. -/
namespace Go.Proofs.YtfmpecnkkbpdlaaGreat
open Go.RowKit

/-- A function value that tells H of any value, in every world behind w. -/
def Tells1 (w : World) (v : Value) (H : Nat → Bool) : Prop := ∃ F p, (F = 63 ∨ F = 64) ∧ v = .func (.func F) #[.pointer p] #[] ∧ ∀ W, Below w.heap.size w W → ∀ x : Nat, x < 18446744073709551616 →
  Calls Tryz.prog F #[.pointer p, .int .u64 (x : Int)] W fun e w' => e = .returned (.bool (H x)) ∧ Below W.heap.size W w'

/-- A spot has a value. -/
def okS (H : Nat → Bool) (p : Sp) : Bool := !p.v && H p.z.toNat
def valB (H : Nat → Bool) (l : List Sp) : Bool := l.all (okS H)
def valN (H : Nat → Bool) (ls ms : List Sp) (k : Nat) : Bool := if k = 0 then true else if k = 1 then valB H ls else valB H ls && valB H ms

/-- One of two lists. -/
structure Lst (w : World) (g k : Nat) (A : Option Addr) (n c : Nat) (l : List Sp) : Prop where
  cell : w.cell? ⟨g, k, none⟩ = some (.slice A n c)
  rs : Rs spc 5 w w.heap.size A n c l
  fit : ∀ p ∈ l, U64 p.z
theorem Lst.keep {w W : World} {g k n c : Nat} {A : Option Addr} {l : List Sp} (h : Lst w g k A n c l) (hb : Below w.heap.size w W) : Lst W g k A n c l :=
  ⟨(hb.cell (p := ⟨g, k, none⟩) (World.block_lt_of_cell? w _ h.cell)).trans h.cell, h.rs.at_size (Nat.le_refl _) hb, h.fit⟩

def VaRel (H : Nat → Bool) (ls ms : List Sp) (w : World) (v11 : Value) (wr : World) : Prop := ∃ k : Nat, v11 = .int .i64 (k : Int) ∧ k ≤ 2 ∧ valN H ls ms k = true ∧ Below w.heap.size w wr
def ViRel (H : Nat → Bool) (l : List Sp) (w : World) (v17 : Value) (wr : World) : Prop := ∃ i : Nat, v17 = .int .i64 (i : Int) ∧ i ≤ l.length ∧ valB H (l.take i) = true ∧ Below w.heap.size w wr

theorem valB_step {H : Nat → Bool} {l : List Sp} {i : Nat} (hi : i < l.length) (h : valB H (l.take i) = true) : valB H (l.take (i + 1)) = okS H l[i] := by
  unfold valB at *
  rw [List.take_succ_eq_append_getElem hi, List.all_append, h]
  simp
theorem valB_no {H : Nat → Bool} {l : List Sp} {i : Nat} (hi : i < l.length) (h : okS H l[i] = false) : valB H l = false := by
  refine Bool.eq_false_iff.2 fun e => ?_
  have := List.all_eq_true.1 e _ (List.getElem_mem hi)
  rw [h] at this
  cases this

set_option maxRecDepth 100000 in
set_option maxHeartbeats 2000000 in
theorem valued_any (rv : Value) (H : Nat → Bool) (g : Nat) (A A2 : Option Addr) (n c n2 c2 : Nat) (ls ms : List Sp) (w : World) (hH : Tells1 w rv H) (h1 : Lst w g 0 A n c ls) (h2 : Lst w g 1 A2 n2 c2 ms) :
    Calls Tryz.prog 62 #[rv, .slice (some ⟨g, 0, none⟩) 2 2] w fun e w' => e = .returned (.bool (valB H ls && valB H ms)) ∧ Below w.heap.size w w' := by
  obtain ⟨F, p, hF, rfl, hT⟩ := hH
  have HT := Lib.hid hT
  have HL1 := Lib.hid h1
  have HL2 := Lib.hid h2
  clear hT h1 h2
  rcases hF with rfl | rfl
  all_goals (
    go_enter Tryz.func62, Tryz.ntmps62
    go_wp2
    go_loopw [11] (fun v11 wr => VaRel H ls ms w v11 wr) (fun v11 _ => 2 - (intOf v11).toNat)
    case atStart => exact ⟨0, rfl, by omega, rfl, Below.refl _ _⟩
    case round =>
      obtain ⟨k, rfl, hk, hval, hb⟩ := hrel
      have HV := Lib.hid hval
      clear hval
      by_cases hlt : k < 2
      · obtain ⟨Ax, nx, cx, l, hx, hstep, hno⟩ : ∃ Ax nx cx l, Lst w g k Ax nx cx l ∧ Hid (valB H l = true → valN H ls ms (k + 1) = true) ∧ Hid (valB H l = false → (valB H ls && valB H ms) = false) := by
          have : k = 0 ∨ k = 1 := by omega
          rcases this with rfl | rfl
          · exact ⟨A, n, c, ls, HL1.out, Lib.hid fun h => h, Lib.hid fun h => by rw [h]; rfl⟩
          · refine ⟨A2, n2, c2, ms, HL2.out, Lib.hid fun h => ?_, Lib.hid fun h => by rw [h, Bool.and_false]⟩
            have h1 := HV.out
            unfold valN at h1 ⊢
            simp at h1 ⊢
            exact ⟨h1, h⟩
        clear HV
        have hx1 := hx.keep hb
        have hcell := hx1.cell
        have HL := Lib.hid hx1.rs.len
        have htop := hx1.rs.top
        have hcap := hx1.rs.cap
        unfold maxLen at htop
        have HX := Lib.hid hx
        clear hx hx1
        go_wp2
        have HK2 := Lib.hid hlt
        have hdk : decide ((k : Int) < 2) = true := decide_eq_true (by omega)
        simp only [hdk]
        clear hlt hdk
        go_loopw [17] (fun v17 wr => ViRel H l w v17 wr) (fun v17 _ => nx - (intOf v17).toNat)
        case atStart => exact ⟨0, rfl, by omega, rfl, hb⟩
        case round =>
          clear hcell hb
          obtain ⟨i, rfl, hi, hvi, hb⟩ := hrel
          by_cases hlti : i < nx
          · have hi' : i < l.length := by rw [HL.out]; exact hlti
            have hr := (HX.out.keep hb).rs
            obtain ⟨b, o, rfl, hbb, e0, e1, e2, e3, e4⟩ := spot_at hr hi'
            have hu := HX.out.fit _ (List.getElem_mem hi')
            obtain ⟨q, hq⟩ : ∃ q, okS H l[i] = q := ⟨_, rfl⟩
            have HST := Lib.hid (valB_step hi' hvi)
            have HNO := Lib.hid (fun e : okS H l[i] = false => valB_no hi' e)
            have hdef : okS H l[i] = (!l[i].v && H l[i].z.toNat) := rfl
            generalize okS H l[i] = okq at *
            generalize l[i] = x at *
            obtain ⟨xn, xp, xs, xv, xz⟩ := x
            simp only at e0 e1 e2 e3 e4 hu hdef
            obtain ⟨z, rfl, hzz⟩ := hu.nat
            rw [Int.toNat_natCast] at hdef
            have hal : Below wr.heap.size wr (wr.alloc (.cells #[.int .i64 (xn : Int), .int .u8 (xp : Int), .int .u8 (xs : Int), .bool xv, .int .u64 (z : Int)] 101)) := (Below.refl _ _).alloc (Nat.le_refl _) _
            have HB := Lib.hid (hb.trans (hal.mono hb.size))
            clear hvi hr hu hq hbb hal
            cases xv with
            | true =>
              obtain rfl : okq = false := by rw [hdef]; rfl
              have HN := Lib.hid (hno.out (HNO.out rfl))
              clear hdef HNO hno hstep HST
              go_wp2_with fail
              go_ret
              exact ⟨by rw [HN.out]; rfl, HB.out⟩
            | false =>
              obtain rfl : okq = H z := by rw [hdef]; rfl
              clear hdef
              have hcall := HT.out _ HB.out z hzz
              generalize H z = r at *
              clear hzz
              have HC := Lib.hid hcall
              clear hcall
              go_wp2_with fail
              refine HC.out.mono ?_
              rintro e w3 ⟨rfl, hb3⟩
              have HB3 := Lib.hid (HB.out.trans (hb3.mono HB.out.size))
              clear hb3
              cases r with
              | true =>
                have HST := Lib.hid HST.out
                clear HNO
                go_wp2_with fail
                go_roundw
                case rel => exact ⟨i + 1, by go_num, by omega, HST.out, HB3.out⟩
                case measure => simp [intOf]; omega
              | false =>
                have HN := Lib.hid (hno.out (HNO.out rfl))
                clear HNO hno hstep HST
                go_wp2_with fail
                go_ret
                exact ⟨by rw [HN.out]; rfl, HB3.out⟩
          · obtain rfl : i = nx := by have := HL.out; omega
            have HK := Lib.hid (hstep.out (by rw [List.take_of_length_le (by rw [HL.out]; omega)] at hvi; exact hvi))
            clear hvi
            go_wp2
            go_roundw
            case rel => exact ⟨k + 1, by go_num, HK2.out, HK.out, hb⟩
            case measure =>
              have := HK2.out
              simp [intOf]
              omega
      · obtain rfl : k = 2 := by omega
        have HE : Hid ((valB H ls && valB H ms) = true) := Lib.hid HV.out
        clear HV
        go_wp2
        go_ret
        exact ⟨by rw [HE.out]; rfl, hb⟩)
end Go.Proofs.YtfmpecnkkbpdlaaGreat

/- Ground; Sorts; GrMath: merged. -/
/- What grounds.Below tells. Condition: the nodes can be read, labels and effects lie where they are told. -/
namespace Go.Proofs.YtfmpecnkkbpdlaaGreat
open Go.RowKit

/-- Labels: how many, and their rows; effects: whether there are sets, and all of them. -/
structure So where
  n : Nat
  L : List Nat
  m : Bool
  t : Nat
def So.h1 (S : So) (a : Nat) : Bool := decide (a < S.n)
def So.r1 (S : So) (a b : Nat) : Bool := La.belowB S.L a b
def So.h2 (S : So) (a : Nat) : Bool := Ef.hasE S.m S.t a
def So.r2 (S : So) (a b : Nat) : Bool := Ef.belowE S.m S.t a b

/-- They lie there, if there are any. -/
structure SoAt (w : World) (p q : Option Addr) (S : So) : Prop where
  lat : (p = none ∧ S.n = 0 ∧ S.L = []) ∨ ∃ g us ds, p = some ⟨g, 0, none⟩ ∧ La.LatAt w g S.n us ds ∧ us.take S.n = S.L
  eff : Ef.EffP w q S.m S.t
theorem SoAt.keep {w W : World} {p q : Option Addr} {S : So} (h : SoAt w p q S) (hb : Below w.heap.size w W) : SoAt W p q S :=
  ⟨by
    rcases h.lat with h | ⟨g, us, ds, e, h, e2⟩
    · exact .inl h
    · exact .inr ⟨g, us, ds, e, h.keep hb, e2⟩, h.eff.keep hb⟩

section
variable {w : World} {p q : Option Addr} {S : So} (h : SoAt w p q S)
include h
theorem so_h1 : Tells1 w (.func (.func 63) #[.pointer p] #[]) S.h1 := ⟨63, p, .inl rfl, rfl, fun W hW x _ => by
  rcases (h.keep hW).lat with ⟨rfl, hn, _⟩ | ⟨g, us, ds, rfl, h, _⟩
  · have : S.h1 x = false := by unfold So.h1; rw [hn]; rfl
    rw [this]
    exact (La.hasL_nil x W).mono fun e w' ⟨he, hw⟩ => ⟨he, hw ▸ Below.refl _ _⟩
  · exact (La.hasL_any g S.n us ds x W h).mono fun e w' ⟨he, hw⟩ => ⟨he, hw ▸ Below.refl _ _⟩⟩
theorem so_r1 : Tells w (.func (.func 66) #[.pointer p] #[]) S.r1 := ⟨66, p, .inl rfl, rfl, fun W hW x y hx hy => by
  rcases (h.keep hW).lat with ⟨rfl, _, hL⟩ | ⟨g, us, ds, rfl, h, hL⟩
  · have : S.r1 x y = false := by unfold So.r1; rw [hL]; exact La.belowB_no (by simp)
    rw [this]
    exact (La.belowL_nil x y W).mono fun e w' ⟨he, hw⟩ => ⟨he, hw.below⟩
  · refine (La.belowL_any g S.n us ds x y W h hx hy).mono fun e w' ⟨he, hw⟩ => ⟨?_, hw.below⟩
    rw [he, hL]
    rfl⟩
theorem so_h2 : Tells1 w (.func (.func 64) #[.pointer q] #[]) S.h2 := ⟨64, q, .inr rfl, rfl, fun W hW x hx => Ef.has_any q S.m S.t W (h.keep hW).eff x hx⟩
theorem so_r2 : Tells w (.func (.func 67) #[.pointer q] #[]) S.r2 := ⟨67, q, .inr rfl, rfl, fun W hW x y hx hy => Ef.below_any q S.m S.t W (h.keep hW).eff x y hx hy⟩
end

/-- All spots of a body have values. -/
def So.vals (S : So) (l : List Nd) : Bool := valB S.h1 (labB l) && valB S.h2 (effB l)
def grE (S : So) (a b : List Nd) : Nat := if checkB a = 0 ∧ checkB b = 0 then (if S.vals a && S.vals b then 0 else 1) else 4
def grH (S : So) (a b : List Nd) : Bool := holdB (labB a) (labB b) S.r1 && holdB (effB a) (effB b) S.r2
def grB (S : So) (a b : List Nd) : Bool := decide (grE S a b = 0) && (sameB a b && grH S a b)

theorem chk_may : ∀ (l : List Nd) (st : List Nat), chk l st = 0 → ∀ x ∈ l, x.may = true
  | [], _, _ => by simp
  | _ :: _, [], h => by simp [chk] at h
  | y :: l, d :: st, h => by
    rw [chk_one] at h
    split at h
    · rename_i hm
      split at h
      · cases h
      · intro x hx
        rcases List.mem_cons.1 hx with rfl | hx
        · exact hm
        · exact chk_may l _ h x hx
    · cases h
theorem body_may {l : List Nd} (h : checkB l = 0) : ∀ x ∈ l, x.may = true := chk_may l _ (check_chk h).2.2

theorem alike_alk {x y : Nd} (h : alikeB x y = true) (hx : x.may = true) (hy : y.may = true) : Alk x y := by
  unfold alikeB at h
  simp only [Bool.and_eq_true, decide_eq_true_eq] at h
  exact ⟨h.1, h.2.1, h.2.2.1, h.2.2.2, by rw [hx, hy]⟩
theorem alks_of : ∀ {a b : List Nd}, a.length = b.length → (∀ j (h : j < a.length) (h' : j < b.length), alikeB a[j] b[j] = true) → (∀ x ∈ a, x.may = true) → (∀ x ∈ b, x.may = true) → Alks a b
  | [], [], _, _, _, _ => .nil
  | [], _ :: _, h, _, _, _ => by simp at h
  | _ :: _, [], h, _, _, _ => by simp at h
  | x :: a, y :: b, h, ha, h1, h2 => .cons (alike_alk (ha 0 (by simp) (by simp)) (h1 x List.mem_cons_self) (h2 y List.mem_cons_self))
      (alks_of (by simpa using h) (fun j h3 h4 => ha (j + 1) (by simpa using h3) (by simpa using h4)) (fun z hz => h1 z (List.mem_cons_of_mem _ hz)) (fun z hz => h2 z (List.mem_cons_of_mem _ hz)))
theorem same_alks {a b : List Nd} (h : sameB a b = true) (ha : checkB a = 0) (hb : checkB b = 0) : Alks a b := by
  obtain ⟨h1, h2⟩ := (same_iff a b).1 h
  exact alks_of h1 h2 (body_may ha) (body_may hb)

theorem labS_alk {x y : Nd} (h : Alk x y) (k s : Nat) : (labS k x s).length = (labS k y s).length := by
  unfold labS
  rw [h.k]
  split <;> rfl
theorem effS_alk {x y : Nd} (h : Alk x y) (k s : Nat) : (effS k x s).length = (effS k y s).length := by
  unfold effS
  rw [h.k]
  split <;> rfl
theorem lab_alks : ∀ {a b : List Nd}, Alks a b → ∀ k ss, (lab k a ss).length = (lab k b ss).length
  | _, _, .nil, _, _ => rfl
  | _, _, .cons _ _, _, [] => rfl
  | _, _, .cons h t, k, s :: ss => by
    simp only [lab, List.length_append]
    rw [labS_alk h, lab_alks t]
theorem eff_alks : ∀ {a b : List Nd}, Alks a b → ∀ k ss, (eff k a ss).length = (eff k b ss).length
  | _, _, .nil, _, _ => rfl
  | _, _, .cons _ _, _, [] => rfl
  | _, _, .cons h t, k, s :: ss => by
    simp only [eff, List.length_append]
    rw [effS_alk h, eff_alks t]
theorem labB_alks {a b : List Nd} (h : Alks a b) (ha : checkB a = 0) (hb : checkB b = 0) : (labB a).length = (labB b).length ∧ (effB a).length = (effB b).length := by
  unfold labB effB
  rw [if_pos ha, if_pos hb, if_pos ha, if_pos hb, h.sds]
  exact ⟨lab_alks h _ _, eff_alks h _ _⟩


theorem Rs.lab {w' : World} {A : Option Addr} {n c : Nat} {l : List Sp} {base : Nat} (h : w'.ownsRow base 101 5 (.slice A n c) n (l.flatMap spc)) : Rs spc 5 w' w'.heap.size A n c l := Rs.of_own spc_len (by decide) h

set_option maxRecDepth 100000 in
set_option maxHeartbeats 4000000 in
theorem grounds_any (A A2 : Option Addr) (n c n2 c2 : Nat) (a b : List Nd) (p q : Option Addr) (S : So) (w : World) (h1 : Ns w w.heap.size A n c a) (h2 : Ns w w.heap.size A2 n2 c2 b) (f1 : ∀ x ∈ a, x.Fits) (f2 : ∀ x ∈ b, x.Fits) (t1 : ∀ x ∈ a, x.TFits) (t2 : ∀ x ∈ b, x.TFits) (hS : SoAt w p q S) :
    Calls Tryz.prog 23 #[.slice A n c, .slice A2 n2 c2, .pointer p, .pointer q] w fun e w' => e = .returned (.tuple #[.bool (grB S a b), .int .i64 (grE S a b : Int)]) ∧ Below w.heap.size w w' := by
  obtain ⟨E, hE⟩ : ∃ E, grE S a b = E := ⟨_, rfl⟩
  obtain ⟨G, hG⟩ : ∃ G, grB S a b = G := ⟨_, rfl⟩
  rw [hE, hG]
  have HE := Lib.hid hE
  have HG := Lib.hid hG
  clear hE hG
  have HF1 := Lib.hid f1
  have HF2 := Lib.hid f2
  clear f1 f2
  by_cases hca : checkB a = 0
  case neg =>
    obtain ⟨r, hr⟩ : ∃ r, checkB a = r := ⟨_, rfl⟩
    have HR := Lib.hid hr
    have hne : ((r : Int) != 0) = true := by simp; omega
    have e1 : E = 4 := by rw [← HE.out]; unfold grE; rw [if_neg (fun h => hca h.1)]
    have e2 : G = false := by rw [← HG.out]; unfold grB; rw [HE.out, e1]; rfl
    subst e1 e2
    clear hca hr
    go_enter Tryz.func23, Tryz.ntmps23
    go_wp2_with fail
    refine (check_lit _ _ _ a r _ h1 HF1.out HR.out).mono ?_
    rintro e w1 ⟨rfl, hb⟩
    go_wp2_with fail
    refine bodyPost_ret (v := .tuple #[.bool false, .int .i64 4]) (by simp [results, Tryz.results23, go_sem]) rfl ⟨rfl, hb⟩
  by_cases hcb : checkB b = 0
  case neg =>
    obtain ⟨r, hr⟩ : ∃ r, checkB b = r := ⟨_, rfl⟩
    have HR := Lib.hid hr
    have HA := Lib.hid hca
    have hne : ((r : Int) != 0) = true := by simp; omega
    have e1 : E = 4 := by rw [← HE.out]; unfold grE; rw [if_neg (fun h => hcb h.2)]
    have e2 : G = false := by rw [← HG.out]; unfold grB; rw [HE.out, e1]; rfl
    subst e1 e2
    clear hca hcb hr
    go_enter Tryz.func23, Tryz.ntmps23
    go_wp2_with fail
    refine (check_lit _ _ _ a 0 _ h1 HF1.out HA.out).mono ?_
    rintro e w1 ⟨rfl, hb⟩
    replace h2 := h2.at_size (Nat.le_refl _) hb
    go_wp2_with fail
    refine (check_lit _ _ _ b r _ h2 HF2.out HR.out).mono ?_
    rintro e w2 ⟨rfl, hb2⟩
    replace hb := hb.trans (hb2.mono hb.size)
    clear hb2
    go_wp2_with fail
    refine bodyPost_ret (v := .tuple #[.bool false, .int .i64 4]) (by simp [results, Tryz.results23, go_sem]) rfl ⟨rfl, hb⟩
  have HA := Lib.hid hca
  have HB := Lib.hid hcb
  have HE1 : Hid ((valB S.h1 (labB a) && valB S.h1 (labB b)) = false → E = 1 ∧ G = false) := Lib.hid (fun h => by
    have e1 : E = 1 := by
      rw [← HE.out]
      unfold grE So.vals
      rw [if_pos ⟨hca, hcb⟩, if_neg]
      intro k
      simp only [Bool.and_eq_true] at k
      rw [k.1.1, k.2.1] at h
      cases h
    refine ⟨e1, ?_⟩
    rw [← HG.out]
    unfold grB
    rw [HE.out, e1]
    rfl)
  have HE2 : Hid ((valB S.h2 (effB a) && valB S.h2 (effB b)) = false → E = 1 ∧ G = false) := Lib.hid (fun h => by
    have e1 : E = 1 := by
      rw [← HE.out]
      unfold grE So.vals
      rw [if_pos ⟨hca, hcb⟩, if_neg]
      intro k
      simp only [Bool.and_eq_true] at k
      rw [k.1.2, k.2.2] at h
      cases h
    refine ⟨e1, ?_⟩
    rw [← HG.out]
    unfold grB
    rw [HE.out, e1]
    rfl)
  have HE3 : Hid ((valB S.h1 (labB a) && valB S.h1 (labB b)) = true → (valB S.h2 (effB a) && valB S.h2 (effB b)) = true → E = 0 ∧ G = (sameB a b && grH S a b)) := Lib.hid (fun h k => by
    have e1 : E = 0 := by
      rw [← HE.out]
      unfold grE So.vals
      simp only [Bool.and_eq_true] at h k
      rw [if_pos ⟨hca, hcb⟩, if_pos]
      rw [h.1, h.2, k.1, k.2]
      rfl
    refine ⟨e1, ?_⟩
    rw [← HG.out]
    unfold grB
    rw [HE.out, e1]
    rfl)
  have HAL : Hid (sameB a b = true → (labB a).length ≤ (labB b).length ∧ (effB a).length ≤ (effB b).length) := Lib.hid (fun h => by
    have := labB_alks (same_alks h hca hcb) hca hcb
    omega)
  have HU1 := Lib.hid (labB_u64 t1)
  have HU2 := Lib.hid (labB_u64 t2)
  have HU3 := Lib.hid (effB_u64 t1)
  have HU4 := Lib.hid (effB_u64 t2)
  clear hca hcb t1 t2 HE HG
  obtain ⟨V1, hV1⟩ : ∃ V, (valB S.h1 (labB a) && valB S.h1 (labB b)) = V := ⟨_, rfl⟩
  obtain ⟨V2, hV2⟩ : ∃ V, (valB S.h2 (effB a) && valB S.h2 (effB b)) = V := ⟨_, rfl⟩
  obtain ⟨V3, hV3⟩ : ∃ V, sameB a b = V := ⟨_, rfl⟩
  obtain ⟨V4, hV4⟩ : ∃ V, holdB (labB a) (labB b) S.r1 = V := ⟨_, rfl⟩
  obtain ⟨V5, hV5⟩ : ∃ V, holdB (effB a) (effB b) S.r2 = V := ⟨_, rfl⟩
  have HV1 := Lib.hid hV1
  have HV2 := Lib.hid hV2
  have HV3 := Lib.hid hV3
  have HV4 := Lib.hid hV4
  have HV5 := Lib.hid hV5
  have HGG : Hid (grH S a b = (V4 && V5)) := Lib.hid (by unfold grH; rw [hV4, hV5])
  rw [hV1, hV2, hV3] at HE3
  rw [hV1] at HE1
  rw [hV2] at HE2
  rw [hV3] at HAL
  rw [HGG.out] at HE3
  clear hV1 hV2 hV3 hV4 hV5 HGG
  go_enter Tryz.func23, Tryz.ntmps23
  go_wp2_with fail
  refine (check_lit _ _ _ a 0 _ h1 HF1.out HA.out).mono ?_
  rintro e w1 ⟨rfl, hb⟩
  replace h1 := h1.at_size (Nat.le_refl _) hb
  replace h2 := h2.at_size (Nat.le_refl _) hb
  replace hS := hS.keep hb
  go_wp2_with fail
  refine (check_lit _ _ _ b 0 _ h2 HF2.out HB.out).mono ?_
  rintro e w2 ⟨rfl, hv⟩
  replace h1 := h1.at_size (Nat.le_refl _) hv
  replace h2 := h2.at_size (Nat.le_refl _) hv
  replace hS := hS.keep hv
  replace hb := hb.trans (hv.mono hb.size)
  clear hv
  go_wp2_with fail
  refine (of_lit A n c a _ _ _ h1 HF1.out rfl rfl).mono ?_
  rintro e w3 ⟨B1, m1, d1, B2, m2, d2, rfl, o1, o2, -, hv⟩
  have r1 := Rs.lab o1
  have r2 := Rs.lab o2
  replace h1 := h1.at_size (Nat.le_refl _) hv
  replace h2 := h2.at_size (Nat.le_refl _) hv
  replace hS := hS.keep hv
  replace hb := hb.trans (hv.mono hb.size)
  clear hv o1 o2
  go_wp2_with fail
  refine (of_lit A2 n2 c2 b _ _ _ h2 HF2.out rfl rfl).mono ?_
  rintro e w4 ⟨B3, m3, d3, B4, m4, d4, rfl, o3, o4, -, hv⟩
  have r3 := Rs.lab o3
  have r4 := Rs.lab o4
  replace r1 := r1.at_size (Nat.le_refl _) hv
  replace r2 := r2.at_size (Nat.le_refl _) hv
  replace h1 := h1.at_size (Nat.le_refl _) hv
  replace h2 := h2.at_size (Nat.le_refl _) hv
  replace hS := hS.keep hv
  replace hb := hb.trans (hv.mono hb.size)
  clear hv o3 o4
  have hal : Below w4.heap.size w4 (w4.alloc (.cells #[.slice B1 m1 d1, .slice B3 m3 d3] 25)) := (Below.refl _ _).alloc (Nat.le_refl _) _
  replace r1 := r1.at_size (Nat.le_refl _) hal
  replace r2 := r2.at_size (Nat.le_refl _) hal
  replace r3 := r3.at_size (Nat.le_refl _) hal
  replace r4 := r4.at_size (Nat.le_refl _) hal
  replace h1 := h1.at_size (Nat.le_refl _) hal
  replace h2 := h2.at_size (Nat.le_refl _) hal
  replace hS := hS.keep hal
  replace hb := hb.trans (hal.mono hb.size)
  clear hal
  have HC0 := Lib.hid ((cell_blk (i := 0) (heap_alloc_new w4 (.cells #[.slice B1 m1 d1, .slice B3 m3 d3] 25))).trans rfl)
  have HC1 := Lib.hid ((cell_blk (i := 1) (heap_alloc_new w4 (.cells #[.slice B1 m1 d1, .slice B3 m3 d3] 25))).trans rfl)
  go_wp2_with fail
  refine (valued_any _ S.h1 w4.heap.size B1 B3 m1 d1 m3 d3 (labB a) (labB b) _ (so_h1 hS) ⟨HC0.out, r1, HU1.out⟩ ⟨HC1.out, r3, HU2.out⟩).mono ?_
  rw [HV1.out]
  clear HC0 HC1
  rintro e w5 ⟨rfl, hv⟩
  replace r1 := r1.at_size (Nat.le_refl _) hv
  replace r2 := r2.at_size (Nat.le_refl _) hv
  replace r3 := r3.at_size (Nat.le_refl _) hv
  replace r4 := r4.at_size (Nat.le_refl _) hv
  replace h1 := h1.at_size (Nat.le_refl _) hv
  replace h2 := h2.at_size (Nat.le_refl _) hv
  replace hS := hS.keep hv
  replace hb := hb.trans (hv.mono hb.size)
  clear hv
  cases V1 with
  | false =>
    obtain ⟨rfl, rfl⟩ := HE1.out rfl
    go_wp2_with fail
    refine bodyPost_ret (v := .tuple #[.bool false, .int .i64 1]) (by simp [results, Tryz.results23, go_sem]) rfl ⟨rfl, hb⟩
  | true =>
    have hal : Below w5.heap.size w5 (w5.alloc (.cells #[.slice B2 m2 d2, .slice B4 m4 d4] 25)) := (Below.refl _ _).alloc (Nat.le_refl _) _
    replace r1 := r1.at_size (Nat.le_refl _) hal
    replace r2 := r2.at_size (Nat.le_refl _) hal
    replace r3 := r3.at_size (Nat.le_refl _) hal
    replace r4 := r4.at_size (Nat.le_refl _) hal
    replace h1 := h1.at_size (Nat.le_refl _) hal
    replace h2 := h2.at_size (Nat.le_refl _) hal
    replace hS := hS.keep hal
    replace hb := hb.trans (hal.mono hb.size)
    clear hal
    have HC0 := Lib.hid ((cell_blk (i := 0) (heap_alloc_new w5 (.cells #[.slice B2 m2 d2, .slice B4 m4 d4] 25))).trans rfl)
    have HC1 := Lib.hid ((cell_blk (i := 1) (heap_alloc_new w5 (.cells #[.slice B2 m2 d2, .slice B4 m4 d4] 25))).trans rfl)
    replace HE3 := Lib.hid (HE3.out rfl)
    clear HE1
    go_wp2_with fail
    refine (valued_any _ S.h2 w5.heap.size B2 B4 m2 d2 m4 d4 (effB a) (effB b) _ (so_h2 hS) ⟨HC0.out, r2, HU3.out⟩ ⟨HC1.out, r4, HU4.out⟩).mono ?_
    rw [HV2.out]
    clear HC0 HC1
    rintro e w6 ⟨rfl, hv⟩
    replace r1 := r1.at_size (Nat.le_refl _) hv
    replace r2 := r2.at_size (Nat.le_refl _) hv
    replace r3 := r3.at_size (Nat.le_refl _) hv
    replace r4 := r4.at_size (Nat.le_refl _) hv
    replace h1 := h1.at_size (Nat.le_refl _) hv
    replace h2 := h2.at_size (Nat.le_refl _) hv
    replace hS := hS.keep hv
    replace hb := hb.trans (hv.mono hb.size)
    clear hv
    cases V2 with
    | false =>
      obtain ⟨rfl, rfl⟩ := HE2.out rfl
      go_wp2_with fail
      refine bodyPost_ret (v := .tuple #[.bool false, .int .i64 1]) (by simp [results, Tryz.results23, go_sem]) rfl ⟨rfl, hb⟩
    | true =>
      obtain ⟨rfl, hG⟩ := HE3.out rfl
      have HG := Lib.hid hG
      clear hG HE3 HE2
      go_wp2_with fail
      refine (same_lit' _ _ _ _ _ _ a b V3 _ h1 h2 HV3.out).mono ?_
      rintro e w7 ⟨rfl, hv⟩
      replace r1 := r1.at_size (Nat.le_refl _) hv
      replace r2 := r2.at_size (Nat.le_refl _) hv
      replace r3 := r3.at_size (Nat.le_refl _) hv
      replace r4 := r4.at_size (Nat.le_refl _) hv
      replace hS := hS.keep hv
      replace hb := hb.trans (hv.mono hb.size)
      clear hv h1 h2
      cases V3 with
      | false =>
        obtain rfl : G = false := HG.out
        go_wp2_with fail
        refine bodyPost_ret (v := .tuple #[.bool false, .int .i64 0]) (by simp [results, Tryz.results23, go_sem]) rfl ⟨rfl, hb⟩
      | true =>
        obtain rfl : G = (V4 && V5) := HG.out
        have HLE := Lib.hid (HAL.out rfl)
        clear HG HAL
        go_wp2_with fail
        refine (hold_any _ _ _ _ _ _ (labB a) (labB b) _ S.r1 _ HLE.out.1 (so_r1 hS) r1 r3 HU1.out HU2.out).mono ?_
        rw [HV4.out]
        rintro e w8 ⟨rfl, hv⟩
        replace r2 := r2.at_size (Nat.le_refl _) hv
        replace r4 := r4.at_size (Nat.le_refl _) hv
        replace hS := hS.keep hv
        replace hb := hb.trans (hv.mono hb.size)
        clear hv r1 r3
        cases V4 with
        | false =>
          go_wp2_with fail
          refine bodyPost_ret (v := .tuple #[.bool false, .int .i64 0]) (by simp [results, Tryz.results23, go_sem]) rfl ⟨rfl, hb⟩
        | true =>
          go_wp2_with fail
          refine (hold_any _ _ _ _ _ _ (effB a) (effB b) _ S.r2 _ HLE.out.2 (so_r2 hS) r2 r4 HU3.out HU4.out).mono ?_
          rw [HV5.out]
          rintro e w9 ⟨rfl, hv⟩
          replace hb := hb.trans (hv.mono hb.size)
          clear hv r2 r4
          go_wp2_with fail
          refine bodyPost_ret (v := .tuple #[.bool V5, .int .i64 0]) (by simp [results, Tryz.results23, go_sem]) rfl ⟨rfl, hb⟩
end Go.Proofs.YtfmpecnkkbpdlaaGreat

/- Labels and effects, made of rows and a number; what follows of them. Condition: the rows can be read. -/
namespace Go.Proofs.YtfmpecnkkbpdlaaGreat
open Go.RowKit

/-- What is made of rows, and of a number. -/
def soOf (l : List Nat) (k : Int) : So := ⟨if La.checkN l = 0 then l.length else 0, if La.checkN l = 0 then l else [], decide (0 ≤ k ∧ k ≤ 64), if 0 ≤ k ∧ k ≤ 64 then Ef.topN k.toNat else 0⟩


set_option maxRecDepth 100000 in
set_option maxHeartbeats 1000000 in
theorem latNew_any (A : Option Addr) (n c : Nat) (l : List Nat) (w : World) (h : Rd La.nm w w.heap.size A n c l) (hf : La.Fit l) :
    Calls Tryz.prog 21 #[.slice A n c] w fun e w' => ∃ (p : Option Addr) (x : Int), e = .returned (.tuple #[.pointer p, .int .i64 x]) ∧ (p = none ↔ La.checkN l ≠ 0) ∧
      ((p = none ∧ (soOf l 0).n = 0 ∧ (soOf l 0).L = []) ∨ ∃ g us ds, p = some ⟨g, 0, none⟩ ∧ La.LatAt w' g (soOf l 0).n us ds ∧ us.take (soOf l 0).n = (soOf l 0).L) ∧ Below w.heap.size w w' := by
  by_cases hx : La.checkN l = 0
  · refine (La.new_yes A n c l w h hf hx).mono ?_
    rintro e w' ⟨g, rfl, hg, hl, hb⟩
    have e1 : (soOf l 0).n = n := by unfold soOf; simp only [if_pos hx]; exact h.len
    have e2 : (soOf l 0).L = l := by unfold soOf; simp only [if_pos hx]
    refine ⟨_, 0, rfl, ⟨(fun h => by cases h), fun h => absurd hx h⟩, .inr ⟨g, _, _, rfl, by rw [e1]; exact hl, ?_⟩, hb⟩
    rw [e1, e2, ← h.len]
    exact La.pad_take l
  · refine (La.new_no A n c l w h hf _ rfl hx).mono ?_
    rintro e w' ⟨rfl, hb⟩
    refine ⟨none, _, rfl, ⟨fun _ => hx, fun _ => rfl⟩, .inl ⟨rfl, ?_, ?_⟩, hb⟩
    · unfold soOf; simp only [if_neg hx]
    · unfold soOf; simp only [if_neg hx]

theorem effNew_any (k : Int) (w : World) : Calls Tryz.prog 22 #[.int .i64 k] w fun e w' => ∃ (q : Option Addr) (x : Int), e = .returned (.tuple #[.pointer q, .int .i64 x]) ∧ (q = none ↔ ¬ (0 ≤ k ∧ k ≤ 64)) ∧ Ef.EffP w' q (soOf [] k).m (soOf [] k).t ∧ Below w.heap.size w w' := by
  by_cases hk : 0 ≤ k ∧ k ≤ 64
  · obtain ⟨y, rfl⟩ : ∃ y : Nat, k = (y : Int) := ⟨k.toNat, by omega⟩
    refine (Ef.new_yes y (by omega) w).mono ?_
    rintro e w' ⟨g, rfl, he, hb⟩
    refine ⟨_, 0, rfl, ⟨(fun h => by cases h), fun h => absurd hk h⟩, .inr ⟨g, rfl, ?_⟩, hb⟩
    unfold soOf
    simp only [if_pos hk, decide_eq_true hk, Int.toNat_natCast]
    exact he
  · refine (Ef.new_no k hk w).mono ?_
    rintro e w' ⟨rfl, rfl⟩
    refine ⟨none, 1, rfl, ⟨fun _ => hk, fun _ => rfl⟩, .inl ⟨rfl, ?_, ?_⟩, Below.refl _ _⟩
    · unfold soOf
      simp only [decide_eq_false hk]
    · unfold soOf
      simp only [if_neg hk]



/-! ### What follows -/
/-- Labels that are an order, effects that are sets. -/
structure So.Ok (S : So) : Prop where
  len : S.L.length = S.n
  ord : S.n = 0 ∨ La.LatOK S.L
theorem soOk (l : List Nat) (k : Int) : (soOf l k).Ok := by
  by_cases h : La.checkN l = 0
  · refine ⟨?_, .inr ?_⟩
    · unfold soOf
      simp only [if_pos h]
    · unfold soOf
      simp only [if_pos h]
      exact La.latOK_of h
  · refine ⟨?_, .inl ?_⟩
    · unfold soOf
      simp only [if_neg h]
      rfl
    · unfold soOf
      simp only [if_neg h]

section
variable {S : So} (h : S.Ok)
include h
theorem r1_bt {a b : Nat} (ha : S.h1 a = true) (hb : S.h1 b = true) : La.LatOK S.L ∧ a < S.L.length ∧ b < S.L.length ∧ S.r1 a b = La.bt S.L a b := by
  unfold So.h1 at ha hb
  rw [decide_eq_true_eq] at ha hb
  rcases h.ord with h0 | ho
  · omega
  · have h1 : a < S.L.length := by rw [h.len]; exact ha
    have h2 : b < S.L.length := by rw [h.len]; exact hb
    exact ⟨ho, h1, h2, La.belowB_bt ho.known.1.2 h1 h2⟩
theorem r1_refl {a : Nat} (ha : S.h1 a = true) : S.r1 a a = true := by
  obtain ⟨ho, h1, _, e⟩ := r1_bt h ha ha
  rw [e]
  exact ho.ord.refl a h1
theorem r1_trans {a b c : Nat} (ha : S.h1 a = true) (hb : S.h1 b = true) (hc : S.h1 c = true) (h1 : S.r1 a b = true) (h2 : S.r1 b c = true) : S.r1 a c = true := by
  obtain ⟨ho, ka, kb, e⟩ := r1_bt h ha hb
  obtain ⟨_, _, kc, e2⟩ := r1_bt h hb hc
  obtain ⟨_, _, _, e3⟩ := r1_bt h ha hc
  rw [e] at h1
  rw [e2] at h2
  rw [e3]
  exact ho.ord.on _ _ _ ka kb kc h1 h2
theorem r1_anti {a b : Nat} (ha : S.h1 a = true) (hb : S.h1 b = true) (h1 : S.r1 a b = true) (h2 : S.r1 b a = true) : a = b := by
  obtain ⟨ho, ka, kb, e⟩ := r1_bt h ha hb
  obtain ⟨_, _, _, e2⟩ := r1_bt h hb ha
  rw [e] at h1
  rw [e2] at h2
  exact ho.ord.anti _ _ ka kb h1 h2
end

section
variable {S : So}
theorem h2_iff (a : Nat) : S.h2 a = true ↔ S.m = true ∧ Ef.Sub a S.t := by
  unfold So.h2 Ef.hasE
  rw [Bool.and_eq_true, Ef.subB_iff]
theorem r2_iff (a b : Nat) : S.r2 a b = true ↔ S.h2 a = true ∧ S.h2 b = true ∧ Ef.Sub a b := by
  unfold So.r2 Ef.belowE Ef.bothE
  rw [h2_iff, h2_iff, Bool.and_eq_true, Bool.and_eq_true, Bool.and_eq_true, Ef.subB_iff, Ef.subB_iff, Ef.subB_iff]
  constructor
  · rintro ⟨⟨h1, h2, h3⟩, h4⟩
    exact ⟨⟨h1, h2⟩, ⟨h1, h3⟩, h4⟩
  · rintro ⟨⟨h1, h2⟩, ⟨_, h3⟩, h4⟩
    exact ⟨⟨h1, h2, h3⟩, h4⟩
theorem r2_refl {a : Nat} (ha : S.h2 a = true) : S.r2 a a = true := (r2_iff a a).2 ⟨ha, ha, fun _ h => h⟩
theorem r2_trans {a b c : Nat} (h1 : S.r2 a b = true) (h2 : S.r2 b c = true) : S.r2 a c = true := by
  obtain ⟨a1, _, a3⟩ := (r2_iff a b).1 h1
  obtain ⟨_, b2, b3⟩ := (r2_iff b c).1 h2
  exact (r2_iff a c).2 ⟨a1, b2, fun i hi => b3 i (a3 i hi)⟩
theorem r2_anti {a b : Nat} (h1 : S.r2 a b = true) (h2 : S.r2 b a = true) : a = b := by
  obtain ⟨_, _, a3⟩ := (r2_iff a b).1 h1
  obtain ⟨_, _, b3⟩ := (r2_iff b a).1 h2
  refine Nat.eq_of_testBit_eq fun i => ?_
  cases ha : a.testBit i with
  | true => rw [a3 i ha]
  | false =>
    cases hb : b.testBit i with
    | true => rw [b3 i hb] at ha; cases ha
    | false => rfl
end
end Go.Proofs.YtfmpecnkkbpdlaaGreat

/- One type below another one: what follows. No condition. -/
namespace Go.Proofs.YtfmpecnkkbpdlaaGreat

theorem holdB_iff {ls ms : List Sp} {R : Nat → Nat → Bool} : holdB ls ms R = true ↔ ∀ k (h : k < ls.length) (h' : k < ms.length), mustB ls[k].s R ls[k].z.toNat ms[k].z.toNat = true := by
  unfold holdB
  rw [List.all_eq_true]
  constructor
  · intro h k h1 h2
    have hz : k < (ls.zip ms).length := by rw [List.length_zip]; omega
    have := h _ (List.getElem_mem hz)
    rw [List.getElem_zip] at this
    exact this
  · intro h x hx
    obtain ⟨k, hk, e⟩ := List.mem_iff_getElem.1 hx
    rw [List.length_zip] at hk
    rw [List.getElem_zip] at e
    subst e
    exact h k (by omega) (by omega)

section
variable {R : Nat → Nat → Bool}
theorem must_refl {s a : Nat} (h : R a a = true) : mustB s R a a = true := by
  unfold mustB
  split
  · exact h
  split
  · exact h
  · simp
theorem must_trans {s a b c : Nat} (h1 : R a b = true → R b c = true → R a c = true) (h2 : R c b = true → R b a = true → R c a = true) (k1 : mustB s R a b = true) (k2 : mustB s R b c = true) : mustB s R a c = true := by
  unfold mustB at *
  by_cases h0 : s = 0
  · rw [if_pos h0] at *
    exact h1 k1 k2
  by_cases h3 : s = 1
  · rw [if_neg h0, if_pos h3] at *
    exact h2 k2 k1
  · rw [if_neg h0, if_neg h3] at *
    simp only [decide_eq_true_eq] at *
    omega
theorem must_anti {s a b : Nat} (h : R a b = true → R b a = true → a = b) (k1 : mustB s R a b = true) (k2 : mustB s R b a = true) : a = b := by
  unfold mustB at *
  by_cases h0 : s = 0
  · rw [if_pos h0] at *
    exact h k1 k2
  by_cases h3 : s = 1
  · rw [if_neg h0, if_pos h3] at *
    exact h k2 k1
  · rw [if_neg h0, if_neg h3] at *
    simp only [decide_eq_true_eq] at *
    exact k1
end

theorem valB_at {H : Nat → Bool} {l : List Sp} (h : valB H l = true) (k : Nat) (hk : k < l.length) : l[k].v = false ∧ H l[k].z.toNat = true := by
  have := List.all_eq_true.1 h _ (List.getElem_mem hk)
  unfold okS at this
  rw [Bool.and_eq_true, Bool.not_eq_true'] at this
  exact this

/-! ### Errors -/
section
variable (S : So)
theorem grE_zero {a b : List Nd} : grE S a b = 0 ↔ checkB a = 0 ∧ checkB b = 0 ∧ S.vals a = true ∧ S.vals b = true := by
  unfold grE
  by_cases h : checkB a = 0 ∧ checkB b = 0
  · rw [if_pos h]
    by_cases k : (S.vals a && S.vals b) = true
    · rw [if_pos k]
      rw [Bool.and_eq_true] at k
      exact Iff.intro (fun _ => ⟨h.1, h.2, k.1, k.2⟩) (fun _ => rfl)
    · rw [if_neg k]
      rw [Bool.and_eq_true] at k
      exact Iff.intro (fun h => absurd h (by decide)) (fun h => absurd ⟨h.2.2.1, h.2.2.2⟩ k)
  · rw [if_neg h]
    exact Iff.intro (fun h => absurd h (by decide)) (fun k => absurd ⟨k.1, k.2.1⟩ h)
theorem grE_comm (a b : List Nd) : grE S a b = grE S b a := by
  unfold grE
  rw [Bool.and_comm (S.vals b)]
  by_cases h : checkB a = 0 ∧ checkB b = 0
  · rw [if_pos h, if_pos (show checkB b = 0 ∧ checkB a = 0 from ⟨h.2, h.1⟩)]
  · rw [if_neg h, if_neg (show ¬ (checkB b = 0 ∧ checkB a = 0) from fun k => h ⟨k.2, k.1⟩)]
theorem grB_zero {a b : List Nd} (h : grE S a b ≠ 0) : grB S a b = false := by
  unfold grB
  rw [decide_eq_false h, Bool.false_and]
theorem grB_iff {a b : List Nd} (h : grE S a b = 0) : grB S a b = (sameB a b && grH S a b) := by
  unfold grB
  rw [decide_eq_true h, Bool.true_and]
theorem vals_l {a : List Nd} (h : S.vals a = true) : valB S.h1 (labB a) = true ∧ valB S.h2 (effB a) = true := by
  unfold So.vals at h
  rwa [Bool.and_eq_true] at h
end

theorem sameB_refl (a : List Nd) : sameB a a = true := (same_iff a a).2 ⟨rfl, fun j _ _ => by simp [alikeB]⟩
theorem sameB_symm {a b : List Nd} (h : sameB a b = true) : sameB b a = true := by
  obtain ⟨h1, h2⟩ := (same_iff a b).1 h
  refine (same_iff b a).2 ⟨h1.symm, fun j k1 k2 => ?_⟩
  have := h2 j k2 k1
  unfold alikeB at *
  simp only [Bool.and_eq_true, decide_eq_true_eq] at *
  exact ⟨this.1.symm, this.2.1.symm, this.2.2.1.symm, this.2.2.2.symm⟩
theorem sameB_comm (a b : List Nd) : sameB a b = sameB b a := by
  cases h : sameB a b with
  | true => exact (sameB_symm h).symm
  | false =>
    cases k : sameB b a with
    | true => rw [sameB_symm k] at h; cases h
    | false => rfl

/-! ### Itself -/
theorem gr_self {S : So} (hS : S.Ok) {a : List Nd} (h : grE S a a = 0) : grB S a a = true := by
  obtain ⟨h1, _, h2, _⟩ := (grE_zero S).1 h
  obtain ⟨v1, v2⟩ := vals_l S h2
  rw [grB_iff S h, sameB_refl, Bool.true_and]
  unfold grH
  rw [Bool.and_eq_true]
  refine ⟨holdB_iff.2 fun k hk _ => must_refl (r1_refl hS (valB_at v1 k hk).2), holdB_iff.2 fun k hk _ => must_refl (r2_refl (valB_at v2 k hk).2)⟩
theorem gr_self_no {S : So} {a b : List Nd} (h : grE S a a ≠ 0) : grE S a b ≠ 0 := fun k => by
  obtain ⟨h1, _, h2, _⟩ := (grE_zero S).1 k
  exact h ((grE_zero S).2 ⟨h1, h1, h2, h2⟩)

/-! ### Spots of bodies that are the same but for their terms -/
theorem labS_side {x y : Nd} (h : Alk x y) (k s : Nat) : (labS k x s).map Sp.s = (labS k y s).map Sp.s := by
  unfold labS
  rw [h.k]
  split <;> rfl
theorem effS_side {x y : Nd} (h : Alk x y) (k s : Nat) : (effS k x s).map Sp.s = (effS k y s).map Sp.s := by
  unfold effS
  rw [h.k]
  split <;> rfl
theorem lab_side : ∀ {a b : List Nd}, Alks a b → ∀ k ss, (lab k a ss).map Sp.s = (lab k b ss).map Sp.s
  | _, _, .nil, _, _ => rfl
  | _, _, .cons _ _, _, [] => rfl
  | _, _, .cons h t, k, s :: ss => by
    simp only [lab, List.map_append]
    rw [labS_side h, lab_side t]
theorem eff_side : ∀ {a b : List Nd}, Alks a b → ∀ k ss, (eff k a ss).map Sp.s = (eff k b ss).map Sp.s
  | _, _, .nil, _, _ => rfl
  | _, _, .cons _ _, _, [] => rfl
  | _, _, .cons h t, k, s :: ss => by
    simp only [eff, List.map_append]
    rw [effS_side h, eff_side t]
theorem labB_side {a b : List Nd} (h : Alks a b) (ha : checkB a = 0) (hb : checkB b = 0) : (labB a).map Sp.s = (labB b).map Sp.s ∧ (effB a).map Sp.s = (effB b).map Sp.s := by
  unfold labB effB
  rw [if_pos ha, if_pos hb, if_pos ha, if_pos hb, h.sds]
  exact ⟨lab_side h _ _, eff_side h _ _⟩
theorem side_at_k {l m : List Sp} (h : l.map Sp.s = m.map Sp.s) {k : Nat} (h1 : k < l.length) (h2 : k < m.length) : l[k].s = m[k].s := by
  have e1 : (l.map Sp.s)[k]? = some l[k].s := by rw [List.getElem?_map, List.getElem?_eq_getElem h1, Option.map_some]
  have e2 : (m.map Sp.s)[k]? = some m[k].s := by rw [List.getElem?_map, List.getElem?_eq_getElem h2, Option.map_some]
  rw [h, e2] at e1
  injection e1 with e1
  exact e1.symm

theorem hold_trans {R : Nat → Nat → Bool} {H : Nat → Bool} {la lb lc : List Sp} (hR : ∀ x y z, H x = true → H y = true → H z = true → R x y = true → R y z = true → R x z = true)
    (e1 : la.map Sp.s = lb.map Sp.s) (e2 : lb.map Sp.s = lc.map Sp.s) (va : valB H la = true) (vb : valB H lb = true) (vc : valB H lc = true) (h1 : holdB la lb R = true) (h2 : holdB lb lc R = true) : holdB la lc R = true := by
  have n1 : la.length = lb.length := by have := congrArg List.length e1; simpa using this
  have n2 : lb.length = lc.length := by have := congrArg List.length e2; simpa using this
  refine holdB_iff.2 fun k h k' => ?_
  have hb : k < lb.length := by omega
  have g1 := holdB_iff.1 h1 k h hb
  have g2 := holdB_iff.1 h2 k hb k'
  rw [← side_at_k e1 h hb] at g2
  exact must_trans (hR _ _ _ (valB_at va k h).2 (valB_at vb k hb).2 (valB_at vc k k').2) (hR _ _ _ (valB_at vc k k').2 (valB_at vb k hb).2 (valB_at va k h).2) g1 g2
theorem hold_anti {R : Nat → Nat → Bool} {H : Nat → Bool} {la lb : List Sp} (hR : ∀ x y, H x = true → H y = true → R x y = true → R y x = true → x = y)
    (e1 : la.map Sp.s = lb.map Sp.s) (va : valB H la = true) (vb : valB H lb = true) (ua : ∀ p ∈ la, U64 p.z) (ub : ∀ p ∈ lb, U64 p.z) (h1 : holdB la lb R = true) (h2 : holdB lb la R = true) : la.map Sp.t = lb.map Sp.t := by
  have n1 : la.length = lb.length := by have := congrArg List.length e1; simpa using this
  refine List.ext_getElem (by simpa using n1) fun k h k' => ?_
  rw [List.length_map] at h k'
  have g1 := holdB_iff.1 h1 k h k'
  have g2 := holdB_iff.1 h2 k k' h
  rw [← side_at_k e1 h k'] at g2
  have := must_anti (hR _ _ (valB_at va k h).2 (valB_at vb k k').2) g1 g2
  have w1 := (ua _ (List.getElem_mem h)).lo
  have w2 := (ub _ (List.getElem_mem k')).lo
  rw [List.getElem_map, List.getElem_map]
  unfold Sp.t
  rw [(valB_at va k h).1, (valB_at vb k k').1]
  congr 1
  omega

theorem gr_trans {S : So} (hS : S.Ok) {a b c : List Nd} (e1 : grE S a b = 0) (e2 : grE S b c = 0) (h1 : grB S a b = true) (h2 : grB S b c = true) : grB S a c = true := by
  obtain ⟨ca, cb, ka, kb⟩ := (grE_zero S).1 e1
  obtain ⟨_, cc, _, kc⟩ := (grE_zero S).1 e2
  rw [grB_iff S e1, Bool.and_eq_true] at h1
  rw [grB_iff S e2, Bool.and_eq_true] at h2
  rw [grB_iff S ((grE_zero S).2 ⟨ca, cc, ka, kc⟩), Bool.and_eq_true]
  obtain ⟨va, wa⟩ := vals_l S ka
  obtain ⟨vb, wb⟩ := vals_l S kb
  obtain ⟨vc, wc⟩ := vals_l S kc
  have s1 := same_alks h1.1 ca cb
  have s2 := same_alks h2.1 cb cc
  have s3 := s1.trans s2
  refine ⟨same_alk s3.len s3.get, ?_⟩
  have g1 := h1.2
  have g2 := h2.2
  unfold grH at *
  rw [Bool.and_eq_true] at *
  exact ⟨hold_trans (fun x y z => r1_trans hS) (labB_side s1 ca cb).1 (labB_side s2 cb cc).1 va vb vc g1.1 g2.1, hold_trans (fun x y z _ _ _ => r2_trans) (labB_side s1 ca cb).2 (labB_side s2 cb cc).2 wa wb wc g1.2 g2.2⟩

theorem may_still {x : Nd} (h : x.may = true) (h5 : x.k ≠ 5) : x.pv = false ∧ x.pn = 0 ∧ x.ev = false ∧ x.en = 0 := by
  have hs : x.still = true := by
    unfold Nd.may at h
    by_cases h1 : x.k = 1
    · rw [if_pos h1] at h
      simp only [Bool.and_eq_true] at h
      exact h.2
    rw [if_neg h1] at h
    by_cases h2 : x.k = 2
    · rw [if_pos h2] at h
      simp only [Bool.and_eq_true] at h
      exact h.2
    rw [if_neg h2] at h
    by_cases h3 : x.k = 3
    · rw [if_pos h3] at h
      simp only [Bool.and_eq_true] at h
      exact h.2
    rw [if_neg h3] at h
    by_cases h4 : x.k = 4
    · rw [if_pos h4] at h
      simp only [Bool.and_eq_true] at h
      exact h.2
    rw [if_neg h4, if_neg h5] at h
    cases h
  unfold Nd.still at hs
  simp only [Bool.and_eq_true, Bool.not_eq_true', decide_eq_true_eq] at hs
  exact ⟨hs.1.1, hs.1.2, hs.2.1, hs.2.2⟩

theorem terms_eq : ∀ {a b : List Nd}, Alks a b → (∀ x ∈ a, x.may = true) → (∀ x ∈ b, x.may = true) → ∀ k ss, ss.length = a.length → (lab k a ss).map Sp.t = (lab k b ss).map Sp.t → (eff k a ss).map Sp.t = (eff k b ss).map Sp.t → a = b
  | _, _, .nil, _, _, _, _, _, _, _ => rfl
  | _, _, .cons _ _, _, _, _, [], h, _, _ => by simp at h
  | _, _, .cons (x := x) (y := y) h t, ma, mb, k, s :: ss, hl, e1, e2 => by
    simp only [lab, eff, List.map_append] at e1 e2
    have hx := ma x List.mem_cons_self
    have hy := mb y List.mem_cons_self
    have n1 : ((labS k x s).map Sp.t).length = ((labS k y s).map Sp.t).length := by rw [List.length_map, List.length_map, labS_alk h]
    have n2 : ((effS k x s).map Sp.t).length = ((effS k y s).map Sp.t).length := by rw [List.length_map, List.length_map, effS_alk h]
    obtain ⟨f1, f2⟩ := List.append_inj e1 n1
    obtain ⟨g1, g2⟩ := List.append_inj e2 n2
    have ht := terms_eq t (fun z hz => ma z (List.mem_cons_of_mem _ hz)) (fun z hz => mb z (List.mem_cons_of_mem _ hz)) (k + 1) ss (by simpa using hl) f2 g2
    have hk := h.k
    have hm := h.m
    have hs := h.s
    have hn := h.n
    obtain ⟨xk, xm, xs, xn, xlv, xln, xpv, xpn, xev, xen⟩ := x
    obtain ⟨yk, ym, ys, yn, ylv, yln, ypv, ypn, yev, yen⟩ := y
    simp only at hk hm hs hn
    subst hk hm hs hn ht
    by_cases h5 : xk = 5
    · simp [labS, effS, h5, Sp.t] at f1 g1
      obtain ⟨⟨rfl, rfl⟩, rfl, rfl⟩ := f1
      obtain ⟨rfl, rfl⟩ := g1
      rfl
    · simp [labS, h5, Sp.t] at f1
      obtain ⟨rfl, rfl⟩ := f1
      obtain ⟨p1, p2, p3, p4⟩ := may_still hx h5
      obtain ⟨q1, q2, q3, q4⟩ := may_still hy h5
      simp only at p1 p2 p3 p4 q1 q2 q3 q4
      subst p1 p2 p3 p4 q1 q2 q3 q4
      rfl

theorem gr_anti {S : So} (hS : S.Ok) {a b : List Nd} (t1 : ∀ x ∈ a, x.TFits) (t2 : ∀ x ∈ b, x.TFits) (e1 : grE S a b = 0) (h1 : grB S a b = true) (h2 : grB S b a = true) : a = b := by
  obtain ⟨ca, cb, ka, kb⟩ := (grE_zero S).1 e1
  rw [grB_iff S e1, Bool.and_eq_true] at h1
  rw [grB_iff S (by rw [grE_comm]; exact e1), Bool.and_eq_true] at h2
  obtain ⟨va, wa⟩ := vals_l S ka
  obtain ⟨vb, wb⟩ := vals_l S kb
  have s1 := same_alks h1.1 ca cb
  have g1 := h1.2
  have g2 := h2.2
  unfold grH at g1 g2
  rw [Bool.and_eq_true] at g1 g2
  have k1 := hold_anti (fun x y => r1_anti hS) (labB_side s1 ca cb).1 va vb (labB_u64 t1) (labB_u64 t2) g1.1 g2.1
  have k2 := hold_anti (fun x y _ _ => r2_anti) (labB_side s1 ca cb).2 wa wb (effB_u64 t1) (effB_u64 t2) g1.2 g2.2
  unfold labB at k1
  unfold effB at k2
  rw [if_pos ca, if_pos cb, ← s1.sds] at k1 k2
  exact terms_eq s1 (body_may ca) (body_may cb) 0 _ (sides_len ca) k1 k2

end Go.Proofs.YtfmpecnkkbpdlaaGreat
