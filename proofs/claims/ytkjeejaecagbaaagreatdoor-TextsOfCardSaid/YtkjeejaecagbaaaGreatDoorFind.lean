/- What texts.Find and texts.Sorted do. Condition: the texts can be read. -/
import Derived.Test.YtkjeejaecagbaaaGreatDoorSort
import Derived.Test.YtkjeejaecagbaaaGreatDoorOrder
import Derived.Test.YtkjeejaecagbaaaGreatDoorRound
import Derived.Deep.QuietTactic
import Derived.BigQuiet
import Derived.Sort.QuietIn
import Derived.Laws.Cover1
namespace Go.Proofs.YtkjeejaecagbaaaGreatDoor
open Go.RowKit Go.Shelf

attribute [local go_sem] Oper.semAt_some

theorem below_put {n₀ D : Nat} {w W : World} {o : Obj} (h : Below n₀ w (W.putObj D o)) (q : Nat) : Below n₀ w ((W.drewN q).putObj D o) := ⟨h.os, h.tape, h.output, h.size, h.block⟩

/-- Old memory is kept, and the block b. -/
structure KeepAt (n₀ b : Nat) (W W' : World) : Prop where
  bel : Below n₀ W W'
  blk : W'.heap[b]? = W.heap[b]?

theorem keepAt_t {n₀ b : Nat} {A B C : World} (h : KeepAt n₀ b A B) (k : KeepAt n₀ b B C) : KeepAt n₀ b A C := ⟨h.bel.trans k.bel, k.blk.trans h.blk⟩
theorem keepAt_b {n₀ b : Nat} {w : World} (hn : n₀ ≤ w.heap.size) (hb : b < w.heap.size) (W : World) (l : Nat) (o o' : Obj) (hl : w.heap.size ≤ l) (h : W.heap[l]? = some o) (h1 : o.isCells = false) (h2 : o.isWalk = false) : KeepAt n₀ b W (W.putObj l o') :=
  ⟨belowK_b hn W l o o' hl h h1 h2, World.putObj_heap_other (by omega)⟩
theorem KeepAt.cell {n₀ b o : Nat} {W W' : World} (h : KeepAt n₀ b W W') {v : Value} (hc : W.cell? ⟨b, o, none⟩ = some v) : W'.cell? ⟨b, o, none⟩ = some v :=
  (World.cell?_of_block (w := W) (w' := W') (a := ⟨b, o, none⟩) h.blk).trans hc

/-- How many of the first ones are ahead of s. -/
def fd (ss : List (List UInt8)) (s : List UInt8) : Nat := (ss.takeWhile fun x => decide (x < s)).length

theorem fd_le (ss : List (List UInt8)) (s : List UInt8) : fd ss s ≤ ss.length := (List.takeWhile_sublist _).length_le

/-- k are ahead, and the next one is not, or there is none. -/
theorem fd_eq {ss : List (List UInt8)} {s : List UInt8} {k : Nat} (hk : k ≤ ss.length) (h : ∀ j (hj : j < ss.length), j < k → ss[j] < s) (hn : ∀ hj : k < ss.length, ¬ ss[k] < s) : fd ss s = k := by
  have e : ss.takeWhile (fun x => decide (x < s)) = ss.take k := by
    conv => lhs; rw [← List.take_append_drop k ss]
    rw [List.takeWhile_append_of_pos]
    · rcases Nat.lt_or_ge k ss.length with hlt | hge
      · rw [List.drop_eq_getElem_cons hlt, List.takeWhile_cons_of_neg (by simpa using hn hlt), List.append_nil]
      · rw [List.drop_of_length_le hge, List.takeWhile_nil, List.append_nil]
    · intro x hx
      obtain ⟨j, hj, rfl⟩ := List.mem_iff_getElem.1 hx
      rw [List.length_take] at hj
      rw [List.getElem_take]
      simpa using h j (by omega) (by omega)
  rw [fd, e, List.length_take]
  omega

theorem ahead_in (F : Fence) (n : Nat) (h19 : F.fn 22) (hro : F.round = none) (A : Option Addr) (m c : Nat) (s : ByteArray) (w : World) :
    CallsIn F n Tryz.prog 22 #[.slice A m c, .string s] w fun e w' => e = .returned (.func (.func 77) #[] #[.pointer (some ⟨w.heap.size, 0, none⟩), .pointer (some ⟨w.heap.size + 1, 0, none⟩)]) ∧ w' = (w.alloc (.cells #[.slice A m c] 22)).alloc (.cells #[.string s] 9) := by
  refine callsIn_of_wp Tryz.func22 rfl h19 ?_ hro
  simp only [Tryz.ntmps22, List.size_toArray, List.length_cons, List.length_nil, Nat.reduceAdd, Nat.reduceSub, Array.replicate_succ, Array.replicate_zero, List.push_toArray, List.append_toArray, List.nil_append, List.cons_append]
  gi_wp2
  go_ret
  exact ⟨by simp, rfl⟩

/-- k texts have come: they are ahead of s. -/
def ARel (ss : List (List UInt8)) (s : List UInt8) (B : Nat) (A : Option Addr) (n c Bs : Nat) (J : List (List UInt8) → World → Prop) (i8 : Value) (wr : World) : Prop :=
  ∃ k : Nat, i8 = .int .i64 (k : Int) ∧ k ≤ ss.length ∧ (∀ j (hj : j < ss.length), j < k → ss[j] < s) ∧ Rd txt wr B A n c ss ∧ wr.cell? ⟨Bs, 0, none⟩ = some (txt s) ∧ J (ss.take k) wr

set_option maxRecDepth 100000 in
set_option maxHeartbeats 1000000 in
theorem ahead1_in (F : Fence) (n : Nat) (h26 : F.fn 77) (hro : F.round = none) (hn : 1 ≤ n) (l Bn Bs n₀ : Nat) (A : Option Addr) (m c : Nat) (ss : List (List UInt8)) (s : List UInt8) (J Jx : List (List UInt8) → World → Prop)
    (hY : ∀ pre x W, J pre W → pre.length < ss.length → YieldAt F (n - 1) Tryz.prog l #[txt x] W fun e W' =>
      (e = .returned (.bool true) ∧ J (pre ++ [x]) W' ∧ KeepAt n₀ Bs W W') ∨ (e = .returned (.bool false) ∧ Jx (pre ++ [x]) W'))
    (W : World) (hcn : W.cell? ⟨Bn, 0, none⟩ = some (.slice A m c)) (hcs : W.cell? ⟨Bs, 0, none⟩ = some (txt s)) (hL : Rd txt W n₀ A m c ss) (h0 : J [] W) :
    CallsIn F n Tryz.prog 77 #[.func (.yield l) #[] #[], .pointer (some ⟨Bn, 0, none⟩), .pointer (some ⟨Bs, 0, none⟩)] W fun e W' => (∃ v, e = .returned v) ∧
      ((∃ ys, ys = ss.take (fd ss s) ∧ J ys W') ∨ (∃ pre, pre <+: ss ∧ Jx pre W')) := by
  have HL := Lib.hid hL.len
  have htop := hL.top
  have hcap := hL.cap
  unfold maxLen at htop
  refine callsIn_of_wp Tryz.func77 rfl h26 ?_ hro
  simp only [Tryz.ntmps77, List.size_toArray, List.length_cons, List.length_nil, Nat.reduceAdd, Nat.reduceSub, Array.replicate_succ, Array.replicate_zero, List.push_toArray, List.append_toArray, List.nil_append, List.cons_append]
  gi_wp2
  gi_loopw [8] (fun i8 wr => ARel ss s n₀ A m c Bs J i8 wr) (fun i8 _ => m - (intOf i8).toNat)
  case atStart => exact ⟨0, rfl, Nat.zero_le _, fun _ _ h => absurd h (by omega), hL, hcs, h0⟩
  case round =>
    obtain ⟨k, rfl, hk, hah, hr, hcs', hJs⟩ := hrel
    by_cases hlt : k < m
    · have hk' : k < ss.length := by rw [HL.out]; exact hlt
      obtain ⟨b, o, rfl, hb, hc⟩ := hr.spot (by omega)
      have hcell : wr.cell? ⟨b, o + k, none⟩ = some (.string (str ss[k])) := hc k hk'
      have hcs2 : wr.cell? ⟨Bs, 0, none⟩ = some (.string (str s)) := hcs'
      have HC := Lib.hid hcs'
      clear hcs'
      have HS := Lib.hid (List.take_succ_eq_append_getElem hk')
      obtain ⟨fn, tmps, assign, body, hy, hR⟩ := hY _ ss[k] wr hJs (by rw [List.length_take]; omega)
      rw [show txt ss[k] = .string (str ss[k]) from rfl] at hy
      have hls := less_str ss[k] s
      clear hc
      by_cases hx : ss[k] < s
      · rw [decide_eq_true hx] at hls
        generalize str ss[k] = q at *
        gi_wp2
        refine hR.mono ?_
        rintro e W3 (⟨rfl, hJ3, hk3⟩ | ⟨rfl, hJx3⟩)
        · gi_wp2
          go_roundw
          case rel =>
            refine ⟨k + 1, by go_num, by omega, fun j hj hjk => ?_, hr.below hk3.bel, hk3.cell HC.out, by rw [HS.out]; exact hJ3⟩
            rcases Nat.lt_or_ge j k with h | h
            · exact hah j hj h
            · obtain rfl : j = k := by omega
              exact hx
          case measure => simp [intOf]; omega
        · gi_wp2
          refine bodyPost_ret (results_none rfl _ _ _) rfl ?_
          exact ⟨⟨_, rfl⟩, .inr ⟨_, by rw [← HS.out]; exact List.take_prefix _ _, hJx3⟩⟩
      · rw [decide_eq_false hx] at hls
        have HF := Lib.hid (fd_eq (Nat.le_of_lt hk') hah (fun _ => hx))
        generalize str ss[k] = q at *
        clear hy hR
        gi_wp2
        refine ⟨fun _ h => (by cases h), ?_⟩
        gi_wp2
        refine bodyPost_ret (results_none rfl _ _ _) rfl ?_
        exact ⟨⟨_, rfl⟩, .inl ⟨_, by rw [HF.out], hJs⟩⟩
    · gi_wp2
      go_end0
      have HF := fd_eq (s := s) hk hah (fun h => absurd h (by rw [HL.out]; omega))
      exact ⟨⟨_, rfl⟩, .inl ⟨_, by rw [HF], hJs⟩⟩

theorem ahead_stops (F : Fence) (n : Nat) (h26 : F.fn 77) (hro : F.round = none) (hn : 1 ≤ n) (Bn Bs n₀ : Nat) (A : Option Addr) (m c : Nat) (ss : List (List UInt8)) (s : List UInt8) (w : World) (hBn : Bn < w.heap.size) (hBs : Bs < w.heap.size) (hn₀ : n₀ ≤ w.heap.size)
    (hcn : w.cell? ⟨Bn, 0, none⟩ = some (.slice A m c)) (hcs : w.cell? ⟨Bs, 0, none⟩ = some (txt s)) (hL : Rd txt w n₀ A m c ss) :
    SeqStopsK F n Tryz.prog 77 #[.pointer (some ⟨Bn, 0, none⟩), .pointer (some ⟨Bs, 0, none⟩)] (fun x : List UInt8 => #[txt x]) (KeepAt n₀ Bs) (fun ys => ys = ss.take (fd ss s)) (fun pre => pre <+: ss) ss.length w := fun l J Jx W hW _ _ hY h0 =>
  ahead1_in F n h26 hro hn l Bn Bs n₀ A m c ss s J Jx hY W ((hW.cell (p := ⟨Bn, 0, none⟩) hBn).trans hcn) ((hW.cell (p := ⟨Bs, 0, none⟩) hBs).trans hcs) (hL.below (hW.mono hn₀)) h0

/-- Is s the one behind those? -/
def isAt (ss : List (List UInt8)) (s : List UInt8) : Bool := decide (ss[fd ss s]? = some s)

set_option maxRecDepth 100000 in
set_option maxHeartbeats 2000000 in
theorem find_wide (A : Option Addr) (m c : Nat) (ss : List (List UInt8)) (s : List UInt8) (w : World) (hL : Rd txt w w.heap.size A m c ss) :
    CallsIn Fence.wide 5 Tryz.prog 7 #[.slice A m c, txt s] w fun e w' => e = .returned (.tuple #[.int .i64 (fd ss s : Int), .bool (isAt ss s)]) ∧ Below w.heap.size w w' := by
  have hro : Fence.wide.round = none := rfl
  have h19 : Fence.wide.fn 22 := trivial
  have htop := hL.top
  have hcap := hL.cap
  have HL := Lib.hid hL.len
  unfold maxLen at htop
  rw [show txt s = .string (str s) from rfl]
  refine callsIn_of_wp_marks Tryz.func7 rfl trivial ?_ hro
  simp only [Tryz.ntmps7, List.size_toArray, List.length_cons, List.length_nil, Nat.reduceAdd, Nat.reduceSub, Array.replicate_succ, Array.replicate_zero, List.push_toArray, List.append_toArray, List.nil_append, List.cons_append]
  gi_wp2_with (gi_at_call 22; refine (ahead_in Fence.wide _ trivial rfl A m c (str s) _).mono ?_; rintro e w2 ⟨rfl, rfl⟩)
  have k1 : Below w.heap.size w (w.alloc (.cells #[.int .i64 0] 3)) := (Below.refl _ w).alloc (Nat.le_refl _) _
  have k2 : Below w.heap.size w ((w.alloc (.cells #[.int .i64 0] 3)).alloc (.cells #[.slice A m c] 22)) := k1.alloc (by simp) _
  have k3 : Below w.heap.size w (((w.alloc (.cells #[.int .i64 0] 3)).alloc (.cells #[.slice A m c] 22)).alloc (.cells #[.string (str s)] 9)) := k2.alloc (by simp; omega) _
  have c1 : Boxed (((w.alloc (.cells #[.int .i64 0] 3)).alloc (.cells #[.slice A m c] 22)).alloc (.cells #[.string (str s)] 9)) w.heap.size 3 (.int .i64 0) := ((Boxed.new w 3 (.int .i64 0)).alloc _).alloc _
  have c2 : Boxed (((w.alloc (.cells #[.int .i64 0] 3)).alloc (.cells #[.slice A m c] 22)).alloc (.cells #[.string (str s)] 9)) (w.heap.size + 1) 22 (.slice A m c) := by have := (Boxed.new (w.alloc (.cells #[.int .i64 0] 3)) 22 (.slice A m c)).alloc (.cells #[.string (str s)] 9); simpa using this
  have c3 : Boxed (((w.alloc (.cells #[.int .i64 0] 3)).alloc (.cells #[.slice A m c] 22)).alloc (.cells #[.string (str s)] 9)) (w.heap.size + 1 + 1) 9 (.string (str s)) := by have := Boxed.new ((w.alloc (.cells #[.int .i64 0] 3)).alloc (.cells #[.slice A m c] 22)) 9 (.string (str s)); simpa using this
  have hsz : (((w.alloc (.cells #[.int .i64 0] 3)).alloc (.cells #[.slice A m c] 22)).alloc (.cells #[.string (str s)] 9)).heap.size = w.heap.size + 3 := by simp
  generalize ((w.alloc (.cells #[.int .i64 0] 3)).alloc (.cells #[.slice A m c] 22)).alloc (.cells #[.string (str s)] 9) = w3 at *
  refine wpIn_rangeFunc_ownF hro (by decide) (gf := 77) (lb := #[.pointer (some ⟨w.heap.size + 1, 0, none⟩), .pointer (some ⟨w.heap.size + 1 + 1, 0, none⟩)]) rfl trivial (enters_of Tryz.func77 (by kernel_rfl) rfl)
    (ahead_stops Fence.wide (5 - 1) trivial hro (by decide) (w.heap.size + 1) (w.heap.size + 1 + 1) w.heap.size A m c ss s w3 (by omega) (by omega) (by omega) c2.cell c3.cell (hL.below k3)) keepAt_t (keepAt_b (by omega) (by omega)) (Below.refl _ _) (fun _ => rfl)
    (fun pre W => Boxed W w.heap.size 3 (.int .i64 (pre.length : Int)) ∧ Below w.heap.size w W)
    (fun _ _ _ => False)
    (OwnFrom.and (Own.from (boxed_own _ _ _) _) (ownFrom_below (Nat.le_refl _) (by omega)))
    (fun _ _ _ _ _ hs _ _ => hs)
    ⟨c1, k3⟩
    (fun x => { tmps := #[.slice A m c, .string (str s), undef, undef, .int .i64 0, .bool false, .pointer (some ⟨w.heap.size, 0, none⟩), .slice A m c, .string (str s), .func (.func 77) #[] #[.pointer (some ⟨w.heap.size + 1, 0, none⟩), .pointer (some ⟨w.heap.size + 1 + 1, 0, none⟩)], txt x, undef, undef, undef, undef, undef, undef, undef, undef, undef, undef, undef, undef, undef, undef, undef], defers := [] }) ?assign ?body ?done ?stop
  case assign =>
    intro l x W K hK
    gi_wp2
    simpa using hK
  case body =>
    rintro l pre x W ⟨hB, hW⟩ hlt
    have hcn := hB.cell
    have hfn := hB.frozen
    have HN : Hid (((pre ++ [x]).length : Int) = (pre.length : Int) + 1) := by show _ = _; simp
    have hnb : (pre.length : Int) + 1 ≤ 9223372036854775807 := by have := HL.out; omega
    generalize pre.length = p at *
    gi_wp2
    have hle : w.heap.size ≤ (⟨w.heap.size, 0, none⟩ : Addr).block := Nat.le_refl _
    exact ⟨KeepsOthers.setCell _ _ _, ⟨(Below.refl w.heap.size W).setCell (p := ⟨w.heap.size, 0, none⟩) hle _, heap_setCell_other _ _ _ _ (by simp; omega)⟩, by rw [HN.out]; exact hB.set _, hW.setCell (p := ⟨w.heap.size, 0, none⟩) hle _⟩
  case done =>
    rintro D ys W hD rfl ⟨hB, hW⟩ hK
    have hfl := fd_le ss s
    have hcn : W.cell? ⟨w.heap.size, 0, none⟩ = some (.int .i64 (fd ss s : Int)) := by
      have := hB.cell
      rwa [List.length_take, Nat.min_eq_left hfl] at this
    have hend := hW.trans (belowK_b (w := w) (Nat.le_refl _) W D _ (.deferred none) (by omega) hK rfl rfl)
    have hr := hL.below hW
    have hK' := hK
    clear hB
    by_cases hlt : fd ss s < m
    · have hk' : fd ss s < ss.length := by rw [HL.out]; exact hlt
      obtain ⟨b, o, rfl, hb, hc⟩ := hr.spot (by omega)
      have hcell : W.cell? ⟨b, o + fd ss s, none⟩ = some (.string (str ss[fd ss s])) := hc _ hk'
      have hsm := same_str ss[fd ss s] s
      have HI : Hid (isAt ss s = decide (ss[fd ss s] = s)) := by show _ = _; simp [isAt, hk']
      clear hc
      generalize decide (ss[fd ss s] = s) = d at *
      generalize str ss[fd ss s] = q at *
      generalize hfk : fd ss s = k at *
      have HF := Lib.hid hfk
      clear hfk
      have hlti : (k : Int) < (m : Int) := by omega
      gi_wp2
      gi_quiet (fail)
      gi_wp2
      refine ⟨by simp, .inl ⟨_, _, rfl, run_takeDeferred (w := W.drewN nq) hK', ?_⟩⟩
      exact ⟨_, results_tmp2 rfl _ _ _, by rw [HF.out, HI.out]; rfl, below_put hend _⟩
    · have HI : Hid (isAt ss s = false) := by show _ = _; simp only [isAt, decide_eq_false_iff_not]; rw [List.getElem?_eq_none (by rw [HL.out]; omega)]; simp
      generalize hfk : fd ss s = k at *
      have HF := Lib.hid hfk
      clear hfk
      have hlti : ¬ (k : Int) < (m : Int) := by omega
      gi_wp2
      gi_quiet (fail)
      gi_wp2
      refine ⟨by simp, .inl ⟨_, _, rfl, run_takeDeferred (w := W.drewN nq) hK', ?_⟩⟩
      exact ⟨_, results_tmp2 rfl _ _ _, by rw [HF.out, HI.out]; rfl, below_put hend _⟩
  case stop =>
    rintro D c pre W _ _ h _
    exact h.elim

theorem find_any (A : Option Addr) (m c : Nat) (ss : List (List UInt8)) (s : List UInt8) (w : World) (hL : Rd txt w w.heap.size A m c ss) :
    Calls Tryz.prog 7 #[.slice A m c, txt s] w fun e w' => e = .returned (.tuple #[.int .i64 (fd ss s : Int), .bool (isAt ss s)]) ∧ Below w.heap.size w w' :=
  callsIn_wide.1 (find_wide A m c ss s w hL)
end Go.Proofs.YtkjeejaecagbaaaGreatDoor
