/- What texts.Sort does: the texts, each once, rising, in new memory. Condition: the texts can be read, and take at most 2 to the 47 bytes. -/
import Derived.Test.YtkjeejaecagbaaaGreatDoorTxt
import Derived.Test.YtkjeejaecagbaaaGreatDoorShelf
import Derived.Test.YtkjeejaecagbaaaGreatDoorChecked
import Derived.RangeFuncNested
import Derived.RangeFuncBound
import Derived.RangeFuncCalls
import Derived.RangeFuncLeaves
import Derived.RangeFuncBox
import Derived.Maps.AppendAt
import Derived.Shelf.Abstract
import Derived.WalkKit
import Derived.OwnWalkIn
import Derived.TacticsInMore
import Derived.LoopNIn
import Derived.LoopIn
import Derived.Sort.OwnSorted
import Derived.Sort.Grow
import Derived.Lib.OwnBridge
namespace Go.Proofs.YtkjeejaecagbaaaGreatDoor
open Go.RowKit Go.Shelf

attribute [local go_sem] Oper.semAt_some

theorem text_info : (Tryz.prog.info? 9).map (fun i => (i.zero, i.size, i.bytes)) = some (some (.string ByteArray.empty), 1, 16) := by kernel_rfl

theorem values_in (F : Fence) (n : Nat) (h17 : F.fn 21) (hro : F.round = none) (A : Option Addr) (m c : Nat) (w : World) :
    CallsIn F n Tryz.prog 21 #[.slice A m c] w fun e w' => e = .returned (.func (.func 76) #[] #[.pointer (some ⟨w.heap.size, 0, none⟩)]) ∧ w' = w.alloc (.cells #[.slice A m c] 22) := by
  refine callsIn_of_wp Tryz.func21 rfl h17 ?_ hro
  simp only [Tryz.ntmps21, List.size_toArray, List.length_cons, List.length_nil, Nat.reduceAdd, Nat.reduceSub, Array.replicate_succ, Array.replicate_zero, List.push_toArray, List.append_toArray, List.nil_append, List.cons_append]
  gi_wp2
  go_ret
  exact ⟨rfl, rfl⟩

def VRel (ss : List (List UInt8)) (B : Nat) (A : Option Addr) (n c : Nat) (J : List (List UInt8) → World → Prop) (i7 : Value) (wr : World) : Prop :=
  ∃ k : Nat, i7 = .int .i64 (k : Int) ∧ k ≤ ss.length ∧ Rd txt wr B A n c ss ∧ J (ss.take k) wr

set_option maxRecDepth 100000 in
set_option maxHeartbeats 1000000 in
theorem values1_in (F : Fence) (n : Nat) (h24 : F.fn 76) (hro : F.round = none) (hn : 1 ≤ n) (l Bn n₀ : Nat) (A : Option Addr) (m c : Nat) (ss : List (List UInt8)) (J Jx : List (List UInt8) → World → Prop)
    (hY : ∀ pre x W, J pre W → pre.length < ss.length → YieldAt F (n - 1) Tryz.prog l #[txt x] W fun e W' =>
      (e = .returned (.bool true) ∧ J (pre ++ [x]) W' ∧ Below n₀ W W') ∨ (e = .returned (.bool false) ∧ Jx (pre ++ [x]) W'))
    (W : World) (hBn : W.cell? ⟨Bn, 0, none⟩ = some (.slice A m c)) (hL : Rd txt W n₀ A m c ss) (h0 : J [] W) :
    CallsIn F n Tryz.prog 76 #[.func (.yield l) #[] #[], .pointer (some ⟨Bn, 0, none⟩)] W fun e W' => (∃ v, e = .returned v) ∧
      ((∃ ys, ys = ss ∧ J ys W') ∨ (∃ pre, pre <+: ss ∧ Jx pre W')) := by
  have HL := Lib.hid hL.len
  have htop := hL.top
  have hcap := hL.cap
  unfold maxLen at htop
  refine callsIn_of_wp Tryz.func76 rfl h24 ?_ hro
  simp only [Tryz.ntmps76, List.size_toArray, List.length_cons, List.length_nil, Nat.reduceAdd, Nat.reduceSub, Array.replicate_succ, Array.replicate_zero, List.push_toArray, List.append_toArray, List.nil_append, List.cons_append]
  gi_wp2
  gi_loopw [7] (fun i7 wr => VRel ss n₀ A m c J i7 wr) (fun i7 _ => m - (intOf i7).toNat)
  case atStart => exact ⟨0, rfl, Nat.zero_le _, hL, h0⟩
  case round =>
    obtain ⟨k, rfl, hk, hr, hJs⟩ := hrel
    by_cases hlt : k < m
    · have hk' : k < ss.length := by rw [HL.out]; exact hlt
      obtain ⟨b, o, rfl, hb, hc⟩ := hr.spot (by omega)
      have hcell := hc k hk'
      have HS := Lib.hid (List.take_succ_eq_append_getElem hk')
      obtain ⟨fn, tmps, assign, body, hy, hR⟩ := hY _ ss[k] wr hJs (by rw [List.length_take]; omega)
      clear hc
      generalize txt ss[k] = q at *
      gi_wp2
      refine hR.mono ?_
      rintro e W3 (⟨rfl, hJ3, hk3⟩ | ⟨rfl, hJx3⟩)
      · gi_wp2
        go_roundw
        case rel => exact ⟨k + 1, by go_num, by omega, hr.below hk3, by rw [HS.out]; exact hJ3⟩
        case measure => simp [intOf]; omega
      · gi_wp2
        refine bodyPost_ret (results_none rfl _ _ _) rfl ?_
        exact ⟨⟨_, rfl⟩, .inr ⟨_, by rw [← HS.out]; exact List.take_prefix _ _, hJx3⟩⟩
    · gi_wp2
      go_end0
      exact ⟨⟨_, rfl⟩, .inl ⟨_, by rw [List.take_of_length_le (by rw [HL.out]; omega)], hJs⟩⟩

theorem values_stops (F : Fence) (n : Nat) (h24 : F.fn 76) (hro : F.round = none) (hn : 1 ≤ n) (Bn n₀ : Nat) (A : Option Addr) (m c : Nat) (ss : List (List UInt8)) (w : World) (hBn : Bn < w.heap.size) (hn₀ : n₀ ≤ w.heap.size)
    (hc : w.cell? ⟨Bn, 0, none⟩ = some (.slice A m c)) (hL : Rd txt w n₀ A m c ss) :
    SeqStopsK F n Tryz.prog 76 #[.pointer (some ⟨Bn, 0, none⟩)] (fun x : List UInt8 => #[txt x]) (Below n₀) (fun ys => ys = ss) (fun pre => pre <+: ss) ss.length w := fun l J Jx W hW _ _ hY h0 =>
  values1_in F n h24 hro hn l Bn n₀ A m c ss J Jx hY W ((hW.cell (p := ⟨Bn, 0, none⟩) hBn).trans hc) (hL.below (hW.mono hn₀)) h0

set_option maxRecDepth 100000 in
set_option maxHeartbeats 2000000 in
theorem appendSeq_wide (Bn : Nat) (A : Option Addr) (m c : Nat) (ss : List (List UInt8)) (w : World) (hBn : Bn < w.heap.size) (hcB : w.cell? ⟨Bn, 0, none⟩ = some (.slice A m c)) (hL : Rd txt w w.heap.size A m c ss) (hb : ss.length * 16 ≤ 140737488355328) :
    CallsIn Fence.wide 5 Tryz.prog 110 #[.slice none 0 0, .func (.func 76) #[] #[.pointer (some ⟨Bn, 0, none⟩)]] w fun e w' => ∃ v, e = .returned v ∧ w'.ownsRow w.heap.size 9 1 v ss.length (ss.map txt) ∧ Below w.heap.size w w' := by
  have hro : Fence.wide.round = none := rfl
  obtain ⟨i0, hi, hz0, hz1, hz2⟩ := info_parts text_info
  have hmax : ss.length ≤ maxLen := by unfold maxLen; omega
  refine callsIn_of_wp_marks Tryz.func110 rfl trivial ?_ hro
  simp only [Tryz.ntmps110, List.size_toArray, List.length_cons, List.length_nil, Nat.reduceAdd, Nat.reduceSub, Array.replicate_succ, Array.replicate_zero, List.push_toArray, List.append_toArray, List.nil_append, List.cons_append]
  gi_wp2
  have bO := Boxed.new w 22 (.slice none 0 0)
  have hB0 : Below w.heap.size w (w.alloc (.cells #[.slice none 0 0] 22)) := (Below.refl _ w).alloc (Nat.le_refl _) _
  refine wpIn_rangeFunc_ownF hro (by decide) (gf := 76) (lb := #[.pointer (some ⟨Bn, 0, none⟩)]) rfl trivial (enters_of Tryz.func76 (by kernel_rfl) rfl)
    (values_stops Fence.wide (5 - 1) trivial hro (by decide) Bn w.heap.size A m c ss _ (by simp; omega) (by simp) ((hB0.cell (p := ⟨Bn, 0, none⟩) hBn).trans hcB) (hL.below hB0)) belowK_t (belowK_b (by simp)) (Below.refl _ _) (fun _ => rfl)
    (fun pre W => (∃ v, Boxed W w.heap.size 22 v ∧ W.ownsRow w.heap.size 9 1 v pre.length (pre.map txt) ∧ True) ∧ Below w.heap.size w W)
    (fun _ _ _ => False)
    (OwnFrom.and (Own.from (holdsRow_own w.heap.size w.heap.size 22 9 1 (fun pre : List (List UInt8) => pre.length) (fun pre => pre.map txt) (fun _ _ => True)) _) (ownFrom_below (Nat.le_refl _) (by simp)))
    (fun _ _ _ _ _ hs _ _ => hs)
    ⟨⟨_, bO, World.ownsRow_nil _ _ _ _, trivial⟩, hB0⟩
    (fun x => { tmps := #[.slice none 0 0, .func (.func 76) #[] #[.pointer (some ⟨Bn, 0, none⟩)], .pointer (some ⟨w.heap.size, 0, none⟩), undef, .slice none 0 0, txt x, .func (.func 76) #[] #[.pointer (some ⟨Bn, 0, none⟩)], txt x, undef, undef, undef, undef, undef], defers := [] }) ?assign ?body ?done ?stop
  case assign =>
    intro l x W K hK
    gi_wp2
    exact hK
  case body =>
    rintro l pre x W ⟨⟨v, hv, hrow, _⟩, hB⟩ hlt
    have hc := hv.cell
    have HM : Hid ((pre ++ [x]).map txt = pre.map txt ++ [txt x]) := by show _ = _; simp
    have h1 := txt_one x
    rw [show txt x = .string (str x) from rfl] at *
    generalize str x = s at *
    gi_wp2_with (gi_at_builtin; refine wpListIn_append_own _ rfl _ _ 22 rfl w.heap.size 9 i0 (.string ByteArray.empty) 1 16 Tryz.underlying22 hi hz0 hz1 hz2 rfl (by decide) _ _ _ rfl (hrow.alloc _) ⟨W.heap.size, 0, none⟩ 1 1 [.string s] rfl rfl (cell_one_new _ _ _) (one_one h1) (by omega) (by omega) (by have := hB.size; simp; omega) ?_; intro v' w1 hown' hgrow _; obtain ⟨g', cap', rfl⟩ := ownsRow_succ hown'; obtain ⟨hv1, hv2, hr2, hk2, hb2⟩ := hv.appended (by decide) hrow hB.size (Nat.le_refl _) hown' hgrow; have hc1 := hv1.cell; have hf1 := hv1.frozen)
    exact ⟨hk2, hb2, ⟨_, hv2, by rw [HM.out]; simpa using hr2, trivial⟩, hB.trans hb2⟩
  case done =>
    rintro D ys W hD rfl ⟨⟨v, hv, hrow, _⟩, hB⟩ hK
    have hc := hv.cell
    gi_wp2
    refine ⟨by simp, .inl ⟨_, _, rfl, run_takeDeferred hK, ?_⟩⟩
    exact ⟨_, results_tmp rfl _ _ _, v, rfl, ownsRow_putObj hrow _ hK rfl, hB.trans (belowK_b (w := w) (Nat.le_refl _) W D _ _ (by simp at hD; omega) hK rfl rfl)⟩
  case stop =>
    rintro D c pre W _ _ h _
    exact h.elim

set_option maxRecDepth 100000 in
set_option maxHeartbeats 1000000 in
theorem collect_any (Bn : Nat) (A : Option Addr) (m c : Nat) (ss : List (List UInt8)) (w : World) (hBn : Bn < w.heap.size) (hcB : w.cell? ⟨Bn, 0, none⟩ = some (.slice A m c)) (hL : Rd txt w w.heap.size A m c ss) (hb : ss.length * 16 ≤ 140737488355328) :
    Calls Tryz.prog 74 #[.func (.func 76) #[] #[.pointer (some ⟨Bn, 0, none⟩)]] w fun e w' => ∃ v, e = .returned v ∧ w'.ownsRow w.heap.size 9 1 v ss.length (ss.map txt) ∧ Below w.heap.size w w' := by
  go_enter Tryz.func74, Tryz.ntmps74
  go_wp2_with fail
  refine (callsIn_wide.1 (appendSeq_wide Bn A m c ss w hBn hcB hL hb)).mono ?_
  rintro e w1 ⟨v, rfl, hrow, hbel⟩
  go_wp2_with fail
  go_ret
  exact ⟨v, rfl, hrow, hbel⟩

theorem nil_of_own {w : World} {base n : Nat} {E : TypeId} {v : Value} {ss : List (List UInt8)} (h : w.ownsRow base E 1 v n (ss.map txt)) (hv : v = .slice none 0 0) : ss = [] ∧ n = 0 := by
  rcases h.2 with ⟨_, rfl⟩ | ⟨g, cap, cur, e, _⟩
  · exact ⟨by simpa using h.1, rfl⟩
  · rw [hv] at e; cases e

set_option maxRecDepth 100000 in
set_option maxHeartbeats 1000000 in
theorem sorted_any (Bn : Nat) (A : Option Addr) (m c : Nat) (ss : List (List UInt8)) (w : World) (hBn : Bn < w.heap.size) (hcB : w.cell? ⟨Bn, 0, none⟩ = some (.slice A m c)) (hL : Rd txt w w.heap.size A m c ss) (hb : ss.length * 16 ≤ 140737488355328) :
    Calls Tryz.prog 20 #[.func (.func 76) #[] #[.pointer (some ⟨Bn, 0, none⟩)]] w fun e w' => ∃ v, e = .returned v ∧ w'.ownsRow w.heap.size 9 1 v ss.length ((ss.mergeSort fun x y => decide (x ≤ y)).map txt) ∧ Below w.heap.size w w' := by
  go_enter Tryz.func20, Tryz.ntmps20
  go_wp2_with fail
  refine (collect_any Bn A m c ss w hBn hcB hL hb).mono ?_
  rintro e w1 ⟨v, rfl, hrow, hbel⟩
  by_cases hv : v = .slice none 0 0
  · obtain ⟨rfl, _⟩ := nil_of_own hrow hv
    subst hv
    go_wp2_with fail
    refine (slices_Sort_string_none none 0 w1).mono ?_
    rintro e w2 ⟨rfl, rfl⟩
    go_wp2_with fail
    go_ret
    exact ⟨_, rfl, by simpa using hrow, hbel⟩
  · rw [txt_enc] at hrow
    obtain ⟨g, cap, rfl, hbg, hgl, hncap, hcm, hlen, hH⟩ := Lib.holds_of_ownsRow hrow hv
    go_wp2_with fail
    refine (slices_Sort_string g 0 cap ss w1 hH hgl (by omega)).mono ?_
    rintro e w2 ⟨rfl, nn, os, rfl⟩
    go_wp2_with fail
    go_ret
    rcases hrow.2 with ⟨h0, _⟩ | ⟨g', cap', cur, hv', hbase, hgb, h1, h2, h3, h4⟩
    · cases h0
    cases hv'
    exact ⟨_, rfl, by rw [txt_enc]; exact ownsRow_sorted (by simp) hbase hgb h1 h2 h3, hbel.grown (grownBy_sorted _) hbel.size (fun j hj => by cases hj; exact hbase)⟩

set_option maxRecDepth 100000 in
set_option maxHeartbeats 1000000 in
/-- texts.Sort. -/
theorem sort_any (A : Option Addr) (m c : Nat) (ss : List (List UInt8)) (w : World) (hL : Rd txt w w.heap.size A m c ss) (hb : ss.length * 16 ≤ 140737488355328) :
    Calls Tryz.prog 6 #[.slice A m c] w fun e w' => ∃ A' n' c', e = .returned (.slice A' n' c') ∧ Fresh txt 9 w w' A' n' c' (su ss) := by
  go_enter Tryz.func6, Tryz.ntmps6
  go_wp2_with fail
  refine (callsIn_wide.1 (values_in Fence.wide 1 trivial rfl A m c w)).mono ?_
  rintro e w1 ⟨rfl, rfl⟩
  have hB0 : Below w.heap.size w (w.alloc (.cells #[.slice A m c] 22)) := (Below.refl _ w).alloc (Nat.le_refl _) _
  go_wp2_with fail
  refine (sorted_any w.heap.size A m c ss _ (by simp) (Boxed.new w 22 (.slice A m c)).cell ((hL.below hB0).mono (by simp)) hb).mono ?_
  rintro e w2 ⟨v, rfl, hrow, hbel⟩
  have hbel' : Below w.heap.size w w2 := hB0.trans (hbel.mono (by simp))
  have hrow' := own_base (base' := w.heap.size) hrow (by simp)
  clear hrow hbel
  by_cases hv : v = .slice none 0 0
  · obtain ⟨hnil, _⟩ := nil_of_own hrow' hv
    have hss : ss = [] := by
      have := congrArg List.length hnil
      simpa using this
    subst hss
    subst hv
    go_wp2_with fail
    refine (slices_Compact_string_empty none 0 w2).mono ?_
    rintro e w3 ⟨rfl, rfl⟩
    go_wp2_with fail
    go_ret
    exact ⟨_, _, _, rfl, ⟨by simpa [su, Lib.compact, Lib.compactUpTo] using hrow', hbel'⟩⟩
  · rw [txt_enc] at hrow'
    obtain ⟨g, cap, rfl, hbg, hgl, hncap, hcm, hlen, hH⟩ := Lib.holds_of_ownsRow hrow' hv
    have cS := slices_Compact_string g 0 cap _ w2 hH (by omega) (by omega)
    rw [hlen] at cS
    go_wp2_with fail
    refine cS.mono ?_
    rintro e w3 ⟨rfl, q, rfl⟩
    go_wp2_with fail
    go_ret
    have hle := Lib.compact_length_le (ss.mergeSort fun x y => decide (x ≤ y))
    have hc := Lib.ownsRow_putRow (q := q) (k := (su ss).length) (ys := su ss ++ List.replicate (ss.length - (su ss).length) []) hrow' (by have := su_length_le ss; simp; omega) (su_length_le ss)
    rw [List.take_left] at hc
    exact ⟨_, _, _, rfl, ⟨by rw [txt_enc]; exact hc, Lib.below_putRow hbel' hbg⟩⟩
end Go.Proofs.YtkjeejaecagbaaaGreatDoor
