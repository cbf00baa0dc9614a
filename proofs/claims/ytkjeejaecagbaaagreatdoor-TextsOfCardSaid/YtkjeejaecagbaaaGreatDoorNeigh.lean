/- What texts.neighbours hands out: each text with the next one. Condition: the texts can be read. -/
import Derived.Test.YtkjeejaecagbaaaGreatDoorFind
import Derived.Shelf.RegionOpen
namespace Go.Proofs.YtkjeejaecagbaaaGreatDoor
open Go.RowKit Go.Shelf

attribute [local go_sem] Oper.semAt_some

theorem neighbours_in (F : Fence) (n : Nat) (h18 : F.fn 23) (hro : F.round = none) (A : Option Addr) (m c : Nat) (w : World) :
    CallsIn F n Tryz.prog 23 #[.slice A m c] w fun e w' => e = .returned (.func (.func 78) #[] #[.pointer (some ⟨w.heap.size, 0, none⟩)]) ∧ w' = w.alloc (.cells #[.slice A m c] 22) := by
  refine callsIn_of_wp Tryz.func23 rfl h18 ?_ hro
  simp only [Tryz.ntmps23, List.size_toArray, List.length_cons, List.length_nil, Nat.reduceAdd, Nat.reduceSub, Array.replicate_succ, Array.replicate_zero, List.push_toArray, List.append_toArray, List.nil_append, List.cons_append]
  gi_wp2
  go_ret
  exact ⟨rfl, rfl⟩

/-- Each with the next one. -/
def pairs (ss : List (List UInt8)) : List (List UInt8 × List UInt8) := ss.zip ss.tail

theorem pairs_length (ss : List (List UInt8)) : (pairs ss).length = ss.length - 1 := by simp [pairs]
theorem pairs_get {ss : List (List UInt8)} {k : Nat} (h : k + 1 < ss.length) : (pairs ss)[k]'(by rw [pairs_length]; omega) = (ss[k], ss[k + 1]) := by simp [pairs]
theorem pairs_snoc {ss : List (List UInt8)} {k : Nat} (h : k + 1 < ss.length) : (pairs ss).take (k + 1) = (pairs ss).take k ++ [(ss[k], ss[k + 1])] := by
  rw [List.take_succ_eq_append_getElem (by rw [pairs_length]; omega), pairs_get h]

/-- k pairs have come. -/
def NRel (ss : List (List UInt8)) (B : Nat) (A : Option Addr) (n c Bn : Nat) (J : List (List UInt8 × List UInt8) → World → Prop) (i3 : Value) (wr : World) : Prop :=
  ∃ k : Nat, i3 = .int .i64 ((k : Int) + 1) ∧ k ≤ ss.length - 1 ∧ Rd txt wr B A n c ss ∧ wr.cell? ⟨Bn, 0, none⟩ = some (.slice A n c) ∧ J ((pairs ss).take k) wr

set_option maxRecDepth 100000 in
set_option maxHeartbeats 1000000 in
theorem neighbours1_in (n : Nat) (hn : 1 ≤ n) (l Bn n₀ : Nat) (A : Option Addr) (m c : Nat) (ss : List (List UInt8)) (J Jx : List (List UInt8 × List UInt8) → World → Prop)
    (hJd : ∀ pre W, J pre W → J pre W.drew)
    (hY : ∀ pre (x : List UInt8 × List UInt8) W, J pre W → pre.length < (pairs ss).length → YieldAt Fence.wide (n - 1) Tryz.prog l #[txt x.1, txt x.2] W fun e W' =>
      (e = .returned (.bool true) ∧ J (pre ++ [x]) W' ∧ KeepAt n₀ Bn W W') ∨ (e = .returned (.bool false) ∧ Jx (pre ++ [x]) W'))
    (W : World) (hcn : W.cell? ⟨Bn, 0, none⟩ = some (.slice A m c)) (hL : Rd txt W n₀ A m c ss) (h0 : J [] W) :
    CallsIn Fence.wide n Tryz.prog 78 #[.func (.yield l) #[] #[], .pointer (some ⟨Bn, 0, none⟩)] W fun e W' => (∃ v, e = .returned v) ∧
      ((∃ ys, ys = pairs ss ∧ J ys W') ∨ (∃ pre, pre <+: pairs ss ∧ Jx pre W')) := by
  have HL := Lib.hid hL.len
  have htop := hL.top
  have hcap := hL.cap
  unfold maxLen at htop
  refine callsIn_of_wp Tryz.func78 rfl trivial ?_ rfl
  simp only [Tryz.ntmps78, List.size_toArray, List.length_cons, List.length_nil, Nat.reduceAdd, Nat.reduceSub, Array.replicate_succ, Array.replicate_zero, List.push_toArray, List.append_toArray, List.nil_append, List.cons_append]
  gi_wp2
  gi_loopw [3] (fun i3 wr => NRel ss n₀ A m c Bn J i3 wr) (fun i3 _ => m - (intOf i3).toNat)
  case atStart => exact ⟨0, rfl, Nat.zero_le _, hL, hcn, h0⟩
  case round =>
    obtain ⟨k, rfl, hk, hr, hcn', hJs⟩ := hrel
    by_cases hlt : k + 1 < m
    · have hk' : k + 1 < ss.length := by rw [HL.out]; exact hlt
      obtain ⟨b, o, rfl, hb, hc⟩ := hr.spot (by omega)
      have hc0 : wr.cell? ⟨b, o + k, none⟩ = some (.string (str ss[k])) := hc k (by omega)
      have hc1 : wr.cell? ⟨b, o + (k + 1), none⟩ = some (.string (str ss[k + 1])) := hc (k + 1) hk'
      have HS := Lib.hid (pairs_snoc hk')
      obtain ⟨fn, tmps, assign, body, hy, hR⟩ := hY _ (ss[k], ss[k + 1]) wr.drew (hJd _ _ hJs) (by rw [List.length_take, pairs_length]; omega)
      rw [show txt (ss[k], ss[k + 1]).1 = .string (str ss[k]) from rfl, show txt (ss[k], ss[k + 1]).2 = .string (str ss[k + 1]) from rfl] at hy
      clear hc
      generalize str ss[k] = q at *
      generalize str ss[k + 1] = q' at *
      have hlti : (k : Int) + 1 < (m : Int) := by omega
      have hltk : (k : Int) < (m : Int) := by omega
      have hw1 : IntKind.i64.wrap ((k : Int) + 1 - 1) = (k : Int) := by rw [IntKind.wrap_i64]; omega
      have hw2 : IntKind.i64.wrap (k : Int) = (k : Int) := by rw [IntKind.wrap_i64]; omega
      have hmx : Tryz.prog.follows .mixedOrders = true := by kernel_rfl
      have hR' := hR.mono (R' := fun e W' => ∃ bv : Bool, e = .returned (.bool bv) ∧ Hid ((bv = true → J ((pairs ss).take (k + 1)) W' ∧ KeepAt n₀ Bn wr.drew W') ∧ (bv = false → Jx ((pairs ss).take (k + 1)) W'))) (by
        rintro e W' (⟨rfl, h1, h2⟩ | ⟨rfl, h1⟩)
        · exact ⟨true, rfl, fun _ => ⟨by rw [HS.out]; exact h1, h2⟩, fun h => by cases h⟩
        · exact ⟨false, rfl, (fun h => by cases h), fun _ => by rw [HS.out]; exact h1⟩)
      clear hR
      gi_wp2
      gi_region_with_o (refine hR'.mono ?_; rintro e W3 ⟨bv, rfl, HB⟩)
      all_goals (
        clear hR' hy
        cases bv with
        | false =>
          have hJ3 := HB.out.2 rfl
          clear HB
          gi_wp2
          refine bodyPost_ret (results_none rfl _ _ _) rfl ?_
          exact ⟨⟨_, rfl⟩, .inr ⟨_, List.take_prefix _ _, hJ3⟩⟩
        | true =>
          obtain ⟨hJ3, hk3⟩ := HB.out.1 rfl
          clear HB
          gi_wp2
          go_roundw
          case rel => exact ⟨k + 1, by go_num, by omega, (hr.below ((Below.refl _ _).drew.trans hk3.bel)), hk3.cell hcn', hJ3⟩
          case measure => simp [intOf]; omega)
    · gi_wp2
      go_end0
      exact ⟨⟨_, rfl⟩, .inl ⟨_, by rw [List.take_of_length_le (by rw [pairs_length, HL.out]; omega)], hJs⟩⟩

theorem neighbours_stops (n : Nat) (hn : 1 ≤ n) (Bn n₀ : Nat) (A : Option Addr) (m c : Nat) (ss : List (List UInt8)) (w : World) (hBn : Bn < w.heap.size) (hn₀ : n₀ ≤ w.heap.size)
    (hcn : w.cell? ⟨Bn, 0, none⟩ = some (.slice A m c)) (hL : Rd txt w n₀ A m c ss) :
    SeqStopsK Fence.wide n Tryz.prog 78 #[.pointer (some ⟨Bn, 0, none⟩)] (fun x : List UInt8 × List UInt8 => #[txt x.1, txt x.2]) (KeepAt n₀ Bn) (fun ys => ys = pairs ss) (fun pre => pre <+: pairs ss) (pairs ss).length w := fun l J Jx W hW hJ _ hY h0 =>
  neighbours1_in n hn l Bn n₀ A m c ss J Jx (fun pre W hp => hJ pre W W.drew none hp ⟨rfl, rfl, rfl, Nat.le_refl _, fun _ _ _ => rfl⟩ (fun r e => by cases e)) hY W ((hW.cell (p := ⟨Bn, 0, none⟩) hBn).trans hcn) (hL.below (hW.mono hn₀)) h0

end Go.Proofs.YtkjeejaecagbaaaGreatDoor
