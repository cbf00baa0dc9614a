/- Proved: whatever the bytes and the sum, SumsDivided answers true: the sum of bytes, and of bytes behind a sum, is what the division of their bits leaves, and the bytes stay as they were. No condition. -/
import Derived.Test.YthimojebincheaaAlive
import Derived.Test.YthimojebincheaaRef
import Derived.Test.YthimojebincheaaOpen
import Derived.Test.YthimojebincheaaRows
namespace Go.Proofs.Ythimojebincheaa.sumsDivided
open Go.ChangeShapes Go.WideShapes Go.ChangeAt Go.RowKit

theorem own : ownKnob Try.prog.godebug = none := by kernel_rfl
theorem laidOut : laidOutB Try.prog = true := by kernel_rfl

theorem below_drewN (w : World) (k : Nat) : Below w.heap.size w (w.drewN k) := ⟨rfl, rfl, rfl, Nat.le_refl _, fun _ _ => rfl⟩

set_option maxRecDepth 100000 in
set_option maxHeartbeats 400000 in
theorem walk_small (A : Option Addr) (n c : Nat) (l : List UInt8) (s : Nat) (w : World) (hs : s < 4294967296) (hl : Rd w w.heap.size A n c l) (hn : n ≤ 3000) :
    Calls Try.prog 3 #[.slice A n c, .int .u32 (s : Int)] w fun e w' => e = .returned (.bool true) ∧ Below w.heap.size w w' := by
  have t1 : decide (3000 < (n : Int)) = false := by simp; omega
  go_enter Try.func3, Try.ntmps3
  go_wp2_with fail
  refine (twin_any A n c l _ hl (by omega)).mono ?_
  rintro e w1 ⟨g, rfl, ht, b1⟩
  go_wp2_with fail
  refine (of_any _ _ _ l _ ht.rd).mono ?_
  rintro e w2 ⟨rfl, b2⟩
  replace ht := ht.keep b2
  replace b2 := Below.then b1 b2
  go_wp2_with fail
  refine (refOf_any A n c l _ (hl.at_size (Nat.le_refl _) b2) hn).mono ?_
  rintro e w3 ⟨rfl, b3⟩
  replace ht := ht.keep b3
  replace b3 := Below.then b2 b3
  clear b1 b2
  generalize sumOf 0 l = x at *
  go_wp2_with fail
  refine (on_any s _ _ _ l _ hs ht.rd).mono ?_
  rintro e w4 ⟨rfl, b4⟩
  replace ht := ht.keep b4
  replace b4 := Below.then b3 b4
  go_wp2_with fail
  refine (refOn_any s A n c l _ hs (hl.at_size (Nat.le_refl _) b4) hn).mono ?_
  rintro e w5 ⟨rfl, b5⟩
  replace ht := ht.keep b5
  replace b5 := Below.then b4 b5
  clear b3 b4
  generalize sumOf s l = y at *
  go_wp2_with fail
  refine (left_any w _ A g n c l _ ht (hl.at_size (Nat.le_refl _) b5)).mono ?_
  rintro e w6 ⟨rfl, k, rfl⟩
  go_wp2_with fail
  go_ret
  exact ⟨rfl, Below.then b5 (below_drewN _ _)⟩

set_option maxRecDepth 100000 in
set_option maxHeartbeats 400000 in
theorem walk_great (A : Option Addr) (n c : Nat) (l : List UInt8) (s : Nat) (w : World) (hl : Rd w w.heap.size A n c l) (hn : ¬ n ≤ 3000) :
    Calls Try.prog 3 #[.slice A n c, .int .u32 (s : Int)] w fun e w' => e = .returned (.bool true) ∧ Below w.heap.size w w' := by
  have hm : n ≤ 9223372036854775807 := by have := hl.top; have := hl.cap; unfold maxLen at *; omega
  have t1 : decide (3000 < (n : Int)) = true := by simp; omega
  go_enter Try.func3, Try.ntmps3
  go_wp2_with fail
  go_ret
  exact ⟨rfl, Below.refl _ _⟩

theorem walk (A : Option Addr) (n c : Nat) (l : List UInt8) (s : Nat) (w : World) (hs : s < 4294967296) (hl : Rd w w.heap.size A n c l) :
    Calls Try.prog 3 #[.slice A n c, .int .u32 (s : Int)] w fun e w' => e = .returned (.bool true) ∧ Below w.heap.size w w' := by
  by_cases hn : n ≤ 3000
  · exact walk_small A n c l s w hs hl hn
  · exact walk_great A n c l s w hl hn

set_option maxRecDepth 100000 in
theorem lifted (os : Os) (started : os.Started) (H : Type) (enc : TypeId × Value → H) :
    ReturnsInHanded {} Try.checked os 3 .any (Rows.sumsDividedSpec.pre6 enc Try.prog Try.f3 Rows.sumsDividedRow.domain false) (Rows.sumsDividedSpec.post enc Try.prog Try.f3 false true false false) := by
  refine returnsInHanded_of_change (C := Try.checked) own started (by kernel_rfl) Try.func3
    (ChangeSpec.witness6 (enc := enc) (C := Try.checked) false ⟨#[], #[.slice none 0 0, .int .u32 0], []⟩ 8 (by kernel_rfl) (by kernel_rfl) (by kernel_rfl) (by kernel_rfl)) ?_
  intro W base args ds gs before hval0 hW hcnd _
  have hval : ∀ (j : Nat) t v, Try.f3.params[j]? = some t → args[j]? = some v → Value.okWide Try.prog W .any base t v := hval0
  have hW' := hW
  obtain ⟨p, q, hA0, hV, rfl, hfz, hnd⟩ := hW
  have hA : DataW.TrodAll enc Try.prog W 0 (fun _ => true) true Try.f3.params.toList args.toList ds p := hA0
  rw [Try.params3] at hA hval
  obtain ⟨v0, vs0, d0, ds0, p0, q0, hargs, rfl, rfl, h0, r0⟩ := trodAll_cons hA
  obtain ⟨v1, vs1, d1, ds1, p1, q1, rfl, rfl, rfl, h1, r1⟩ := trodAll_cons r0
  obtain ⟨rfl, rfl, rfl⟩ := trodAll_nil r1
  obtain rfl : args = #[v0, v1] := by cases args; simp_all
  obtain ⟨rfl, rfl⟩ := trodVars_none hV
  obtain ⟨A0, n0, c0, rfl⟩ := okWide_slice Try.underlying22 (hval 0 22 v0 rfl rfl)
  have lt0 : ∀ x ∈ p0, x.block < W.heap.size := by obtain ⟨m, hm⟩ := h0; exact DataW.trod_lt m _ _ _ hm
  obtain ⟨l0, hr0⟩ := opened_bytes Try.underlying22 Try.underlying5 (by kernel_rfl) h0
  obtain ⟨a1, rfl, rfl, rfl, w1⟩ := open_int Try.underlying23 (hval 1 23 v1 rfl rfl) h1
  clear hA0 hval0
  obtain ⟨x1, hx1, l1⟩ := u32_nat w1
  subst hx1
  refine (walk A0 n0 c0 l0 x1 W l1 hr0).mono fun e W' ⟨he, bel⟩ => ?_
  subst he
  exact ⟨_, rfl, _, _, _, [], _, [], hW', trodAll_mk1 (shut_bool Try.underlying4 _), (trodAll_cons_mk (Below.trod laidOut (by kernel_rfl) (of_decide_eq_true (by kernel_rfl)) h0 bel lt0) (trodAll_cons_mk (shut_int Try.underlying23 w1) trodAll_mk0)), rfl, bel.frame _, fun h => by cases h⟩

theorem over : Rows.sumsDividedRow.holds Try.pinned (OpenSpec.ofChange Rows.sumsDividedSpec) :=
  OpenClaim.holds_of_wide 3 Try.f3 rfl rfl rfl rfl rfl rfl rfl ⟨rfl, rfl, rfl, rfl, rfl⟩ rfl rfl rfl rfl rfl (by kernel_rfl) Try.func3 (by kernel_rfl)
    (of_decide_eq_true (by kernel_rfl)) (by unfold Func.isWrapper; first | (rw [if_pos (by decide +kernel)]; kernel_rfl) | (rw [if_neg (by decide +kernel)]; exact ⟨rfl, rfl⟩))
    (fun os started H enc _ => lifted os started H enc)

theorem proved : Rows.SumsDividedSaid := over
#print axioms proved

end Go.Proofs.Ythimojebincheaa.sumsDivided
