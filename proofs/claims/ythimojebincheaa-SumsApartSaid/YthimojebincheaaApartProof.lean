/- Proved: whatever the two sums and the bytes, SumsApart answers true: behind unlike sums the same bytes make unlike sums, behind the same ones the same. No condition. -/
import Derived.Test.YthimojebincheaaAlive
import Derived.Test.YthimojebincheaaOpen
import Derived.Test.YthimojebincheaaRows
namespace Go.Proofs.Ythimojebincheaa.sumsApart
open Go.ChangeShapes Go.WideShapes Go.ChangeAt Go.RowKit

theorem own : ownKnob Try.prog.godebug = none := by kernel_rfl
theorem laidOut : laidOutB Try.prog = true := by kernel_rfl

set_option maxRecDepth 100000 in
set_option maxHeartbeats 400000 in
theorem walk (a b : Nat) (A : Option Addr) (n c : Nat) (l : List UInt8) (w : World) (ha : a < 4294967296) (hb : b < 4294967296) (hl : Rd w w.heap.size A n c l) :
    Calls Try.prog 4 #[.int .u32 (a : Int), .int .u32 (b : Int), .slice A n c] w fun e w' => e = .returned (.bool true) ∧ Below w.heap.size w w' := by
  have hn : n ≤ 9223372036854775807 := by have := hl.top; have := hl.cap; unfold maxLen at *; omega
  have b0 : Below w.heap.size w (w.alloc (.cells #[.slice A n c] 22)) := (Below.refl _ _).alloc (Nat.le_refl _) _
  by_cases hs : 50000 < n
  · have t1 : decide (50000 < (n : Int)) = true := by simp; omega
    go_enter Try.func4, Try.ntmps4
    go_wp2_with fail
    refine (great_one A n c _ _ hn (by simp)).mono ?_
    rintro e w1 ⟨rfl, rfl⟩
    go_wp2_with fail
    refine (alive_any _).mono ?_
    rintro e w2 ⟨rfl, b2⟩
    go_wp2_with fail
    go_ret
    exact ⟨rfl, Below.then b0 b2⟩
  · have t1 : decide (50000 < (n : Int)) = false := by simp; omega
    have HE : Hid ((sumOf a l = sumOf b l) ↔ a = b) := sumOf_inj l ha hb
    go_enter Try.func4, Try.ntmps4
    go_wp2_with fail
    refine (great_one A n c _ _ hn (by simp)).mono ?_
    rintro e w1 ⟨rfl, rfl⟩
    go_wp2_with fail
    refine (alive_any _).mono ?_
    rintro e w2 ⟨rfl, b2⟩
    replace b2 := Below.then b0 b2
    clear b0
    go_wp2_with fail
    refine (on_any a A n c l _ ha (hl.at_size (Nat.le_refl _) b2)).mono ?_
    rintro e w3 ⟨rfl, b3⟩
    replace b3 := Below.then b2 b3
    clear b2
    go_wp2_with fail
    refine (on_any b A n c l _ hb (hl.at_size (Nat.le_refl _) b3)).mono ?_
    rintro e w4 ⟨rfl, b4⟩
    replace b4 := Below.then b3 b4
    clear b3
    generalize sumOf a l = x at *
    generalize sumOf b l = y at *
    by_cases he : a = b
    · have e1 : ((a : Int) == (b : Int)) = true := by simp [he]
      have e2 : ((x : Int) == (y : Int)) = true := by simp [HE.out.2 he]
      go_wp2_with fail
      go_ret
      exact ⟨rfl, b4⟩
    · have e1 : ((a : Int) == (b : Int)) = false := by simp; omega
      have e2 : ((x : Int) == (y : Int)) = false := by
        have := mt HE.out.1 he
        simp
        omega
      go_wp2_with fail
      go_ret
      exact ⟨rfl, b4⟩

set_option maxRecDepth 100000 in
theorem lifted (os : Os) (started : os.Started) (H : Type) (enc : TypeId × Value → H) :
    ReturnsInHanded {} Try.checked os 4 .any (Rows.sumsApartSpec.pre6 enc Try.prog Try.f4 Rows.sumsApartRow.domain false) (Rows.sumsApartSpec.post enc Try.prog Try.f4 false true false false) := by
  refine returnsInHanded_of_change (C := Try.checked) own started (by kernel_rfl) Try.func4
    (ChangeSpec.witness6 (enc := enc) (C := Try.checked) false ⟨#[], #[.int .u32 0, .int .u32 0, .slice none 0 0], []⟩ 8 (by kernel_rfl) (by kernel_rfl) (by kernel_rfl) (by kernel_rfl)) ?_
  intro W base args ds gs before hval0 hW hcnd _
  have hval : ∀ (j : Nat) t v, Try.f4.params[j]? = some t → args[j]? = some v → Value.okWide Try.prog W .any base t v := hval0
  have hW' := hW
  obtain ⟨p, q, hA0, hV, rfl, hfz, hnd⟩ := hW
  have hA : DataW.TrodAll enc Try.prog W 0 (fun _ => true) true Try.f4.params.toList args.toList ds p := hA0
  rw [Try.params4] at hA hval
  obtain ⟨v0, vs0, d0, ds0, p0, q0, hargs, rfl, rfl, h0, r0⟩ := trodAll_cons hA
  obtain ⟨v1, vs1, d1, ds1, p1, q1, rfl, rfl, rfl, h1, r1⟩ := trodAll_cons r0
  obtain ⟨v2, vs2, d2, ds2, p2, q2, rfl, rfl, rfl, h2, r2⟩ := trodAll_cons r1
  obtain ⟨rfl, rfl, rfl⟩ := trodAll_nil r2
  obtain rfl : args = #[v0, v1, v2] := by cases args; simp_all
  obtain ⟨rfl, rfl⟩ := trodVars_none hV
  obtain ⟨a0, rfl, rfl, rfl, w0⟩ := open_int Try.underlying23 (hval 0 23 v0 rfl rfl) h0
  obtain ⟨a1, rfl, rfl, rfl, w1⟩ := open_int Try.underlying23 (hval 1 23 v1 rfl rfl) h1
  obtain ⟨A2, n2, c2, rfl⟩ := okWide_slice Try.underlying22 (hval 2 22 v2 rfl rfl)
  have lt2 : ∀ x ∈ p2, x.block < W.heap.size := by obtain ⟨m, hm⟩ := h2; exact DataW.trod_lt m _ _ _ hm
  obtain ⟨l2, hr2⟩ := opened_bytes Try.underlying22 Try.underlying5 (by kernel_rfl) h2
  clear hA0 hval0
  obtain ⟨x0, hx0, l0⟩ := u32_nat w0
  subst hx0
  obtain ⟨x1, hx1, l1⟩ := u32_nat w1
  subst hx1
  refine (walk x0 x1 A2 n2 c2 l2 W l0 l1 hr2).mono fun e W' ⟨he, bel⟩ => ?_
  subst he
  exact ⟨_, rfl, _, _, _, [], _, [], hW', trodAll_mk1 (shut_bool Try.underlying4 _), (trodAll_cons_mk (shut_int Try.underlying23 w0) (trodAll_cons_mk (shut_int Try.underlying23 w1) (trodAll_cons_mk (Below.trod laidOut (by kernel_rfl) (of_decide_eq_true (by kernel_rfl)) h2 bel lt2) trodAll_mk0))), rfl, bel.frame _, fun h => by cases h⟩

theorem over : Rows.sumsApartRow.holds Try.pinned (OpenSpec.ofChange Rows.sumsApartSpec) :=
  OpenClaim.holds_of_wide 4 Try.f4 rfl rfl rfl rfl rfl rfl rfl ⟨rfl, rfl, rfl, rfl, rfl⟩ rfl rfl rfl rfl rfl (by kernel_rfl) Try.func4 (by kernel_rfl)
    (of_decide_eq_true (by kernel_rfl)) (by unfold Func.isWrapper; first | (rw [if_pos (by decide +kernel)]; kernel_rfl) | (rw [if_neg (by decide +kernel)]; exact ⟨rfl, rfl⟩))
    (fun os started H enc _ => lifted os started H enc)

theorem proved : Rows.SumsApartSaid := over
#print axioms proved

end Go.Proofs.Ythimojebincheaa.sumsApart
