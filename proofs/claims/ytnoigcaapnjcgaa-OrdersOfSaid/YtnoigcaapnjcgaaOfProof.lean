/- Proved: whatever the rows and the two numbers, OrdersOf answers true: whether the rows are such an order, and whether the one is below the other, is exactly as documented; the rows stay as they were. No condition. -/
import Derived.Test.YtnoigcaapnjcgaaJoin
import Derived.Test.YtnoigcaapnjcgaaRefCheck
import Derived.Test.YtnoigcaapnjcgaaTwin
import Derived.Test.YtnoigcaapnjcgaaOpen
import Derived.Test.YtnoigcaapnjcgaaRows
namespace Go.Proofs.Ytnoigcaapnjcgaa.ordersOf
open Go.ChangeShapes Go.WideShapes Go.ChangeAt Go.RowKit

theorem own : ownKnob Try.prog.godebug = none := by kernel_rfl
theorem laidOut : laidOutB Try.prog = true := by kernel_rfl

set_option maxRecDepth 100000 in
set_option maxHeartbeats 1000000 in
theorem walk (A : Option Addr) (n c : Nat) (l : List Nat) (a b : Nat) (w : World) (h : Rd nm w w.heap.size A n c l) (hf : Fit l) (ha : a < 18446744073709551616) (hb : b < 18446744073709551616) :
    Calls Try.prog 3 #[.slice A n c, .int .u64 (a : Int), .int .u64 (b : Int)] w fun e w' => e = .returned (.bool true) ∧ Below w.heap.size w w' := by
  have HL := Lib.hid h.len
  have htop := h.top
  have hcap := h.cap
  unfold maxLen at htop
  go_enter Try.func3, Try.ntmps3
  by_cases h100 : 100 < n
  · have h' : (100 : Int) < (n : Int) := by omega
    go_wp2_with fail
    go_ret
    exact ⟨rfl, Below.refl _ _⟩
  have h' : ¬ (100 : Int) < (n : Int) := by omega
  go_wp2_with fail
  refine (twin_any A n c l w h (by omega)).mono ?_
  rintro e w1 ⟨g, rfl, ht1, b1⟩
  have rt1 := ht1.rd
  have rl1 := h.at_size (Nat.le_refl _) b1
  go_wp2_with fail
  refine (check_any _ n (n + 1) l w1 rt1 hf).mono ?_
  rintro e w2 ⟨rfl, b2⟩
  have rl2 := rl1.at_size (Nat.le_refl _) b2
  have rt2 := rt1.at_size (Nat.le_refl _) b2
  have ht2 := ht1.keep b2
  have d2 := Below.then b1 b2
  clear rl1 rt1 ht1 b1 b2
  go_wp2_with fail
  refine (refCheck_any A n c l w2 rl2 hf).mono ?_
  rintro e w3 ⟨x, rfl, hx, b3⟩
  obtain rfl : x = checkN l := checkN_of hx
  have rl3 := rl2.at_size (Nat.le_refl _) b3
  have rt3 := rt2.at_size (Nat.le_refl _) b3
  have ht3 := ht2.keep b3
  have d3 := Below.then d2 b3
  have hee : (checkN l == checkN l) = true := by simp
  clear rl2 rt2 ht2 b3 d2 hx
  generalize checkN l = y at *
  go_wp2_with fail
  refine (below_any _ n (n + 1) _ l a b w3 rt3 hf ha hb).mono ?_
  rintro e w4 ⟨rfl, rfl⟩
  go_wp2_with fail
  refine (refBelow_any _ n c _ l a b w3 rl3 hf ha hb).mono ?_
  rintro e w5 ⟨rfl, rfl⟩
  generalize belowB l a b = z at *
  have hzz : (z == z) = true := by simp
  go_wp2_with fail
  refine (left_any w _ A g n c l w3 ht3 rl3).mono ?_
  rintro e w6 ⟨rfl, q, rfl⟩
  go_wp2_with fail
  go_ret
  exact ⟨rfl, d3.trans (below_drewN _ _)⟩

set_option maxRecDepth 100000 in
theorem lifted (os : Os) (started : os.Started) (H : Type) (enc : TypeId × Value → H) :
    ReturnsInHanded {} Try.checked os 3 .any (Rows.ordersOfSpec.pre6 enc Try.prog Try.f3 Rows.ordersOfRow.domain false) (Rows.ordersOfSpec.post enc Try.prog Try.f3 false true false false) := by
  refine returnsInHanded_of_change (C := Try.checked) own started (by kernel_rfl) Try.func3
    (ChangeSpec.witness6 (enc := enc) (C := Try.checked) false ⟨#[], #[.slice none 0 0, .int .u64 0, .int .u64 0], []⟩ 8 (by kernel_rfl) (by kernel_rfl) (by kernel_rfl) (by kernel_rfl)) ?_
  intro W base args ds gs before hval0 hW hcnd _
  have hval : ∀ (j : Nat) t v, Try.f3.params[j]? = some t → args[j]? = some v → Value.okWide Try.prog W .any base t v := hval0
  have hW' := hW
  obtain ⟨p, q, hA0, hV, rfl, hfz, hnd⟩ := hW
  have hA : DataW.TrodAll enc Try.prog W 0 (fun _ => true) true Try.f3.params.toList args.toList ds p := hA0
  rw [Try.params3] at hA hval
  obtain ⟨v0, vs0, d0, ds0, p0, q0, hargs, rfl, rfl, h0, r0⟩ := trodAll_cons hA
  obtain ⟨v1, vs1, d1, ds1, p1, q1, rfl, rfl, rfl, h1, r1⟩ := trodAll_cons r0
  obtain ⟨v2, vs2, d2, ds2, p2, q2, rfl, rfl, rfl, h2, r2⟩ := trodAll_cons r1
  obtain ⟨rfl, rfl, rfl⟩ := trodAll_nil r2
  obtain rfl : args = #[v0, v1, v2] := by cases args; simp_all
  obtain ⟨rfl, rfl⟩ := trodVars_none hV
  obtain ⟨a0, len0, cap0, rfl⟩ := okWide_slice Try.underlying22 (hval 0 22 v0 rfl rfl)
  have lt0 : ∀ x ∈ p0, x.block < W.heap.size := by obtain ⟨m, hm⟩ := h0; exact DataW.trod_lt m _ _ _ hm
  obtain ⟨us, hr, hu⟩ := opened_nums Try.underlying22 Try.underlying23 (by kernel_rfl) h0
  obtain ⟨x1, rfl, rfl, rfl, w1⟩ := open_int Try.underlying23 (hval 1 23 v1 rfl rfl) h1
  obtain ⟨x2, rfl, rfl, rfl, w2⟩ := open_int Try.underlying23 (hval 2 23 v2 rfl rfl) h2
  clear hA0 hval0
  have w1' := w1
  have w2' := w2
  obtain ⟨y1, rfl, hy1⟩ := u64_nat w1
  obtain ⟨y2, rfl, hy2⟩ := u64_nat w2
  refine (walk a0 len0 cap0 us y1 y2 W hr hu hy1 hy2).mono fun e W' ⟨he, bel⟩ => ?_
  subst he
  exact ⟨_, rfl, _, _, _, [], _, [], hW', trodAll_mk1 (shut_bool Try.underlying4 _), (trodAll_cons_mk (Below.trod laidOut (by kernel_rfl) (of_decide_eq_true (by kernel_rfl)) h0 bel lt0) (trodAll_cons_mk (shut_int Try.underlying23 w1') (trodAll_cons_mk (shut_int Try.underlying23 w2') trodAll_mk0))), rfl, bel.frame _, fun h => by cases h⟩

theorem over : Rows.ordersOfRow.holds Try.pinned (OpenSpec.ofChange Rows.ordersOfSpec) :=
  OpenClaim.holds_of_wide 3 Try.f3 rfl rfl rfl rfl rfl rfl rfl ⟨rfl, rfl, rfl, rfl, rfl⟩ rfl rfl rfl rfl rfl (by kernel_rfl) Try.func3 (by kernel_rfl)
    (of_decide_eq_true (by kernel_rfl)) (by unfold Func.isWrapper; first | (rw [if_pos (by decide +kernel)]; kernel_rfl) | (rw [if_neg (by decide +kernel)]; exact ⟨rfl, rfl⟩))
    (fun os started H enc _ => lifted os started H enc)

theorem proved : Rows.OrdersOfSaid := over
#print axioms proved

end Go.Proofs.Ytnoigcaapnjcgaa.ordersOf
