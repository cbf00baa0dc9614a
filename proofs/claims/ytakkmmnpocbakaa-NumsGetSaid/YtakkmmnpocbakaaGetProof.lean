/- Proved: whatever the bytes, NumsGet answers true: what they begin with, a number, four bytes, or a text, is got as documented, or refused, and they stay as they were. No condition. -/
import Derived.Test.YtakkmmnpocbakaaAlive
import Derived.Test.YtakkmmnpocbakaaTwin
import Derived.Test.YtakkmmnpocbakaaRef
import Derived.Test.YtakkmmnpocbakaaOpen
import Derived.Test.YtakkmmnpocbakaaRows
namespace Go.Proofs.Ytakkmmnpocbakaa.numsGet
open Go.ChangeShapes Go.WideShapes Go.ChangeAt Go.RowKit

theorem own : ownKnob Try.prog.godebug = none := by kernel_rfl
theorem laidOut : laidOutB Try.prog = true := by kernel_rfl

theorem gotFour_form (l : List UInt8) : ∃ x f : Nat, gotFour l = .tuple #[.int .u32 (x : Int), .int .i64 (f : Int)] := by
  unfold gotFour
  split
  · exact ⟨_, 0, rfl⟩
  · exact ⟨0, 5, rfl⟩

section
variable {B : Nat} {A : Option Addr} {n c : Nat} {l : List UInt8} (w : World) (h : Rd w B A n c l)
include h
theorem four_at {v : Value} (hg : gotFour l = v) : Calls Try.prog 11 #[.slice A n c] w fun e w' => e = .returned v ∧ ∃ k, w' = w.drewN k :=
  (getFour_any B A n c l w h).mono fun _ _ ⟨he, hw⟩ => ⟨hg ▸ he, hw⟩
theorem rfour_at {v : Value} (hg : gotFour l = v) : Calls Try.prog 12 #[.slice A n c] w fun e w' => e = .returned v ∧ w = w' :=
  (rfour_any B A n c l w h).mono fun _ _ ⟨he, hw⟩ => ⟨hg ▸ he, hw⟩
theorem text_at {s : ByteArray} {b : Nat} {z : Int} (hg : gotText (textL l) = .tuple #[.string s, .int .i64 (b : Int), .int .i64 z]) :
    Calls Try.prog 13 #[.slice A n c] w fun e w' => e = .returned (.tuple #[.string s, .int .i64 (b : Int), .int .i64 z]) ∧ w = w' :=
  (getText_any B A n c l w h).mono fun _ _ ⟨he, hw⟩ => ⟨hg ▸ he, hw⟩
theorem rtext_at {s : ByteArray} {b : Nat} {z : Int} (hg : gotText (textL l) = .tuple #[.string s, .int .i64 (b : Int), .int .i64 z]) :
    Calls Try.prog 14 #[.slice A n c] w fun e w' => e = .returned (.tuple #[.string s, .int .i64 (b : Int), .int .i64 z]) ∧ w = w' :=
  (rtext_any B A n c l w h).mono fun _ _ ⟨he, hw⟩ => ⟨hg ▸ he, hw⟩
end

set_option maxRecDepth 100000 in
set_option maxHeartbeats 1000000 in
theorem walk (A : Option Addr) (n c : Nat) (l : List UInt8) (w : World) (h : Rd w w.heap.size A n c l) :
    Calls Try.prog 3 #[.slice A n c] w fun e w' => e = .returned (.bool true) ∧ Below w.heap.size w w' := by
  have htop := h.top
  have hcap := h.cap
  unfold maxLen at htop
  by_cases hn : n ≤ 20000
  · have hd : decide (20000 < (n : Int)) = false := by simp; omega
    obtain ⟨m, k, z, hg⟩ : ∃ m k z, getL l = (m, k, z) := ⟨_, _, _, rfl⟩
    obtain ⟨x, f, h4⟩ := gotFour_form l
    obtain ⟨s, b, y, ht⟩ : ∃ (s : ByteArray) (b : Nat) (y : Int), gotText (textL l) = .tuple #[.string s, .int .i64 (b : Int), .int .i64 y] := ⟨_, _, _, rfl⟩
    have HG := Lib.hid hg
    have H4 := Lib.hid h4
    have HT := Lib.hid ht
    clear hg h4 ht
    go_enter Try.func3, Try.ntmps3
    go_wp2_with fail
    refine (twin_any A n c l _ h (by omega)).mono ?_
    rintro e w1 ⟨g, rfl, ht1, b1⟩
    have hr1 := ht1.rd
    have hr := h.at_size (Nat.le_refl _) b1
    go_wp2_with fail
    refine (get_at _ hr1 HG.out).mono ?_
    rintro e w2 ⟨rfl, rfl⟩
    go_wp2_with fail
    refine (rget_at _ hr HG.out).mono ?_
    rintro e w2 ⟨rfl, rfl⟩
    go_wp2_with fail
    refine (four_at _ hr1 H4.out).mono ?_
    rintro e w2 ⟨rfl, q, rfl⟩
    have hb2 := below_drewN w1 q
    go_wp2_with fail
    refine (rfour_at _ (hr.below hb2) H4.out).mono ?_
    rintro e w2 ⟨rfl, rfl⟩
    go_wp2_with fail
    refine (text_at _ (hr1.below hb2) HT.out).mono ?_
    rintro e w2 ⟨rfl, rfl⟩
    go_wp2_with fail
    refine (rtext_at _ (hr.below hb2) HT.out).mono ?_
    rintro e w2 ⟨rfl, rfl⟩
    go_wp2_with fail
    refine (left_any w _ A g n c l _ (ht1.keep hb2) (hr.below hb2)).mono ?_
    rintro e w2 ⟨rfl, q2, rfl⟩
    go_wp2_with fail
    go_ret
    exact ⟨rfl, Below.then b1 (below_drewN _ _)⟩
  · have hd : decide (20000 < (n : Int)) = true := by simp; omega
    go_enter Try.func3, Try.ntmps3
    go_wp2_with fail
    go_ret
    exact ⟨rfl, Below.refl _ _⟩

set_option maxRecDepth 100000 in
theorem lifted (os : Os) (started : os.Started) (H : Type) (enc : TypeId × Value → H) :
    ReturnsInHanded {} Try.checked os 3 .any (Rows.numsGetSpec.pre6 enc Try.prog Try.f3 Rows.numsGetRow.domain false) (Rows.numsGetSpec.post enc Try.prog Try.f3 false true false false) := by
  refine returnsInHanded_of_change (C := Try.checked) own started (by kernel_rfl) Try.func3
    (ChangeSpec.witness6 (enc := enc) (C := Try.checked) false ⟨#[], #[.slice none 0 0], []⟩ 8 (by kernel_rfl) (by kernel_rfl) (by kernel_rfl) (by kernel_rfl)) ?_
  intro W base args ds gs before hval0 hW hcnd _
  have hval : ∀ (j : Nat) t v, Try.f3.params[j]? = some t → args[j]? = some v → Value.okWide Try.prog W .any base t v := hval0
  have hW' := hW
  obtain ⟨p, q, hA0, hV, rfl, hfz, hnd⟩ := hW
  have hA : DataW.TrodAll enc Try.prog W 0 (fun _ => true) true Try.f3.params.toList args.toList ds p := hA0
  rw [Try.params3] at hA hval
  obtain ⟨v0, vs0, d0, ds0, p0, q0, hargs, rfl, rfl, h0, r0⟩ := trodAll_cons hA
  obtain ⟨rfl, rfl, rfl⟩ := trodAll_nil r0
  obtain rfl : args = #[v0] := by cases args; simp_all
  obtain ⟨rfl, rfl⟩ := trodVars_none hV
  obtain ⟨a0, len0, cap0, rfl⟩ := okWide_slice Try.underlying22 (hval 0 22 v0 rfl rfl)
  have lt0 : ∀ x ∈ p0, x.block < W.heap.size := by obtain ⟨m, hm⟩ := h0; exact DataW.trod_lt m _ _ _ hm
  obtain ⟨l, hr⟩ := opened_bytes Try.underlying22 Try.underlying5 (by kernel_rfl) h0
  clear hA0 hval0
  refine (walk a0 len0 cap0 l W hr).mono fun e W' ⟨he, bel⟩ => ?_
  subst he
  exact ⟨_, rfl, _, _, _, [], _, [], hW', trodAll_mk1 (shut_bool Try.underlying4 _), (trodAll_cons_mk (Below.trod laidOut (by kernel_rfl) (of_decide_eq_true (by kernel_rfl)) h0 bel lt0) trodAll_mk0), rfl, bel.frame _, fun h => by cases h⟩

theorem over : Rows.numsGetRow.holds Try.pinned (OpenSpec.ofChange Rows.numsGetSpec) :=
  OpenClaim.holds_of_wide 3 Try.f3 rfl rfl rfl rfl rfl rfl rfl ⟨rfl, rfl, rfl, rfl, rfl⟩ rfl rfl rfl rfl rfl (by kernel_rfl) Try.func3 (by kernel_rfl)
    (of_decide_eq_true (by kernel_rfl)) (by unfold Func.isWrapper; first | (rw [if_pos (by decide +kernel)]; kernel_rfl) | (rw [if_neg (by decide +kernel)]; exact ⟨rfl, rfl⟩))
    (fun os started H enc _ => lifted os started H enc)

theorem proved : Rows.NumsGetSaid := over
#print axioms proved

end Go.Proofs.Ytakkmmnpocbakaa.numsGet
