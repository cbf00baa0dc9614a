/- Proved: whatever the two numbers, NumsShort answers true: a number has as many bytes as its bits need, and no more than a greater one. No condition. -/
import Derived.Test.YtakkmmnpocbakaaAlive
import Derived.Test.YtakkmmnpocbakaaRows
import Derived.ProofKit
import Derived.OpenShut
import Derived.ShutString
import Derived.ChangeOld
namespace Go.Proofs.Ytakkmmnpocbakaa.numsShort
open Go.ChangeShapes Go.WideShapes Go.ChangeAt Go.RowKit

theorem own : ownKnob Try.prog.godebug = none := by kernel_rfl

/-- A number has no more bytes than a greater one. -/
theorem uv_mono : ∀ (b a : Nat), a ≤ b → (Lib.uvarint a).length ≤ (Lib.uvarint b).length := by
  intro b
  induction b using Nat.strongRecOn with
  | ind b ih =>
    intro a h
    by_cases ha : a < 128
    · rw [Lib.uvarint_small ha]
      exact Lib.uvarint_pos b
    · rw [Lib.uvarint_big (by omega), Lib.uvarint_big (x := b) (by omega), List.length_cons, List.length_cons]
      have := ih (b / 128) (by omega) (a / 128) (by omega)
      omega

theorem u64_nat {a : Int} (h : (Lit.int .u64 a).wf = true) : ∃ x : Nat, a = (x : Int) ∧ x < 18446744073709551616 := by
  have hb : IntKind.u64.min ≤ a ∧ a ≤ IntKind.u64.max := by simpa [Lit.wf] using h
  have e1 : IntKind.u64.min = 0 := by decide
  have e2 : IntKind.u64.max = 18446744073709551615 := by decide
  rw [e1, e2] at hb
  exact ⟨a.toNat, by omega, by omega⟩

/-- j steps are counted, y is left. -/
def CRel (n1 : Nat) (j7 y8 : Value) : Prop := ∃ j y : Nat, j7 = .int .i64 (j : Int) ∧ y8 = .int .u64 (y : Int) ∧ j + (Lib.uvarint y).length = n1 + 1 ∧ 1 ≤ j ∧ y < 18446744073709551616

set_option maxRecDepth 100000 in
set_option maxHeartbeats 400000 in
theorem walk (a0 a1 : Nat) (h0 : a0 < 18446744073709551616) (h1 : a1 < 18446744073709551616) (w : World) :
    Calls Try.prog 6 #[.int .u64 (a0 : Int), .int .u64 (a1 : Int)] w fun e w' => e = .returned (.bool true) ∧ Below w.heap.size w w' := by
  have H0 := Lib.hid h0
  have H1 := Lib.hid h1
  clear h0 h1
  go_enter Try.func6, Try.ntmps6
  go_wp2_with fail
  refine (put_any none 0 0 [] (a0 : Int) _ (Rd.nil _ _) (by omega) (by have := H0.out; omega) (by decide)).mono ?_
  rintro e w1 ⟨A1, n1, c1, rfl, f1⟩
  have b1 := f1.bel
  have hn1 : n1 = (Lib.uvarint a0).length := by rw [← f1.len]; simp
  have HN1 := Lib.hid hn1
  have hl1 : n1 ≤ 10 := by rw [hn1]; exact Lib.uvarint_length64 H0.out
  clear hn1
  go_wp2_with fail
  refine (put_any none 0 0 [] (a1 : Int) _ (Rd.nil _ _) (by omega) (by have := H1.out; omega) (by decide)).mono ?_
  rintro e w2 ⟨A2, n2, c2, rfl, f2⟩
  have b2 := Below.then b1 f2.bel
  have hn2 : n2 = (Lib.uvarint a1).length := by rw [← f2.len]; simp
  have HN2 := Lib.hid hn2
  have hl2 : n2 ≤ 10 := by rw [hn2]; exact Lib.uvarint_length64 H1.out
  clear hn2 b1 f1 f2
  go_wp2_with fail
  go_loop [7, 8] (fun j7 y8 => CRel n1 j7 y8) (fun _ y8 => (intOf y8).toNat)
  case atStart => exact ⟨1, a0, rfl, rfl, by rw [HN1.out]; omega, Nat.le_refl _, H0.out⟩
  case round =>
    obtain ⟨j, y, rfl, rfl, hj, hj1, hy⟩ := hrel
    have HY := Lib.hid hy
    have hw : IntKind.u64.wrap ((y : Int) / 128) = (y : Int) / 128 := by rw [IntKind.wrap_u64]; omega
    clear hy
    have HJ := Lib.hid hj
    have hjl : j ≤ 10 := by have := Lib.uvarint_pos y; omega
    clear hj
    by_cases hlt : 128 ≤ y
    · have HJ2 : Hid (j + 1 + (Lib.uvarint (y / 128)).length = n1 + 1) := by
        have := HJ.out
        rw [Lib.uvarint_big hlt, List.length_cons] at this
        show _ = _
        omega
      have hd : decide (128 ≤ (y : Int)) = true := by simp; omega
      go_wp2_with fail
      go_round
      case rel => exact ⟨j + 1, y / 128, by go_num, by go_num, HJ2.out, by omega, by have := HY.out; omega⟩
      case measure => simp [intOf]; omega
    · have hd : decide (128 ≤ (y : Int)) = false := by simp; omega
      obtain rfl : j = n1 := by
        have := HJ.out
        rw [Lib.uvarint_small (by omega)] at this
        simpa using this
      go_wp2_with fail
      refine (alive_any _).mono ?_
      rintro e w3 ⟨rfl, b3⟩
      have b4 := Below.then b2 b3
      clear b2 b3
      by_cases hmn : a1 < a0
      · go_wp2_with fail
        go_ret
        exact ⟨rfl, b4⟩
      · have hle : j ≤ n2 := by rw [HN1.out, HN2.out]; exact uv_mono _ _ (by omega)
        go_wp2_with fail
        go_ret
        exact ⟨rfl, b4⟩

set_option maxRecDepth 100000 in
theorem lifted (os : Os) (started : os.Started) (H : Type) (enc : TypeId × Value → H) :
    ReturnsInHanded {} Try.checked os 6 .any (Rows.numsShortSpec.pre6 enc Try.prog Try.f6 Rows.numsShortRow.domain false) (Rows.numsShortSpec.post enc Try.prog Try.f6 false true false false) := by
  refine returnsInHanded_of_change (C := Try.checked) own started (by kernel_rfl) Try.func6
    (ChangeSpec.witness6 (enc := enc) (C := Try.checked) false ⟨#[], #[.int .u64 0, .int .u64 0], []⟩ 8 (by kernel_rfl) (by kernel_rfl) (by kernel_rfl) (by kernel_rfl)) ?_
  intro W base args ds gs before hval0 hW hcnd _
  have hval : ∀ (j : Nat) t v, Try.f6.params[j]? = some t → args[j]? = some v → Value.okWide Try.prog W .any base t v := hval0
  have hW' := hW
  obtain ⟨p, q, hA0, hV, rfl, hfz, hnd⟩ := hW
  have hA : DataW.TrodAll enc Try.prog W 0 (fun _ => true) true Try.f6.params.toList args.toList ds p := hA0
  rw [Try.params6] at hA hval
  obtain ⟨v0, vs0, d0, ds0, p0, q0, hargs, rfl, rfl, h0, r0⟩ := trodAll_cons hA
  obtain ⟨v1, vs1, d1, ds1, p1, q1, rfl, rfl, rfl, h1, r1⟩ := trodAll_cons r0
  obtain ⟨rfl, rfl, rfl⟩ := trodAll_nil r1
  obtain rfl : args = #[v0, v1] := by cases args; simp_all
  obtain ⟨rfl, rfl⟩ := trodVars_none hV
  obtain ⟨a0, rfl, rfl, rfl, w0⟩ := open_int Try.underlying24 (hval 0 24 v0 rfl rfl) h0
  obtain ⟨a1, rfl, rfl, rfl, w1⟩ := open_int Try.underlying24 (hval 1 24 v1 rfl rfl) h1
  clear hA0 hval0
  simp only [List.append_nil] at hW'
  obtain ⟨x0, e0, l0⟩ := u64_nat w0
  obtain ⟨x1, e1, l1⟩ := u64_nat w1
  have hc := walk x0 x1 l0 l1 W
  rw [← e0, ← e1] at hc
  refine hc.mono fun e W' ⟨he, bel⟩ => ?_
  subst he
  exact ⟨_, rfl, _, _, _, [], _, [], hW', trodAll_mk1 (shut_bool Try.underlying4 _), (trodAll_cons_mk (shut_int Try.underlying24 w0) (trodAll_cons_mk (shut_int Try.underlying24 w1) trodAll_mk0)), rfl, bel.frame _, fun h => by cases h⟩

theorem over : Rows.numsShortRow.holds Try.pinned (OpenSpec.ofChange Rows.numsShortSpec) :=
  OpenClaim.holds_of_wide 6 Try.f6 rfl rfl rfl rfl rfl rfl rfl ⟨rfl, rfl, rfl, rfl, rfl⟩ rfl rfl rfl rfl rfl (by kernel_rfl) Try.func6 (by kernel_rfl)
    (of_decide_eq_true (by kernel_rfl)) (by unfold Func.isWrapper; first | (rw [if_pos (by decide +kernel)]; kernel_rfl) | (rw [if_neg (by decide +kernel)]; exact ⟨rfl, rfl⟩))
    (fun os started H enc _ => lifted os started H enc)

theorem proved : Rows.NumsShortSaid := over
#print axioms proved

end Go.Proofs.Ytakkmmnpocbakaa.numsShort
