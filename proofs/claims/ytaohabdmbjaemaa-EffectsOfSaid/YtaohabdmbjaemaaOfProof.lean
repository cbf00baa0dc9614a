/- Proved: whatever the number and the two sets, EffectsOf answers true: the sets of so many effects have, and tell below, joins, meets, bottom and top exactly as the document says, or are refused; the arguments stay as they were. No condition. -/
import Derived.Test.YtaohabdmbjaemaaAlive
import Derived.Test.YtaohabdmbjaemaaRef
import Derived.Test.YtaohabdmbjaemaaOpen
import Derived.Test.YtaohabdmbjaemaaRows
namespace Go.Proofs.Ytaohabdmbjaemaa.effectsOf
open Go.ChangeShapes Go.WideShapes Go.ChangeAt Go.RowKit

theorem own : ownKnob Try.prog.godebug = none := by kernel_rfl
theorem laidOut : laidOutB Try.prog = true := by kernel_rfl

set_option maxRecDepth 100000 in
set_option maxHeartbeats 2000000 in
theorem walk (n : Int) (a b : Nat) (w : World) (ha : a < 18446744073709551616) (hb : b < 18446744073709551616) :
    Calls Try.prog 3 #[.int .i64 n, .int .u64 (a : Int), .int .u64 (b : Int)] w fun e w' => e = .returned (.bool true) ∧ Below w.heap.size w w' := by
  by_cases hn : 0 ≤ n ∧ n ≤ 64
  case neg =>
    have hno := new_no n hn w
    have hne : (decide (0 ≤ n) && decide (n ≤ 64)) = false := by
      by_cases h0 : 0 ≤ n
      · have : ¬ n ≤ 64 := fun h => hn ⟨h0, h⟩
        simp [this]
      · simp [h0]
    clear hn
    go_enter Try.func3, Try.ntmps3
    go_wp2_with fail
    refine hno.mono ?_
    rintro e w' ⟨rfl, rfl⟩
    by_cases h0 : 0 ≤ n
    · have h64 : ¬ n ≤ 64 := by simpa [h0] using hne
      clear hne hno
      go_wp2_with fail
      go_ret
      exact ⟨rfl, Below.refl _ _⟩
    · clear hne hno
      go_wp2_with fail
      go_ret
      exact ⟨rfl, Below.refl _ _⟩
  obtain ⟨k, rfl⟩ : ∃ k : Nat, n = (k : Int) := ⟨n.toNat, by omega⟩
  have hk : k ≤ 64 := by omega
  have h0 : (0 : Int) ≤ (k : Int) := by omega
  have h1 : (k : Int) ≤ 64 := by omega
  clear hn
  have r1 := Lib.hid fun W => refHas_any k hk W a ha
  have r2 := Lib.hid fun W => refBelow_any k hk W a b ha hb
  have r3 := Lib.hid fun W => refJoin_any k hk W a b ha hb
  have r4 := Lib.hid fun W => refMeet_any k hk W a b ha hb
  have r5 := Lib.hid fun W => refTop_any k hk W
  go_enter Try.func3, Try.ntmps3
  go_wp2_with fail
  refine (new_yes k hk w).mono ?_
  rintro e w1 ⟨g, rfl, hx, B⟩
  have px := hx.p
  clear hx
  have m1 := Lib.hid fun (W : World) (hp : EffP W (some ⟨g, 0, none⟩) true (topN k)) => has_any _ _ _ W hp a ha
  have m2 := Lib.hid fun (W : World) (hp : EffP W (some ⟨g, 0, none⟩) true (topN k)) => below_any _ _ _ W hp a b ha hb
  have m3 := Lib.hid fun (W : World) (hp : EffP W (some ⟨g, 0, none⟩) true (topN k)) => join_any _ _ _ W hp a b ha hb
  have m4 := Lib.hid fun (W : World) (hp : EffP W (some ⟨g, 0, none⟩) true (topN k)) => meet_any _ _ _ W hp a b ha hb
  have m5 := Lib.hid fun (W : World) (hp : EffP W (some ⟨g, 0, none⟩) true (topN k)) => top_any _ _ _ W hp
  clear ha hb
  generalize topN k = t at *
  generalize hasE true t a = q1 at *
  generalize belowE true t a b = q2 at *
  generalize joinE true t a b = q3 at *
  generalize meetE true t a b = q4 at *
  have e1 : (q1 == q1) = true := by simp
  have e2 : (q2 == q2) = true := by simp
  go_wp2_with fail
  refine (m1.out _ px).mono ?_
  rintro e w2 ⟨rfl, hb⟩
  replace px := px.keep hb
  replace B := Below.then B (Nat.le_refl _) hb
  clear hb
  go_wp2_with fail
  refine (r1.out _).mono ?_
  rintro e w' ⟨rfl, rfl⟩
  go_wp2_with fail
  refine (m2.out _ px).mono ?_
  rintro e w3 ⟨rfl, hb⟩
  replace px := px.keep hb
  replace B := Below.then B (Nat.le_refl _) hb
  clear hb
  go_wp2_with fail
  refine (r2.out _).mono ?_
  rintro e w' ⟨rfl, rfl⟩
  go_wp2_with fail
  refine (m3.out _ px).mono ?_
  rintro e w4 ⟨rfl, hb⟩
  replace px := px.keep hb
  replace B := Below.then B (Nat.le_refl _) hb
  clear hb
  go_wp2_with fail
  refine (r3.out _).mono ?_
  rintro e w' ⟨rfl, rfl⟩
  go_wp2_with fail
  refine (m4.out _ px).mono ?_
  rintro e w5 ⟨rfl, hb⟩
  replace px := px.keep hb
  replace B := Below.then B (Nat.le_refl _) hb
  clear hb
  go_wp2_with fail
  refine (r4.out _).mono ?_
  rintro e w' ⟨rfl, rfl⟩
  go_wp2_with fail
  refine (bottom_any _ _).mono ?_
  rintro e w' ⟨rfl, rfl⟩
  go_wp2_with fail
  refine (m5.out _ px).mono ?_
  rintro e w' ⟨rfl, rfl⟩
  go_wp2_with fail
  refine (r5.out _).mono ?_
  rintro e w' ⟨rfl, rfl⟩
  go_wp2_with fail
  go_ret
  exact ⟨rfl, B⟩

set_option maxRecDepth 100000 in
theorem lifted (os : Os) (started : os.Started) (H : Type) (enc : TypeId × Value → H) :
    ReturnsInHanded {} Try.checked os 3 .any (Rows.effectsOfSpec.pre6 enc Try.prog Try.f3 Rows.effectsOfRow.domain false) (Rows.effectsOfSpec.post enc Try.prog Try.f3 false true false false) := by
  refine returnsInHanded_of_change (C := Try.checked) own started (by kernel_rfl) Try.func3
    (ChangeSpec.witness6 (enc := enc) (C := Try.checked) false ⟨#[], #[.int .i64 0, .int .u64 0, .int .u64 0], []⟩ 8 (by kernel_rfl) (by kernel_rfl) (by kernel_rfl) (by kernel_rfl)) ?_
  intro W base args ds gs before hval0 hW hcnd _
  have hval : ∀ (j : Nat) t v, Try.f3.params[j]? = some t → args[j]? = some v → Value.okWide Try.prog W .any base t v := hval0
  have hW' := hW
  obtain ⟨p, q, hA0, hV, rfl, hfz, hnd⟩ := hW
  have hA : DataW.TrodAll enc Try.prog W 0 (fun _ => true) true Try.f3.params.toList args.toList ds p := hA0
  rw [Try.params3] at hA hval
  obtain ⟨v0, vs0, d0, ds0, p0, q0, hargs, rfl, rfl, h0, r0⟩ := trodAll_cons hA
  obtain ⟨v1, vs1, d1, ds1, p1, q1, rfl, rfl, rfl, h1, r1⟩ := trodAll_cons r0
  obtain ⟨v2, vs2, d2, ds2, p2, q2, rfl, rfl, rfl, h2, r2⟩ := trodAll_cons r1
  obtain ⟨rfl, rfl, rfl⟩ := trodAll_nil r2
  obtain rfl : args = #[v0, v1, v2] := by cases args; simp_all
  obtain ⟨rfl, rfl⟩ := trodVars_none hV
  obtain ⟨x0, rfl, rfl, rfl, w0⟩ := open_int Try.underlying3 (hval 0 3 v0 rfl rfl) h0
  obtain ⟨x1, rfl, rfl, rfl, w1⟩ := open_int Try.underlying22 (hval 1 22 v1 rfl rfl) h1
  obtain ⟨x2, rfl, rfl, rfl, w2⟩ := open_int Try.underlying22 (hval 2 22 v2 rfl rfl) h2
  clear hA0 hval0
  have w0' := w0
  have w1' := w1
  obtain ⟨y1, rfl, hy1⟩ := u64_nat w1
  have w2' := w2
  obtain ⟨y2, rfl, hy2⟩ := u64_nat w2
  refine (walk x0 y1 y2 W hy1 hy2).mono fun e W' ⟨he, bel⟩ => ?_
  subst he
  exact ⟨_, rfl, _, _, _, [], _, [], hW', trodAll_mk1 (shut_bool Try.underlying4 _), (trodAll_cons_mk (shut_int Try.underlying3 w0') (trodAll_cons_mk (shut_int Try.underlying22 w1') (trodAll_cons_mk (shut_int Try.underlying22 w2') trodAll_mk0))), rfl, bel.frame _, fun h => by cases h⟩

theorem over : Rows.effectsOfRow.holds Try.pinned (OpenSpec.ofChange Rows.effectsOfSpec) :=
  OpenClaim.holds_of_wide 3 Try.f3 rfl rfl rfl rfl rfl rfl rfl ⟨rfl, rfl, rfl, rfl, rfl⟩ rfl rfl rfl rfl rfl (by kernel_rfl) Try.func3 (by kernel_rfl)
    (of_decide_eq_true (by kernel_rfl)) (by unfold Func.isWrapper; first | (rw [if_pos (by decide +kernel)]; kernel_rfl) | (rw [if_neg (by decide +kernel)]; exact ⟨rfl, rfl⟩))
    (fun os started H enc _ => lifted os started H enc)

theorem proved : Rows.EffectsOfSaid := over
#print axioms proved

end Go.Proofs.Ytaohabdmbjaemaa.effectsOf
