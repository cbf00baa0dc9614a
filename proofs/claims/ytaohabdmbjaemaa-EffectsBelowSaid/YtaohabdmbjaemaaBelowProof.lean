/- Proved: whatever the number and the two sets, EffectsBelow answers true: one set is below another one just if their join is that one, and just if their meet is this one; joins and meets are those of each effect; the arguments stay as they were. No condition. -/
import Derived.Test.YtaohabdmbjaemaaAlive
import Derived.Test.YtaohabdmbjaemaaOpen
import Derived.Test.YtaohabdmbjaemaaRows
namespace Go.Proofs.Ytaohabdmbjaemaa.effectsBelow
open Go.ChangeShapes Go.WideShapes Go.ChangeAt Go.RowKit

theorem own : ownKnob Try.prog.godebug = none := by kernel_rfl
theorem laidOut : laidOutB Try.prog = true := by kernel_rfl

theorem bool_test (x k : Nat) : (x / 2 ^ k % 2 : Nat) = (x.testBit k).toNat := by
  rw [Nat.testBit_eq_decide_div_mod_eq]
  rcases Nat.mod_two_eq_zero_or_one (x / 2 ^ k) with h | h <;> rw [h] <;> rfl

theorem shr_nat (x k : Nat) : (x : Int) / 2 ^ k = ((x / 2 ^ k : Nat) : Int) := by
  rw [Int.natCast_ediv, Int.natCast_pow]
  rfl

theorem shr_bit {x : Nat} (hx : x < 18446744073709551616) (k : Nat) (b : Bool) (hb : x.testBit k = b) : bits .and .u64 ((x : Int) / 2 ^ k) 1 = (b.toNat : Int) := by
  rw [shr_nat, ← hb, ← bool_test, ← Nat.and_one_is_mod]
  exact u64_and_nat _ 1 (Nat.lt_of_le_of_lt (Nat.div_le_self _ _) hx) (by decide)

theorem eq_int (x y : Nat) : ((x : Int) == (y : Int)) = (x == y) := by
  by_cases h : x = y
  · subst h
    simp
  · have : ¬ (x : Int) = (y : Int) := by omega
    rw [beq_eq_false_iff_ne.2 h, beq_eq_false_iff_ne.2 this]

theorem both_cut (a b t : Nat) : bothE true t (a &&& t) (b &&& t) = true := by rw [bothE, sub_cut, sub_cut]; rfl

def BeRel (B : Nat) (w0 : World) (v13 : Value) (wr : World) : Prop := ∃ i : Nat, v13 = .int .i64 (i : Int) ∧ i ≤ 64 ∧ Below B w0 wr

set_option maxRecDepth 100000 in
set_option maxHeartbeats 2000000 in
theorem walk (n a0 b0 : Nat) (w : World) (hn : n < 256) (ha0 : a0 < 18446744073709551616) (hb0 : b0 < 18446744073709551616) :
    Calls Try.prog 5 #[.int .u8 (n : Int), .int .u64 (a0 : Int), .int .u64 (b0 : Int)] w fun e w' => e = .returned (.bool true) ∧ Below w.heap.size w w' := by
  have hmod : (n : Int) % 65 = ((n % 65 : Nat) : Int) := by omega
  have hk : n % 65 ≤ 64 := by omega
  generalize n % 65 = k at *
  have hfit := topN_lt hk
  have hcuta := u64_and_nat a0 (topN k) ha0 hfit
  have hcutb := u64_and_nat b0 (topN k) hb0 hfit
  have ha : a0 &&& topN k < 18446744073709551616 := and_lt ha0
  have hb : b0 &&& topN k < 18446744073709551616 := and_lt hb0
  have f1 : hasE true (topN k) (a0 &&& topN k) = true := by rw [hasE, sub_cut]; rfl
  have f2 : belowE true (topN k) (a0 &&& topN k) (b0 &&& topN k) = subB (a0 &&& topN k) (b0 &&& topN k) := by rw [belowE, both_cut, Bool.true_and]
  have f3 : joinE true (topN k) (a0 &&& topN k) (b0 &&& topN k) = (a0 &&& topN k) ||| (b0 &&& topN k) := by rw [joinE, if_pos (both_cut _ _ _)]
  have f4 : meetE true (topN k) (a0 &&& topN k) (b0 &&& topN k) = (a0 &&& topN k) &&& (b0 &&& topN k) := by rw [meetE, if_pos (both_cut _ _ _)]
  have f5 : belowE true (topN k) 0 (a0 &&& topN k) = true := by rw [belowE, bothE, sub_zero, sub_zero, sub_cut]; rfl
  have f6 : belowE true (topN k) (a0 &&& topN k) (topN k) = true := by rw [belowE, bothE, sub_self, sub_cut]; rfl
  have htb := fun i => topN_bit k i
  generalize a0 &&& topN k = a at *
  generalize b0 &&& topN k = b at *
  have e1 : (((a ||| b : Nat) : Int) == (b : Int)) = subB a b := eq_int _ _
  have e2 : (((a &&& b : Nat) : Int) == (a : Int)) = subB a b := by rw [eq_int, and_sub]
  have hj : a ||| b < 18446744073709551616 := or_lt ha hb
  have hm : a &&& b < 18446744073709551616 := and_lt ha
  have hjb := fun i => Nat.testBit_or a b i
  have hmb := fun i => Nat.testBit_and a b i
  generalize a ||| b = j at *
  generalize a &&& b = m at *
  generalize subB a b = s at *
  have hnew := Lib.hid (new_yes k hk w)
  generalize topN k = t at *
  have HA := Lib.hid ha
  have HB := Lib.hid hb
  have q1 : (s == s) = true := by simp
  have q2 : (s != s) = false := by simp
  have HTB := Lib.hid htb
  have HJB := Lib.hid hjb
  have HMB := Lib.hid hmb
  have F1 := Lib.hid f1
  have F2 := Lib.hid f2
  have F3 := Lib.hid f3
  have F4 := Lib.hid f4
  have F5 := Lib.hid f5
  have F6 := Lib.hid f6
  have HT := Lib.hid hfit
  have HJ := Lib.hid hj
  have HM := Lib.hid hm
  clear f1 f2 f3 f4 f5 f6 htb hjb hmb ha0 hb0 hj hm hfit ha hb
  go_enter Try.func5, Try.ntmps5
  go_wp2_with fail
  rw [hmod]
  refine hnew.out.mono ?_
  rintro e w1 ⟨g, rfl, hx, B⟩
  have px := hx.p
  clear hx
  go_wp2_with fail
  refine (top_is px (t : Int) rfl).mono ?_
  rintro e w' ⟨rfl, rfl⟩
  go_wp2_with fail
  refine (below_is px a b HA.out HB.out s F2.out).mono ?_
  rintro e w2 ⟨rfl, hb⟩
  replace px := px.keep hb
  replace B := Below.then B (Nat.le_refl _) hb
  clear hb
  go_wp2_with fail
  refine (join_is px a b HA.out HB.out (j : Int) (by rw [F3.out])).mono ?_
  rintro e w3 ⟨rfl, hb⟩
  replace px := px.keep hb
  replace B := Below.then B (Nat.le_refl _) hb
  clear hb
  go_wp2_with fail
  refine (meet_is px a b HA.out HB.out (m : Int) (by rw [F4.out])).mono ?_
  rintro e w4 ⟨rfl, hb⟩
  replace px := px.keep hb
  replace B := Below.then B (Nat.le_refl _) hb
  clear hb
  go_wp2_with fail
  refine (has_is px a HA.out true F1.out).mono ?_
  rintro e w5 ⟨rfl, hb⟩
  replace px := px.keep hb
  replace B := Below.then B (Nat.le_refl _) hb
  clear hb
  go_wp2_with fail
  refine (bottom_any _ _).mono ?_
  rintro e w' ⟨rfl, rfl⟩
  go_wp2_with fail
  refine (below_is px 0 a (by decide) HA.out true F5.out).mono ?_
  rintro e w6 ⟨rfl, hb⟩
  replace px := px.keep hb
  replace B := Below.then B (Nat.le_refl _) hb
  clear hb
  go_wp2_with fail
  refine (below_is px a t HA.out HT.out true F6.out).mono ?_
  rintro e w7 ⟨rfl, hb⟩
  replace px := px.keep hb
  replace B := Below.then B (Nat.le_refl _) hb
  clear hb
  clear px hnew F1 F2 F3 F4 F5 F6
  go_wp2_with fail
  go_loopw [13] (fun v13 wr => BeRel w.heap.size w v13 wr) (fun v13 _ => 64 - (intOf v13).toNat)
  case atStart => exact ⟨0, rfl, by omega, B⟩
  case round =>
    clear B
    obtain ⟨i, rfl, hi, B⟩ := hrel
    by_cases hlt : i < 64
    · by_cases hik : i < k
      · have hik2 : (i : Int) < (k : Int) := by omega
        cases hx : a.testBit i with
        | true =>
          cases hy : b.testBit i with
          | true =>
            have sa : bits .and .u64 ((a : Int) / 2 ^ i) 1 = 1 := shr_bit HA.out i true (by exact hx)
            have sb : bits .and .u64 ((b : Int) / 2 ^ i) 1 = 1 := shr_bit HB.out i true (by exact hy)
            have sj : bits .and .u64 ((j : Int) / 2 ^ i) 1 = 1 := shr_bit HJ.out i true (by rw [HJB.out, hx, hy]; rfl)
            have sm : bits .and .u64 ((m : Int) / 2 ^ i) 1 = 1 := shr_bit HM.out i true (by rw [HMB.out, hx, hy]; rfl)
            have st : bits .and .u64 ((t : Int) / 2 ^ i) 1 = 1 := shr_bit HT.out i true (by rw [HTB.out]; simpa using hik)
            have HX := Lib.hid hx
            have HY := Lib.hid hy
            clear hx hy
            go_wp2_with fail
            go_roundw
            case rel => exact ⟨i + 1, by go_num, by omega, B⟩
            case measure => simp [intOf]; omega
          | false =>
            have sa : bits .and .u64 ((a : Int) / 2 ^ i) 1 = 1 := shr_bit HA.out i true (by exact hx)
            have sb : bits .and .u64 ((b : Int) / 2 ^ i) 1 = 0 := shr_bit HB.out i false (by exact hy)
            have sj : bits .and .u64 ((j : Int) / 2 ^ i) 1 = 1 := shr_bit HJ.out i true (by rw [HJB.out, hx, hy]; rfl)
            have sm : bits .and .u64 ((m : Int) / 2 ^ i) 1 = 0 := shr_bit HM.out i false (by rw [HMB.out, hx, hy]; rfl)
            have st : bits .and .u64 ((t : Int) / 2 ^ i) 1 = 1 := shr_bit HT.out i true (by rw [HTB.out]; simpa using hik)
            have HX := Lib.hid hx
            have HY := Lib.hid hy
            clear hx hy
            go_wp2_with fail
            go_roundw
            case rel => exact ⟨i + 1, by go_num, by omega, B⟩
            case measure => simp [intOf]; omega
        | false =>
          cases hy : b.testBit i with
          | true =>
            have sa : bits .and .u64 ((a : Int) / 2 ^ i) 1 = 0 := shr_bit HA.out i false (by exact hx)
            have sb : bits .and .u64 ((b : Int) / 2 ^ i) 1 = 1 := shr_bit HB.out i true (by exact hy)
            have sj : bits .and .u64 ((j : Int) / 2 ^ i) 1 = 1 := shr_bit HJ.out i true (by rw [HJB.out, hx, hy]; rfl)
            have sm : bits .and .u64 ((m : Int) / 2 ^ i) 1 = 0 := shr_bit HM.out i false (by rw [HMB.out, hx, hy]; rfl)
            have st : bits .and .u64 ((t : Int) / 2 ^ i) 1 = 1 := shr_bit HT.out i true (by rw [HTB.out]; simpa using hik)
            have HX := Lib.hid hx
            have HY := Lib.hid hy
            clear hx hy
            go_wp2_with fail
            go_roundw
            case rel => exact ⟨i + 1, by go_num, by omega, B⟩
            case measure => simp [intOf]; omega
          | false =>
            have sa : bits .and .u64 ((a : Int) / 2 ^ i) 1 = 0 := shr_bit HA.out i false (by exact hx)
            have sb : bits .and .u64 ((b : Int) / 2 ^ i) 1 = 0 := shr_bit HB.out i false (by exact hy)
            have sj : bits .and .u64 ((j : Int) / 2 ^ i) 1 = 0 := shr_bit HJ.out i false (by rw [HJB.out, hx, hy]; rfl)
            have sm : bits .and .u64 ((m : Int) / 2 ^ i) 1 = 0 := shr_bit HM.out i false (by rw [HMB.out, hx, hy]; rfl)
            have st : bits .and .u64 ((t : Int) / 2 ^ i) 1 = 1 := shr_bit HT.out i true (by rw [HTB.out]; simpa using hik)
            have HX := Lib.hid hx
            have HY := Lib.hid hy
            clear hx hy
            go_wp2_with fail
            go_roundw
            case rel => exact ⟨i + 1, by go_num, by omega, B⟩
            case measure => simp [intOf]; omega
      · have hik2 : ¬ (i : Int) < (k : Int) := by omega
        cases hx : a.testBit i with
        | true =>
          cases hy : b.testBit i with
          | true =>
            have sa : bits .and .u64 ((a : Int) / 2 ^ i) 1 = 1 := shr_bit HA.out i true (by exact hx)
            have sb : bits .and .u64 ((b : Int) / 2 ^ i) 1 = 1 := shr_bit HB.out i true (by exact hy)
            have sj : bits .and .u64 ((j : Int) / 2 ^ i) 1 = 1 := shr_bit HJ.out i true (by rw [HJB.out, hx, hy]; rfl)
            have sm : bits .and .u64 ((m : Int) / 2 ^ i) 1 = 1 := shr_bit HM.out i true (by rw [HMB.out, hx, hy]; rfl)
            have st : bits .and .u64 ((t : Int) / 2 ^ i) 1 = 0 := shr_bit HT.out i false (by rw [HTB.out]; simpa using hik)
            have HX := Lib.hid hx
            have HY := Lib.hid hy
            clear hx hy
            go_wp2_with fail
            go_roundw
            case rel => exact ⟨i + 1, by go_num, by omega, B⟩
            case measure => simp [intOf]; omega
          | false =>
            have sa : bits .and .u64 ((a : Int) / 2 ^ i) 1 = 1 := shr_bit HA.out i true (by exact hx)
            have sb : bits .and .u64 ((b : Int) / 2 ^ i) 1 = 0 := shr_bit HB.out i false (by exact hy)
            have sj : bits .and .u64 ((j : Int) / 2 ^ i) 1 = 1 := shr_bit HJ.out i true (by rw [HJB.out, hx, hy]; rfl)
            have sm : bits .and .u64 ((m : Int) / 2 ^ i) 1 = 0 := shr_bit HM.out i false (by rw [HMB.out, hx, hy]; rfl)
            have st : bits .and .u64 ((t : Int) / 2 ^ i) 1 = 0 := shr_bit HT.out i false (by rw [HTB.out]; simpa using hik)
            have HX := Lib.hid hx
            have HY := Lib.hid hy
            clear hx hy
            go_wp2_with fail
            go_roundw
            case rel => exact ⟨i + 1, by go_num, by omega, B⟩
            case measure => simp [intOf]; omega
        | false =>
          cases hy : b.testBit i with
          | true =>
            have sa : bits .and .u64 ((a : Int) / 2 ^ i) 1 = 0 := shr_bit HA.out i false (by exact hx)
            have sb : bits .and .u64 ((b : Int) / 2 ^ i) 1 = 1 := shr_bit HB.out i true (by exact hy)
            have sj : bits .and .u64 ((j : Int) / 2 ^ i) 1 = 1 := shr_bit HJ.out i true (by rw [HJB.out, hx, hy]; rfl)
            have sm : bits .and .u64 ((m : Int) / 2 ^ i) 1 = 0 := shr_bit HM.out i false (by rw [HMB.out, hx, hy]; rfl)
            have st : bits .and .u64 ((t : Int) / 2 ^ i) 1 = 0 := shr_bit HT.out i false (by rw [HTB.out]; simpa using hik)
            have HX := Lib.hid hx
            have HY := Lib.hid hy
            clear hx hy
            go_wp2_with fail
            go_roundw
            case rel => exact ⟨i + 1, by go_num, by omega, B⟩
            case measure => simp [intOf]; omega
          | false =>
            have sa : bits .and .u64 ((a : Int) / 2 ^ i) 1 = 0 := shr_bit HA.out i false (by exact hx)
            have sb : bits .and .u64 ((b : Int) / 2 ^ i) 1 = 0 := shr_bit HB.out i false (by exact hy)
            have sj : bits .and .u64 ((j : Int) / 2 ^ i) 1 = 0 := shr_bit HJ.out i false (by rw [HJB.out, hx, hy]; rfl)
            have sm : bits .and .u64 ((m : Int) / 2 ^ i) 1 = 0 := shr_bit HM.out i false (by rw [HMB.out, hx, hy]; rfl)
            have st : bits .and .u64 ((t : Int) / 2 ^ i) 1 = 0 := shr_bit HT.out i false (by rw [HTB.out]; simpa using hik)
            have HX := Lib.hid hx
            have HY := Lib.hid hy
            clear hx hy
            go_wp2_with fail
            go_roundw
            case rel => exact ⟨i + 1, by go_num, by omega, B⟩
            case measure => simp [intOf]; omega
    · obtain rfl : i = 64 := by omega
      go_wp2_with fail
      refine (alive_any _).mono ?_
      rintro e w2 ⟨rfl, b2⟩
      go_wp2_with fail
      go_ret
      exact ⟨rfl, Below.then B (Nat.le_refl _) b2⟩

set_option maxRecDepth 100000 in
theorem lifted (os : Os) (started : os.Started) (H : Type) (enc : TypeId × Value → H) :
    ReturnsInHanded {} Try.checked os 5 .any (Rows.effectsBelowSpec.pre6 enc Try.prog Try.f5 Rows.effectsBelowRow.domain false) (Rows.effectsBelowSpec.post enc Try.prog Try.f5 false true false false) := by
  refine returnsInHanded_of_change (C := Try.checked) own started (by kernel_rfl) Try.func5
    (ChangeSpec.witness6 (enc := enc) (C := Try.checked) false ⟨#[], #[.int .u8 0, .int .u64 0, .int .u64 0], []⟩ 8 (by kernel_rfl) (by kernel_rfl) (by kernel_rfl) (by kernel_rfl)) ?_
  intro W base args ds gs before hval0 hW hcnd _
  have hval : ∀ (j : Nat) t v, Try.f5.params[j]? = some t → args[j]? = some v → Value.okWide Try.prog W .any base t v := hval0
  have hW' := hW
  obtain ⟨p, q, hA0, hV, rfl, hfz, hnd⟩ := hW
  have hA : DataW.TrodAll enc Try.prog W 0 (fun _ => true) true Try.f5.params.toList args.toList ds p := hA0
  rw [Try.params5] at hA hval
  obtain ⟨v0, vs0, d0, ds0, p0, q0, hargs, rfl, rfl, h0, r0⟩ := trodAll_cons hA
  obtain ⟨v1, vs1, d1, ds1, p1, q1, rfl, rfl, rfl, h1, r1⟩ := trodAll_cons r0
  obtain ⟨v2, vs2, d2, ds2, p2, q2, rfl, rfl, rfl, h2, r2⟩ := trodAll_cons r1
  obtain ⟨rfl, rfl, rfl⟩ := trodAll_nil r2
  obtain rfl : args = #[v0, v1, v2] := by cases args; simp_all
  obtain ⟨rfl, rfl⟩ := trodVars_none hV
  obtain ⟨x0, rfl, rfl, rfl, w0⟩ := open_int Try.underlying5 (hval 0 5 v0 rfl rfl) h0
  obtain ⟨x1, rfl, rfl, rfl, w1⟩ := open_int Try.underlying22 (hval 1 22 v1 rfl rfl) h1
  obtain ⟨x2, rfl, rfl, rfl, w2⟩ := open_int Try.underlying22 (hval 2 22 v2 rfl rfl) h2
  clear hA0 hval0
  have w0' := w0
  obtain ⟨y0, rfl, hy0⟩ := u8_nat2 w0
  have w1' := w1
  obtain ⟨y1, rfl, hy1⟩ := u64_nat w1
  have w2' := w2
  obtain ⟨y2, rfl, hy2⟩ := u64_nat w2
  refine (walk y0 y1 y2 W hy0 hy1 hy2).mono fun e W' ⟨he, bel⟩ => ?_
  subst he
  exact ⟨_, rfl, _, _, _, [], _, [], hW', trodAll_mk1 (shut_bool Try.underlying4 _), (trodAll_cons_mk (shut_int Try.underlying5 w0') (trodAll_cons_mk (shut_int Try.underlying22 w1') (trodAll_cons_mk (shut_int Try.underlying22 w2') trodAll_mk0))), rfl, bel.frame _, fun h => by cases h⟩

theorem over : Rows.effectsBelowRow.holds Try.pinned (OpenSpec.ofChange Rows.effectsBelowSpec) :=
  OpenClaim.holds_of_wide 5 Try.f5 rfl rfl rfl rfl rfl rfl rfl ⟨rfl, rfl, rfl, rfl, rfl⟩ rfl rfl rfl rfl rfl (by kernel_rfl) Try.func5 (by kernel_rfl)
    (of_decide_eq_true (by kernel_rfl)) (by unfold Func.isWrapper; first | (rw [if_pos (by decide +kernel)]; kernel_rfl) | (rw [if_neg (by decide +kernel)]; exact ⟨rfl, rfl⟩))
    (fun os started H enc _ => lifted os started H enc)

theorem proved : Rows.EffectsBelowSaid := over
#print axioms proved

end Go.Proofs.Ytaohabdmbjaemaa.effectsBelow
