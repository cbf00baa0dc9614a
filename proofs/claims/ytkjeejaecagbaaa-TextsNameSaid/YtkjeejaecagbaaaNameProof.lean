/- Proved: whatever the text, the byte, and the place, TextsName answers true: a name is one with a letter, a digit, or _ behind it, as long as it is not too long; it is none with any other byte anywhere, nor with a digit, or _, ahead. No condition. -/
import Derived.Test.YtkjeejaecagbaaaAlive
import Derived.Test.YtkjeejaecagbaaaOpen
import Derived.Test.YtkjeejaecagbaaaOrder
import Derived.Test.YtkjeejaecagbaaaRows
import Derived.Laws.BytesArg
import Derived.RegionTactic
import Derived.BigRegion
namespace Go.Proofs.Ytkjeejaecagbaaa.textsName
open Go.ChangeShapes Go.WideShapes Go.ChangeAt Go.RowKit
open Go.ChangeMaps (open_string shut_string)

theorem own : ownKnob Try.prog.godebug = none := by kernel_rfl
theorem laidOut : laidOutB Try.prog = true := by kernel_rfl

theorem str_take (s : List UInt8) (k : Nat) : (str s).extract 0 k = str (s.take k) := by
  apply ByteArray.ext
  apply Array.toList_inj.1
  simp [str, ByteArray.data_extract]
theorem str_drop (s : List UInt8) (k : Nat) : (str s).extract k (str s).size = str (s.drop k) := by
  apply ByteArray.ext
  apply Array.toList_inj.1
  simp [str, ByteArray.data_extract, ByteArray.size]
  exact List.take_of_length_le (by simp)
theorem str_append (a b : List UInt8) : str a ++ str b = str (a ++ b) := by
  apply ByteArray.ext
  apply Array.toList_inj.1
  simp [str, ByteArray.data_append]

/-- A byte put into a name. -/
theorem name_put {s : List UInt8} (h : nameB s = true) (c : UInt8) (k : Nat) (hk : k ≤ s.length) : nameB (s.take k ++ [c] ++ s.drop k) = (okAt k c.toNat && decide (s.length + 1 ≤ 32)) := by
  simp only [nameB, decide_eq_true_eq] at h
  obtain ⟨h1, h2, h3⟩ := h
  have hlen : (s.take k ++ [c] ++ s.drop k).length = s.length + 1 := by simp; omega
  have hlt : ∀ i (hi : i < (s.take k ++ [c] ++ s.drop k).length) (hik : i < k), (s.take k ++ [c] ++ s.drop k)[i] = s[i]'(by omega) := by
    intro i hi hik
    rw [List.getElem_append_left (by simp; omega), List.getElem_append_left (by simp; omega), List.getElem_take]
  have heq : ∀ (hi : k < (s.take k ++ [c] ++ s.drop k).length), (s.take k ++ [c] ++ s.drop k)[k] = c := by
    intro hi
    rw [List.getElem_append_left (by simp; omega), List.getElem_append_right (by simp; omega)]
    simp
  have hgt : ∀ i (hi : i < (s.take k ++ [c] ++ s.drop k).length) (hik : k < i), (s.take k ++ [c] ++ s.drop k)[i] = s[i - 1]'(by omega) := by
    intro i hi hik
    rw [List.getElem_append_right (by simp; omega), List.getElem_drop]
    congr 1
    simp
    omega
  rw [Bool.eq_iff_iff]
  simp only [nameB, decide_eq_true_eq, Bool.and_eq_true, hlen]
  constructor
  · rintro ⟨_, g2, g3⟩
    have := g3 k (by omega)
    rw [heq (by omega)] at this
    exact ⟨this, g2⟩
  · rintro ⟨g1, g2⟩
    refine ⟨by omega, g2, fun i hi => ?_⟩
    have hi' : i < (s.take k ++ [c] ++ s.drop k).length := by omega
    rcases Nat.lt_trichotomy i k with hik | hik | hik
    · rw [hlt i hi' hik]
      exact h3 i (by omega)
    · subst hik
      rw [heq hi']
      exact g1
    · rw [hgt i hi' hik]
      have := h3 (i - 1) (by omega)
      generalize (s[i - 1]'(by omega)).toNat = r at *
      simp only [okAt, Bool.or_eq_true, Bool.and_eq_true, decide_eq_true_eq] at this ⊢
      rcases this with h | h
      · exact .inl h
      · exact .inr ⟨by omega, h.2⟩

theorem conv_one (w : World) (c : UInt8) (W : World) (hW : W.cell? ⟨w.heap.size, 0, none⟩ = some (.int .u8 (c.toNat : Int))) : (convert 32 9 (.slice (some ⟨w.heap.size, 0, none⟩) 1 1)).run Try.prog W = .ok (.string (str [c])) W := by
  have := run_convert_bytes_arg (P := Try.prog) W 32 5 Try.underlying32 Try.underlying5 w.heap.size 0 1 1 [(c.toNat : Int)] (by simp) (fun i hi => by
    obtain rfl : i = 0 := by omega
    simpa using hW) 9 Try.underlying9
  rw [this]
  congr 2
  apply ByteArray.ext
  apply Array.toList_inj.1
  rw [strOfNums_data]
  simp [str]

set_option maxRecDepth 100000 in
set_option maxHeartbeats 2000000 in
theorem walk (s : List UInt8) (c : UInt8) (z : Nat) (w : World) (hz : z < 256) (hs0 : s.length ≤ 9223372036854775807) :
    Calls Try.prog 5 #[.string (str s), .int .u8 (c.toNat : Int), .int .u8 (z : Int)] w fun e w' => e = .returned (.bool true) ∧ Below w.heap.size w w' := by
  have hsz := str_size s
  have hc := c.toNat_lt
  go_enter Try.func5, Try.ntmps5
  go_wp2_with fail
  refine (name_any s w hs0).mono ?_
  rintro e w1 ⟨rfl, b1⟩
  cases hn : nameB s with
  | false =>
    go_wp2_with fail
    refine (alive_any _).mono ?_
    rintro e w2 ⟨rfl, b2⟩
    go_wp2_with fail
    go_ret
    exact ⟨rfl, Below.then b1 b2⟩
  | true =>
    have hb : 0 < s.length ∧ s.length ≤ 32 := by simp only [nameB, decide_eq_true_eq] at hn; exact ⟨hn.1, hn.2.1⟩
    have HP := Lib.hid (name_put hn c)
    have hsl := str_take s
    have hsr := str_drop s
    rw [hsz] at hsr
    have HSL := Lib.hid hsl
    have HSR := Lib.hid hsr
    clear hsl hsr hn
    have hcw := conv_one w1 c
    generalize hln : s.length = n at *
    have HLN := Lib.hid hln
    clear hln
    have hrem : (z : Int) % ((n : Int) + 1) = ((z % (n + 1) : Nat) : Int) := (Int.natCast_emod z (n + 1)).symm
    have hk : z % (n + 1) ≤ n := by have := Nat.mod_lt z (show 0 < n + 1 by omega); omega
    generalize z % (n + 1) = k at *
    have h1 : ¬ (n : Int) < 1 := by omega
    have h2 : ¬ (32 : Int) < (n : Int) := by omega
    have hne : ¬ (n : Int) + 1 = 0 := by omega
    generalize hcc : c.toNat = x at *
    generalize str s = S at *
    go_wp2_with fail
    have hki : (k : Int) ≤ (n : Int) := by omega
    refine wp_region_ord [0, 1, 2, 3, 7, 8, 9, 4, 5, 6, 10, 11] [4, 5] 12 (fun _ => True) (by kernel_rfl) (by kernel_rfl) (by kernel_rfl) (by kernel_rfl) (fun _ _ _ _ _ h => h) trivial ?_
    simp only [steps, List.getElem?_cons_zero, List.getElem?_cons_succ]
    repeat (first
      | (refine ord_no rfl ?_; simp only [Act.put, List.setIfInBounds_toArray, List.set_cons_zero, List.set_cons_succ])
      | (refine ord_yes (v := ?_) rfl rfl ?_ ?_; rotate_left; (focus (rintro w' _; go_simp; try with_reducible rfl)); simp only [Act.put, List.setIfInBounds_toArray, List.set_cons_zero, List.set_cons_succ]))
    refine ord_hard rfl rfl (fun K hK => ?_)
    go_simp
    refine hK.out _ _ (fun _ => trivial) ?_
    clear hK K
    have hcv := hcw ((w1.alloc (.cells #[.int .u8 (x : Int)] 5)).drew) (by simp)
    refine ord_hard rfl rfl (fun K hK => ?_)
    go_simp
    refine hK.out _ _ (fun _ => trivial) ?_
    clear hK K hcv hcw
    try simp only [Act.put, List.setIfInBounds_toArray, List.set_cons_zero, List.set_cons_succ]
    have eT : S.extract 0 k ++ str [c] ++ S.extract k n = str (s.take k ++ [c] ++ s.drop k) := by rw [HSL.out, HSR.out, str_append, str_append]
    have s1 : (S.extract 0 k).size = k := by rw [HSL.out, str_size, List.length_take, HLN.out]; omega
    have s2 : (str [c]).size = 1 := rfl
    have s3 : (S.extract k n).size = n - k := by rw [HSR.out, str_size, List.length_drop, HLN.out]
    have hP := HP.out k hk
    have hTl : (s.take k ++ [c] ++ s.drop k).length = n + 1 := by have := HLN.out; simp; omega
    have hTs := str_size (s.take k ++ [c] ++ s.drop k)
    rw [hTl] at hTs
    have HT := Lib.hid hTl
    have HPP := Lib.hid hP
    clear HSL HSR HP hP hTl
    generalize s.take k ++ [c] ++ s.drop k = t at *
    generalize S.extract 0 k = q1 at *
    generalize S.extract k n = q3 at *
    generalize str [c] = q2 at *
    have s12 : (q1 ++ q2).size = k + 1 := by rw [ByteArray.size_append, s1, s2]
    have g1 : ¬ 9223372036854775807 < k + 1 := by omega
    have g2 : ¬ 9223372036854775807 < k + 1 + (n - k) := by omega
    repeat (first
      | (refine ord_no rfl ?_; simp only [Act.put, List.setIfInBounds_toArray, List.set_cons_zero, List.set_cons_succ])
      | (refine ord_yes (v := ?_) rfl rfl ?_ ?_; rotate_left; (focus (rintro w' _; go_simp; try with_reducible rfl)); simp only [Act.put, List.setIfInBounds_toArray, List.set_cons_zero, List.set_cons_succ]))
    refine ord_end ?_
    try rw [eT]
    clear eT s1 s2 s3 s12 g1 g2
    have ht0 : t.length ≤ 9223372036854775807 := by rw [HT.out]; omega
    clear HT hcc hrem
    go_wp2_with fail
    all_goals (
      refine (alive_any _).mono ?_
      rintro e w3 ⟨rfl, b3⟩
      have b4 := Below.then ((b1.alloc b1.size (.cells #[.int .u8 (x : Int)] 5)).drew) b3
      clear b3
      go_wp2_with fail
      refine (name_any t _ ht0).mono ?_
      rintro e w5 ⟨rfl, b5⟩
      rw [HPP.out]
      replace b5 := Below.then b4 b5
      clear HPP b4
      go_wp2_with fail
      all_goals go_ret
      all_goals refine ⟨?_, b5⟩
      all_goals (
        refine congrArg (fun b => Ending.returned (.bool b)) ?_
        simp only [okAt, lett, digi]
        first
          | (rw [beq_iff_eq, Bool.eq_iff_iff]; simp only [Bool.and_eq_true, Bool.or_eq_true, decide_eq_true_eq, beq_iff_eq]; omega)
          | (simp only [Bool.or_eq_true, Bool.not_eq_true', Bool.or_eq_false_iff, Bool.and_eq_false_iff, decide_eq_false_iff_not]; omega)))

theorem u8_nat {a : Int} (h : (Lit.int .u8 a).wf = true) : ∃ x : Nat, a = (x : Int) ∧ x < 256 := by
  have hb : IntKind.u8.min ≤ a ∧ a ≤ IntKind.u8.max := by simpa [Lit.wf] using h
  have e1 : IntKind.u8.min = 0 := by decide
  have e2 : IntKind.u8.max = 255 := by decide
  rw [e1, e2] at hb
  exact ⟨a.toNat, by omega, by omega⟩

theorem lifted (os : Os) (started : os.Started) (H : Type) (enc : TypeId × Value → H) :
    ReturnsInHanded {} Try.checked os 5 .any (Rows.textsNameSpec.pre6 enc Try.prog Try.f5 Rows.textsNameRow.domain false) (Rows.textsNameSpec.post enc Try.prog Try.f5 false true false false) := by
  refine returnsInHanded_of_change (C := Try.checked) own started (by kernel_rfl) Try.func5
    (ChangeSpec.witness6 (enc := enc) (C := Try.checked) false ⟨#[], #[.string ⟨#[]⟩, .int .u8 0, .int .u8 0], []⟩ 8 (by kernel_rfl) (by kernel_rfl) (by kernel_rfl) (by kernel_rfl)) ?_
  intro W base args ds gs before hval0 hW hcnd _
  have hval : ∀ (j : Nat) t v, Try.f5.params[j]? = some t → args[j]? = some v → Value.okWide Try.prog W .any base t v := hval0
  have hW' := hW
  obtain ⟨p, q, hA0, hV, rfl, hfz, hnd⟩ := hW
  have hA : DataW.TrodAll enc Try.prog W 0 (fun _ => true) true Try.f5.params.toList args.toList ds p := hA0
  rw [Try.params5] at hA hval
  obtain ⟨v0, vs0, d0, ds0, p0, q0, hargs, rfl, rfl, h0, r0⟩ := trodAll_cons hA
  obtain ⟨v1, vs1, d1, ds1, p1, q1, rfl, rfl, rfl, h1, r1⟩ := trodAll_cons r0
  obtain ⟨v2, vs2, d2, ds2, p2, q2, rfl, rfl, rfl, h2, r2⟩ := trodAll_cons r1
  obtain ⟨rfl, rfl, rfl⟩ := trodAll_nil r2
  obtain rfl : args = #[v0, v1, v2] := by cases args; simp_all
  obtain ⟨rfl, rfl⟩ := trodVars_none hV
  obtain ⟨s0, rfl, rfl, rfl, w0⟩ := open_string Try.underlying9 (hval 0 9 v0 rfl rfl) h0
  obtain ⟨a1, rfl, rfl, rfl, w1⟩ := open_int Try.underlying5 (hval 1 5 v1 rfl rfl) h1
  obtain ⟨a2, rfl, rfl, rfl, w2⟩ := open_int Try.underlying5 (hval 2 5 v2 rfl rfl) h2
  clear hA0 hval0
  obtain ⟨x1, hx1, lx1⟩ := u8_nat w1
  obtain ⟨x2, hx2, lx2⟩ := u8_nat w2
  subst hx1
  subst hx2
  have hwk := walk s0.data.toList x1.toUInt8 x2 W lx2 (by unfold maxLen at w0; rw [Array.length_toList]; exact w0)
  rw [str_of, show x1.toUInt8.toNat = x1 by simp [Nat.mod_eq_of_lt lx1]] at hwk
  refine hwk.mono fun e W' ⟨he, bel⟩ => ?_
  subst he
  exact ⟨_, rfl, _, _, _, [], _, [], hW', trodAll_mk1 (shut_bool Try.underlying4 _), (trodAll_cons_mk (shut_string Try.underlying9 w0) (trodAll_cons_mk (shut_int Try.underlying5 w1) (trodAll_cons_mk (shut_int Try.underlying5 w2) trodAll_mk0))), rfl, bel.frame _, fun h => by cases h⟩

theorem over : Rows.textsNameRow.holds Try.pinned (OpenSpec.ofChange Rows.textsNameSpec) :=
  OpenClaim.holds_of_wide 5 Try.f5 rfl rfl rfl rfl rfl rfl rfl ⟨rfl, rfl, rfl, rfl, rfl⟩ rfl rfl rfl rfl rfl (by kernel_rfl) Try.func5 (by kernel_rfl)
    (of_decide_eq_true (by kernel_rfl)) (by unfold Func.isWrapper; first | (rw [if_pos (by decide +kernel)]; kernel_rfl) | (rw [if_neg (by decide +kernel)]; exact ⟨rfl, rfl⟩))
    (fun os started H enc _ => lifted os started H enc)

theorem proved : Rows.TextsNameSaid := over
#print axioms proved

end Go.Proofs.Ytkjeejaecagbaaa.textsName
