/- Proved: whatever the rows, and by how far their labels are moved, OrdersTurned answers true: Check tells the same of the rows, of them turned round, and of them numbered anew; the rows stay as they were. No condition. -/
import Derived.Test.YtnoigcaapnjcgaaAlive
import Derived.Test.YtnoigcaapnjcgaaMoved
import Derived.Test.YtnoigcaapnjcgaaOpen
import Derived.Test.YtnoigcaapnjcgaaRows
import Derived.Deep.DeepCutAuto
namespace Go.Proofs.Ytnoigcaapnjcgaa.ordersTurned
open Go.ChangeShapes Go.WideShapes Go.ChangeAt Go.RowKit

theorem own : ownKnob Try.prog.godebug = none := by kernel_rfl
theorem laidOut : laidOutB Try.prog = true := by kernel_rfl

def Ti (l : List Nat) (m : Nat) (w : World) (v9 : Value) (wr : World) : Prop :=
  ∃ i : Nat, v9 = .int .i64 (i : Int) ∧ i ≤ l.length ∧ knownK l i = true ∧ wr.heap[w.heap.size]? = some (.cells (cl (turnI l i 0)) 23 (0, 0)) ∧ wr.heap[w.heap.size + 1]? = some (.cells (cl (movI l m i 0)) 23 (0, 0)) ∧ Below w.heap.size w wr
def Tj (l : List Nat) (m i : Nat) (w : World) (v10 : Value) (wr : World) : Prop :=
  ∃ j : Nat, v10 = .int .i64 (j : Int) ∧ j ≤ l.length ∧ wr.heap[w.heap.size]? = some (.cells (cl (turnI l i j)) 23 (0, 0)) ∧ wr.heap[w.heap.size + 1]? = some (.cells (cl (movI l m i j)) 23 (0, 0)) ∧ Below w.heap.size w wr

theorem shl_bit {b : Bool} {k : Nat} (hk : k < 64) : IntKind.u64.wrap ((b.toNat : Int) * 2 ^ k) = ((b.toNat * 2 ^ k : Nat) : Int) := by
  cases b
  · show IntKind.u64.wrap ((0 : Int) * 2 ^ k) = _
    rw [Int.zero_mul]
    simp [IntKind.wrap, IntKind.bits, IntKind.signed]
  · show IntKind.u64.wrap ((1 : Int) * 2 ^ k) = _
    rw [Int.one_mul, two_pow hk]
    simp

theorem emod_nat (i m n : Nat) : ((i : Int) + (m : Int)) % (n : Int) = (pp n m i : Int) := by
  rw [← Int.natCast_add, pp, Int.natCast_emod]
theorem tmod_nat (i m n : Nat) : ((i : Int) + (m : Int)).tmod (n : Int) = (pp n m i : Int) := by
  rw [← emod_nat]
  exact Int.tmod_eq_emod_of_nonneg (by omega)

theorem bit_lt (b : Bool) {k : Nat} (hk : k < 64) : b.toNat * 2 ^ k < 18446744073709551616 := by
  have : 2 ^ k < 2 ^ 64 := Nat.pow_lt_pow_right (by decide) hk
  cases b
  · simp
  · simp only [Bool.toNat_true, Nat.one_mul]
    exact this

set_option maxRecDepth 100000 in
set_option maxHeartbeats 2000000 in
theorem walk (A : Option Addr) (n c0 : Nat) (l : List Nat) (f : Nat) (w : World) (h : Rd nm w w.heap.size A n c0 l) (hf : Fit l) (hff : f < 256) :
    Calls Try.prog 6 #[.slice A n c0, .int .u8 (f : Int)] w fun e w' => e = .returned (.bool true) ∧ Below w.heap.size w w' := by
  have HL := Lib.hid h.len
  have htop := h.top
  have hcap := h.cap
  unfold maxLen at htop
  by_cases hn : 1 ≤ n ∧ n ≤ 64
  case neg =>
    have hk : checkN l = 1 := (checkN_of (.inl ⟨fun hk => hn (by rw [← HL.out]; exact hk.1), rfl⟩)).symm
    have hcc := fun w' (h' : Rd nm w' w'.heap.size A n c0 l) => check_now A n c0 l w' 1 h' hf hk
    have HCC := Lib.hid hcc
    clear hk hcc
    go_enter Try.func6, Try.ntmps6
    by_cases h1 : n < 1
    · have d1 : decide ((n : Int) < 1) = true := by simp; omega
      go_wp2_with fail
      refine (alive_any _).mono ?_
      rintro e w1 ⟨rfl, b1⟩
      go_wp2_with fail
      refine (HCC.out w1 (h.at_size (Nat.le_refl _) b1)).mono ?_
      rintro e w2 ⟨rfl, b2⟩
      go_wp2_with fail
      go_ret
      exact ⟨rfl, Below.then b1 b2⟩
    · have d1 : decide ((n : Int) < 1) = false := by simp; omega
      have d2 : decide (64 < (n : Int)) = true := by simp; omega
      go_wp2_with fail
      refine (alive_any _).mono ?_
      rintro e w1 ⟨rfl, b1⟩
      go_wp2_with fail
      refine (HCC.out w1 (h.at_size (Nat.le_refl _) b1)).mono ?_
      rintro e w2 ⟨rfl, b2⟩
      go_wp2_with fail
      go_ret
      exact ⟨rfl, Below.then b1 b2⟩
  have d1 : decide ((n : Int) < 1) = false := by simp; omega
  have d2 : decide (64 < (n : Int)) = false := by simp; omega
  have hmk := make_nm n (by omega)
  have hmod : (f : Int) % (n : Int) = ((f % n : Nat) : Int) := by rw [Int.natCast_emod]
  have hmn : f % n < n := Nat.mod_lt _ (by omega)
  generalize f % n = m at *
  go_enter Try.func6, Try.ntmps6
  go_wp2_with fail
  rw [hmod]
  clear hmod
  go_loopw [9] (fun v9 wr => Ti l m w v9 wr) (fun v9 _ => n - (intOf v9).toNat)
  case atStart => exact ⟨0, rfl, by omega, rfl, by rw [turnI_zero, HL.out]; exact heap_alloc2_old _ _ _, by rw [movI_zero, HL.out]; exact heap_alloc2_new _ _ _, ((Below.refl _ _).alloc (Nat.le_refl _) _).alloc (by simp) _⟩
  case round =>
    obtain ⟨i, rfl, hi, hkn, hb1, hb2, hb⟩ := hrel
    have HK := Lib.hid hkn
    have HB1 := Lib.hid hb1
    have HB2 := Lib.hid hb2
    clear hkn hb1 hb2 hmk
    by_cases hlt : i < n
    · obtain ⟨b, o, rfl, hbb, hc⟩ := (h.below hb).spot (by omega)
      have hi' : i < l.length := by rw [HL.out]; exact hlt
      have hcx : wr.cell? ⟨b, o + i, none⟩ = some (.int .u64 (l[i] : Int)) := hc i hi'
      have hx := hf.get i hi'
      have hs := knownK_succ l i
      rw [HK.out, Bool.true_and, getD_at hi', HL.out] at hs
      have hq : (l[i] : Int) / 2 ^ n = ((l[i] / 2 ^ n : Nat) : Int) := shr_nat _ _
      have hbad : (l[i] / 2 ^ n == 0) = false → checkN l = 1 := fun e => (checkN_of (.inl ⟨(fun hkk => by
        have := (small_iff l).2 hkk.2
        rw [show knownK l l.length = false from all_false hi' (by rw [getD_at hi', HL.out]; exact e)] at this
        cases this), rfl⟩)).symm
      have hq64 : n = 64 → l[i] / 2 ^ n = 0 := fun e => by rw [e]; exact Nat.div_eq_of_lt hx
      have HBT : Hid (∀ j, bt l i j = l[i].testBit j) := Lib.hid (bt_get hi')
      have HCX : Hid (w.cell? ⟨b, o + i, none⟩ = some (.int .u64 (l[i] : Int))) := Lib.hid ((hb.cell (p := ⟨b, o + i, none⟩) hbb).symm.trans hcx)
      generalize hqq : l[i] / 2 ^ n = q at *
      clear hqq
      generalize l[i] = x at *
      have HS := Lib.hid hs
      have HF := Lib.hid hbad
      have HQ := Lib.hid hq64
      clear hc hs hbad hq64
      by_cases hbadq : n < 64 ∧ q ≠ 0
      · obtain ⟨hn64, hq0⟩ := hbadq
        have d3 : decide ((n : Int) < 64) = true := by simp; omega
        have hne : ((q : Int) != 0) = true := by simpa using hq0
        have HK1 := Lib.hid (HF.out (by simpa using hq0))
        go_wp2_with fail
        refine (alive_any _).mono ?_
        rintro e w1 ⟨rfl, c1⟩
        have d1 := Below.then hb c1
        go_wp2_with fail
        refine (check_now _ n c0 l w1 1 (h.at_size (Nat.le_refl _) d1) hf HK1.out).mono ?_
        rintro e w2 ⟨rfl, c2⟩
        go_wp2_with fail
        go_ret
        exact ⟨rfl, Below.then d1 c2⟩
      have HS' : Hid (knownK l (i + 1) = true) := Lib.hid (by
        rw [HS.out]
        by_cases e : n = 64
        · rw [HQ.out e]; rfl
        · have : q = 0 := by
            by_cases hq0 : q = 0
            · exact hq0
            · exact absurd ⟨by omega, hq0⟩ hbadq
          rw [this]; rfl)
      have hpath : (decide ((n : Int) < 64) = false) ∨ (decide ((n : Int) < 64) = true ∧ ((q : Int) != 0) = false) := by
        by_cases e : n < 64
        · refine .inr ⟨by simp; omega, ?_⟩
          have : q = 0 := by
            by_cases hq0 : q = 0
            · exact hq0
            · exact absurd ⟨e, hq0⟩ hbadq
          simp [this]
        · exact .inl (by simp; omega)
      clear hbadq HQ HF HS
      rcases hpath with d3 | ⟨d3, d4⟩
      (focus go_wp2_with fail)
      rotate_left
      (focus go_wp2_with fail)
      rotate_left
      all_goals
        go_loopw [10] (fun v10 wr => Tj l m i w v10 wr) (fun v10 _ => n - (intOf v10).toNat)
        case atStart => exact ⟨0, rfl, by omega, HB1.out, HB2.out, hb⟩
        case round =>
          clear hcx hb HB1 HB2
          obtain ⟨j, rfl, hj, hb1, hb2, hb⟩ := hrel
          by_cases hlt2 : j < n
          · have hj' : j < l.length := by rw [HL.out]; exact hlt2
            have hcx : wr.cell? ⟨b, o + i, none⟩ = some (.int .u64 (x : Int)) := (hb.cell (p := ⟨b, o + i, none⟩) hbb).trans HCX.out
            have hDl : j < (turnI l i j).length := by rw [turnI_len]; exact hj'
            have hMl : pp l.length m i < (movI l m i j).length := by rw [movI_len]; exact pp_lt (by omega)
            have HD := Lib.hid (turnI_step l i j hDl)
            have HM := Lib.hid (movI_step l m i j (by rw [HL.out]; exact hmn) hi' hj' hMl)
            have hXn : pp l.length m i < n := by rw [← HL.out]; exact pp_lt (by omega)
            have hZn : pp l.length m j < n := by rw [← HL.out]; exact pp_lt (by omega)
            have hXe : ((i : Int) + (m : Int)).tmod (n : Int) = (pp l.length m i : Int) := by rw [HL.out]; exact tmod_nat i m n
            have hZe : ((j : Int) + (m : Int)).tmod (n : Int) = (pp l.length m j : Int) := by rw [HL.out]; exact tmod_nat j m n
            have hXe2 : ((i : Int) + (m : Int)) % (n : Int) = (pp l.length m i : Int) := by rw [HL.out]; exact emod_nat i m n
            have hZe2 : ((j : Int) + (m : Int)) % (n : Int) = (pp l.length m j : Int) := by rw [HL.out]; exact emod_nat j m n
            have hcd := (cell_blk (i := j) hb1).trans (cl_at hDl)
            have hfd : wr.frozen? ⟨w.heap.size, j, none⟩ = false := frozen_blk hb1
            have hcm := (cell_blk (i := pp l.length m i) hb2).trans (cl_at hMl)
            have hfm : wr.frozen? ⟨w.heap.size + 1, pp l.length m i, none⟩ = false := frozen_blk hb2
            have hDf := (turnI_fit l i j (by omega)).get j hDl
            have hMf := (movI_fit l m i j (by rw [HL.out]; omega)).get _ hMl
            have hsh := shr_one (k := j) hx
            rw [Nat.min_eq_left (by omega), ← HBT.out j] at hsh
            have hs1 := shl_bit (b := bt l i j) (k := i) (by omega)
            have hs2 := shl_bit (b := bt l i j) (k := pp l.length m j) (by omega)
            have ho1 := u64_or_nat (turnI l i j)[j] ((bt l i j).toNat * 2 ^ i) hDf (bit_lt _ (by omega))
            have ho2 := u64_or_nat (movI l m i j)[pp l.length m i] ((bt l i j).toNat * 2 ^ pp l.length m j) hMf (bit_lt _ (by omega))
            have HBK1 := Lib.hid hb1
            have HBK2 := Lib.hid hb2
            clear hb1 hb2
            generalize (turnI l i j)[j] = y1 at *
            generalize (movI l m i j)[pp l.length m i] = y2 at *
            generalize pp l.length m i = X at *
            generalize pp l.length m j = Z at *
            generalize (bt l i j).toNat * 2 ^ i = p1 at *
            generalize (bt l i j).toNat * 2 ^ Z = p2 at *
            have hbb1 : ((bt l i j).toNat : Int) ≤ 1 := by cases bt l i j <;> simp
            generalize (bt l i j).toNat = bb at *
            go_upto_region 17 with (fail)
            have HN1 : Hid ((wr.setCell ⟨w.heap.size, j, none⟩ (.int .u64 ((y1 ||| p1 : Nat) : Int))).heap[w.heap.size]? = some (.cells (cl (turnI l i (j + 1))) 23 (0, 0))) := Lib.hid (by rw [set_blk HBK1.out, cl_set, HD.out])
            have hfar := Below.heap_setCell wr ⟨w.heap.size, j, none⟩ (.int .u64 ((y1 ||| p1 : Nat) : Int)) (w.heap.size + 1) (by simp)
            have HN2 : Hid ((wr.setCell ⟨w.heap.size, j, none⟩ (.int .u64 ((y1 ||| p1 : Nat) : Int))).heap[w.heap.size + 1]? = some (.cells (cl (movI l m i j)) 23 (0, 0))) := Lib.hid (hfar.trans HBK2.out)
            have f1 : (wr.setCell ⟨w.heap.size, j, none⟩ (.int .u64 ((y1 ||| p1 : Nat) : Int))).cell? ⟨w.heap.size + 1, X, none⟩ = some (.int .u64 (y2 : Int)) := (World.cell?_of_block (w := wr) (a := ⟨w.heap.size + 1, X, none⟩) hfar).trans hcm
            have f2 : (wr.setCell ⟨w.heap.size, j, none⟩ (.int .u64 ((y1 ||| p1 : Nat) : Int))).frozen? ⟨w.heap.size + 1, X, none⟩ = false := frozen_blk HN2.out
            have hb' := hb.setCell (p := ⟨w.heap.size, j, none⟩) (Nat.le_refl _) (.int .u64 ((y1 ||| p1 : Nat) : Int))
            clear hcx hcd hfd hcm hfm hb hfar HBK1 HBK2 ho1 hs1 hsh HD hDf
            generalize wr.setCell ⟨w.heap.size, j, none⟩ (.int .u64 ((y1 ||| p1 : Nat) : Int)) = w2 at *
            have hw1 : IntKind.i64.wrap ((i : Int) + (m : Int)) = (i : Int) + (m : Int) := by rw [IntKind.wrap_i64]; omega
            have hw2 : IntKind.i64.wrap ((j : Int) + (m : Int)) = (j : Int) + (m : Int) := by rw [IntKind.wrap_i64]; omega
            have hn0 : ¬ ((n : Int) = 0) := by omega
            have hn1 : ((n : Int) == 0) = false := by simp; omega
            have hn2 : ¬ (n = 0) := by omega
            go_still_tail 23, (by kernel_rfl)
            change wpList _ _ _ _ _ w2.drew
            have HN3 : Hid (w2.drew.heap[w.heap.size]? = some (.cells (cl (turnI l i (j + 1))) 23 (0, 0))) := HN1
            have HN4 : Hid (w2.drew.heap[w.heap.size + 1]? = some (.cells (cl (movI l m i j)) 23 (0, 0))) := HN2
            have g1 : w2.drew.cell? ⟨w.heap.size + 1, X, none⟩ = some (.int .u64 (y2 : Int)) := f1
            have g2 : w2.drew.frozen? ⟨w.heap.size + 1, X, none⟩ = false := f2
            have hb3 : Below w.heap.size w w2.drew := hb'.trans (below_drew _)
            clear f1 f2 HN1 HN2 hb'
            generalize w2.drew = w3 at *
            go_wp2
            go_roundw
            case rel => exact ⟨j + 1, by go_num, by have := HL.out; omega, (Below.heap_setCell w3 _ _ _ (by simp)).trans HN3.out, by rw [set_blk HN4.out, Nat.min_eq_left (show Z ≤ 64 by omega), hs2, ho2, cl_set, HM.out], hb3.setCell (p := ⟨w.heap.size + 1, X, none⟩) (by simp) _⟩
            case measure => simp [intOf]; omega
          · obtain rfl : j = n := by have := HL.out; omega
            rw [← HL.out, turnI_row] at hb1
            rw [← HL.out, movI_row l m i (by omega)] at hb2
            have HBK1 := Lib.hid hb1
            have HBK2 := Lib.hid hb2
            clear hb1 hb2
            go_wp2
            go_roundw
            case rel => exact ⟨i + 1, by go_num, by have := HL.out; omega, HS'.out, HBK1.out, HBK2.out, hb⟩
            case measure => simp [intOf]; omega
    · obtain rfl : i = n := by have := HL.out; omega
      have hkn : Known l := ⟨by rw [HL.out]; exact hn, (small_iff l).1 (by rw [HL.out]; exact HK.out)⟩
      have HC1 := Lib.hid (check_turned hkn)
      have HC2 := Lib.hid (check_moved (m := m) hkn (by rw [HL.out]; exact hmn))
      have hT : wr.heap[w.heap.size]? = some (.cells (cl (turnedN l)) 23 (0, 0)) := by have := HB1.out; rwa [← HL.out, turnI_all] at this
      have hM : wr.heap[w.heap.size + 1]? = some (.cells (cl (movI l m l.length 0)) 23 (0, 0)) := by have := HB2.out; rwa [← HL.out] at this
      have HT := Lib.hid (rd_blk hT (turnedN_len l |>.trans HL.out) (by omega))
      have HM := Lib.hid (rd_blk hM (movI_len l m _ _ |>.trans HL.out) (by omega))
      have hTf := turned_fit (l := l) (by rw [HL.out]; omega)
      have hMf := movI_fit l m l.length 0 (by rw [HL.out]; omega)
      have hr := h.at_size (Nat.le_refl _) hb
      clear hkn hT hM HB1 HB2
      go_wp2_with fail
      refine (check_any A i c0 l wr hr hf).mono ?_
      rintro e w1 ⟨rfl, b1⟩
      go_wp2_with fail
      refine (alive_any _).mono ?_
      rintro e w2 ⟨rfl, b2⟩
      have b12 := Below.then b1 b2
      have hee : (checkN l == checkN l) = true := by simp
      go_wp2_with fail
      refine (check_now _ i i (turnedN l) w2 (checkN l) (HT.out.at_size (Nat.le_refl _) b12) hTf HC1.out).mono ?_
      rintro e w3 ⟨rfl, b3⟩
      have b13 := Below.then b12 b3
      go_wp2_with fail
      refine (check_now _ i i (movI l m l.length 0) w3 (checkN l) (HM.out.at_size (Nat.le_refl _) b13) hMf HC2.out).mono ?_
      rintro e w4 ⟨rfl, b4⟩
      generalize checkN l = y at *
      go_wp2_with fail
      go_ret
      exact ⟨rfl, Below.then hb (Below.then b13 b4)⟩

theorem u8_nat {a : Int} (h : (Lit.int .u8 a).wf = true) : ∃ b : Nat, a = b ∧ b < 256 := by
  have hb : IntKind.u8.min ≤ a ∧ a ≤ IntKind.u8.max := by simpa [Lit.wf] using h
  have e1 : IntKind.u8.min = 0 := by decide
  have e2 : IntKind.u8.max = 255 := by decide
  rw [e1, e2] at hb
  exact ⟨a.toNat, by omega, by omega⟩

set_option maxRecDepth 100000 in
theorem lifted (os : Os) (started : os.Started) (H : Type) (enc : TypeId × Value → H) :
    ReturnsInHanded {} Try.checked os 6 .any (Rows.ordersTurnedSpec.pre6 enc Try.prog Try.f6 Rows.ordersTurnedRow.domain false) (Rows.ordersTurnedSpec.post enc Try.prog Try.f6 false true false false) := by
  refine returnsInHanded_of_change (C := Try.checked) own started (by kernel_rfl) Try.func6
    (ChangeSpec.witness6 (enc := enc) (C := Try.checked) false ⟨#[], #[.slice none 0 0, .int .u8 0], []⟩ 8 (by kernel_rfl) (by kernel_rfl) (by kernel_rfl) (by kernel_rfl)) ?_
  intro W base args ds gs before hval0 hW hcnd _
  have hval : ∀ (j : Nat) t v, Try.f6.params[j]? = some t → args[j]? = some v → Value.okWide Try.prog W .any base t v := hval0
  have hW' := hW
  obtain ⟨p, q, hA0, hV, rfl, hfz, hnd⟩ := hW
  have hA : DataW.TrodAll enc Try.prog W 0 (fun _ => true) true Try.f6.params.toList args.toList ds p := hA0
  rw [Try.params6] at hA hval
  obtain ⟨v0, vs0, d0, ds0, p0, q0, hargs, rfl, rfl, h0, r0⟩ := trodAll_cons hA
  obtain ⟨v1, vs1, d1, ds1, p1, q1, rfl, rfl, rfl, h1, r1⟩ := trodAll_cons r0
  obtain ⟨rfl, rfl, rfl⟩ := trodAll_nil r1
  obtain rfl : args = #[v0, v1] := by cases args; simp_all
  obtain ⟨rfl, rfl⟩ := trodVars_none hV
  obtain ⟨a0, len0, cap0, rfl⟩ := okWide_slice Try.underlying22 (hval 0 22 v0 rfl rfl)
  have lt0 : ∀ x ∈ p0, x.block < W.heap.size := by obtain ⟨m, hm⟩ := h0; exact DataW.trod_lt m _ _ _ hm
  obtain ⟨us, hr, hu⟩ := opened_nums Try.underlying22 Try.underlying23 (by kernel_rfl) h0
  obtain ⟨x1, rfl, rfl, rfl, w1⟩ := open_int Try.underlying5 (hval 1 5 v1 rfl rfl) h1
  clear hA0 hval0
  have w1' := w1
  obtain ⟨y1, rfl, hy1⟩ := u8_nat w1
  refine (walk a0 len0 cap0 us y1 W hr hu hy1).mono fun e W' ⟨he, bel⟩ => ?_
  subst he
  exact ⟨_, rfl, _, _, _, [], _, [], hW', trodAll_mk1 (shut_bool Try.underlying4 _), (trodAll_cons_mk (Below.trod laidOut (by kernel_rfl) (of_decide_eq_true (by kernel_rfl)) h0 bel lt0) (trodAll_cons_mk (shut_int Try.underlying5 w1') trodAll_mk0)), rfl, bel.frame _, fun h => by cases h⟩

theorem over : Rows.ordersTurnedRow.holds Try.pinned (OpenSpec.ofChange Rows.ordersTurnedSpec) :=
  OpenClaim.holds_of_wide 6 Try.f6 rfl rfl rfl rfl rfl rfl rfl ⟨rfl, rfl, rfl, rfl, rfl⟩ rfl rfl rfl rfl rfl (by kernel_rfl) Try.func6 (by kernel_rfl)
    (of_decide_eq_true (by kernel_rfl)) (by unfold Func.isWrapper; first | (rw [if_pos (by decide +kernel)]; kernel_rfl) | (rw [if_neg (by decide +kernel)]; exact ⟨rfl, rfl⟩))
    (fun os started H enc _ => lifted os started H enc)

theorem proved : Rows.OrdersTurnedSaid := over
#print axioms proved

end Go.Proofs.Ytnoigcaapnjcgaa.ordersTurned
