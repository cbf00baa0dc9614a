/- Proved: whatever the bytes, NumsAgain answers true: of bytes of which a number, or a text, is got its own are their beginning. No condition. -/
import Derived.Test.YtakkmmnpocbakaaAlive
import Derived.Test.YtakkmmnpocbakaaOpen
import Derived.Test.YtakkmmnpocbakaaRows
import Derived.Test.YtakkmmnpocbakaaOrder
namespace Go.Proofs.Ytakkmmnpocbakaa.numsAgain
open Go.ChangeShapes Go.WideShapes Go.ChangeAt Go.RowKit

theorem own : ownKnob Try.prog.godebug = none := by kernel_rfl
theorem laidOut : laidOutB Try.prog = true := by kernel_rfl

/-- What of a text is got. -/
theorem textL_cases (l : List UInt8) {m k : Nat} {z : Int} (hg : getL l = (m, k, z)) :
    (z = 0 ∧ ∃ (a : List UInt8) (b : Nat), textL l = (a, b, 0) ∧ b ≤ l.length ∧ l.take b = Lib.uvarint a.length ++ a) ∨ (textL l = ([], 0, 5)) ∨ (z ≠ 0 ∧ textL l = ([], 0, z)) := by
  by_cases hz : z = 0
  · subst hz
    by_cases hs : l.length - k < m
    · refine .inr (.inl ?_)
      unfold textL
      rw [hg]
      simp [hs]
    · refine .inl ⟨rfl, (l.drop k).take m, k + m, ?_, ?_, ?_⟩
      · unfold textL
        rw [hg]
        simp [hs]
      · obtain ⟨hk, ⟨r, hr⟩, _⟩ := getL_ok hg
        have : k ≤ l.length := by rw [hr, List.length_append, ← hk]; omega
        omega
      · obtain ⟨hk, ⟨r, hr⟩, _⟩ := getL_ok hg
        have h1 : k ≤ l.length := by rw [hr, List.length_append, ← hk]; omega
        have h2 : ((l.drop k).take m).length = m := by rw [List.length_take, List.length_drop]; omega
        rw [h2, List.take_add]
        congr 1
        conv => lhs; rw [hr, hk]
        exact List.take_left
  · refine .inr (.inr ⟨hz, ?_⟩)
    unfold textL
    rw [hg]
    simp [hz]

theorem take_own {l : List UInt8} {m k : Nat} (hg : getL l = (m, k, 0)) : k ≤ l.length ∧ l.take k = [] ++ Lib.uvarint (m : Int).toNat := by
  obtain ⟨hk, ⟨r, hr⟩, hm⟩ := getL_ok hg
  refine ⟨by rw [hr, List.length_append, ← hk]; omega, ?_⟩
  rw [Int.toNat_natCast, List.nil_append, hk]
  conv => lhs; rw [hr]
  exact List.take_left

set_option maxRecDepth 100000 in
set_option maxHeartbeats 4000000 in
theorem walk_ok (A : Option Addr) (n c : Nat) (l : List UInt8) (w : World) (h : Rd w w.heap.size A n c l) (hn : n ≤ 20000) (m k : Nat) (hg : getL l = (m, k, 0)) (a : List UInt8) (b : Nat) (ht : textL l = (a, b, 0)) (hbl : b ≤ l.length) (htake : l.take b = Lib.uvarint a.length ++ a) :
    Calls Try.prog 5 #[.slice A n c] w fun e w' => e = .returned (.bool true) ∧ Below w.heap.size w w' := by
  have hlen := h.len
  have hd : decide (20000 < (n : Int)) = false := by simp; omega
  have HG := Lib.hid hg
  have HT := Lib.hid ht
  obtain ⟨hk1, hcut⟩ := take_own hg
  obtain ⟨A1, n1, c1, hsl, hr1⟩ := rd_slice_h (P := Try.prog) 22 5 Try.underlying22 byte_size h (k : Int) (by omega) (by omega)
  rw [Int.toNat_natCast, hcut] at hr1
  have HM := Lib.hid (getL_ok hg).2.2
  have hk0 : decide ((k : Int) < 0) = false := by simp
  have hkn : decide (n < k) = false := by simp; omega
  clear hcut hk1
  obtain ⟨A3, n3, c3, hsl3, hr3⟩ := rd_slice_h (P := Try.prog) 22 5 Try.underlying22 byte_size h (b : Int) (by omega) (by omega)
  rw [Int.toNat_natCast, htake] at hr3
  have hal : a.length ≤ 20000 := by
    have h1 := congrArg List.length htake
    rw [List.length_take, List.length_append] at h1
    omega
  have hb0 : decide ((b : Int) < 0) = false := by simp
  have hbn : decide (n < b) = false := by simp; omega
  clear htake hbl
  have HLEN := Lib.hid hlen
  clear hg ht hlen
  go_enter Try.func5, Try.ntmps5
  go_wp2_with fail
  refine (alive_any _).mono ?_
  rintro e w1 ⟨rfl, b1⟩
  have h1 := h.at_size (Nat.le_refl _) b1
  have hr2 := hr1.at_size (Nat.le_refl _) b1
  go_wp2_with fail
  refine (get_at _ h1 HG.out).mono ?_
  rintro e w2 ⟨rfl, rfl⟩
  go_wp2_with fail
  refine wp_region_ord [0, 1, 2, 3, 4, 5, 6, 7, 8, 9, 10, 11, 12, 14, 15, 16, 13, 17, 18, 19, 20, 21, 22, 23, 24, 25, 26, 27, 28, 29, 30, 31, 32, 33, 34, 35, 36, 37, 38, 39, 40] [13, 17] (fun _ => True) (by kernel_rfl) (by kernel_rfl) (by kernel_rfl) (by kernel_rfl) (fun _ _ _ _ _ h => h) trivial ?_
  simp only [steps, List.getElem?_cons_zero, List.getElem?_cons_succ]
  repeat (first
    | (refine ord_no rfl ?_; simp only [Act.put, List.setIfInBounds_toArray, List.set_cons_zero, List.set_cons_succ])
    | (refine ord_yes (v := ?_) rfl rfl ?_ ?_; rotate_left; (focus (intro w' _; go_simp; try with_reducible rfl)); simp only [Act.put, List.setIfInBounds_toArray, List.set_cons_zero, List.set_cons_succ]))
  refine ord_hard rfl rfl (fun K hK => ?_)
  go_simp
  refine (put_any none 0 0 [] (m : Int) _ (Rd.nil _ _) (by omega) (by have := HM.out; omega) (by decide)).mono ?_
  rintro e w2 ⟨A2, n2, c2, rfl, f2⟩
  refine hK.out _ _ trivial ?_
  clear hK K
  refine ord_hard rfl rfl (fun K hK => ?_)
  go_simp
  refine (same_any _ _ _ _ _ _ _ _ _ _ f2.rd (hr2.drew.below f2.bel)).mono ?_
  rintro e w3 ⟨rfl, q3, rfl⟩
  refine hK.out _ _ trivial ?_
  clear hK K
  repeat (first
    | (refine ord_no rfl ?_; simp only [Act.put, List.setIfInBounds_toArray, List.set_cons_zero, List.set_cons_succ])
    | (refine ord_yes (v := ?_) rfl rfl ?_ ?_; rotate_left; (focus (intro w' _; go_simp; try with_reducible rfl)); simp only [Act.put, List.setIfInBounds_toArray, List.set_cons_zero, List.set_cons_succ]))
  refine ord_end ?_
  have b2 : Below w.heap.size w (w2.drewN q3) := Below.then (Below.then b1.drew f2.bel) (below_drewN _ _)
  have h2 := h.at_size (Nat.le_refl _) b2
  go_wp2_with fail
  refine (text_now (s := str a) _ h2 HT.out rfl).mono ?_
  rintro e w4 ⟨rfl, b4⟩
  have b5 := Below.then b2 b4
  have hr5 := hr3.at_size (Nat.le_refl _) b5
  go_wp2_with fail
  refine wp_region_ord [0, 1, 2, 3, 5, 6, 7, 4, 8, 9, 10] [4, 8] (fun _ => True) (by kernel_rfl) (by kernel_rfl) (by kernel_rfl) (by kernel_rfl) (fun _ _ _ _ _ h => h) trivial ?_
  simp only [steps, List.getElem?_cons_zero, List.getElem?_cons_succ]
  repeat (first
    | (refine ord_no rfl ?_; simp only [Act.put, List.setIfInBounds_toArray, List.set_cons_zero, List.set_cons_succ])
    | (refine ord_yes (v := ?_) rfl rfl ?_ ?_; rotate_left; (focus (intro w' _; go_simp; try with_reducible rfl)); simp only [Act.put, List.setIfInBounds_toArray, List.set_cons_zero, List.set_cons_succ]))
  refine ord_hard rfl rfl (fun K hK => ?_)
  go_simp
  refine (putText_any none 0 0 [] (str a) _ (Rd.nil _ _) (by rw [str_size]; omega) (by rw [str_size]; omega)).mono ?_
  rintro e w6 ⟨A6, n6, c6, rfl, f6⟩
  refine hK.out _ _ trivial ?_
  clear hK K
  refine ord_hard rfl rfl (fun K hK => ?_)
  go_simp
  have hr6 : Rd w6 w6.heap.size A6 n6 c6 (Lib.uvarint a.length ++ a) := by
    have := f6.rd
    rwa [List.nil_append, str_size, str_data] at this
  refine (same_any _ _ _ _ _ _ _ _ _ _ hr6 (hr5.drew.below f6.bel)).mono ?_
  rintro e w7 ⟨rfl, q7, rfl⟩
  refine hK.out _ _ trivial ?_
  clear hK K
  repeat (first
    | (refine ord_no rfl ?_; simp only [Act.put, List.setIfInBounds_toArray, List.set_cons_zero, List.set_cons_succ])
    | (refine ord_yes (v := ?_) rfl rfl ?_ ?_; rotate_left; (focus (intro w' _; go_simp; try with_reducible rfl)); simp only [Act.put, List.setIfInBounds_toArray, List.set_cons_zero, List.set_cons_succ]))
  refine ord_end ?_
  go_wp2_with fail
  go_ret
  exact ⟨rfl, Below.then (Below.then b5.drew f6.bel) (below_drewN _ _)⟩

set_option maxRecDepth 100000 in
set_option maxHeartbeats 4000000 in
theorem walk_short (A : Option Addr) (n c : Nat) (l : List UInt8) (w : World) (h : Rd w w.heap.size A n c l) (hn : n ≤ 20000) (m k : Nat) (hg : getL l = (m, k, 0)) (ht : textL l = ([], 0, 5)) :
    Calls Try.prog 5 #[.slice A n c] w fun e w' => e = .returned (.bool true) ∧ Below w.heap.size w w' := by
  have hlen := h.len
  have hd : decide (20000 < (n : Int)) = false := by simp; omega
  have HG := Lib.hid hg
  have HT := Lib.hid ht
  obtain ⟨hk1, hcut⟩ := take_own hg
  obtain ⟨A1, n1, c1, hsl, hr1⟩ := rd_slice_h (P := Try.prog) 22 5 Try.underlying22 byte_size h (k : Int) (by omega) (by omega)
  rw [Int.toNat_natCast, hcut] at hr1
  have HM := Lib.hid (getL_ok hg).2.2
  have hk0 : decide ((k : Int) < 0) = false := by simp
  have hkn : decide (n < k) = false := by simp; omega
  clear hcut hk1
  have HLEN := Lib.hid hlen
  clear hg ht hlen
  go_enter Try.func5, Try.ntmps5
  go_wp2_with fail
  refine (alive_any _).mono ?_
  rintro e w1 ⟨rfl, b1⟩
  have h1 := h.at_size (Nat.le_refl _) b1
  have hr2 := hr1.at_size (Nat.le_refl _) b1
  go_wp2_with fail
  refine (get_at _ h1 HG.out).mono ?_
  rintro e w2 ⟨rfl, rfl⟩
  go_wp2_with fail
  refine wp_region_ord [0, 1, 2, 3, 4, 5, 6, 7, 8, 9, 10, 11, 12, 14, 15, 16, 13, 17, 18, 19, 20, 21, 22, 23, 24, 25, 26, 27, 28, 29, 30, 31, 32, 33, 34, 35, 36, 37, 38, 39, 40] [13, 17] (fun _ => True) (by kernel_rfl) (by kernel_rfl) (by kernel_rfl) (by kernel_rfl) (fun _ _ _ _ _ h => h) trivial ?_
  simp only [steps, List.getElem?_cons_zero, List.getElem?_cons_succ]
  repeat (first
    | (refine ord_no rfl ?_; simp only [Act.put, List.setIfInBounds_toArray, List.set_cons_zero, List.set_cons_succ])
    | (refine ord_yes (v := ?_) rfl rfl ?_ ?_; rotate_left; (focus (intro w' _; go_simp; try with_reducible rfl)); simp only [Act.put, List.setIfInBounds_toArray, List.set_cons_zero, List.set_cons_succ]))
  refine ord_hard rfl rfl (fun K hK => ?_)
  go_simp
  refine (put_any none 0 0 [] (m : Int) _ (Rd.nil _ _) (by omega) (by have := HM.out; omega) (by decide)).mono ?_
  rintro e w2 ⟨A2, n2, c2, rfl, f2⟩
  refine hK.out _ _ trivial ?_
  clear hK K
  refine ord_hard rfl rfl (fun K hK => ?_)
  go_simp
  refine (same_any _ _ _ _ _ _ _ _ _ _ f2.rd (hr2.drew.below f2.bel)).mono ?_
  rintro e w3 ⟨rfl, q3, rfl⟩
  refine hK.out _ _ trivial ?_
  clear hK K
  repeat (first
    | (refine ord_no rfl ?_; simp only [Act.put, List.setIfInBounds_toArray, List.set_cons_zero, List.set_cons_succ])
    | (refine ord_yes (v := ?_) rfl rfl ?_ ?_; rotate_left; (focus (intro w' _; go_simp; try with_reducible rfl)); simp only [Act.put, List.setIfInBounds_toArray, List.set_cons_zero, List.set_cons_succ]))
  refine ord_end ?_
  have b2 : Below w.heap.size w (w2.drewN q3) := Below.then (Below.then b1.drew f2.bel) (below_drewN _ _)
  have h2 := h.at_size (Nat.le_refl _) b2
  go_wp2_with fail
  refine (text_now (s := ⟨#[]⟩) _ h2 HT.out rfl).mono ?_
  rintro e w4 ⟨rfl, b4⟩
  have b5 := Below.then b2 b4
  go_wp2_with fail
  refine wp_region_ord [0, 1, 2, 3, 5, 6, 7, 4, 8, 9, 10] [4, 8] (fun _ => True) (by kernel_rfl) (by kernel_rfl) (by kernel_rfl) (by kernel_rfl) (fun _ _ _ _ _ h => h) trivial ?_
  simp only [steps, List.getElem?_cons_zero, List.getElem?_cons_succ]
  repeat (first
    | (refine ord_no rfl ?_; simp only [Act.put, List.setIfInBounds_toArray, List.set_cons_zero, List.set_cons_succ])
    | (refine ord_yes (v := ?_) rfl rfl ?_ ?_; rotate_left; (focus (intro w' _; go_simp; try with_reducible rfl)); simp only [Act.put, List.setIfInBounds_toArray, List.set_cons_zero, List.set_cons_succ]))
  refine ord_end ?_
  go_wp2_with fail
  go_ret
  exact ⟨rfl, b5.drew⟩

set_option maxRecDepth 100000 in
set_option maxHeartbeats 4000000 in
theorem walk_err (A : Option Addr) (n c : Nat) (l : List UInt8) (w : World) (h : Rd w w.heap.size A n c l) (hn : n ≤ 20000) (z y : Int) (hz : z = 4 ∨ z = 5) (hy : y = 4 ∨ y = 5) (hg : getL l = (0, 0, z)) (ht : textL l = ([], 0, y)) :
    Calls Try.prog 5 #[.slice A n c] w fun e w' => e = .returned (.bool true) ∧ Below w.heap.size w w' := by
  have hlen := h.len
  have hd : decide (20000 < (n : Int)) = false := by simp; omega
  have HG := Lib.hid hg
  have HT := Lib.hid ht
  have hz0 : (z == 0) = false := by rcases hz with rfl | rfl <;> decide
  have hz1 : (z != 0) = true := by rcases hz with rfl | rfl <;> decide
  have HLEN := Lib.hid hlen
  clear hg ht hlen
  rcases hz with rfl | rfl
  all_goals
    rcases hy with rfl | rfl
  all_goals
    go_enter Try.func5, Try.ntmps5
    go_wp2_with fail
    refine (alive_any _).mono ?_
    rintro e w1 ⟨rfl, b1⟩
    have h1 := h.at_size (Nat.le_refl _) b1
    go_wp2_with fail
    refine (get_at _ h1 HG.out).mono ?_
    rintro e w2 ⟨rfl, rfl⟩
    go_wp2_with fail
    refine wp_region_ord [0, 1, 2, 3, 4, 5, 6, 7, 8, 9, 10, 11, 12, 14, 15, 16, 13, 17, 18, 19, 20, 21, 22, 23, 24, 25, 26, 27, 28, 29, 30, 31, 32, 33, 34, 35, 36, 37, 38, 39, 40] [13, 17] (fun _ => True) (by kernel_rfl) (by kernel_rfl) (by kernel_rfl) (by kernel_rfl) (fun _ _ _ _ _ h => h) trivial ?_
    simp only [steps, List.getElem?_cons_zero, List.getElem?_cons_succ]
    repeat (first
      | (refine ord_no rfl ?_; simp only [Act.put, List.setIfInBounds_toArray, List.set_cons_zero, List.set_cons_succ])
      | (refine ord_yes (v := ?_) rfl rfl ?_ ?_; rotate_left; (focus (intro w' _; go_simp; try with_reducible rfl)); simp only [Act.put, List.setIfInBounds_toArray, List.set_cons_zero, List.set_cons_succ]))
    refine ord_end ?_
    have b2 : Below w.heap.size w w1.drew := b1.drew
    have h2 := h.at_size (Nat.le_refl _) b2
    go_wp2_with fail
    refine (text_now (s := ⟨#[]⟩) _ h2 HT.out rfl).mono ?_
    rintro e w4 ⟨rfl, b4⟩
    have b5 := Below.then b2 b4
    go_wp2_with fail
    refine wp_region_ord [0, 1, 2, 3, 5, 6, 7, 4, 8, 9, 10] [4, 8] (fun _ => True) (by kernel_rfl) (by kernel_rfl) (by kernel_rfl) (by kernel_rfl) (fun _ _ _ _ _ h => h) trivial ?_
    simp only [steps, List.getElem?_cons_zero, List.getElem?_cons_succ]
    repeat (first
      | (refine ord_no rfl ?_; simp only [Act.put, List.setIfInBounds_toArray, List.set_cons_zero, List.set_cons_succ])
      | (refine ord_yes (v := ?_) rfl rfl ?_ ?_; rotate_left; (focus (intro w' _; go_simp; try with_reducible rfl)); simp only [Act.put, List.setIfInBounds_toArray, List.set_cons_zero, List.set_cons_succ]))
    refine ord_end ?_
    go_wp2_with fail
    go_ret
    exact ⟨rfl, b5.drew⟩

theorem walk (A : Option Addr) (n c : Nat) (l : List UInt8) (w : World) (h : Rd w w.heap.size A n c l) :
    Calls Try.prog 5 #[.slice A n c] w fun e w' => e = .returned (.bool true) ∧ Below w.heap.size w w' := by
  by_cases hn : n ≤ 20000
  · obtain ⟨m, k, z, hg⟩ : ∃ m k z, getL l = (m, k, z) := ⟨_, _, _, rfl⟩
    by_cases hz : z = 0
    · subst hz
      rcases textL_cases l hg with ⟨_, a, b, h1, h2, h3⟩ | h1 | ⟨h0, _⟩
      · exact walk_ok A n c l w h hn m k hg a b h1 h2 h3
      · exact walk_short A n c l w h hn m k hg h1
      · exact absurd rfl h0
    · obtain ⟨rfl, rfl, h45⟩ := getL_err hg hz
      rcases textL_cases l hg with ⟨h0, _⟩ | h1 | ⟨_, h1⟩
      · exact absurd h0 hz
      · exact walk_err A n c l w h hn z 5 h45 (.inr rfl) hg h1
      · exact walk_err A n c l w h hn z z h45 h45 hg h1
  · have htop := h.top
    have hcap := h.cap
    unfold maxLen at htop
    have hd : decide (20000 < (n : Int)) = true := by simp; omega
    go_enter Try.func5, Try.ntmps5
    go_wp2_with fail
    refine (alive_any _).mono ?_
    rintro e w1 ⟨rfl, b1⟩
    go_wp2_with fail
    refine (alive_any _).mono ?_
    rintro e w2 ⟨rfl, b2⟩
    go_wp2_with fail
    go_ret
    exact ⟨rfl, Below.then b1 b2⟩

set_option maxRecDepth 100000 in
theorem lifted (os : Os) (started : os.Started) (H : Type) (enc : TypeId × Value → H) :
    ReturnsInHanded {} Try.checked os 5 .any (Rows.numsAgainSpec.pre6 enc Try.prog Try.f5 Rows.numsAgainRow.domain false) (Rows.numsAgainSpec.post enc Try.prog Try.f5 false true false false) := by
  refine returnsInHanded_of_change (C := Try.checked) own started (by kernel_rfl) Try.func5
    (ChangeSpec.witness6 (enc := enc) (C := Try.checked) false ⟨#[], #[.slice none 0 0], []⟩ 8 (by kernel_rfl) (by kernel_rfl) (by kernel_rfl) (by kernel_rfl)) ?_
  intro W base args ds gs before hval0 hW hcnd _
  have hval : ∀ (j : Nat) t v, Try.f5.params[j]? = some t → args[j]? = some v → Value.okWide Try.prog W .any base t v := hval0
  have hW' := hW
  obtain ⟨p, q, hA0, hV, rfl, hfz, hnd⟩ := hW
  have hA : DataW.TrodAll enc Try.prog W 0 (fun _ => true) true Try.f5.params.toList args.toList ds p := hA0
  rw [Try.params5] at hA hval
  obtain ⟨v0, vs0, d0, ds0, p0, q0, hargs, rfl, rfl, h0, r0⟩ := trodAll_cons hA
  obtain ⟨rfl, rfl, rfl⟩ := trodAll_nil r0
  obtain rfl : args = #[v0] := by cases args; simp_all
  obtain ⟨rfl, rfl⟩ := trodVars_none hV
  obtain ⟨a0, len0, cap0, rfl⟩ := okWide_slice Try.underlying22 (hval 0 22 v0 rfl rfl)
  have lt0 : ∀ x ∈ p0, x.block < W.heap.size := by obtain ⟨m, hm⟩ := h0; exact DataW.trod_lt m _ _ _ hm
  obtain ⟨l, hr⟩ := opened_bytes Try.underlying22 Try.underlying5 (by kernel_rfl) h0
  clear hA0 hval0
  refine (walk a0 len0 cap0 l W hr).mono fun e W' ⟨he, bel⟩ => ?_
  subst he
  exact ⟨_, rfl, _, _, _, [], _, [], hW', trodAll_mk1 (shut_bool Try.underlying4 _), (trodAll_cons_mk (Below.trod laidOut (by kernel_rfl) (of_decide_eq_true (by kernel_rfl)) h0 bel lt0) trodAll_mk0), rfl, bel.frame _, fun h => by cases h⟩

theorem over : Rows.numsAgainRow.holds Try.pinned (OpenSpec.ofChange Rows.numsAgainSpec) :=
  OpenClaim.holds_of_wide 5 Try.f5 rfl rfl rfl rfl rfl rfl rfl ⟨rfl, rfl, rfl, rfl, rfl⟩ rfl rfl rfl rfl rfl (by kernel_rfl) Try.func5 (by kernel_rfl)
    (of_decide_eq_true (by kernel_rfl)) (by unfold Func.isWrapper; first | (rw [if_pos (by decide +kernel)]; kernel_rfl) | (rw [if_neg (by decide +kernel)]; exact ⟨rfl, rfl⟩))
    (fun os started H enc _ => lifted os started H enc)

theorem proved : Rows.NumsAgainSaid := over
#print axioms proved

end Go.Proofs.Ytakkmmnpocbakaa.numsAgain
