/- Proved: whatever the nodes, TypesPut answers true: a body below one more node may be, as long as it is not too deep, nor has too many nodes, and is one deeper; else it is refused by ErrLimit; the argument stays as it was. No condition. -/
import Derived.Test.YtfcjnbfbnffcjaaNdLaw
import Derived.Test.YtfcjnbfbnffcjaaOpenNd
import Derived.Test.YtfcjnbfbnffcjaaRows
namespace Go.Proofs.Ytfcjnbfbnffcjaa.typesPut
open Go.ChangeShapes Go.WideShapes Go.ChangeAt Go.RowKit

theorem own : ownKnob Try.prog.godebug = none := by kernel_rfl
theorem laidOut : laidOutB Try.prog = true := by kernel_rfl

theorem u8_nat {a : Int} (h : (Lit.int .u8 a).wf = true) : ∃ x : Nat, a = (x : Int) ∧ x < 256 := by
  obtain ⟨h1, h2⟩ := u8_fits h
  exact ⟨a.toNat, by omega, by omega⟩

set_option maxRecDepth 100000 in
set_option maxHeartbeats 4000000 in
theorem walk (A : Option Addr) (n c : Nat) (l : List Nd) (z : Nat) (w : World) (h : Ns w w.heap.size A n c l) (hf : ∀ x ∈ l, x.Fits) (hz : z < 256) :
    Calls Try.prog 7 #[.slice A n c, .int .u8 (z : Int)] w fun e w' => e = .returned (.bool true) ∧ Below w.heap.size w w' := by
  have HL := Lib.hid h.len
  have hchk := check_any A n c l w h hf
  by_cases h200 : 200 < n
  · have h200' : (200 : Int) < (n : Int) := by omega
    clear h hf hchk
    go_enter Try.func7, Try.ntmps7
    go_wp2_with fail
    refine (alive_any _).mono ?_
    rintro e w1 ⟨rfl, hb⟩
    go_wp2_with fail
    go_ret
    exact ⟨rfl, hb⟩
  have h200' : ¬ (200 : Int) < (n : Int) := by omega
  by_cases hc : checkB l = 0
  case neg =>
    generalize checkB l = r at *
    have hr : ((r : Int) != 0) = true := by simp; omega
    clear h hf hc
    go_enter Try.func7, Try.ntmps7
    go_wp2_with fail
    refine hchk.mono ?_
    rintro e w1 ⟨rfl, hb⟩
    go_wp2_with fail
    refine (alive_any _).mono ?_
    rintro e w2 ⟨rfl, hb2⟩
    have hb3 := hb.trans (hb2.mono hb.size)
    go_wp2_with fail
    go_ret
    exact ⟨rfl, hb3⟩
  rw [hc] at hchk
  have HFL := Lib.hid hf
  obtain ⟨D, hD0⟩ : ∃ D, D = F.top (depB l) := ⟨_, rfl⟩
  have HD := Lib.hid hD0.symm
  have hD16 : D ≤ 16 := by
    obtain ⟨h1, h2, f, rfl, n1, wf, ht⟩ := body_of hc
    obtain ⟨_, e⟩ := body_is n1 wf ht h2
    have hne : f ≠ .nil := by rintro rfl; simp [F.num] at n1
    have := F.top_deps f 0 hne
    rw [Nat.zero_add, Nat.zero_add] at this
    rw [hD0, e, this]
    exact ht
  have HC := Lib.hid hc
  have hmod : ((z : Int) % 4) = ((z % 4 : Nat) : Int) := by omega
  have hr : z % 4 = 0 ∨ z % 4 = 1 ∨ z % 4 = 2 ∨ z % 4 = 3 := by omega
  clear hf hc hD0
  go_enter Try.func7, Try.ntmps7
  go_wp2_with fail
  refine hchk.mono ?_
  rintro e w1 ⟨rfl, hb⟩
  have HB := Lib.hid (h.at_size (Nat.le_refl _) hb)
  clear h hchk
  rcases hr with hr | hr | hr | hr <;> rw [hr] at hmod
  · have hal : Below w1.heap.size w1 (w1.alloc oRef) := (Below.refl _ _).alloc (Nat.le_refl _) _
    have HO := Lib.hid (own_of_blk (l := [nRef]) (n := 1) (heap_alloc_new w1 oRef) (Nat.le_refl _) rfl rfl (by unfold maxLen; omega))
    have HB0 := HB
    have hbo := HB.out.at_size (Nat.le_refl _) hal
    go_wp2_with (refine wpList_append_nd rfl (.tmp 22) (.tmp 23) rfl w1.heap.size _ 1 [nRef] rfl HO.out _ A n c l rfl hbo (by omega) hal.size ?_; intro A1 k c1 u1 HK HA)
    all_goals (
      clear hbo
      have hgr := hal.grown HA.out.grown hal.size fun j hj => (HO.out.lt j hj).1
      have hL : Ns u1 u1.heap.size A1 k c1 ([nRef] ++ l) := Rs.of_own ndc_len (by decide) HA.out.own
      have HB := Lib.hid (HB0.out.at_size (Nat.le_refl _) hgr)
      have hb := hb.trans (hgr.mono hb.size)
      clear hgr HA HO hal HB0
      have hlen : ([nRef] ++ l).length = k := by have := HL.out; have := HK.out; simp only [List.length_append, List.length_cons, List.length_nil]; omega
      have HFF : Hid (∀ y ∈ [nRef] ++ l, y.Fits) := Lib.hid (fits_app (fits_cons fits_ref fits_nil) HFL.out)
      have hput := put_facts (L := [nRef] ++ l) HC.out put0
      have HLEN := Lib.hid hlen
      by_cases h128 : k ≤ 128 <;> first | (exfalso; omega) | skip)
    · by_cases hD : D < 16
      · obtain ⟨p1, p2⟩ := hput.2.2 (by rw [HLEN.out]; exact h128) (by rw [HD.out]; exact hD)
        have P1 := Lib.hid p1
        have P2 := Lib.hid p2
        have h128' : decide ((k : Int) ≤ 128) = true := by simp; omega
        have hD' : decide ((D : Int) < 16) = true := by simp; omega
        have hwD : IntKind.i64.wrap ((D : Int) + 1) = (D : Int) + 1 := by rw [IntKind.wrap_i64]; omega
        clear hput p1 p2 hlen
        go_wp2_with fail
        refine (deep_lit _ _ _ l D _ HB.out HFL.out HD.out).mono ?_
        rintro e v1 ⟨rfl, hv⟩
        have hL := hL.at_size (Nat.le_refl _) hv
        have HB := Lib.hid (HB.out.at_size (Nat.le_refl _) hv)
        have hb := hb.trans (hv.mono hb.size)
        clear hv
        go_wp2_with fail
        refine (check_lit _ _ _ _ 0 _ hL HFF.out P1.out).mono ?_
        rintro e v2 ⟨rfl, hv⟩
        have hL := hL.at_size (Nat.le_refl _) hv
        have HB := Lib.hid (HB.out.at_size (Nat.le_refl _) hv)
        have hb := hb.trans (hv.mono hb.size)
        clear hv
        go_wp2_with fail
        refine (alive_any _).mono ?_
        rintro e v3 ⟨rfl, hv⟩
        have hL := hL.at_size (Nat.le_refl _) hv
        have HB := Lib.hid (HB.out.at_size (Nat.le_refl _) hv)
        have hb := hb.trans (hv.mono hb.size)
        clear hv
        go_wp2_with fail
        refine (deep_lit _ _ _ _ (D + 1) _ hL HFF.out (by rw [P2.out, HD.out])).mono ?_
        rintro e v4 ⟨rfl, hv⟩
        have HB := Lib.hid (HB.out.at_size (Nat.le_refl _) hv)
        have hb := hb.trans (hv.mono hb.size)
        clear hv
        go_wp2_with fail
        refine (deep_lit _ _ _ l D _ HB.out HFL.out HD.out).mono ?_
        rintro e v5 ⟨rfl, hv⟩
        have hb := hb.trans (hv.mono hb.size)
        have heq : (((D + 1 : Nat) : Int) == (D : Int) + 1) = true := by simp
        clear hv
        go_wp2_with fail
        go_ret
        exact ⟨rfl, hb⟩
      · have P1 := Lib.hid (hput.2.1 (by rw [HLEN.out]; exact h128) (by rw [HD.out]; omega))
        have h128' : decide ((k : Int) ≤ 128) = true := by simp; omega
        have hD' : decide ((D : Int) < 16) = false := by simp; omega
        clear hput hlen
        go_wp2_with fail
        refine (deep_lit _ _ _ l D _ HB.out HFL.out HD.out).mono ?_
        rintro e v1 ⟨rfl, hv⟩
        have hL := hL.at_size (Nat.le_refl _) hv
        have hb := hb.trans (hv.mono hb.size)
        clear hv
        go_wp2_with fail
        refine (check_lit _ _ _ _ 3 _ hL HFF.out P1.out).mono ?_
        rintro e v2 ⟨rfl, hv⟩
        have hb := hb.trans (hv.mono hb.size)
        clear hv
        go_wp2_with fail
        refine (alive_any _).mono ?_
        rintro e v3 ⟨rfl, hv⟩
        have hb := hb.trans (hv.mono hb.size)
        clear hv
        go_wp2_with fail
        go_ret
        exact ⟨rfl, hb⟩
    · have P1 := Lib.hid (hput.1 (by rw [HLEN.out]; omega))
      have h128' : decide ((k : Int) ≤ 128) = false := by simp; omega
      clear hput hlen
      go_wp2_with fail
      refine (check_lit _ _ _ _ 3 _ hL HFF.out P1.out).mono ?_
      rintro e v2 ⟨rfl, hv⟩
      have hb := hb.trans (hv.mono hb.size)
      clear hv
      go_wp2_with fail
      refine (alive_any _).mono ?_
      rintro e v3 ⟨rfl, hv⟩
      have hb := hb.trans (hv.mono hb.size)
      clear hv
      go_wp2_with fail
      go_ret
      exact ⟨rfl, hb⟩
  · go_wp2_with fail
    refine (whole_any _).mono ?_
    rintro e w2 ⟨rfl, hv⟩
    have HB := Lib.hid (HB.out.at_size (Nat.le_refl _) hv)
    have hb := hb.trans (hv.mono hb.size)
    clear hv
    have hal : Below w2.heap.size w2 (w2.alloc oTup) := (Below.refl _ _).alloc (Nat.le_refl _) _
    have HO := Lib.hid (own_of_blk (l := [nTup, nInt]) (n := 2) (heap_alloc_new w2 oTup) (Nat.le_refl _) rfl rfl (by unfold maxLen; omega))
    have HB0 := HB
    have hbo := HB.out.at_size (Nat.le_refl _) hal
    go_wp2_with (refine wpList_append_nd rfl (.tmp 29) (.tmp 30) rfl w2.heap.size _ 2 [nTup, nInt] rfl HO.out _ A n c l rfl hbo (by omega) hal.size ?_; intro A1 k c1 u1 HK HA)
    all_goals (
      clear hbo
      have hgr := hal.grown HA.out.grown hal.size fun j hj => (HO.out.lt j hj).1
      have hL : Ns u1 u1.heap.size A1 k c1 ([nTup, nInt] ++ l) := Rs.of_own ndc_len (by decide) HA.out.own
      have HB := Lib.hid (HB0.out.at_size (Nat.le_refl _) hgr)
      have hb := hb.trans (hgr.mono hb.size)
      clear hgr HA HO hal HB0
      have hlen : ([nTup, nInt] ++ l).length = k := by have := HL.out; have := HK.out; simp only [List.length_append, List.length_cons, List.length_nil]; omega
      have HFF : Hid (∀ y ∈ [nTup, nInt] ++ l, y.Fits) := Lib.hid (fits_app (fits_cons fits_tup (fits_cons fits_int fits_nil)) HFL.out)
      have hput := put_facts (L := [nTup, nInt] ++ l) HC.out put1
      have HLEN := Lib.hid hlen
      by_cases h128 : k ≤ 128 <;> first | (exfalso; omega) | skip)
    · by_cases hD : D < 16
      · obtain ⟨p1, p2⟩ := hput.2.2 (by rw [HLEN.out]; exact h128) (by rw [HD.out]; exact hD)
        have P1 := Lib.hid p1
        have P2 := Lib.hid p2
        have h128' : decide ((k : Int) ≤ 128) = true := by simp; omega
        have hD' : decide ((D : Int) < 16) = true := by simp; omega
        have hwD : IntKind.i64.wrap ((D : Int) + 1) = (D : Int) + 1 := by rw [IntKind.wrap_i64]; omega
        clear hput p1 p2 hlen
        go_wp2_with fail
        refine (deep_lit _ _ _ l D _ HB.out HFL.out HD.out).mono ?_
        rintro e v1 ⟨rfl, hv⟩
        have hL := hL.at_size (Nat.le_refl _) hv
        have HB := Lib.hid (HB.out.at_size (Nat.le_refl _) hv)
        have hb := hb.trans (hv.mono hb.size)
        clear hv
        go_wp2_with fail
        refine (check_lit _ _ _ _ 0 _ hL HFF.out P1.out).mono ?_
        rintro e v2 ⟨rfl, hv⟩
        have hL := hL.at_size (Nat.le_refl _) hv
        have HB := Lib.hid (HB.out.at_size (Nat.le_refl _) hv)
        have hb := hb.trans (hv.mono hb.size)
        clear hv
        go_wp2_with fail
        refine (alive_any _).mono ?_
        rintro e v3 ⟨rfl, hv⟩
        have hL := hL.at_size (Nat.le_refl _) hv
        have HB := Lib.hid (HB.out.at_size (Nat.le_refl _) hv)
        have hb := hb.trans (hv.mono hb.size)
        clear hv
        go_wp2_with fail
        refine (deep_lit _ _ _ _ (D + 1) _ hL HFF.out (by rw [P2.out, HD.out])).mono ?_
        rintro e v4 ⟨rfl, hv⟩
        have HB := Lib.hid (HB.out.at_size (Nat.le_refl _) hv)
        have hb := hb.trans (hv.mono hb.size)
        clear hv
        go_wp2_with fail
        refine (deep_lit _ _ _ l D _ HB.out HFL.out HD.out).mono ?_
        rintro e v5 ⟨rfl, hv⟩
        have hb := hb.trans (hv.mono hb.size)
        have heq : (((D + 1 : Nat) : Int) == (D : Int) + 1) = true := by simp
        clear hv
        go_wp2_with fail
        go_ret
        exact ⟨rfl, hb⟩
      · have P1 := Lib.hid (hput.2.1 (by rw [HLEN.out]; exact h128) (by rw [HD.out]; omega))
        have h128' : decide ((k : Int) ≤ 128) = true := by simp; omega
        have hD' : decide ((D : Int) < 16) = false := by simp; omega
        clear hput hlen
        go_wp2_with fail
        refine (deep_lit _ _ _ l D _ HB.out HFL.out HD.out).mono ?_
        rintro e v1 ⟨rfl, hv⟩
        have hL := hL.at_size (Nat.le_refl _) hv
        have hb := hb.trans (hv.mono hb.size)
        clear hv
        go_wp2_with fail
        refine (check_lit _ _ _ _ 3 _ hL HFF.out P1.out).mono ?_
        rintro e v2 ⟨rfl, hv⟩
        have hb := hb.trans (hv.mono hb.size)
        clear hv
        go_wp2_with fail
        refine (alive_any _).mono ?_
        rintro e v3 ⟨rfl, hv⟩
        have hb := hb.trans (hv.mono hb.size)
        clear hv
        go_wp2_with fail
        go_ret
        exact ⟨rfl, hb⟩
    · have P1 := Lib.hid (hput.1 (by rw [HLEN.out]; omega))
      have h128' : decide ((k : Int) ≤ 128) = false := by simp; omega
      clear hput hlen
      go_wp2_with fail
      refine (check_lit _ _ _ _ 3 _ hL HFF.out P1.out).mono ?_
      rintro e v2 ⟨rfl, hv⟩
      have hb := hb.trans (hv.mono hb.size)
      clear hv
      go_wp2_with fail
      refine (alive_any _).mono ?_
      rintro e v3 ⟨rfl, hv⟩
      have hb := hb.trans (hv.mono hb.size)
      clear hv
      go_wp2_with fail
      go_ret
      exact ⟨rfl, hb⟩
  · go_wp2_with fail
    refine (fun_any _).mono ?_
    rintro e w2 ⟨rfl, hv⟩
    have HB := Lib.hid (HB.out.at_size (Nat.le_refl _) hv)
    have hb := hb.trans (hv.mono hb.size)
    clear hv
    go_wp2_with fail
    refine (whole_any _).mono ?_
    rintro e w3 ⟨rfl, hv⟩
    have HB := Lib.hid (HB.out.at_size (Nat.le_refl _) hv)
    have hb := hb.trans (hv.mono hb.size)
    clear hv
    have hal : Below w3.heap.size w3 (w3.alloc oFi) := (Below.refl _ _).alloc (Nat.le_refl _) _
    have HO := Lib.hid (own_of_blk (l := [nFun, nInt]) (n := 2) (heap_alloc_new w3 oFi) (Nat.le_refl _) rfl rfl (by unfold maxLen; omega))
    have HB0 := HB
    have hbo := HB.out.at_size (Nat.le_refl _) hal
    go_wp2_with (refine wpList_append_nd rfl (.tmp 36) (.tmp 37) rfl w3.heap.size _ 2 [nFun, nInt] rfl HO.out _ A n c l rfl hbo (by omega) hal.size ?_; intro A1 k c1 u1 HK HA)
    all_goals (
      clear hbo
      have hgr := hal.grown HA.out.grown hal.size fun j hj => (HO.out.lt j hj).1
      have hL : Ns u1 u1.heap.size A1 k c1 ([nFun, nInt] ++ l) := Rs.of_own ndc_len (by decide) HA.out.own
      have HB := Lib.hid (HB0.out.at_size (Nat.le_refl _) hgr)
      have hb := hb.trans (hgr.mono hb.size)
      clear hgr HA HO hal HB0
      have hlen : ([nFun, nInt] ++ l).length = k := by have := HL.out; have := HK.out; simp only [List.length_append, List.length_cons, List.length_nil]; omega
      have HFF : Hid (∀ y ∈ [nFun, nInt] ++ l, y.Fits) := Lib.hid (fits_app (fits_cons fits_fun (fits_cons fits_int fits_nil)) HFL.out)
      have hput := put_facts (L := [nFun, nInt] ++ l) HC.out put2
      have HLEN := Lib.hid hlen
      by_cases h128 : k ≤ 128 <;> first | (exfalso; omega) | skip)
    · by_cases hD : D < 16
      · obtain ⟨p1, p2⟩ := hput.2.2 (by rw [HLEN.out]; exact h128) (by rw [HD.out]; exact hD)
        have P1 := Lib.hid p1
        have P2 := Lib.hid p2
        have h128' : decide ((k : Int) ≤ 128) = true := by simp; omega
        have hD' : decide ((D : Int) < 16) = true := by simp; omega
        have hwD : IntKind.i64.wrap ((D : Int) + 1) = (D : Int) + 1 := by rw [IntKind.wrap_i64]; omega
        clear hput p1 p2 hlen
        go_wp2_with fail
        refine (deep_lit _ _ _ l D _ HB.out HFL.out HD.out).mono ?_
        rintro e v1 ⟨rfl, hv⟩
        have hL := hL.at_size (Nat.le_refl _) hv
        have HB := Lib.hid (HB.out.at_size (Nat.le_refl _) hv)
        have hb := hb.trans (hv.mono hb.size)
        clear hv
        go_wp2_with fail
        refine (check_lit _ _ _ _ 0 _ hL HFF.out P1.out).mono ?_
        rintro e v2 ⟨rfl, hv⟩
        have hL := hL.at_size (Nat.le_refl _) hv
        have HB := Lib.hid (HB.out.at_size (Nat.le_refl _) hv)
        have hb := hb.trans (hv.mono hb.size)
        clear hv
        go_wp2_with fail
        refine (alive_any _).mono ?_
        rintro e v3 ⟨rfl, hv⟩
        have hL := hL.at_size (Nat.le_refl _) hv
        have HB := Lib.hid (HB.out.at_size (Nat.le_refl _) hv)
        have hb := hb.trans (hv.mono hb.size)
        clear hv
        go_wp2_with fail
        refine (deep_lit _ _ _ _ (D + 1) _ hL HFF.out (by rw [P2.out, HD.out])).mono ?_
        rintro e v4 ⟨rfl, hv⟩
        have HB := Lib.hid (HB.out.at_size (Nat.le_refl _) hv)
        have hb := hb.trans (hv.mono hb.size)
        clear hv
        go_wp2_with fail
        refine (deep_lit _ _ _ l D _ HB.out HFL.out HD.out).mono ?_
        rintro e v5 ⟨rfl, hv⟩
        have hb := hb.trans (hv.mono hb.size)
        have heq : (((D + 1 : Nat) : Int) == (D : Int) + 1) = true := by simp
        clear hv
        go_wp2_with fail
        go_ret
        exact ⟨rfl, hb⟩
      · have P1 := Lib.hid (hput.2.1 (by rw [HLEN.out]; exact h128) (by rw [HD.out]; omega))
        have h128' : decide ((k : Int) ≤ 128) = true := by simp; omega
        have hD' : decide ((D : Int) < 16) = false := by simp; omega
        clear hput hlen
        go_wp2_with fail
        refine (deep_lit _ _ _ l D _ HB.out HFL.out HD.out).mono ?_
        rintro e v1 ⟨rfl, hv⟩
        have hL := hL.at_size (Nat.le_refl _) hv
        have hb := hb.trans (hv.mono hb.size)
        clear hv
        go_wp2_with fail
        refine (check_lit _ _ _ _ 3 _ hL HFF.out P1.out).mono ?_
        rintro e v2 ⟨rfl, hv⟩
        have hb := hb.trans (hv.mono hb.size)
        clear hv
        go_wp2_with fail
        refine (alive_any _).mono ?_
        rintro e v3 ⟨rfl, hv⟩
        have hb := hb.trans (hv.mono hb.size)
        clear hv
        go_wp2_with fail
        go_ret
        exact ⟨rfl, hb⟩
    · have P1 := Lib.hid (hput.1 (by rw [HLEN.out]; omega))
      have h128' : decide ((k : Int) ≤ 128) = false := by simp; omega
      clear hput hlen
      go_wp2_with fail
      refine (check_lit _ _ _ _ 3 _ hL HFF.out P1.out).mono ?_
      rintro e v2 ⟨rfl, hv⟩
      have hb := hb.trans (hv.mono hb.size)
      clear hv
      go_wp2_with fail
      refine (alive_any _).mono ?_
      rintro e v3 ⟨rfl, hv⟩
      have hb := hb.trans (hv.mono hb.size)
      clear hv
      go_wp2_with fail
      go_ret
      exact ⟨rfl, hb⟩
  · go_wp2_with fail
    refine (fun_any _).mono ?_
    rintro e w2 ⟨rfl, hv⟩
    have HB := Lib.hid (HB.out.at_size (Nat.le_refl _) hv)
    have hb := hb.trans (hv.mono hb.size)
    clear hv
    have hal : Below w2.heap.size w2 (w2.alloc oF) := (Below.refl _ _).alloc (Nat.le_refl _) _
    have HO := Lib.hid (own_of_blk (l := [nFun]) (n := 1) (heap_alloc_new w2 oF) (Nat.le_refl _) rfl rfl (by unfold maxLen; omega))
    have HB0 := HB
    have hbo := HB.out.at_size (Nat.le_refl _) hal
    go_wp2_with (refine wpList_append_nd rfl (.tmp 42) (.tmp 43) rfl w2.heap.size _ 1 [nFun] rfl HO.out _ A n c l rfl hbo (by omega) hal.size ?_; intro A0 k0 c0 u0 HK0 HA0)
    have hgr0 := hal.grown HA0.out.grown hal.size fun j hj => (HO.out.lt j hj).1
    have hsz0 := hgr0.size
    clear hbo
    refine (whole_any _).mono ?_
    rintro e w3 ⟨rfl, hv⟩
    have ho3 := own_same HA0.out.own fun q hq => hv.block q (HA0.out.own.lt q hq).2
    have hgr1 := hgr0.trans (hv.mono hgr0.size)
    clear hgr0
    have hsz1 := hgr1.size
    have hnw := Rs.of_blk (l := [nInt]) (n := 1) (c := 1) ndc_len (heap_alloc_new w3 oOne) ⟨[], rfl⟩ rfl (Nat.le_refl _) (by unfold maxLen; omega)
    have hal3 : Below w2.heap.size w2 (w3.alloc oOne) := hgr1.alloc hgr1.size _
    have HO3 := Lib.hid (own_same (w' := w3.alloc oOne) ho3 fun q hq => Below.heap_alloc w3 oOne q (ho3.lt q hq).2)
    clear ho3
    go_wp2_with (refine wpList_append_nd rfl (.tmp 44) (.tmp 46) rfl w2.heap.size _ k0 ([nFun] ++ l) rfl HO3.out _ _ 1 1 [nInt] rfl hnw (by have := HK0.out; omega) hal3.size ?_; intro A1 k c1 u1 HK HA)
    all_goals (
      have hgr := hal3.grown HA.out.grown hal3.size fun j hj => (HO3.out.lt j hj).1
      have hL : Ns u1 u1.heap.size A1 k c1 ([nFun] ++ l ++ [nInt]) := Rs.of_own ndc_len (by decide) HA.out.own
      have HB := Lib.hid (HB0.out.at_size (Nat.le_refl _) hgr)
      have hb := hb.trans (hgr.mono hb.size)
      clear hgr HA HO HO3 hal hal3 HB0 HA0 hgr1 hnw hv
      have HK := Lib.hid (show k = 1 + n + 1 by have := HK.out; have := HK0.out; omega)
      have hlen : ([nFun] ++ l ++ [nInt]).length = k := by have := HL.out; have := HK.out; simp only [List.length_append, List.length_cons, List.length_nil]; omega
      have HFF : Hid (∀ y ∈ [nFun] ++ l ++ [nInt], y.Fits) := Lib.hid (fits_app (fits_app (fits_cons fits_fun fits_nil) HFL.out) (fits_cons fits_int fits_nil))
      have hput := put_facts (L := [nFun] ++ l ++ [nInt]) HC.out put3
      have HLEN := Lib.hid hlen
      by_cases h128 : k ≤ 128 <;> first | (exfalso; omega) | skip)
    · by_cases hD : D < 16
      · obtain ⟨p1, p2⟩ := hput.2.2 (by rw [HLEN.out]; exact h128) (by rw [HD.out]; exact hD)
        have P1 := Lib.hid p1
        have P2 := Lib.hid p2
        have h128' : decide ((k : Int) ≤ 128) = true := by simp; omega
        have hD' : decide ((D : Int) < 16) = true := by simp; omega
        have hwD : IntKind.i64.wrap ((D : Int) + 1) = (D : Int) + 1 := by rw [IntKind.wrap_i64]; omega
        clear hput p1 p2 hlen
        go_wp2_with fail
        refine (deep_lit _ _ _ l D _ HB.out HFL.out HD.out).mono ?_
        rintro e v1 ⟨rfl, hv⟩
        have hL := hL.at_size (Nat.le_refl _) hv
        have HB := Lib.hid (HB.out.at_size (Nat.le_refl _) hv)
        have hb := hb.trans (hv.mono hb.size)
        clear hv
        go_wp2_with fail
        refine (check_lit _ _ _ _ 0 _ hL HFF.out P1.out).mono ?_
        rintro e v2 ⟨rfl, hv⟩
        have hL := hL.at_size (Nat.le_refl _) hv
        have HB := Lib.hid (HB.out.at_size (Nat.le_refl _) hv)
        have hb := hb.trans (hv.mono hb.size)
        clear hv
        go_wp2_with fail
        refine (alive_any _).mono ?_
        rintro e v3 ⟨rfl, hv⟩
        have hL := hL.at_size (Nat.le_refl _) hv
        have HB := Lib.hid (HB.out.at_size (Nat.le_refl _) hv)
        have hb := hb.trans (hv.mono hb.size)
        clear hv
        go_wp2_with fail
        refine (deep_lit _ _ _ _ (D + 1) _ hL HFF.out (by rw [P2.out, HD.out])).mono ?_
        rintro e v4 ⟨rfl, hv⟩
        have HB := Lib.hid (HB.out.at_size (Nat.le_refl _) hv)
        have hb := hb.trans (hv.mono hb.size)
        clear hv
        go_wp2_with fail
        refine (deep_lit _ _ _ l D _ HB.out HFL.out HD.out).mono ?_
        rintro e v5 ⟨rfl, hv⟩
        have hb := hb.trans (hv.mono hb.size)
        have heq : (((D + 1 : Nat) : Int) == (D : Int) + 1) = true := by simp
        clear hv
        go_wp2_with fail
        go_ret
        exact ⟨rfl, hb⟩
      · have P1 := Lib.hid (hput.2.1 (by rw [HLEN.out]; exact h128) (by rw [HD.out]; omega))
        have h128' : decide ((k : Int) ≤ 128) = true := by simp; omega
        have hD' : decide ((D : Int) < 16) = false := by simp; omega
        clear hput hlen
        go_wp2_with fail
        refine (deep_lit _ _ _ l D _ HB.out HFL.out HD.out).mono ?_
        rintro e v1 ⟨rfl, hv⟩
        have hL := hL.at_size (Nat.le_refl _) hv
        have hb := hb.trans (hv.mono hb.size)
        clear hv
        go_wp2_with fail
        refine (check_lit _ _ _ _ 3 _ hL HFF.out P1.out).mono ?_
        rintro e v2 ⟨rfl, hv⟩
        have hb := hb.trans (hv.mono hb.size)
        clear hv
        go_wp2_with fail
        refine (alive_any _).mono ?_
        rintro e v3 ⟨rfl, hv⟩
        have hb := hb.trans (hv.mono hb.size)
        clear hv
        go_wp2_with fail
        go_ret
        exact ⟨rfl, hb⟩
    · have P1 := Lib.hid (hput.1 (by rw [HLEN.out]; omega))
      have h128' : decide ((k : Int) ≤ 128) = false := by simp; omega
      clear hput hlen
      go_wp2_with fail
      refine (check_lit _ _ _ _ 3 _ hL HFF.out P1.out).mono ?_
      rintro e v2 ⟨rfl, hv⟩
      have hb := hb.trans (hv.mono hb.size)
      clear hv
      go_wp2_with fail
      refine (alive_any _).mono ?_
      rintro e v3 ⟨rfl, hv⟩
      have hb := hb.trans (hv.mono hb.size)
      clear hv
      go_wp2_with fail
      go_ret
      exact ⟨rfl, hb⟩

set_option maxRecDepth 100000 in
theorem lifted (os : Os) (started : os.Started) (H : Type) (enc : TypeId × Value → H) :
    ReturnsInHanded {} Try.checked os 7 .any (Rows.typesPutSpec.pre6 enc Try.prog Try.f7 Rows.typesPutRow.domain false) (Rows.typesPutSpec.post enc Try.prog Try.f7 false true false false) := by
  refine returnsInHanded_of_change (C := Try.checked) own started (by kernel_rfl) Try.func7
    (ChangeSpec.witness6 (enc := enc) (C := Try.checked) false ⟨#[], #[.slice none 0 0, .int .u8 0], []⟩ 8 (by kernel_rfl) (by kernel_rfl) (by kernel_rfl) (by kernel_rfl)) ?_
  intro W base args ds gs before hval0 hW hcnd _
  have hval : ∀ (j : Nat) t v, Try.f7.params[j]? = some t → args[j]? = some v → Value.okWide Try.prog W .any base t v := hval0
  have hW' := hW
  obtain ⟨p, q, hA0, hV, rfl, hfz, hnd⟩ := hW
  have hA : DataW.TrodAll enc Try.prog W 0 (fun _ => true) true Try.f7.params.toList args.toList ds p := hA0
  rw [Try.params7] at hA hval
  obtain ⟨v0, vs0, d0, ds0, p0, q0, hargs, rfl, rfl, h0, r0⟩ := trodAll_cons hA
  obtain ⟨v1, vs1, d1, ds1, p1, q1, rfl, rfl, rfl, h1, r1⟩ := trodAll_cons r0
  obtain ⟨rfl, rfl, rfl⟩ := trodAll_nil r1
  obtain rfl : args = #[v0, v1] := by cases args; simp_all
  obtain ⟨rfl, rfl⟩ := trodVars_none hV
  obtain ⟨a0, len0, cap0, rfl⟩ := okWide_slice Try.underlying22 (hval 0 22 v0 rfl rfl)
  have lt0 : ∀ x ∈ p0, x.block < W.heap.size := by obtain ⟨m, hm⟩ := h0; exact DataW.trod_lt m _ _ _ hm
  obtain ⟨l0, hr0, hf0⟩ := opened_nodes h0
  obtain ⟨x1, rfl, rfl, rfl, w1⟩ := open_int Try.underlying5 (hval 1 5 v1 rfl rfl) h1
  clear hA0 hval0
  have w1' := w1
  obtain ⟨y1, rfl, hy1⟩ := u8_nat w1
  refine (walk a0 len0 cap0 l0 y1 W hr0 hf0 hy1).mono fun e W' ⟨he, bel⟩ => ?_
  subst he
  exact ⟨_, rfl, _, _, _, [], _, [], hW', trodAll_mk1 (shut_bool Try.underlying4 _), (trodAll_cons_mk (Below.trod laidOut (by kernel_rfl) (of_decide_eq_true (by kernel_rfl)) h0 bel lt0) (trodAll_cons_mk (shut_int Try.underlying5 w1') trodAll_mk0)), rfl, bel.frame _, fun h => by cases h⟩

theorem over : Rows.typesPutRow.holds Try.pinned (OpenSpec.ofChange Rows.typesPutSpec) :=
  OpenClaim.holds_of_wide 7 Try.f7 rfl rfl rfl rfl rfl rfl rfl ⟨rfl, rfl, rfl, rfl, rfl⟩ rfl rfl rfl rfl rfl (by kernel_rfl) Try.func7 (by kernel_rfl)
    (of_decide_eq_true (by kernel_rfl)) (by unfold Func.isWrapper; first | (rw [if_pos (by decide +kernel)]; kernel_rfl) | (rw [if_neg (by decide +kernel)]; exact ⟨rfl, rfl⟩))
    (fun os started H enc _ => lifted os started H enc)

theorem proved : Rows.TypesPutSaid := over
#print axioms proved

end Go.Proofs.Ytfcjnbfbnffcjaa.typesPut
