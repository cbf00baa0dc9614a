/- What the document's answer tells of one type below another one. Condition: nodes and rows can be read. -/
import Derived.Test.YtlcbcggcmmlfdaaGround
import Derived.Test.YtlcbcggcmmlfdaaRefOf
import Derived.Test.YtlcbcggcmmlfdaaRefSame
import Derived.Test.YtlcbcggcmmlfdaaLaRefCheck
import Derived.Test.YtlcbcggcmmlfdaaEfRef
namespace Go.Proofs.Ytlcbcggcmmlfdaa
open Go.RowKit

theorem laCheck_any (A : Option Addr) (n c : Nat) (l : List Nat) (x : Int) (w : World) (h : Rd La.nm w w.heap.size A n c l) (hf : La.Fit l) (hx : La.checkN l = x) :
    Calls Try.prog 74 #[.slice A n c] w fun e w' => e = .returned (.int .i64 x) ∧ Below w.heap.size w w' := by
  refine (La.refCheck_any A n c l w h hf).mono ?_
  rintro e w' ⟨y, rfl, hy, hb⟩
  rw [← hx, La.checkN_of hy]
  exact ⟨rfl, hb⟩

set_option maxRecDepth 100000 in
set_option maxHeartbeats 1000000 in
theorem refLabel_any (A : Option Addr) (n c : Nat) (rows : List Nat) (k : Int) (v : Bool) (z : Nat) (r : Bool) (w : World) (h : Rd La.nm w w.heap.size A n c rows) (hf : La.Fit rows) (hr : (!v && (soOf rows k).h1 z) = r) :
    Calls Try.prog 54 #[.slice A n c, .agg #[.bool v, .int .u64 (z : Int)]] w fun e w' => e = .returned (.bool r) ∧ Below w.heap.size w w' := by
  have HL := Lib.hid h.len
  have htop := h.top
  have hcap := h.cap
  unfold maxLen at htop
  have hal : Below w.heap.size w (w.alloc (.cells #[.bool v, .int .u64 (z : Int)] 54)) := (Below.refl _ _).alloc (Nat.le_refl _) _
  have x0 : (w.alloc (.cells #[.bool v, .int .u64 (z : Int)] 54)).cell? ⟨w.heap.size, 0, none⟩ = some (.bool v) := (cell_blk (i := 0) (heap_alloc_new w _)).trans rfl
  have x1 : (w.alloc (.cells #[.bool v, .int .u64 (z : Int)] 54)).cell? ⟨w.heap.size, 1, none⟩ = some (.int .u64 (z : Int)) := (cell_blk (i := 1) (heap_alloc_new w _)).trans rfl
  replace h := h.at_size (Nat.le_refl _) hal
  cases v with
  | true =>
    obtain rfl : r = false := by rw [← hr]; rfl
    clear hr
    go_enter Try.func54, Try.ntmps54
    go_wp2_with fail
    go_ret
    exact ⟨rfl, hal⟩
  | false =>
    obtain ⟨x, hx⟩ : ∃ x, La.checkN rows = x := ⟨_, rfl⟩
    have HX := Lib.hid hx
    have hw : IntKind.u64.wrap (n : Int) = (n : Int) := by rw [IntKind.wrap_u64]; omega
    by_cases h0 : x = 0
    · subst h0
      have hr' : r = decide ((z : Int) < (n : Int)) := by
        rw [← hr]
        unfold soOf So.h1
        simp only [if_pos hx, Bool.not_false, Bool.true_and]
        rw [← HL.out]
        simp
      subst hr'
      clear hr hx
      go_enter Try.func54, Try.ntmps54
      go_wp2_with fail
      refine (laCheck_any A n c rows 0 _ h hf HX.out).mono ?_
      rintro e w1 ⟨rfl, hv⟩
      have y1 := (hv.cell (p := ⟨w.heap.size, 1, none⟩) (World.block_lt_of_cell? _ _ x1)).trans x1
      have hb := hal.trans (hv.mono hal.size)
      clear hv hal x0 x1 h
      go_wp2_with fail
      go_ret
      exact ⟨by simp, hb⟩
    · have hne : (x == 0) = false := by simpa using h0
      obtain rfl : r = false := by
        rw [← hr]
        unfold soOf So.h1
        simp only [hx, if_neg h0]
        rfl
      clear hr hx
      go_enter Try.func54, Try.ntmps54
      go_wp2_with fail
      refine (laCheck_any A n c rows x _ h hf HX.out).mono ?_
      rintro e w1 ⟨rfl, hv⟩
      have hb := hal.trans (hv.mono hal.size)
      clear hv hal x0 x1 h
      go_wp2_with fail
      go_ret
      exact ⟨rfl, hb⟩

set_option maxRecDepth 100000 in
set_option maxHeartbeats 1000000 in
theorem refEffect_any (rows : List Nat) (k : Int) (v : Bool) (z : Nat) (hz : z < 18446744073709551616) (r : Bool) (w : World) (hr : (!v && (soOf rows k).h2 z) = r) :
    Calls Try.prog 55 #[.int .i64 k, .agg #[.bool v, .int .u64 (z : Int)]] w fun e w' => e = .returned (.bool r) ∧ Below w.heap.size w w' := by
  have hal : Below w.heap.size w (w.alloc (.cells #[.bool v, .int .u64 (z : Int)] 54)) := (Below.refl _ _).alloc (Nat.le_refl _) _
  cases v with
  | true =>
    obtain rfl : r = false := by rw [← hr]; rfl
    clear hr hz
    go_enter Try.func55, Try.ntmps55
    go_wp2_with fail
    go_ret
    exact ⟨rfl, hal⟩
  | false =>
    by_cases h0 : 0 ≤ k
    case neg =>
      obtain rfl : r = false := by
        rw [← hr]
        unfold soOf So.h2 Ef.hasE
        rw [decide_eq_false (fun h => h0 h.1)]
        rfl
      clear hr hz
      go_enter Try.func55, Try.ntmps55
      go_wp2_with fail
      go_ret
      exact ⟨rfl, hal⟩
    by_cases h1 : k ≤ 64
    case neg =>
      obtain rfl : r = false := by
        rw [← hr]
        unfold soOf So.h2 Ef.hasE
        rw [decide_eq_false (fun h => h1 h.2)]
        rfl
      clear hr hz
      go_enter Try.func55, Try.ntmps55
      go_wp2_with fail
      go_ret
      exact ⟨rfl, hal⟩
    obtain ⟨y, rfl⟩ : ∃ y : Nat, k = (y : Int) := ⟨k.toNat, by omega⟩
    have hcall := fun W => Ef.refHas_any y (by omega) W z hz
    have hr' : Ef.hasE true (Ef.topN y) z = r := by
      rw [← hr]
      unfold soOf So.h2
      simp only [if_pos (show (0 : Int) ≤ (y : Int) ∧ (y : Int) ≤ 64 from ⟨h0, h1⟩), decide_eq_true (show (0 : Int) ≤ (y : Int) ∧ (y : Int) ≤ 64 from ⟨h0, h1⟩), Int.toNat_natCast, Bool.not_false, Bool.true_and]
    rw [hr'] at hcall
    have HC := Lib.hid hcall
    clear hcall hr hr' hz
    go_enter Try.func55, Try.ntmps55
    go_wp2_with fail
    refine (HC.out _).mono ?_
    rintro e w1 ⟨rfl, rfl⟩
    go_wp2_with fail
    go_ret
    exact ⟨rfl, hal⟩

def hldB (s : Nat) (x y : Bool) : Bool := if s = 0 then x else if s = 1 then y else x && y
theorem refHolds_any (s : Nat) (x y r : Bool) (w : World) (hr : hldB s x y = r) : Calls Try.prog 34 #[.int .u8 (s : Int), .bool x, .bool y] w fun e w' => e = .returned (.bool r) ∧ w' = w := by
  subst hr
  by_cases h0 : s = 0
  · subst h0
    go_enter Try.func34, Try.ntmps34
    go_wp2
    go_ret
    exact ⟨rfl, rfl⟩
  by_cases h1 : s = 1
  · subst h1
    go_enter Try.func34, Try.ntmps34
    go_wp2
    go_ret
    exact ⟨rfl, rfl⟩
  have e0 : ((s : Int) == 0) = false := by simp; omega
  have e1 : ((s : Int) == 1) = false := by simp; omega
  have hr : hldB s x y = (x && y) := by unfold hldB; rw [if_neg h0, if_neg h1]
  rw [hr]
  clear hr h0 h1
  cases x <;> cases y
  all_goals (
    go_enter Try.func34, Try.ntmps34
    go_wp2
    go_ret
    exact ⟨rfl, rfl⟩)
theorem hld_must {s x y : Nat} {R : Nat → Nat → Bool} (hs : s ≤ 2) (hR : x = y → R x y = true ∧ R y x = true) (hA : R x y = true → R y x = true → x = y) : hldB s (R x y) (R y x) = mustB s R x y := by
  have : s = 0 ∨ s = 1 ∨ s = 2 := by omega
  rcases this with rfl | rfl | rfl
  · rfl
  · rfl
  · show (R x y && R y x) = decide (x = y)
    refine Bool.eq_iff_iff.2 ?_
    rw [Bool.and_eq_true, decide_eq_true_eq]
    exact ⟨fun h => hA h.1 h.2, hR⟩

/-- The first i spots have values. -/
def MyRel (H : Nat → Bool) (l : List Sp) (w : World) (v9 : Value) (wr : World) : Prop := ∃ i : Nat, v9 = .int .i64 (i : Int) ∧ i ≤ l.length ∧ valB H (l.take i) = true ∧ Below w.heap.size w wr

set_option maxRecDepth 100000 in
set_option maxHeartbeats 4000000 in
theorem refVals_any (A : Option Addr) (n c : Nat) (l : List Nd) (A2 : Option Addr) (n2 c2 : Nat) (rows : List Nat) (k : Int) (r : Bool) (w : World) (h : Ns w w.heap.size A n c l) (hf : ∀ x ∈ l, x.Fits) (ht : ∀ x ∈ l, x.TFits) (h2 : Rd La.nm w w.heap.size A2 n2 c2 rows) (hf2 : La.Fit rows) (hr : (soOf rows k).vals l = r) :
    Calls Try.prog 31 #[.slice A n c, .slice A2 n2 c2, .int .i64 k] w fun e w' => e = .returned (.bool r) ∧ Below w.heap.size w w' := by
  have HF := Lib.hid hf2
  have HU1 := Lib.hid (labB_u64 ht)
  have HU2 := Lib.hid (effB_u64 ht)
  have HN1 : Hid (valB (soOf rows k).h1 (labB l) = false → r = false) := Lib.hid fun e => by rw [← hr]; unfold So.vals; rw [e]; rfl
  have HN2 : Hid (valB (soOf rows k).h2 (effB l) = false → r = false) := Lib.hid fun e => by rw [← hr]; unfold So.vals; rw [e, Bool.and_false]
  have HY : Hid (valB (soOf rows k).h1 (labB l) = true → valB (soOf rows k).h2 (effB l) = true → r = true) := Lib.hid fun e1 e2 => by rw [← hr]; unfold So.vals; rw [e1, e2]; rfl
  have hof := refOf_any A n c l w h hf
  generalize labB l = ls at *
  generalize effB l = es at *
  clear h hf ht hf2 hr
  go_enter Try.func31, Try.ntmps31
  go_wp2_with fail
  refine hof.mono ?_
  rintro e w1 ⟨v, u, rfl, hT⟩
  obtain ⟨A1, c1, rfl⟩ := rs_own_form hT.o2
  obtain ⟨A3, c3, rfl⟩ := rs_own_form hT.o3
  have R1 := Lib.hid (Rs.lab hT.o2)
  have R2 := Lib.hid (Rs.lab hT.o3)
  have HR := Lib.hid (h2.at_size (Nat.le_refl _) hT.bel)
  have hb := hT.bel
  obtain ⟨kl, hkl⟩ : ∃ x, ls.length = x := ⟨_, rfl⟩
  obtain ⟨ke, hke⟩ : ∃ x, es.length = x := ⟨_, rfl⟩
  have HKL := Lib.hid hkl
  have HKE := Lib.hid hke
  rw [hkl] at R1
  rw [hke] at R2
  rw [hkl, hke]
  have HB := Lib.hid hb
  have T1 := Lib.hid R1.out.top
  have C1 := Lib.hid R1.out.cap
  have T2 := Lib.hid R2.out.top
  have C2 := Lib.hid R2.out.cap
  have b1 : kl ≤ 9223372036854775807 := by have := T1.out; have := C1.out; unfold maxLen at *; omega
  have b2 : ke ≤ 9223372036854775807 := by have := T2.out; have := C2.out; unfold maxLen at *; omega
  clear hof hT h2 hb hkl hke T1 C1 T2 C2
  go_wp2_with fail
  go_loopw [9] (fun v9 wr => MyRel (soOf rows k).h1 ls w1 v9 wr) (fun v9 _ => kl - (intOf v9).toNat)
  case atStart => exact ⟨0, rfl, by omega, rfl, Below.refl _ _⟩
  case round =>
    obtain ⟨i, rfl, hi, hvi, hb⟩ := hrel
    by_cases hlt : i < kl
    · have hi' : i < ls.length := by rw [HKL.out]; exact hlt
      obtain ⟨b, o, rfl, -, s0, s1, s2, s3, s4⟩ := spot_at (R1.out.below hb) hi'
      have hu := HU1.out _ (List.getElem_mem hi')
      have HST := Lib.hid (valB_step hi' hvi)
      have HNO := Lib.hid (fun e : okS (soOf rows k).h1 ls[i] = false => HN1.out (valB_no hi' e))
      obtain ⟨q, hq⟩ : ∃ q, okS (soOf rows k).h1 ls[i] = q := ⟨_, rfl⟩
      have hdef : okS (soOf rows k).h1 ls[i] = (!ls[i].v && (soOf rows k).h1 ls[i].z.toNat) := rfl
      rw [hq] at hdef HST HNO
      clear hq
      generalize ls[i] = x at *
      obtain ⟨xn, xp, xs, xv, xz⟩ := x
      simp only at s0 s1 s2 s3 s4 hu hdef
      obtain ⟨z, rfl, hzz⟩ := hu.nat
      rw [Int.toNat_natCast] at hdef
      have hcall := refLabel_any A2 n2 c2 rows k xv z q wr (HR.out.at_size (Nat.le_refl _) hb) HF.out hdef.symm
      have HC := Lib.hid hcall
      clear hvi hu hdef hcall hzz
      go_wp2_with fail
      refine HC.out.mono ?_
      rintro e w3 ⟨rfl, hv⟩
      have HB3 := Lib.hid (hb.trans (hv.mono hb.size))
      clear hv hb HC
      cases q with
      | true =>
        clear HNO
        go_wp2_with fail
        go_roundw
        case rel => exact ⟨i + 1, by go_num, by omega, HST.out, HB3.out⟩
        case measure => simp [intOf]; omega
      | false =>
        obtain rfl := HNO.out rfl
        have HB4 := Lib.hid (HB.out.trans (HB3.out.mono HB.out.size))
        clear HST HN1 HN2 HY HB3
        go_wp2_with fail
        go_ret
        exact ⟨rfl, HB4.out⟩
    · obtain rfl : i = kl := by have := HKL.out; omega
      rw [List.take_of_length_le (by rw [HKL.out]; exact Nat.le_refl _)] at hvi
      have HV1 := Lib.hid hvi
      have HB5 := Lib.hid hb
      obtain ⟨wo, rfl⟩ : ∃ wo, wo = wr := ⟨_, rfl⟩
      clear hvi hb hlt hi
      go_wp2
      have hdk : decide ((i : Int) < (i : Int)) = false := decide_eq_false (by omega)
      try simp only [hdk]
      clear hdk
      go_loopw [10] (fun v9 wr => MyRel (soOf rows k).h2 es wo v9 wr) (fun v9 _ => ke - (intOf v9).toNat)
      case atStart => exact ⟨0, rfl, by omega, rfl, Below.refl _ _⟩
      case round =>
        obtain ⟨j, rfl, hj, hvj, hb⟩ := hrel
        by_cases hlt : j < ke
        · have hj' : j < es.length := by rw [HKE.out]; exact hlt
          obtain ⟨b, o, rfl, -, s0, s1, s2, s3, s4⟩ := spot_at (R2.out.below (HB5.out.trans (hb.mono HB5.out.size))) hj'
          have hu := HU2.out _ (List.getElem_mem hj')
          have HST := Lib.hid (valB_step hj' hvj)
          have HNO := Lib.hid (fun e : okS (soOf rows k).h2 es[j] = false => HN2.out (valB_no hj' e))
          obtain ⟨q, hq⟩ : ∃ q, okS (soOf rows k).h2 es[j] = q := ⟨_, rfl⟩
          have hdef : okS (soOf rows k).h2 es[j] = (!es[j].v && (soOf rows k).h2 es[j].z.toNat) := rfl
          rw [hq] at hdef HST HNO
          clear hq
          generalize es[j] = x at *
          obtain ⟨xn, xp, xs, xv, xz⟩ := x
          simp only at s0 s1 s2 s3 s4 hu hdef
          obtain ⟨z, rfl, hzz⟩ := hu.nat
          rw [Int.toNat_natCast] at hdef
          have hcall := refEffect_any rows k xv z hzz q wr hdef.symm
          have HC := Lib.hid hcall
          clear hvj hu hdef hcall hzz
          go_wp2_with fail
          refine HC.out.mono ?_
          rintro e w3 ⟨rfl, hv⟩
          have HB3 := Lib.hid (hb.trans (hv.mono hb.size))
          clear hv hb HC
          cases q with
          | true =>
            clear HNO
            go_wp2_with fail
            go_roundw
            case rel => exact ⟨j + 1, by go_num, by omega, HST.out, HB3.out⟩
            case measure => simp [intOf]; omega
          | false =>
            obtain rfl := HNO.out rfl
            have HB4 := Lib.hid (HB.out.trans ((HB5.out.trans (HB3.out.mono HB5.out.size)).mono HB.out.size))
            clear HST HN1 HN2 HY HB3
            go_wp2_with fail
            go_ret
            exact ⟨rfl, HB4.out⟩
        · obtain rfl : j = ke := by have := HKE.out; omega
          rw [List.take_of_length_le (by rw [HKE.out]; exact Nat.le_refl _)] at hvj
          obtain rfl := HY.out HV1.out hvj
          have HB4 := Lib.hid (HB.out.trans ((HB5.out.trans (hb.mono HB5.out.size)).mono HB.out.size))
          clear hvj HN1 HN2 HY hb hlt hj
          go_wp2
          go_ret
          exact ⟨rfl, HB4.out⟩
end Go.Proofs.Ytlcbcggcmmlfdaa
