/- What Less tells of two senses. Condition: they can be read. -/
import Derived.Test.YtfmpecnkkbpdlaaGreatLssA
import Derived.Test.YtfmpecnkkbpdlaaGreatOfs
namespace Go.Proofs.YtfmpecnkkbpdlaaGreat
open Go.RowKit

theorem eqF_len {α : Type} {f : α → α → Bool} {l m : List α} (h : l.length ≠ m.length) : eqF f l m = false := Bool.eq_false_iff.2 fun e => h (eqF_iff.1 e).1
theorem eqF_no {α : Type} {f : α → α → Bool} {l m : List α} {i : Nat} (h : i < l.length) (h' : i < m.length) (e : f l[i] m[i] = false) : eqF f l m = false := Bool.eq_false_iff.2 fun g => by
  have := (eqF_iff.1 g).2 i h h'
  rw [e] at this
  cases this
def EqfRel {α : Type} (f : α → α → Bool) (l m : List α) (w : World) (v17 : Value) (wr : World) : Prop := ∃ i : Nat, v17 = .int .i64 (i : Int) ∧ i ≤ l.length ∧ (∀ j (h : j < l.length) (h' : j < m.length), j < i → f l[j] m[j] = true) ∧ Below w.heap.size w wr

set_option maxRecDepth 100000 in
set_option maxHeartbeats 2000000 in
theorem equalS_any (A A2 : Option Addr) (n c n2 c2 : Nat) (l m : List Sp) (w : World) (h : Rs spc 5 w w.heap.size A n c l) (h2 : Rs spc 5 w w.heap.size A2 n2 c2 m) (r : Bool) (hr : eqF samePl l m = r) :
    Calls Tryz.prog 42 #[.slice A n c, .slice A2 n2 c2, .func (.func 43) #[] #[]] w fun e w' => e = .returned (.bool r) ∧ Below w.heap.size w w' := by
  have htop := h.top
  have hcap := h.cap
  unfold maxLen at htop
  by_cases hnn : n = n2
  case neg =>
    have hne : ((n : Int) != (n2 : Int)) = true := by rw [int_ne, decide_eq_false hnn]; rfl
    obtain rfl : false = r := by rw [← hr, eqF_len (by rw [h.len, h2.len]; exact hnn)]
    clear h h2 hr hnn htop hcap
    go_enter Tryz.func42, Tryz.ntmps42
    go_wp2
    go_ret
    exact ⟨rfl, Below.refl _ _⟩
  subst hnn
  have hne : ((n : Int) != (n : Int)) = false := by rw [int_ne]; simp
  have HR := Lib.hid h
  have HR2 := Lib.hid h2
  have HL := Lib.hid h.len
  have HL2 := Lib.hid h2.len
  have HX := Lib.hid hr
  clear h h2 hr
  go_enter Tryz.func42, Tryz.ntmps42
  go_wp2
  clear hne
  go_loopw [17] (fun v17 wr => EqfRel samePl l m w v17 wr) (fun v17 _ => n - (intOf v17).toNat)
  case atStart => exact ⟨0, rfl, by omega, fun _ _ _ h => absurd h (Nat.not_lt_zero _), Below.refl _ _⟩
  case round =>
    obtain ⟨i, rfl, hi, hall, hb⟩ := hrel
    by_cases hlt : i < n
    · have hi1 : i < l.length := by rw [HL.out]; exact hlt
      have hi2 : i < m.length := by rw [HL2.out]; exact hlt
      obtain ⟨b, o, rfl, hbb, e0, e1, e2, e3, e4⟩ := spot_at (HR.out.at_size (Nat.le_refl _) hb) hi1
      obtain ⟨b', o', rfl, hbb', f0, f1, f2, f3, f4⟩ := spot_at (HR2.out.at_size (Nat.le_refl _) hb) hi2
      obtain ⟨q, hq⟩ : ∃ q, samePl l[i] m[i] = q := ⟨_, rfl⟩
      have HST : Hid (q = true → ∀ j (h : j < l.length) (h' : j < m.length), j < i + 1 → samePl l[j] m[j] = true) := Lib.hid fun e j g g' hj => by
        by_cases hji : j < i
        · exact hall j g g' hji
        · obtain rfl : j = i := by omega
          rw [hq]; exact e
      have HNO : Hid (q = false → false = r) := Lib.hid fun e => by rw [← HX.out]; exact (eqF_no hi1 hi2 (hq.trans e)).symm
      generalize l[i] = x at *
      generalize m[i] = y at *
      obtain ⟨xn, xp, xs, xv, xz⟩ := x
      obtain ⟨yn, yp, ys, yv, yz⟩ := y
      simp only at e0 e1 e2 e3 e4 f0 f1 f2 f3 f4
      have hal : Below wr.heap.size wr ((wr.alloc (.cells #[.int .i64 (xn : Int), .int .u8 (xp : Int), .int .u8 (xs : Int), .bool xv, .int .u64 xz] 101)).alloc (.cells #[.int .i64 (yn : Int), .int .u8 (yp : Int), .int .u8 (ys : Int), .bool yv, .int .u64 yz] 101)) := ((Below.refl _ _).alloc (Nat.le_refl _) _).alloc (by simp) _
      have hal0 : Below wr.heap.size wr (wr.alloc (.cells #[.int .i64 (xn : Int), .int .u8 (xp : Int), .int .u8 (xs : Int), .bool xv, .int .u64 xz] 101)) := (Below.refl _ _).alloc (Nat.le_refl _) _
      replace f0 := cell_old f0 hal0
      replace f1 := cell_old f1 hal0
      replace f2 := cell_old f2 hal0
      replace f3 := cell_old f3 hal0
      replace f4 := cell_old f4 hal0
      have HC := Lib.hid (samePlace_any xn xp xs xv xz yn yp ys yv yz ((wr.alloc (.cells #[.int .i64 (xn : Int), .int .u8 (xp : Int), .int .u8 (xs : Int), .bool xv, .int .u64 xz] 101)).alloc (.cells #[.int .i64 (yn : Int), .int .u8 (yp : Int), .int .u8 (ys : Int), .bool yv, .int .u64 yz] 101)) q hq)
      have HB := Lib.hid (hb.trans (hal.mono hb.size))
      have HLT := Lib.hid hlt
      have hdk : decide ((i : Int) < (n : Int)) = true := decide_eq_true (by omega)
      clear hall hq hbb hbb' hb hi1 hi2 hlt hal hal0
      go_wp2_with fail
      refine HC.out.mono ?_
      rintro e w1 ⟨rfl, hb1⟩
      have HB1 := Lib.hid (HB.out.trans (hb1.mono HB.out.size))
      clear hb1 HC e0 e1 e2 e3 e4 f0 f1 f2 f3 f4 hdk HB
      cases q with
      | false =>
        have HN := Lib.hid (HNO.out rfl)
        clear HNO HST
        go_wp2_with fail
        go_ret
        exact ⟨by rw [← HN.out]; rfl, HB1.out⟩
      | true =>
        have HS2 := Lib.hid (HST.out rfl)
        clear HNO HST
        go_wp2_with fail
        go_roundw
        case rel => exact ⟨i + 1, by go_num, by have := HLT.out; have := HL.out; omega, HS2.out, HB1.out⟩
        case measure =>
          have := HLT.out
          simp [intOf]
          omega
    · obtain rfl : i = n := by have := HL.out; omega
      have HE : Hid (true = r) := Lib.hid (by
        rw [← HX.out]
        exact (eqF_iff.2 ⟨by rw [HL.out, HL2.out], fun j g g' => hall j g g' (by rw [← HL.out]; exact g)⟩).symm)
      clear hall hlt
      go_wp2
      go_ret
      exact ⟨by rw [← HE.out]; rfl, hb⟩

/-! ### Rows of bools -/
def WiRel (a b : List Bool) (w : World) (v9 : Value) (wr : World) : Prop := ∃ i : Nat, v9 = .int .i64 (i : Int) ∧ i ≤ a.length ∧ (∀ j (h : j < a.length) (h' : j < b.length), j < i → a[j] = true → b[j] = true) ∧ w = wr
set_option maxRecDepth 100000 in
set_option maxHeartbeats 2000000 in
theorem within_any (A A2 : Option Addr) (n c c2 B : Nat) (a b : List Bool) (w : World) (h : Rd Value.bool w B A n c a) (h2 : Rd Value.bool w B A2 n c2 b) (r : Bool) (hr : withinB a b = r) :
    Calls Tryz.prog 47 #[.slice A n c, .slice A2 n c2] w fun e w' => e = .returned (.bool r) ∧ w = w' := by
  have htop := h.top
  have hcap := h.cap
  unfold maxLen at htop
  have HR := Lib.hid h
  have HR2 := Lib.hid h2
  have HL := Lib.hid h.len
  have HL2 := Lib.hid h2.len
  have HX := Lib.hid hr
  clear h h2 hr
  go_enter Tryz.func47, Tryz.ntmps47
  go_wp2
  go_loopw [9] (fun v9 wr => WiRel a b w v9 wr) (fun v9 _ => n - (intOf v9).toNat)
  case atStart => exact ⟨0, rfl, by omega, (fun _ _ _ h => absurd h (Nat.not_lt_zero _)), rfl⟩
  case round =>
    obtain ⟨i, rfl, hi, hall, rfl⟩ := hrel
    by_cases hlt : i < n
    · have hi1 : i < a.length := by rw [HL.out]; exact hlt
      have hi2 : i < b.length := by rw [HL2.out]; exact hlt
      obtain ⟨p, o, rfl, hbb, e0⟩ := HR.out.spot (by omega)
      obtain ⟨p', o', rfl, hbb', f0⟩ := HR2.out.spot (by omega)
      replace e0 := e0 i hi1
      replace f0 := f0 i hi2
      have HST : Hid ((a[i] = true → b[i] = true) → ∀ j (h : j < a.length) (h' : j < b.length), j < i + 1 → a[j] = true → b[j] = true) := Lib.hid fun e j g g' hj => by
        by_cases hji : j < i
        · exact hall j g g' hji
        · obtain rfl : j = i := by omega
          exact e
      have HNO : Hid (a[i] = true → b[i] = false → false = r) := Lib.hid fun e1 e2 => by
        rw [← HX.out]
        refine (Bool.eq_false_iff.2 fun g => ?_).symm
        have := (zip_all (by rw [HL.out, HL2.out])).1 g i hi1 hi2
        rw [e1, e2] at this
        cases this
      have HLT := Lib.hid hlt
      have hdk : decide ((i : Int) < (n : Int)) = true := decide_eq_true (by omega)
      generalize a[i] = x at *
      generalize b[i] = y at *
      clear hall hbb hbb' hi1 hi2 hlt
      cases x with
      | false =>
        have HS2 := Lib.hid (HST.out (fun e => by cases e))
        clear HNO HST
        go_wp2_with fail
        clear hdk e0 f0
        go_roundw
        case rel => exact ⟨i + 1, by go_num, by have := HLT.out; have := HL.out; omega, HS2.out, by trivial⟩
        case measure =>
          have := HLT.out
          simp [intOf]
          omega
      | true =>
        cases y with
        | true =>
          have HS2 := Lib.hid (HST.out (fun _ => rfl))
          clear HNO HST
          go_wp2_with fail
          clear hdk e0 f0
          go_roundw
          case rel => exact ⟨i + 1, by go_num, by have := HLT.out; have := HL.out; omega, HS2.out, by trivial⟩
          case measure =>
            have := HLT.out
            simp [intOf]
            omega
        | false =>
          have HN := Lib.hid (HNO.out rfl rfl)
          clear HNO HST
          go_wp2_with fail
          go_ret
          exact ⟨by rw [← HN.out]; rfl, rfl⟩
    · obtain rfl : i = n := by have := HL.out; omega
      have HE : Hid (true = r) := Lib.hid (by
        rw [← HX.out]
        refine ((zip_all (by rw [HL.out, HL2.out])).2 fun j g g' => ?_).symm
        have := hall j g g' (by rw [← HL.out]; exact g)
        cases e : a[j] with
        | false => rfl
        | true => simpa using this e)
      clear hall hlt
      go_wp2
      go_ret
      exact ⟨by rw [← HE.out]; rfl, rfl⟩

set_option maxRecDepth 100000 in
set_option maxHeartbeats 2000000 in
theorem equalR_any (A A2 : Option Addr) (n c n2 c2 q : Nat) (l m : List (List Bool)) (w : World) (h : BRows w w.heap.size A n c l) (h2 : BRows w w.heap.size A2 n2 c2 m) (hq : ∀ x ∈ l, x.length = q) (hq2 : ∀ x ∈ m, x.length = q) (r : Bool) (hr : eqF withinB l m = r) :
    Calls Tryz.prog 46 #[.slice A n c, .slice A2 n2 c2, .func (.func 47) #[] #[]] w fun e w' => e = .returned (.bool r) ∧ Below w.heap.size w w' := by
  obtain ⟨hcap, htop⟩ := h.top
  unfold maxLen at htop
  by_cases hnn : n = n2
  case neg =>
    have hne : ((n : Int) != (n2 : Int)) = true := by rw [int_ne, decide_eq_false hnn]; rfl
    obtain rfl : false = r := by rw [← hr, eqF_len (by rw [h.len, h2.len]; exact hnn)]
    clear h h2 hr hnn htop hcap
    go_enter Tryz.func46, Tryz.ntmps46
    go_wp2
    go_ret
    exact ⟨rfl, Below.refl _ _⟩
  subst hnn
  have hne : ((n : Int) != (n : Int)) = false := by rw [int_ne]; simp
  have HR := Lib.hid h
  have HR2 := Lib.hid h2
  have HL := Lib.hid h.len
  have HL2 := Lib.hid h2.len
  have HX := Lib.hid hr
  have HQ := Lib.hid hq
  have HQ2 := Lib.hid hq2
  clear h h2 hr hq hq2
  go_enter Tryz.func46, Tryz.ntmps46
  go_wp2
  clear hne
  go_loopw [17] (fun v17 wr => EqfRel withinB l m w v17 wr) (fun v17 _ => n - (intOf v17).toNat)
  case atStart => exact ⟨0, rfl, by omega, fun _ _ _ h => absurd h (Nat.not_lt_zero _), Below.refl _ _⟩
  case round =>
    obtain ⟨i, rfl, hi, hall, hb⟩ := hrel
    by_cases hlt : i < n
    · have hi1 : i < l.length := by rw [HL.out]; exact hlt
      have hi2 : i < m.length := by rw [HL2.out]; exact hlt
      obtain ⟨b, o, A1, k1, d1, rfl, hbb, e0, r1⟩ := (HR.out.at_size (Nat.le_refl _) hb).row hi1
      obtain ⟨b', o', A3, k2, d2, rfl, hbb', f0, r2⟩ := (HR2.out.at_size (Nat.le_refl _) hb).row hi2
      obtain ⟨q', hq⟩ : ∃ q, withinB l[i] m[i] = q := ⟨_, rfl⟩
      have e1 : k1 = q := by rw [← r1.len]; exact HQ.out _ (List.getElem_mem hi1)
      have e2 : k2 = q := by rw [← r2.len]; exact HQ2.out _ (List.getElem_mem hi2)
      subst e1
      obtain rfl : k2 = k1 := e2
      have HC := Lib.hid (within_any A1 A3 k2 d1 d2 wr.heap.size l[i] m[i] wr r1 r2 q' hq)
      have HST : Hid (q' = true → ∀ j (h : j < l.length) (h' : j < m.length), j < i + 1 → withinB l[j] m[j] = true) := Lib.hid fun e j g g' hj => by
        by_cases hji : j < i
        · exact hall j g g' hji
        · obtain rfl : j = i := by omega
          rw [hq]; exact e
      have HNO : Hid (q' = false → false = r) := Lib.hid fun e => by rw [← HX.out]; exact (eqF_no hi1 hi2 (hq.trans e)).symm
      have HB := Lib.hid hb
      have HLT := Lib.hid hlt
      have hdk : decide ((i : Int) < (n : Int)) = true := decide_eq_true (by omega)
      clear hall hq hbb hbb' hb hi1 hi2 hlt r1 r2
      go_wp2_with fail
      refine HC.out.mono ?_
      rintro e w1 ⟨rfl, rfl⟩
      clear HC e0 f0 hdk
      cases q' with
      | false =>
        have HN := Lib.hid (HNO.out rfl)
        clear HNO HST
        go_wp2_with fail
        go_ret
        exact ⟨by rw [← HN.out]; rfl, HB.out⟩
      | true =>
        have HS2 := Lib.hid (HST.out rfl)
        clear HNO HST
        go_wp2_with fail
        go_roundw
        case rel => exact ⟨i + 1, by go_num, by have := HLT.out; have := HL.out; omega, HS2.out, HB.out⟩
        case measure =>
          have := HLT.out
          simp [intOf]
          omega
    · obtain rfl : i = n := by have := HL.out; omega
      have HE : Hid (true = r) := Lib.hid (by
        rw [← HX.out]
        exact (eqF_iff.2 ⟨by rw [HL.out, HL2.out], fun j g g' => hall j g g' (by rw [← HL.out]; exact g)⟩).symm)
      clear hall hlt
      go_wp2
      go_ret
      exact ⟨by rw [← HE.out]; rfl, hb⟩
end Go.Proofs.YtfmpecnkkbpdlaaGreat
