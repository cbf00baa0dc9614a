/- What EqualFunc, ContainsFunc and their like tell of spots and of lists of bools. Condition: they can be read. -/
import Derived.Test.YtfmpecnkkbpdlaaGreatSns
namespace Go.Proofs.YtfmpecnkkbpdlaaGreat
open Go.RowKit

theorem any_next {α : Type} {f : α → Bool} {l : List α} {i : Nat} (hi : i < l.length) (h : (l.take i).any f = false) : (l.take (i + 1)).any f = f l[i] := by
  rw [List.take_succ_eq_append_getElem hi, List.any_append, h]
  simp
theorem any_on {α : Type} {f : α → Bool} {l : List α} {i : Nat} (hi : i < l.length) (h : f l[i] = true) : l.any f = true := List.any_eq_true.2 ⟨_, List.getElem_mem hi, h⟩
def noSd (p : Sp) : Bool := decide (2 < p.s)
def othR (n : Nat) (r : List Bool) : Bool := !decide (r.length = n)
theorem int_eq (a b : Nat) : ((a : Int) == (b : Int)) = decide (a = b) := by
  by_cases h : a = b
  · subst h; simp
  · rw [decide_eq_false h, beq_eq_false_iff_ne]
    omega
theorem int_ne (a b : Nat) : ((a : Int) != (b : Int)) = !decide (a = b) := by rw [bne, int_eq]

def AnRel {α : Type} (f : α → Bool) (l : List α) (w : World) (v8 : Value) (wr : World) : Prop := ∃ i : Nat, v8 = .int .i64 (i : Int) ∧ i ≤ l.length ∧ (l.take i).any f = false ∧ Below w.heap.size w wr

set_option maxRecDepth 100000 in
set_option maxHeartbeats 1000000 in
theorem noSide_any (xn xp xs : Nat) (xv : Bool) (xz : Int) (w : World) : Calls Tryz.prog 85 #[.agg #[.int .i64 (xn : Int), .int .u8 (xp : Int), .int .u8 (xs : Int), .bool xv, .int .u64 xz]] w fun e w' => e = .returned (.bool (decide (2 < xs))) ∧ Below w.heap.size w w' := by
  have hal : Below w.heap.size w (w.alloc (.cells #[.int .i64 (xn : Int), .int .u8 (xp : Int), .int .u8 (xs : Int), .bool xv, .int .u64 xz] 101)) := (Below.refl _ _).alloc (Nat.le_refl _) _
  have e : decide (2 < xs) = decide ((2 : Int) < (xs : Int)) := by congr 1; simp; omega
  rw [e]
  generalize hd : decide ((2 : Int) < (xs : Int)) = d at *
  go_enter Tryz.func85, Tryz.ntmps85
  go_wp2
  go_ret
  exact ⟨rfl, hal⟩

set_option maxRecDepth 100000 in
set_option maxHeartbeats 1000000 in
theorem indexS_any (A : Option Addr) (m c : Nat) (l : List Sp) (w : World) (h : Rs spc 5 w w.heap.size A m c l) :
    Calls Tryz.prog 121 #[.slice A m c, .func (.func 85) #[] #[]] w fun e w' => (∃ k : Int, e = .returned (.int .i64 k) ∧ (l.any noSd = true → 0 ≤ k) ∧ (l.any noSd = false → k = -1)) ∧ Below w.heap.size w w' := by
  have HR := Lib.hid h
  have HL := Lib.hid h.len
  have htop := h.top
  have hcap := h.cap
  unfold maxLen at htop
  clear h
  go_enter Tryz.func121, Tryz.ntmps121
  go_wp2
  go_loopw [8] (fun v8 wr => AnRel noSd l w v8 wr) (fun v8 _ => m - (intOf v8).toNat)
  case atStart => exact ⟨0, rfl, by omega, rfl, Below.refl _ _⟩
  case round =>
    obtain ⟨i, rfl, hi, hall, hb⟩ := hrel
    by_cases hlt : i < m
    · have hi' : i < l.length := by rw [HL.out]; exact hlt
      obtain ⟨b, o, rfl, hbb, e0, e1, e2, e3, e4⟩ := spot_at (HR.out.at_size (Nat.le_refl _) hb) hi'
      obtain ⟨r, hr⟩ : ∃ r, noSd l[i] = r := ⟨_, rfl⟩
      have HST := Lib.hid (any_next (f := noSd) hi' hall)
      have HON := Lib.hid (fun e : noSd l[i] = true => any_on hi' e)
      rw [hr] at HST HON
      generalize l[i] = x at *
      obtain ⟨xn, xp, xs, xv, xz⟩ := x
      simp only at e0 e1 e2 e3 e4
      have hc := noSide_any xn xp xs xv xz wr
      rw [show decide (2 < xs) = r from hr] at hc
      have HC := Lib.hid hc
      have HB := Lib.hid hb
      have HLT := Lib.hid hlt
      have hdk : decide ((i : Int) < (m : Int)) = true := decide_eq_true (by omega)
      clear hall hr hbb hb hi' hlt hc
      go_wp2_with fail
      refine HC.out.mono ?_
      rintro e w1 ⟨rfl, hb1⟩
      have HB1 := Lib.hid (HB.out.trans (hb1.mono HB.out.size))
      clear hb1 HC e0 e1 e2 e3 e4 hdk
      cases r with
      | true =>
        have HA := Lib.hid (HON.out rfl)
        clear HON HST
        go_wp2_with fail
        go_ret
        exact ⟨⟨_, rfl, fun _ => by omega, fun e => by rw [HA.out] at e; cases e⟩, HB1.out⟩
      | false =>
        clear HON
        go_wp2_with fail
        go_roundw
        case rel => exact ⟨i + 1, by go_num, by have := HLT.out; have := HL.out; omega, HST.out, HB1.out⟩
        case measure =>
          have := HLT.out
          simp [intOf]
          omega
    · obtain rfl : i = m := by have := HL.out; omega
      have HE : Hid (l.any noSd = false) := Lib.hid (by rw [← hall, List.take_of_length_le (by rw [HL.out]; omega)])
      clear hall hlt
      go_wp2
      go_ret
      exact ⟨⟨_, rfl, (fun e => by rw [HE.out] at e; cases e), fun _ => rfl⟩, hb⟩

set_option maxRecDepth 100000 in
set_option maxHeartbeats 1000000 in
theorem containsS_any (A : Option Addr) (m c : Nat) (l : List Sp) (w : World) (h : Rs spc 5 w w.heap.size A m c l) :
    Calls Tryz.prog 87 #[.slice A m c, .func (.func 85) #[] #[]] w fun e w' => e = .returned (.bool (l.any noSd)) ∧ Below w.heap.size w w' := by
  have hc := indexS_any A m c l w h
  clear h
  generalize l.any noSd = r at *
  go_enter Tryz.func87, Tryz.ntmps87
  go_wp2_with fail
  refine hc.mono ?_
  rintro e w1 ⟨⟨k, rfl, h1, h2⟩, hb⟩
  have hd : decide ((0 : Int) ≤ k) = r := by
    cases r with
    | true => exact decide_eq_true (h1 rfl)
    | false => rw [h2 rfl]; rfl
  clear h1 h2 hc
  go_wp2_with fail
  go_ret
  exact ⟨rfl, hb⟩

set_option maxRecDepth 100000 in
set_option maxHeartbeats 1000000 in
theorem other_any (A : Option Addr) (m c g n : Nat) (w : World) (h : w.cell? ⟨g, 0, none⟩ = some (.int .i64 (n : Int))) : Calls Tryz.prog 86 #[.slice A m c, .pointer (some ⟨g, 0, none⟩)] w fun e w' => e = .returned (.bool (!decide (m = n))) ∧ w = w' := by
  rw [← int_ne]
  generalize hd : ((m : Int) != (n : Int)) = d at *
  go_enter Tryz.func86, Tryz.ntmps86
  go_wp2
  go_ret
  exact ⟨rfl, rfl⟩

set_option maxRecDepth 100000 in
set_option maxHeartbeats 1000000 in
theorem indexR_any (A : Option Addr) (m c g n : Nat) (l : List (List Bool)) (w : World) (h : BRows w w.heap.size A m c l) (hg : w.cell? ⟨g, 0, none⟩ = some (.int .i64 (n : Int))) :
    Calls Tryz.prog 122 #[.slice A m c, .func (.func 86) #[] #[.pointer (some ⟨g, 0, none⟩)]] w fun e w' => (∃ k : Int, e = .returned (.int .i64 k) ∧ (l.any (othR n) = true → 0 ≤ k) ∧ (l.any (othR n) = false → k = -1)) ∧ Below w.heap.size w w' := by
  have HR := Lib.hid h
  have HG := Lib.hid hg
  have HL := Lib.hid h.len
  obtain ⟨hcap, htop⟩ := h.top
  unfold maxLen at htop
  clear h hg
  go_enter Tryz.func122, Tryz.ntmps122
  go_wp2
  go_loopw [8] (fun v8 wr => AnRel (othR n) l w v8 wr) (fun v8 _ => m - (intOf v8).toNat)
  case atStart => exact ⟨0, rfl, by omega, rfl, Below.refl _ _⟩
  case round =>
    obtain ⟨i, rfl, hi, hall, hb⟩ := hrel
    by_cases hlt : i < m
    · have hi' : i < l.length := by rw [HL.out]; exact hlt
      obtain ⟨b, o, A', n', c', rfl, hbb, e0, hrow⟩ := (HR.out.at_size (Nat.le_refl _) hb).row hi'
      obtain ⟨r, hr⟩ : ∃ r, othR n l[i] = r := ⟨_, rfl⟩
      have HST := Lib.hid (any_next (f := othR n) hi' hall)
      have HON := Lib.hid (fun e : othR n l[i] = true => any_on hi' e)
      have hrl := hrow.len
      rw [hr] at HST HON
      have hc := other_any A' n' c' g n wr (cell_old HG.out hb)
      rw [show (!decide (n' = n)) = r by rw [← hr, othR, hrl]] at hc
      have HC := Lib.hid hc
      have HB := Lib.hid hb
      have HLT := Lib.hid hlt
      have hdk : decide ((i : Int) < (m : Int)) = true := decide_eq_true (by omega)
      clear hall hr hbb hb hi' hlt hc hrow hrl
      go_wp2_with fail
      refine HC.out.mono ?_
      rintro e w1 ⟨rfl, rfl⟩
      clear HC e0 hdk
      cases r with
      | true =>
        have HA := Lib.hid (HON.out rfl)
        clear HON HST
        go_wp2_with fail
        go_ret
        exact ⟨⟨_, rfl, fun _ => by omega, fun e => by rw [HA.out] at e; cases e⟩, HB.out⟩
      | false =>
        clear HON
        go_wp2_with fail
        go_roundw
        case rel => exact ⟨i + 1, by go_num, by have := HLT.out; have := HL.out; omega, HST.out, HB.out⟩
        case measure =>
          have := HLT.out
          simp [intOf]
          omega
    · obtain rfl : i = m := by have := HL.out; omega
      have HE : Hid (l.any (othR n) = false) := Lib.hid (by rw [← hall, List.take_of_length_le (by rw [HL.out]; omega)])
      clear hall hlt
      go_wp2
      go_ret
      exact ⟨⟨_, rfl, (fun e => by rw [HE.out] at e; cases e), fun _ => rfl⟩, hb⟩

set_option maxRecDepth 100000 in
set_option maxHeartbeats 1000000 in
theorem containsR_any (A : Option Addr) (m c g n : Nat) (l : List (List Bool)) (w : World) (h : BRows w w.heap.size A m c l) (hg : w.cell? ⟨g, 0, none⟩ = some (.int .i64 (n : Int))) :
    Calls Tryz.prog 88 #[.slice A m c, .func (.func 86) #[] #[.pointer (some ⟨g, 0, none⟩)]] w fun e w' => e = .returned (.bool (l.any (othR n))) ∧ Below w.heap.size w w' := by
  have hc := indexR_any A m c g n l w h hg
  clear h
  generalize l.any (othR n) = r at *
  go_enter Tryz.func88, Tryz.ntmps88
  go_wp2_with fail
  refine hc.mono ?_
  rintro e w1 ⟨⟨k, rfl, h1, h2⟩, hb⟩
  have hd : decide ((0 : Int) ≤ k) = r := by
    cases r with
    | true => exact decide_eq_true (h1 rfl)
    | false => rw [h2 rfl]; rfl
  clear h1 h2 hc
  go_wp2_with fail
  go_ret
  exact ⟨rfl, hb⟩

set_option maxRecDepth 100000 in
set_option maxHeartbeats 1000000 in
theorem samePlace_any (xn xp xs : Nat) (xv : Bool) (xz : Int) (yn yp ys : Nat) (yv : Bool) (yz : Int) (w : World) (r : Bool) (hr : samePl ⟨xn, xp, xs, xv, xz⟩ ⟨yn, yp, ys, yv, yz⟩ = r) :
    Calls Tryz.prog 43 #[.agg #[.int .i64 (xn : Int), .int .u8 (xp : Int), .int .u8 (xs : Int), .bool xv, .int .u64 xz], .agg #[.int .i64 (yn : Int), .int .u8 (yp : Int), .int .u8 (ys : Int), .bool yv, .int .u64 yz]] w fun e w' => e = .returned (.bool r) ∧ Below w.heap.size w w' := by
  have hal : Below w.heap.size w ((w.alloc (.cells #[.int .i64 (xn : Int), .int .u8 (xp : Int), .int .u8 (xs : Int), .bool xv, .int .u64 xz] 101)).alloc (.cells #[.int .i64 (yn : Int), .int .u8 (yp : Int), .int .u8 (ys : Int), .bool yv, .int .u64 yz] 101)) := ((Below.refl _ _).alloc (Nat.le_refl _) _).alloc (by simp) _
  obtain ⟨r1, h1⟩ : ∃ r, ((xn : Int) == (yn : Int)) = r := ⟨_, rfl⟩
  obtain ⟨r2, h2⟩ : ∃ r, ((xp : Int) == (yp : Int)) = r := ⟨_, rfl⟩
  obtain ⟨r3, h3⟩ : ∃ r, ((xs : Int) == (ys : Int)) = r := ⟨_, rfl⟩
  have HX : Hid ((r1 && (r2 && r3)) = r) := Lib.hid (by rw [← hr, ← h1, ← h2, ← h3, int_eq, int_eq, int_eq]; rfl)
  clear hr
  cases r1 with
  | false =>
    go_enter Tryz.func43, Tryz.ntmps43
    go_wp2
    go_ret
    exact ⟨by rw [← HX.out]; rfl, hal⟩
  | true =>
    cases r2 with
    | false =>
      go_enter Tryz.func43, Tryz.ntmps43
      go_wp2
      go_ret
      exact ⟨by rw [← HX.out]; rfl, hal⟩
    | true =>
      go_enter Tryz.func43, Tryz.ntmps43
      go_wp2
      go_ret
      exact ⟨by rw [← HX.out]; rfl, hal⟩
end Go.Proofs.YtfmpecnkkbpdlaaGreat
