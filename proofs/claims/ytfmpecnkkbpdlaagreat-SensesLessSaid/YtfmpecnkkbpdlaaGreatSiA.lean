/- Senses of spots at any node: what Less tells of them. Condition: they can be read. -/
import Derived.Test.YtfmpecnkkbpdlaaGreatLssC
namespace Go.Proofs.YtfmpecnkkbpdlaaGreat.I
open Go.RowKit

/-- A spot, whatever its node. -/
structure Sp where
  n : Int
  p : Nat
  s : Nat
  v : Bool
  z : Int
def spc (q : Sp) : List Value := [.int .i64 q.n, .int .u8 (q.p : Int), .int .u8 (q.s : Int), .bool q.v, .int .u64 q.z]
theorem spc_len (q : Sp) : (spc q).length = 5 := rfl
structure Sen where
  p : List Sp
  lo : List Nat
  hi : List Nat
  be : List (List Bool)
/-- The cells of a spot in a row. -/
theorem spot_at {w : World} {B n c : Nat} {A : Option Addr} {l : List Sp} (h : Rs spc 5 w B A n c l) {k : Nat} (hk : k < l.length) : ∃ b o, A = some ⟨b, o, none⟩ ∧ b < B ∧
    w.cell? ⟨b, o + k * 5, none⟩ = some (.int .i64 l[k].n) ∧ w.cell? ⟨b, o + k * 5 + 1, none⟩ = some (.int .u8 (l[k].p : Int)) ∧ w.cell? ⟨b, o + k * 5 + 2, none⟩ = some (.int .u8 (l[k].s : Int)) ∧ w.cell? ⟨b, o + k * 5 + 3, none⟩ = some (.bool l[k].v) ∧ w.cell? ⟨b, o + k * 5 + 4, none⟩ = some (.int .u64 l[k].z) := by
  obtain ⟨b, o, e, hb, hc⟩ := h.spot (by have := h.len; omega)
  have hc := hc k hk
  exact ⟨b, o, e, hb, hc 0 _ rfl, hc 1 _ rfl, hc 2 _ rfl, hc 3 _ rfl, hc 4 _ rfl⟩
def samePl (a b : Sp) : Bool := decide (a.n = b.n) && (decide (a.p = b.p) && decide (a.s = b.s))
def wholeS (z : Sen) : Bool := decide (z.lo.length = z.p.length) && (decide (z.hi.length = z.p.length) && (decide (z.be.length = z.p.length) && (!z.p.any (fun p => decide (2 < p.s)) && !z.be.any (fun r => !decide (r.length = z.p.length)))))
def lessS (S : Bo.Sr) (a b : Sen) : Bool :=
  eqF samePl a.p b.p && (wholeS a && (wholeS b && (allBel S a.lo b.lo && (allBel S b.hi a.hi && eqF withinB a.be b.be))))
theorem whole_iff {z : Sen} : wholeS z = true ↔ z.lo.length = z.p.length ∧ z.hi.length = z.p.length ∧ z.be.length = z.p.length ∧ (∀ p ∈ z.p, p.s ≤ 2) ∧ ∀ r ∈ z.be, r.length = z.p.length := by
  unfold wholeS
  simp only [Bool.and_eq_true, decide_eq_true_eq, Bool.not_eq_true', List.any_eq_false, decide_eq_false_iff_not, Nat.not_lt, Decidable.not_not]
/-- A sense, where it lies. -/
structure SenAt (w : World) (z : Sen) (A1 : Option Addr) (n1 c1 : Nat) (A2 : Option Addr) (n2 c2 : Nat) (A3 : Option Addr) (n3 c3 : Nat) (A4 : Option Addr) (n4 c4 : Nat) : Prop where
  rp : Rs spc 5 w w.heap.size A1 n1 c1 z.p
  rl : Rd La.nm w w.heap.size A2 n2 c2 z.lo
  rh : Rd La.nm w w.heap.size A3 n3 c3 z.hi
  rb : BRows w w.heap.size A4 n4 c4 z.be
  fl : La.Fit z.lo
  fh : La.Fit z.hi
theorem SenAt.keep {w W : World} {z : Sen} {A1 : Option Addr} {n1 c1 : Nat} {A2 : Option Addr} {n2 c2 : Nat} {A3 : Option Addr} {n3 c3 : Nat} {A4 : Option Addr} {n4 c4 : Nat} (h : SenAt w z A1 n1 c1 A2 n2 c2 A3 n3 c3 A4 n4 c4) (hb : Below w.heap.size w W) : SenAt W z A1 n1 c1 A2 n2 c2 A3 n3 c3 A4 n4 c4 :=
  ⟨h.rp.at_size (Nat.le_refl _) hb, h.rl.at_size (Nat.le_refl _) hb, h.rh.at_size (Nat.le_refl _) hb, h.rb.at_size (Nat.le_refl _) hb, h.fl, h.fh⟩
abbrev SenIn (w : World) (z : Sen) (p : Q4) : Prop := SenAt w z p.A1 p.n1 p.c1 p.A2 p.n2 p.c2 p.A3 p.n3 p.c3 p.A4 p.n4 p.c4
theorem eq_int (a b : Int) : (a == b) = decide (a = b) := by
  by_cases h : a = b
  · subst h; simp
  · rw [decide_eq_false h, beq_eq_false_iff_ne]
    exact h

def noSd (p : Sp) : Bool := decide (2 < p.s)

set_option maxRecDepth 100000 in
set_option maxHeartbeats 1000000 in
theorem noSide_any (xn : Int) (xp xs : Nat) (xv : Bool) (xz : Int) (w : World) : Calls Tryz.prog 85 #[.agg #[.int .i64 xn, .int .u8 (xp : Int), .int .u8 (xs : Int), .bool xv, .int .u64 xz]] w fun e w' => e = .returned (.bool (decide (2 < xs))) ∧ Below w.heap.size w w' := by
  have hal : Below w.heap.size w (w.alloc (.cells #[.int .i64 xn, .int .u8 (xp : Int), .int .u8 (xs : Int), .bool xv, .int .u64 xz] 101)) := (Below.refl _ _).alloc (Nat.le_refl _) _
  have e : decide (2 < xs) = decide ((2 : Int) < (xs : Int)) := by congr 1; simp; omega
  rw [e]
  generalize hd : decide ((2 : Int) < (xs : Int)) = d at *
  go_enter Tryz.func85, Tryz.ntmps85
  go_wp2
  go_ret
  exact ⟨rfl, hal⟩

set_option maxRecDepth 100000 in
set_option maxHeartbeats 1000000 in
theorem indexS_any (A : Option Addr) (m c : Nat) (l : List Sp) (w : World) (h : Rs spc 5 w w.heap.size A m c l) :
    Calls Tryz.prog 121 #[.slice A m c, .func (.func 85) #[] #[]] w fun e w' => (∃ k : Int, e = .returned (.int .i64 k) ∧ (l.any noSd = true → 0 ≤ k) ∧ (l.any noSd = false → k = -1)) ∧ Below w.heap.size w w' := by
  have HR := Lib.hid h
  have HL := Lib.hid h.len
  have htop := h.top
  have hcap := h.cap
  unfold maxLen at htop
  clear h
  go_enter Tryz.func121, Tryz.ntmps121
  go_wp2
  go_loopw [8] (fun v8 wr => AnRel noSd l w v8 wr) (fun v8 _ => m - (intOf v8).toNat)
  case atStart => exact ⟨0, rfl, by omega, rfl, Below.refl _ _⟩
  case round =>
    obtain ⟨i, rfl, hi, hall, hb⟩ := hrel
    by_cases hlt : i < m
    · have hi' : i < l.length := by rw [HL.out]; exact hlt
      obtain ⟨b, o, rfl, hbb, e0, e1, e2, e3, e4⟩ := spot_at (HR.out.at_size (Nat.le_refl _) hb) hi'
      obtain ⟨r, hr⟩ : ∃ r, noSd l[i] = r := ⟨_, rfl⟩
      have HST := Lib.hid (any_next (f := noSd) hi' hall)
      have HON := Lib.hid (fun e : noSd l[i] = true => any_on hi' e)
      rw [hr] at HST HON
      generalize l[i] = x at *
      obtain ⟨xn, xp, xs, xv, xz⟩ := x
      simp only at e0 e1 e2 e3 e4
      have hc := noSide_any xn xp xs xv xz wr
      rw [show decide (2 < xs) = r from hr] at hc
      have HC := Lib.hid hc
      have HB := Lib.hid hb
      have HLT := Lib.hid hlt
      have hdk : decide ((i : Int) < (m : Int)) = true := decide_eq_true (by omega)
      clear hall hr hbb hb hi' hlt hc
      go_wp2_with fail
      refine HC.out.mono ?_
      rintro e w1 ⟨rfl, hb1⟩
      have HB1 := Lib.hid (HB.out.trans (hb1.mono HB.out.size))
      clear hb1 HC e0 e1 e2 e3 e4 hdk
      cases r with
      | true =>
        have HA := Lib.hid (HON.out rfl)
        clear HON HST
        go_wp2_with fail
        go_ret
        exact ⟨⟨_, rfl, fun _ => by omega, fun e => by rw [HA.out] at e; cases e⟩, HB1.out⟩
      | false =>
        clear HON
        go_wp2_with fail
        go_roundw
        case rel => exact ⟨i + 1, by go_num, by have := HLT.out; have := HL.out; omega, HST.out, HB1.out⟩
        case measure =>
          have := HLT.out
          simp [intOf]
          omega
    · obtain rfl : i = m := by have := HL.out; omega
      have HE : Hid (l.any noSd = false) := Lib.hid (by rw [← hall, List.take_of_length_le (by rw [HL.out]; omega)])
      clear hall hlt
      go_wp2
      go_ret
      exact ⟨⟨_, rfl, (fun e => by rw [HE.out] at e; cases e), fun _ => rfl⟩, hb⟩

set_option maxRecDepth 100000 in
set_option maxHeartbeats 1000000 in
theorem containsS_any (A : Option Addr) (m c : Nat) (l : List Sp) (w : World) (h : Rs spc 5 w w.heap.size A m c l) :
    Calls Tryz.prog 87 #[.slice A m c, .func (.func 85) #[] #[]] w fun e w' => e = .returned (.bool (l.any noSd)) ∧ Below w.heap.size w w' := by
  have hc := indexS_any A m c l w h
  clear h
  generalize l.any noSd = r at *
  go_enter Tryz.func87, Tryz.ntmps87
  go_wp2_with fail
  refine hc.mono ?_
  rintro e w1 ⟨⟨k, rfl, h1, h2⟩, hb⟩
  have hd : decide ((0 : Int) ≤ k) = r := by
    cases r with
    | true => exact decide_eq_true (h1 rfl)
    | false => rw [h2 rfl]; rfl
  clear h1 h2 hc
  go_wp2_with fail
  go_ret
  exact ⟨rfl, hb⟩

set_option maxRecDepth 100000 in
set_option maxHeartbeats 1000000 in
theorem samePlace_any (xn : Int) (xp xs : Nat) (xv : Bool) (xz : Int) (yn : Int) (yp ys : Nat) (yv : Bool) (yz : Int) (w : World) (r : Bool) (hr : samePl ⟨xn, xp, xs, xv, xz⟩ ⟨yn, yp, ys, yv, yz⟩ = r) :
    Calls Tryz.prog 43 #[.agg #[.int .i64 xn, .int .u8 (xp : Int), .int .u8 (xs : Int), .bool xv, .int .u64 xz], .agg #[.int .i64 yn, .int .u8 (yp : Int), .int .u8 (ys : Int), .bool yv, .int .u64 yz]] w fun e w' => e = .returned (.bool r) ∧ Below w.heap.size w w' := by
  have hal : Below w.heap.size w ((w.alloc (.cells #[.int .i64 xn, .int .u8 (xp : Int), .int .u8 (xs : Int), .bool xv, .int .u64 xz] 101)).alloc (.cells #[.int .i64 yn, .int .u8 (yp : Int), .int .u8 (ys : Int), .bool yv, .int .u64 yz] 101)) := ((Below.refl _ _).alloc (Nat.le_refl _) _).alloc (by simp) _
  obtain ⟨r1, h1⟩ : ∃ r, (xn == yn) = r := ⟨_, rfl⟩
  obtain ⟨r2, h2⟩ : ∃ r, ((xp : Int) == (yp : Int)) = r := ⟨_, rfl⟩
  obtain ⟨r3, h3⟩ : ∃ r, ((xs : Int) == (ys : Int)) = r := ⟨_, rfl⟩
  have HX : Hid ((r1 && (r2 && r3)) = r) := Lib.hid (by rw [← hr, ← h1, ← h2, ← h3, eq_int, int_eq, int_eq]; rfl)
  clear hr
  cases r1 with
  | false =>
    go_enter Tryz.func43, Tryz.ntmps43
    go_wp2
    go_ret
    exact ⟨by rw [← HX.out]; rfl, hal⟩
  | true =>
    cases r2 with
    | false =>
      go_enter Tryz.func43, Tryz.ntmps43
      go_wp2
      go_ret
      exact ⟨by rw [← HX.out]; rfl, hal⟩
    | true =>
      go_enter Tryz.func43, Tryz.ntmps43
      go_wp2
      go_ret
      exact ⟨by rw [← HX.out]; rfl, hal⟩

set_option maxRecDepth 100000 in
set_option maxHeartbeats 2000000 in
theorem equalS_any (A A2 : Option Addr) (n c n2 c2 : Nat) (l m : List Sp) (w : World) (h : Rs spc 5 w w.heap.size A n c l) (h2 : Rs spc 5 w w.heap.size A2 n2 c2 m) (r : Bool) (hr : eqF samePl l m = r) :
    Calls Tryz.prog 42 #[.slice A n c, .slice A2 n2 c2, .func (.func 43) #[] #[]] w fun e w' => e = .returned (.bool r) ∧ Below w.heap.size w w' := by
  have htop := h.top
  have hcap := h.cap
  unfold maxLen at htop
  by_cases hnn : n = n2
  case neg =>
    have hne : ((n : Int) != (n2 : Int)) = true := by rw [int_ne, decide_eq_false hnn]; rfl
    obtain rfl : false = r := by rw [← hr, eqF_len (by rw [h.len, h2.len]; exact hnn)]
    clear h h2 hr hnn htop hcap
    go_enter Tryz.func42, Tryz.ntmps42
    go_wp2
    go_ret
    exact ⟨rfl, Below.refl _ _⟩
  subst hnn
  have hne : ((n : Int) != (n : Int)) = false := by rw [int_ne]; simp
  have HR := Lib.hid h
  have HR2 := Lib.hid h2
  have HL := Lib.hid h.len
  have HL2 := Lib.hid h2.len
  have HX := Lib.hid hr
  clear h h2 hr
  go_enter Tryz.func42, Tryz.ntmps42
  go_wp2
  clear hne
  go_loopw [17] (fun v17 wr => EqfRel samePl l m w v17 wr) (fun v17 _ => n - (intOf v17).toNat)
  case atStart => exact ⟨0, rfl, by omega, fun _ _ _ h => absurd h (Nat.not_lt_zero _), Below.refl _ _⟩
  case round =>
    obtain ⟨i, rfl, hi, hall, hb⟩ := hrel
    by_cases hlt : i < n
    · have hi1 : i < l.length := by rw [HL.out]; exact hlt
      have hi2 : i < m.length := by rw [HL2.out]; exact hlt
      obtain ⟨b, o, rfl, hbb, e0, e1, e2, e3, e4⟩ := spot_at (HR.out.at_size (Nat.le_refl _) hb) hi1
      obtain ⟨b', o', rfl, hbb', f0, f1, f2, f3, f4⟩ := spot_at (HR2.out.at_size (Nat.le_refl _) hb) hi2
      obtain ⟨q, hq⟩ : ∃ q, samePl l[i] m[i] = q := ⟨_, rfl⟩
      have HST : Hid (q = true → ∀ j (h : j < l.length) (h' : j < m.length), j < i + 1 → samePl l[j] m[j] = true) := Lib.hid fun e j g g' hj => by
        by_cases hji : j < i
        · exact hall j g g' hji
        · obtain rfl : j = i := by omega
          rw [hq]; exact e
      have HNO : Hid (q = false → false = r) := Lib.hid fun e => by rw [← HX.out]; exact (eqF_no hi1 hi2 (hq.trans e)).symm
      generalize l[i] = x at *
      generalize m[i] = y at *
      obtain ⟨xn, xp, xs, xv, xz⟩ := x
      obtain ⟨yn, yp, ys, yv, yz⟩ := y
      simp only at e0 e1 e2 e3 e4 f0 f1 f2 f3 f4
      have hal : Below wr.heap.size wr ((wr.alloc (.cells #[.int .i64 xn, .int .u8 (xp : Int), .int .u8 (xs : Int), .bool xv, .int .u64 xz] 101)).alloc (.cells #[.int .i64 yn, .int .u8 (yp : Int), .int .u8 (ys : Int), .bool yv, .int .u64 yz] 101)) := ((Below.refl _ _).alloc (Nat.le_refl _) _).alloc (by simp) _
      have hal0 : Below wr.heap.size wr (wr.alloc (.cells #[.int .i64 xn, .int .u8 (xp : Int), .int .u8 (xs : Int), .bool xv, .int .u64 xz] 101)) := (Below.refl _ _).alloc (Nat.le_refl _) _
      replace f0 := cell_old f0 hal0
      replace f1 := cell_old f1 hal0
      replace f2 := cell_old f2 hal0
      replace f3 := cell_old f3 hal0
      replace f4 := cell_old f4 hal0
      have HC := Lib.hid (samePlace_any xn xp xs xv xz yn yp ys yv yz ((wr.alloc (.cells #[.int .i64 xn, .int .u8 (xp : Int), .int .u8 (xs : Int), .bool xv, .int .u64 xz] 101)).alloc (.cells #[.int .i64 yn, .int .u8 (yp : Int), .int .u8 (ys : Int), .bool yv, .int .u64 yz] 101)) q hq)
      have HB := Lib.hid (hb.trans (hal.mono hb.size))
      have HLT := Lib.hid hlt
      have hdk : decide ((i : Int) < (n : Int)) = true := decide_eq_true (by omega)
      clear hall hq hbb hbb' hb hi1 hi2 hlt hal hal0
      go_wp2_with fail
      refine HC.out.mono ?_
      rintro e w1 ⟨rfl, hb1⟩
      have HB1 := Lib.hid (HB.out.trans (hb1.mono HB.out.size))
      clear hb1 HC e0 e1 e2 e3 e4 f0 f1 f2 f3 f4 hdk HB
      cases q with
      | false =>
        have HN := Lib.hid (HNO.out rfl)
        clear HNO HST
        go_wp2_with fail
        go_ret
        exact ⟨by rw [← HN.out]; rfl, HB1.out⟩
      | true =>
        have HS2 := Lib.hid (HST.out rfl)
        clear HNO HST
        go_wp2_with fail
        go_roundw
        case rel => exact ⟨i + 1, by go_num, by have := HLT.out; have := HL.out; omega, HS2.out, HB1.out⟩
        case measure =>
          have := HLT.out
          simp [intOf]
          omega
    · obtain rfl : i = n := by have := HL.out; omega
      have HE : Hid (true = r) := Lib.hid (by
        rw [← HX.out]
        exact (eqF_iff.2 ⟨by rw [HL.out, HL2.out], fun j g g' => hall j g g' (by rw [← HL.out]; exact g)⟩).symm)
      clear hall hlt
      go_wp2
      go_ret
      exact ⟨by rw [← HE.out]; rfl, hb⟩

set_option maxRecDepth 100000 in
set_option maxHeartbeats 2000000 in
theorem whole_any (A1 : Option Addr) (n1 c1 : Nat) (A2 : Option Addr) (n2 c2 : Nat) (A3 : Option Addr) (n3 c3 : Nat) (A4 : Option Addr) (n4 c4 : Nat) (z : Sen) (w : World) (h : SenAt w z A1 n1 c1 A2 n2 c2 A3 n3 c3 A4 n4 c4) (r : Bool) (hr : wholeS z = r) :
    Calls Tryz.prog 44 #[senV A1 n1 c1 A2 n2 c2 A3 n3 c3 A4 n4 c4] w fun e w' => e = .returned (.bool r) ∧ Below w.heap.size w w' := by
  unfold senV
  obtain ⟨x, hx⟩ : ∃ x, w.alloc (.cells #[.slice A1 n1 c1, .slice A2 n2 c2, .slice A3 n3 c3, .slice A4 n4 c4] 28) = x := ⟨_, rfl⟩
  obtain ⟨y, hy⟩ : ∃ y, x.alloc (.cells #[.int .i64 (n1 : Int)] 3) = y := ⟨_, rfl⟩
  have b0 : Below w.heap.size w x := hx ▸ (Below.refl _ _).alloc (Nat.le_refl _) _
  have sx : x.heap.size = w.heap.size + 1 := by rw [← hx, World.size_alloc]
  have b1 : Below x.heap.size x y := hy ▸ (Below.refl _ _).alloc (Nat.le_refl _) _
  have k0 : y.heap[w.heap.size]? = some (.cells #[.slice A1 n1 c1, .slice A2 n2 c2, .slice A3 n3 c3, .slice A4 n4 c4] 28 (0, 0)) := (b1.block _ (by rw [sx]; omega)).trans (hx ▸ heap_alloc_new w _)
  have k1 : y.heap[w.heap.size + 1]? = some (.cells #[.int .i64 (n1 : Int)] 3 (0, 0)) := by rw [← sx, ← hy]; exact heap_alloc_new x _
  have hb : Below w.heap.size w y := b0.trans (b1.mono b0.size)
  have hk0x : x.heap[w.heap.size]? = some (.cells #[.slice A1 n1 c1, .slice A2 n2 c2, .slice A3 n3 c3, .slice A4 n4 c4] 28 (0, 0)) := hx ▸ heap_alloc_new w _
  have p0x := (cell_blk (i := 0) hk0x).trans rfl
  have p0 := (cell_blk (i := 0) k0).trans rfl
  have p1 := (cell_blk (i := 1) k0).trans rfl
  have p2 := (cell_blk (i := 2) k0).trans rfl
  have p3 := (cell_blk (i := 3) k0).trans rfl
  have q0 := (cell_blk (i := 0) k1).trans rfl
  subst hx
  obtain ⟨r1, h1⟩ : ∃ r, ((n2 : Int) == (n1 : Int)) = r := ⟨_, rfl⟩
  obtain ⟨r2, h2⟩ : ∃ r, ((n3 : Int) == (n1 : Int)) = r := ⟨_, rfl⟩
  obtain ⟨r3, h3⟩ : ∃ r, ((n4 : Int) == (n1 : Int)) = r := ⟨_, rfl⟩
  obtain ⟨r4, h4⟩ : ∃ r, z.p.any noSd = r := ⟨_, rfl⟩
  obtain ⟨r5, h5⟩ : ∃ r, z.be.any (othR n1) = r := ⟨_, rfl⟩
  have HX : Hid ((r1 && (r2 && (r3 && (!r4 && !r5)))) = r) := Lib.hid (by
    rw [← hr, ← h1, ← h2, ← h3, ← h4, ← h5, int_eq, int_eq, int_eq]
    unfold wholeS
    rw [h.rl.len, h.rh.len, h.rb.len, h.rp.len]
    rfl)
  have HC4 : Hid (∀ W, Below w.heap.size w W → Calls Tryz.prog 87 #[.slice A1 n1 c1, .func (.func 85) #[] #[]] W fun e w' => e = .returned (.bool r4) ∧ Below W.heap.size W w') := Lib.hid fun W hW => h4 ▸ containsS_any A1 n1 c1 z.p W (h.keep hW).rp
  have HC5 : Hid (∀ W, Below y.heap.size y W → Calls Tryz.prog 88 #[.slice A4 n4 c4, .func (.func 86) #[] #[.pointer (some ⟨w.heap.size + 1, 0, none⟩)]] W fun e w' => e = .returned (.bool r5) ∧ Below W.heap.size W w') := Lib.hid fun W hW => h5 ▸ containsR_any A4 n4 c4 (w.heap.size + 1) n1 z.be W (h.keep (hb.trans (hW.mono hb.size))).rb (cell_old q0 hW)
  have HB := Lib.hid hb
  have hc4 := HC4.out y hb
  clear b0 b1 sx k0 k1 hk0x hr h h4 h5 hb
  cases r1 with
  | false =>
    go_enter Tryz.func44, Tryz.ntmps44
    go_wp2_with fail
    go_ret
    exact ⟨by rw [← HX.out]; rfl, HB.out⟩
  | true =>
  cases r2 with
  | false =>
    go_enter Tryz.func44, Tryz.ntmps44
    go_wp2_with fail
    go_ret
    exact ⟨by rw [← HX.out]; rfl, HB.out⟩
  | true =>
  cases r3 with
  | false =>
    go_enter Tryz.func44, Tryz.ntmps44
    go_wp2_with fail
    go_ret
    exact ⟨by rw [← HX.out]; rfl, HB.out⟩
  | true =>
  have HC := Lib.hid hc4
  clear hc4
  go_enter Tryz.func44, Tryz.ntmps44
  go_wp2_with fail
  clear hy
  refine HC.out.mono ?_
  rintro e w1 ⟨rfl, hv⟩
  have p3' := cell_old p3 hv
  have HV := Lib.hid hv
  clear hv p0 p1 p2 p3 q0 p0x h1 h2 h3 HC
  cases r4 with
  | true =>
    go_wp2_with fail
    go_ret
    exact ⟨by rw [← HX.out]; rfl, HB.out.trans (HV.out.mono HB.out.size)⟩
  | false =>
  go_wp2_with fail
  refine (HC5.out _ HV.out).mono ?_
  rintro e w2 ⟨rfl, hv2⟩
  have HV2 := Lib.hid (HV.out.trans (hv2.mono HV.out.size))
  clear hv2 p3'
  go_wp2_with fail
  go_ret
  refine ⟨?_, HB.out.trans (HV2.out.mono HB.out.size)⟩
  rw [← HX.out]
  cases r5 <;> rfl

set_option maxRecDepth 100000 in
set_option maxHeartbeats 4000000 in
theorem less_any (v : Value) (S : Bo.Sr) (p q : Q4) (za zb : Sen) (w : World) (hs : Bo.SrtIn w v S) (ha : SenIn w za p) (hb : SenIn w zb q) (hn : p.n1 ≤ 100000) (r : Bool) (hr : lessS S za zb = r) :
    Calls Tryz.prog 15 #[v, p.v, q.v] w fun e w' => e = .returned (.bool r) ∧ Below w.heap.size w w' := by
  obtain ⟨A1, n1, c1, A2, n2, c2, A3, n3, c3, A4, n4, c4⟩ := p
  obtain ⟨B1, m1, d1, B2, m2, d2, B3, m3, d3, B4, m4, d4⟩ := q
  replace ha : SenAt w za A1 n1 c1 A2 n2 c2 A3 n3 c3 A4 n4 c4 := ha
  replace hb : SenAt w zb B1 m1 d1 B2 m2 d2 B3 m3 d3 B4 m4 d4 := hb
  replace hn : n1 ≤ 100000 := hn
  show Calls Tryz.prog 15 #[v, senV A1 n1 c1 A2 n2 c2 A3 n3 c3 A4 n4 c4, senV B1 m1 d1 B2 m2 d2 B3 m3 d3 B4 m4 d4] w _
  obtain ⟨x, hx⟩ : ∃ x, w.alloc (.cells #[.slice A1 n1 c1, .slice A2 n2 c2, .slice A3 n3 c3, .slice A4 n4 c4] 28) = x := ⟨_, rfl⟩
  obtain ⟨y, hy⟩ : ∃ y, x.alloc (.cells #[.slice B1 m1 d1, .slice B2 m2 d2, .slice B3 m3 d3, .slice B4 m4 d4] 28) = y := ⟨_, rfl⟩
  have b0 : Below w.heap.size w x := hx ▸ (Below.refl _ _).alloc (Nat.le_refl _) _
  have sx : x.heap.size = w.heap.size + 1 := by rw [← hx, World.size_alloc]
  have b1 : Below x.heap.size x y := hy ▸ (Below.refl _ _).alloc (Nat.le_refl _) _
  have k0 : y.heap[w.heap.size]? = some (.cells #[.slice A1 n1 c1, .slice A2 n2 c2, .slice A3 n3 c3, .slice A4 n4 c4] 28 (0, 0)) := (b1.block _ (by rw [sx]; omega)).trans (hx ▸ heap_alloc_new w _)
  have k1 : y.heap[w.heap.size + 1]? = some (.cells #[.slice B1 m1 d1, .slice B2 m2 d2, .slice B3 m3 d3, .slice B4 m4 d4] 28 (0, 0)) := by rw [← sx, ← hy]; exact heap_alloc_new x _
  have hbe : Below w.heap.size w y := b0.trans (b1.mono b0.size)
  have hz : B8 y w.heap.size A1 n1 c1 A2 n2 c2 A3 n3 c3 A4 n4 c4 B1 m1 d1 B2 m2 d2 B3 m3 d3 B4 m4 d4 := ⟨(cell_blk (i := 0) k0).trans rfl, (cell_blk (i := 1) k0).trans rfl, (cell_blk (i := 2) k0).trans rfl, (cell_blk (i := 3) k0).trans rfl, (cell_blk (i := 0) k1).trans rfl, (cell_blk (i := 1) k1).trans rfl, (cell_blk (i := 2) k1).trans rfl, (cell_blk (i := 3) k1).trans rfl⟩
  subst hx
  obtain ⟨r1, h1⟩ : ∃ r, eqF samePl za.p zb.p = r := ⟨_, rfl⟩
  obtain ⟨r2, h2⟩ : ∃ r, wholeS za = r := ⟨_, rfl⟩
  obtain ⟨r3, h3⟩ : ∃ r, wholeS zb = r := ⟨_, rfl⟩
  obtain ⟨r4, h4⟩ : ∃ r, allBel S za.lo zb.lo = r := ⟨_, rfl⟩
  obtain ⟨r5, h5⟩ : ∃ r, allBel S zb.hi za.hi = r := ⟨_, rfl⟩
  obtain ⟨r6, h6⟩ : ∃ r, eqF withinB za.be zb.be = r := ⟨_, rfl⟩
  have HX : Hid ((r1 && (r2 && (r3 && (r4 && (r5 && r6))))) = r) := Lib.hid (by rw [← hr, ← h1, ← h2, ← h3, ← h4, ← h5, ← h6]; rfl)
  have HC1 : Hid (∀ W, Below w.heap.size w W → Calls Tryz.prog 42 #[.slice A1 n1 c1, .slice B1 m1 d1, .func (.func 43) #[] #[]] W fun e w' => e = .returned (.bool r1) ∧ Below W.heap.size W w') := Lib.hid fun W hW => equalS_any A1 B1 n1 c1 m1 d1 za.p zb.p W (ha.keep hW).rp (hb.keep hW).rp r1 h1
  have HC2 : Hid (∀ W, Below w.heap.size w W → Calls Tryz.prog 44 #[senV A1 n1 c1 A2 n2 c2 A3 n3 c3 A4 n4 c4] W fun e w' => e = .returned (.bool r2) ∧ Below W.heap.size W w') := Lib.hid fun W hW => whole_any A1 n1 c1 A2 n2 c2 A3 n3 c3 A4 n4 c4 za W (ha.keep hW) r2 h2
  have HC3 : Hid (∀ W, Below w.heap.size w W → Calls Tryz.prog 44 #[senV B1 m1 d1 B2 m2 d2 B3 m3 d3 B4 m4 d4] W fun e w' => e = .returned (.bool r3) ∧ Below W.heap.size W w') := Lib.hid fun W hW => whole_any B1 m1 d1 B2 m2 d2 B3 m3 d3 B4 m4 d4 zb W (hb.keep hW) r3 h3
  have hle : r1 = true → r2 = true → r3 = true → n2 = m2 ∧ n3 = m3 ∧ n2 = n1 ∧ n3 = n1 ∧ (∀ x ∈ za.be, x.length = n1) ∧ ∀ x ∈ zb.be, x.length = n1 := fun g1 g2 g3 => by
    subst g1 g2 g3
    obtain ⟨a1, a2, a3, a4, a5⟩ := whole_iff.1 h2
    obtain ⟨e1, e2, e3, e4, e5⟩ := whole_iff.1 h3
    have el := (eqF_iff.1 h1).1
    rw [ha.rp.len] at a1 a2 a5 el
    rw [hb.rp.len] at e1 e2 e5 el
    rw [ha.rl.len] at a1
    rw [ha.rh.len] at a2
    rw [hb.rl.len] at e1
    rw [hb.rh.len] at e2
    refine ⟨by omega, by omega, a1, a2, a5, fun x hx => by rw [e5 x hx, el]⟩
  have HLE := Lib.hid hle
  have HC4 : Hid (n2 = m2 → n2 = n1 → ∀ W, Below w.heap.size w W → Calls Tryz.prog 45 #[v, .slice A2 n2 c2, .slice B2 m2 d2] W fun e w' => e = .returned (.bool r4) ∧ Below W.heap.size W w') := Lib.hid fun e e2 W hW => by
    subst e
    exact allBelow_any v A2 B2 n2 c2 d2 S za.lo zb.lo W (hs.keep hW) (ha.keep hW).rl (hb.keep hW).rl ha.fl hb.fl (by omega) r4 h4
  have HC5 : Hid (n3 = m3 → n3 = n1 → ∀ W, Below w.heap.size w W → Calls Tryz.prog 45 #[v, .slice B3 m3 d3, .slice A3 n3 c3] W fun e w' => e = .returned (.bool r5) ∧ Below W.heap.size W w') := Lib.hid fun e e2 W hW => by
    subst e
    exact allBelow_any v B3 A3 n3 d3 c3 S zb.hi za.hi W (hs.keep hW) (hb.keep hW).rh (ha.keep hW).rh hb.fh ha.fh (by omega) r5 h5
  have HC6 : Hid ((∀ x ∈ za.be, x.length = n1) → (∀ x ∈ zb.be, x.length = n1) → ∀ W, Below w.heap.size w W → Calls Tryz.prog 46 #[.slice A4 n4 c4, .slice B4 m4 d4, .func (.func 47) #[] #[]] W fun e w' => e = .returned (.bool r6) ∧ Below W.heap.size W w') := Lib.hid fun e1 e2 W hW => equalR_any A4 B4 n4 c4 m4 d4 n1 za.be zb.be W (ha.keep hW).rb (hb.keep hW).rb e1 e2 r6 h6
  have HB := Lib.hid hbe
  have hp0 := hz.p0
  have hq0 := hz.q0
  have HZ := Lib.hid hz
  clear b0 b1 sx k0 k1 hr ha hb h1 h2 h3 h4 h5 h6 hbe hle hs hz hn
  unfold senV at HC2 HC3 ⊢
  go_enter Tryz.func15, Tryz.ntmps15
  go_wp2_with fail
  clear hy
  refine (HC1.out _ HB.out).mono ?_
  rintro e w1 ⟨rfl, hv⟩
  have HB1 := Lib.hid (HB.out.trans (hv.mono HB.out.size))
  have HZ1 := Lib.hid (HZ.out.keep hv)
  clear hv HB HZ
  clear hp0 hq0
  cases r1 with
  | false =>
    go_wp2_with fail
    go_ret
    exact ⟨by rw [← HX.out]; rfl, HB1.out⟩
  | true =>
  have HLE1 := Lib.hid (HLE.out rfl)
  clear HLE
  have t0 := HZ1.out.p0
  have t1 := HZ1.out.p1
  have t2 := HZ1.out.p2
  have t3 := HZ1.out.p3
  go_wp2_with fail
  refine (HC2.out _ HB1.out).mono ?_
  rintro e w2 ⟨rfl, hv⟩
  have HB2 := Lib.hid (HB1.out.trans (hv.mono HB1.out.size))
  have HZ2 := Lib.hid (HZ1.out.keep hv)
  clear hv HB1 HZ1
  clear t0 t1 t2 t3
  cases r2 with
  | false =>
    go_wp2_with fail
    go_ret
    exact ⟨by rw [← HX.out]; rfl, HB2.out⟩
  | true =>
  have HLE2 := Lib.hid (HLE1.out rfl)
  clear HLE1
  have t0 := HZ2.out.q0
  have t1 := HZ2.out.q1
  have t2 := HZ2.out.q2
  have t3 := HZ2.out.q3
  go_wp2_with fail
  refine (HC3.out _ HB2.out).mono ?_
  rintro e w3 ⟨rfl, hv⟩
  have HB3 := Lib.hid (HB2.out.trans (hv.mono HB2.out.size))
  have HZ3 := Lib.hid (HZ2.out.keep hv)
  clear hv HB2 HZ2
  clear t0 t1 t2 t3
  cases r3 with
  | false =>
    go_wp2_with fail
    go_ret
    exact ⟨by rw [← HX.out]; rfl, HB3.out⟩
  | true =>
  have t0 := HZ3.out.p1
  have t1 := HZ3.out.q1
  obtain ⟨l1, l2, l3, l4, l5, l6⟩ := HLE2.out rfl
  have HD4 := Lib.hid (HC4.out l1 l3)
  have HD5 := Lib.hid (HC5.out l2 l4)
  have HD6 := Lib.hid (HC6.out l5 l6)
  clear l1 l2 l3 l4 l5 l6 HC4 HC5 HC6 HLE2
  go_wp2_with fail
  refine (HD4.out _ HB3.out).mono ?_
  rintro e w4 ⟨rfl, hv⟩
  have HB4 := Lib.hid (HB3.out.trans (hv.mono HB3.out.size))
  have HZ4 := Lib.hid (HZ3.out.keep hv)
  clear hv HB3 HZ3
  clear t0 t1
  cases r4 with
  | false =>
    go_wp2_with fail
    go_ret
    exact ⟨by rw [← HX.out]; rfl, HB4.out⟩
  | true =>
  have t0 := HZ4.out.q2
  have t1 := HZ4.out.p2
  go_wp2_with fail
  refine (HD5.out _ HB4.out).mono ?_
  rintro e w5 ⟨rfl, hv⟩
  have HB5 := Lib.hid (HB4.out.trans (hv.mono HB4.out.size))
  have HZ5 := Lib.hid (HZ4.out.keep hv)
  clear hv HB4 HZ4
  clear t0 t1
  cases r5 with
  | false =>
    go_wp2_with fail
    go_ret
    exact ⟨by rw [← HX.out]; rfl, HB5.out⟩
  | true =>
  have t0 := HZ5.out.p3
  have t1 := HZ5.out.q3
  go_wp2_with fail
  refine (HD6.out _ HB5.out).mono ?_
  rintro e w6 ⟨rfl, hv⟩
  have HB6 := Lib.hid (HB5.out.trans (hv.mono HB5.out.size))
  have HZ6 := Lib.hid (HZ5.out.keep hv)
  clear hv HB5 HZ5
  clear t0 t1
  go_wp2_with fail
  go_ret
  exact ⟨by rw [← HX.out]; cases r6 <;> rfl, HB6.out⟩

end Go.Proofs.YtfmpecnkkbpdlaaGreat.I
