/- The document's Less of senses; the document's sorts. Condition: senses can be read. -/
import Derived.Test.YtfmpecnkkbpdlaaGreatRfL
namespace Go.Proofs.YtfmpecnkkbpdlaaGreat.I
open Go.RowKit

/-- What it says that one says no more than another one. -/
structure LessIs (S : Bo.Sr) (a b : Sen) : Prop where
  wa : wholeS a = true
  wb : wholeS b = true
  len : a.p.length = b.p.length
  at' : ∀ i (h : i < a.p.length) (h' : i < b.p.length), samePl a.p[i] b.p[i] = true
  low : ∀ i (h : i < a.lo.length) (h' : i < b.lo.length), S.below a.lo[i] b.lo[i] = true
  high : ∀ i (h : i < b.hi.length) (h' : i < a.hi.length), S.below b.hi[i] a.hi[i] = true
  bel : ∀ i (h : i < a.be.length) (h' : i < b.be.length) k (g : k < a.be[i].length) (g' : k < b.be[i].length), a.be[i][k] = true → b.be[i][k] = true
theorem less_is {S : Bo.Sr} {a b : Sen} : lessS S a b = true ↔ LessIs S a b := by
  unfold lessS
  simp only [Bool.and_eq_true]
  constructor
  · rintro ⟨h1, h2, h3, h4, h5, h6⟩
    obtain ⟨a1, a2, a3, a4, a5⟩ := whole_iff.1 h2
    obtain ⟨b1, b2, b3, b4, b5⟩ := whole_iff.1 h3
    obtain ⟨hl, h1⟩ := eqF_iff.1 h1
    obtain ⟨_, h6⟩ := eqF_iff.1 h6
    refine ⟨h2, h3, hl, h1, (zip_all (by omega)).1 h4, (zip_all (by omega)).1 h5, fun i h h' k g g' e => ?_⟩
    have hw := h6 i h h'
    have ea := a5 _ (List.getElem_mem h)
    have eb := b5 _ (List.getElem_mem h')
    have := (zip_all (by omega)).1 hw k g g'
    simp only [e, Bool.not_true, Bool.false_or] at this
    exact this
  · rintro ⟨h2, h3, hl, h1, h4, h5, h6⟩
    obtain ⟨a1, a2, a3, a4, a5⟩ := whole_iff.1 h2
    obtain ⟨b1, b2, b3, b4, b5⟩ := whole_iff.1 h3
    refine ⟨eqF_iff.2 ⟨hl, h1⟩, h2, h3, (zip_all (by omega)).2 h4, (zip_all (by omega)).2 h5, eqF_iff.2 ⟨by omega, fun i h h' => ?_⟩⟩
    have ea := a5 _ (List.getElem_mem h)
    have eb := b5 _ (List.getElem_mem h')
    refine (zip_all (by omega)).2 fun k g g' => ?_
    have := h6 i h h' k g g'
    cases e : a.be[i][k] with
    | false => rfl
    | true => simpa using this e
/-- All of the first. -/
structure AllT (P : Nat → Prop) (i : Nat) : Prop where
  all : ∀ j, j < i → P j
theorem AllT.zero (P : Nat → Prop) : AllT P 0 := ⟨fun j hj => absurd hj (Nat.not_lt_zero j)⟩
theorem AllT.succ {P : Nat → Prop} {i : Nat} (h : AllT P i) (hi : P i) : AllT P (i + 1) := ⟨fun j hj => by
  by_cases e : j = i
  · exact e ▸ hi
  · exact h.all j (by omega)⟩
def PLt (S : Bo.Sr) (a b : Sen) (i : Nat) : Prop := (∀ (h : i < a.p.length) (h' : i < b.p.length), samePl a.p[i] b.p[i] = true) ∧ (∀ (h : i < a.lo.length) (h' : i < b.lo.length), S.below a.lo[i] b.lo[i] = true) ∧ ∀ (h : i < b.hi.length) (h' : i < a.hi.length), S.below b.hi[i] a.hi[i] = true
def QLt (a b : Sen) (i k : Nat) : Prop := ∀ (h : i < a.be.length) (h' : i < b.be.length) (g : k < a.be[i].length) (g' : k < b.be[i].length), a.be[i][k] = true → b.be[i][k] = true
theorem less_at {S : Bo.Sr} {a b : Sen} {n : Nat} (wa : wholeS a = true) (wb : wholeS b = true) (ha : a.p.length = n) (hb : b.p.length = n) : lessS S a b = true ↔ ∀ i, i < n → PLt S a b i ∧ ∀ k, k < n → QLt a b i k := by
  obtain ⟨a1, a2, a3, a4, a5⟩ := whole_iff.1 wa
  obtain ⟨b1, b2, b3, b4, b5⟩ := whole_iff.1 wb
  rw [less_is]
  constructor
  · rintro ⟨-, -, l1, p1, lo1, hi1, be1⟩ i hi
    exact ⟨⟨fun h h' => p1 i h h', fun h h' => lo1 i h h', fun h h' => hi1 i h h'⟩, fun k _ h h' g g' => be1 i h h' k g g'⟩
  · intro h
    refine ⟨wa, wb, by omega, fun i h1 h2 => (h i (by omega)).1.1 h1 h2, fun i h1 h2 => (h i (by omega)).1.2.1 h1 h2, fun i h1 h2 => (h i (by omega)).1.2.2 h1 h2, fun i h1 h2 k g g' => (h i (by omega)).2 k ?_ h1 h2 g g'⟩
    have := a5 _ (List.getElem_mem h1)
    omega
/-- A document's sort in a block. -/
structure Q3 (w : World) (g t : Nat) (A : Option Addr) (n c m : Nat) : Prop where
  q0 : w.cell? ⟨g, 0, none⟩ = some (.int .i64 (t : Int))
  q1 : w.cell? ⟨g, 1, none⟩ = some (.slice A n c)
  q2 : w.cell? ⟨g, 2, none⟩ = some (.int .i64 (m : Int))
theorem Q3.keep {w W : World} {g t : Nat} {A : Option Addr} {n c m : Nat} (h : Q3 w g t A n c m) (hb : Below w.heap.size w W) : Q3 W g t A n c m := ⟨cell_old h.q0 hb, cell_old h.q1 hb, cell_old h.q2 hb⟩
theorem Q3.blk {w : World} {g t : Nat} {A : Option Addr} {n c m : Nat} (h : w.heap[g]? = some (.cells #[.int .i64 (t : Int), .slice A n c, .int .i64 (m : Int)] 36 (0, 0))) : Q3 w g t A n c m := ⟨(cell_blk (i := 0) h).trans rfl, (cell_blk (i := 1) h).trans rfl, (cell_blk (i := 2) h).trans rfl⟩
/-- What is read at one place. -/
structure LtAt (w : World) (g gx i t : Nat) (A : Option Addr) (n c m N c2 c3 d2 d3 : Nat) (a o b p a' o' b' p' lo hi lo' hi' : Nat) (xn : Int) (xp xs : Nat) (yn : Int) (yp ys : Nat) : Prop where
  q0 : w.cell? ⟨g, 0, none⟩ = some (.int .i64 (t : Int))
  q1 : w.cell? ⟨g, 1, none⟩ = some (.slice A n c)
  q2 : w.cell? ⟨g, 2, none⟩ = some (.int .i64 (m : Int))
  a1 : w.cell? ⟨g + 1, 1, none⟩ = some (.slice (some ⟨a, o, none⟩) N c2)
  a2 : w.cell? ⟨g + 1, 2, none⟩ = some (.slice (some ⟨b, p, none⟩) N c3)
  b1 : w.cell? ⟨g + 1 + 1, 1, none⟩ = some (.slice (some ⟨a', o', none⟩) N d2)
  b2 : w.cell? ⟨g + 1 + 1, 2, none⟩ = some (.slice (some ⟨b', p', none⟩) N d3)
  x0 : w.cell? ⟨gx, 0, none⟩ = some (.int .i64 xn)
  x1 : w.cell? ⟨gx, 1, none⟩ = some (.int .u8 (xp : Int))
  x2 : w.cell? ⟨gx, 2, none⟩ = some (.int .u8 (xs : Int))
  y0 : w.cell? ⟨gx + 1, 0, none⟩ = some (.int .i64 yn)
  y1 : w.cell? ⟨gx + 1, 1, none⟩ = some (.int .u8 (yp : Int))
  y2 : w.cell? ⟨gx + 1, 2, none⟩ = some (.int .u8 (ys : Int))
  k1 : w.cell? ⟨a, o + i, none⟩ = some (.int .u64 (lo : Int))
  k2 : w.cell? ⟨b, p + i, none⟩ = some (.int .u64 (hi : Int))
  k3 : w.cell? ⟨a', o' + i, none⟩ = some (.int .u64 (lo' : Int))
  k4 : w.cell? ⟨b', p' + i, none⟩ = some (.int .u64 (hi' : Int))
theorem LtAt.keep {w W : World} {g gx i t : Nat} {A : Option Addr} {n c m N c2 c3 d2 d3 : Nat} {a o b p a' o' b' p' lo hi lo' hi' : Nat} {xn : Int} {xp xs : Nat} {yn : Int} {yp ys : Nat} (h : LtAt w g gx i t A n c m N c2 c3 d2 d3 a o b p a' o' b' p' lo hi lo' hi' xn xp xs yn yp ys) (hb : Below w.heap.size w W) : LtAt W g gx i t A n c m N c2 c3 d2 d3 a o b p a' o' b' p' lo hi lo' hi' xn xp xs yn yp ys :=
  ⟨cell_old h.q0 hb, cell_old h.q1 hb, cell_old h.q2 hb, cell_old h.a1 hb, cell_old h.a2 hb, cell_old h.b1 hb, cell_old h.b2 hb, cell_old h.x0 hb, cell_old h.x1 hb, cell_old h.x2 hb, cell_old h.y0 hb, cell_old h.y1 hb, cell_old h.y2 hb, cell_old h.k1 hb, cell_old h.k2 hb, cell_old h.k3 hb, cell_old h.k4 hb⟩
theorem nat_u8 (a b : Nat) : ((a : Int) != (b : Int)) = !decide (a = b) := int_ne a b

set_option maxRecDepth 100000 in
set_option maxHeartbeats 16000000 in
theorem lessR_any (t : Nat) (A : Option Addr) (n c m : Nat) (S : Bo.Sr) (p q : Q4) (za zb : Sen) (w : World) (hs : Bo.RSrt w.heap.size w t A n c m S) (ha : SenIn w za p) (hb : SenIn w zb q) (hn : p.n1 ≤ 100000) (hm : q.n1 ≤ 100000) (r : Bool) (hr : lessS S za zb = r) :
    Calls Tryz.prog 16 #[Bo.rsV t A n c m, p.v, q.v] w fun e w' => e = .returned (.bool r) ∧ Below w.heap.size w w' := by
  obtain ⟨A1, n1, c1, A2, n2, c2, A3, n3, c3, A4, n4, c4⟩ := p
  obtain ⟨B1, m1, d1, B2, m2, d2, B3, m3, d3, B4, m4, d4⟩ := q
  replace ha : SenAt w za A1 n1 c1 A2 n2 c2 A3 n3 c3 A4 n4 c4 := ha
  replace hb : SenAt w zb B1 m1 d1 B2 m2 d2 B3 m3 d3 B4 m4 d4 := hb
  replace hn : n1 ≤ 100000 := hn
  replace hm : m1 ≤ 100000 := hm
  show Calls Tryz.prog 16 #[Bo.rsV t A n c m, senV A1 n1 c1 A2 n2 c2 A3 n3 c3 A4 n4 c4, senV B1 m1 d1 B2 m2 d2 B3 m3 d3 B4 m4 d4] w _
  obtain ⟨x, hx⟩ : ∃ x, w.alloc (.cells #[.int .i64 (t : Int), .slice A n c, .int .i64 (m : Int)] 36) = x := ⟨_, rfl⟩
  obtain ⟨x2, hx2⟩ : ∃ x2, x.alloc (.cells #[.slice A1 n1 c1, .slice A2 n2 c2, .slice A3 n3 c3, .slice A4 n4 c4] 28) = x2 := ⟨_, rfl⟩
  obtain ⟨y, hy⟩ : ∃ y, x2.alloc (.cells #[.slice B1 m1 d1, .slice B2 m2 d2, .slice B3 m3 d3, .slice B4 m4 d4] 28) = y := ⟨_, rfl⟩
  have b0 : Below w.heap.size w x := hx ▸ (Below.refl _ _).alloc (Nat.le_refl _) _
  have sx : x.heap.size = w.heap.size + 1 := by rw [← hx, World.size_alloc]
  have b1 : Below x.heap.size x x2 := hx2 ▸ (Below.refl _ _).alloc (Nat.le_refl _) _
  have sx2 : x2.heap.size = w.heap.size + 1 + 1 := by rw [← hx2, World.size_alloc, sx]
  have b2 : Below x2.heap.size x2 y := hy ▸ (Below.refl _ _).alloc (Nat.le_refl _) _
  have k0 : x.heap[w.heap.size]? = some (.cells #[.int .i64 (t : Int), .slice A n c, .int .i64 (m : Int)] 36 (0, 0)) := hx ▸ heap_alloc_new w _
  have k1 : x2.heap[w.heap.size + 1]? = some (.cells #[.slice A1 n1 c1, .slice A2 n2 c2, .slice A3 n3 c3, .slice A4 n4 c4] 28 (0, 0)) := by rw [← sx, ← hx2]; exact heap_alloc_new x _
  have k2 : y.heap[w.heap.size + 1 + 1]? = some (.cells #[.slice B1 m1 d1, .slice B2 m2 d2, .slice B3 m3 d3, .slice B4 m4 d4] 28 (0, 0)) := by rw [← sx2, ← hy]; exact heap_alloc_new x2 _
  have b12 : Below x.heap.size x y := b1.trans (b2.mono b1.size)
  have hbe : Below w.heap.size w y := b0.trans (b12.mono b0.size)
  have HQ3 := Lib.hid ((Q3.blk k0).keep b12)
  have HBA := Lib.hid ((I.B4.blk k1).keep b2)
  have HBB := Lib.hid (I.B4.blk k2)
  have HB := Lib.hid hbe
  have HN := Lib.hid hn
  have HR := Lib.hid hr
  have HSA : Hid (∀ W, Below w.heap.size w W → SenAt W za A1 n1 c1 A2 n2 c2 A3 n3 c3 A4 n4 c4) := Lib.hid fun W hW => ha.keep hW
  have HSB : Hid (∀ W, Below w.heap.size w W → SenAt W zb B1 m1 d1 B2 m2 d2 B3 m3 d3 B4 m4 d4) := Lib.hid fun W hW => hb.keep hW
  have HC49 : Hid (∀ W, Below w.heap.size w W → ∀ x y : Nat, x < 18446744073709551616 → y < 18446744073709551616 → Calls Tryz.prog 49 #[.agg #[.int .i64 (t : Int), .slice A n c, .int .i64 (m : Int)], .int .u64 (x : Int), .int .u64 (y : Int)] W fun e w' => e = .returned (.bool (S.below x y)) ∧ Below W.heap.size W w') := Lib.hid fun W hW x y hx hy => Bo.rbelow_any t A n c m S x y W (hs.keep hW) hx hy
  have HEA := Lib.hid ha.rp.len
  have HEB := Lib.hid hb.rp.len
  have p0 := HBA.out.p0
  have q0 := HBB.out.p0
  clear b0 b1 b2 b12 sx sx2 k0 k1 k2 hbe ha hb hs hn hr
  subst hx hx2
  unfold senV Bo.rsV
  by_cases hnm : n1 = m1
  case neg =>
    have hne : ((n1 : Int) != (m1 : Int)) = true := by rw [int_ne, decide_eq_false hnm]; rfl
    obtain rfl : r = false := by
      rw [← HR.out]
      unfold lessS
      rw [eqF_len (by rw [HEA.out, HEB.out]; exact hnm)]
      rfl
    clear hnm
    go_enter Tryz.func16, Tryz.ntmps16
    go_wp2
    go_ret
    exact ⟨rfl, HB.out⟩
  subst hnm
  have hne : ((n1 : Int) != (n1 : Int)) = false := by rw [int_ne]; simp
  obtain ⟨r2, h2⟩ : ∃ r, wholeS za = r := ⟨_, rfl⟩
  obtain ⟨r3, h3⟩ : ∃ r, wholeS zb = r := ⟨_, rfl⟩
  have HC2 : Hid (∀ W, Below w.heap.size w W → Calls Tryz.prog 48 #[.agg #[.slice A1 n1 c1, .slice A2 n2 c2, .slice A3 n3 c3, .slice A4 n4 c4]] W fun e w' => e = .returned (.bool r2) ∧ Below W.heap.size W w') := Lib.hid fun W hW => wholeR_any A1 n1 c1 A2 n2 c2 A3 n3 c3 A4 n4 c4 za W (HSA.out W hW) HN.out r2 h2
  have HC3 : Hid (∀ W, Below w.heap.size w W → Calls Tryz.prog 48 #[.agg #[.slice B1 n1 d1, .slice B2 m2 d2, .slice B3 m3 d3, .slice B4 m4 d4]] W fun e w' => e = .returned (.bool r3) ∧ Below W.heap.size W w') := Lib.hid fun W hW => wholeR_any B1 n1 d1 B2 m2 d2 B3 m3 d3 B4 m4 d4 zb W (HSB.out W hW) HN.out r3 h3
  have H2 := Lib.hid h2
  have H3 := Lib.hid h3
  have p1 := HBA.out.p1
  have p2 := HBA.out.p2
  have p3 := HBA.out.p3
  clear h2 h3
  go_enter Tryz.func16, Tryz.ntmps16
  go_wp2_with fail
  clear hy
  refine (HC2.out _ HB.out).mono ?_
  rintro e w1 ⟨rfl, hv⟩
  have HV1 := Lib.hid hv
  clear hv p0 q0 p1 p2 p3 HC2
  cases r2 with
  | false =>
    obtain rfl : r = false := by
      rw [← HR.out]
      unfold lessS
      rw [H2.out]
      simp
    have HBZ := Lib.hid (HB.out.trans (HV1.out.mono HB.out.size))
    go_wp2_with fail
    go_ret
    exact ⟨rfl, HBZ.out⟩
  | true =>
  have hbb := HBB.out.keep HV1.out
  have p0 := hbb.p0
  have p1 := hbb.p1
  have p2 := hbb.p2
  have p3 := hbb.p3
  clear hbb
  go_wp2_with fail
  refine (HC3.out _ (HB.out.trans (HV1.out.mono HB.out.size))).mono ?_
  rintro e w2 ⟨rfl, hv⟩
  have HV := Lib.hid (HV1.out.trans (hv.mono HV1.out.size))
  have HBV := Lib.hid (HB.out.trans (HV.out.mono HB.out.size))
  clear hv p0 p1 p2 p3 HC3 HV1 hne
  cases r3 with
  | false =>
    obtain rfl : r = false := by
      rw [← HR.out]
      unfold lessS
      rw [H3.out]
      simp
    go_wp2_with fail
    go_ret
    exact ⟨rfl, HBV.out⟩
  | true =>
  have HIF : Hid (r = true ↔ ∀ i, i < n1 → PLt S za zb i ∧ ∀ k, k < n1 → QLt za zb i k) := Lib.hid (by rw [← HR.out]; exact less_at H2.out H3.out HEA.out HEB.out)
  obtain ⟨-, -, -, -, ha5⟩ := whole_iff.1 H2.out
  obtain ⟨-, -, -, -, hb5⟩ := whole_iff.1 H3.out
  have HA5 : Hid (∀ x ∈ za.be, x.length = n1) := Lib.hid (by rw [← HEA.out]; exact ha5)
  have HB5 : Hid (∀ x ∈ zb.be, x.length = n1) := Lib.hid (by rw [← HEB.out]; exact hb5)
  have HLN : Hid (n2 = n1 ∧ n3 = n1 ∧ n4 = n1 ∧ m2 = n1 ∧ m3 = n1 ∧ m4 = n1) := Lib.hid (by
    obtain ⟨x1, x2, x3, -, -⟩ := whole_iff.1 H2.out
    obtain ⟨y1, y2, y3, -, -⟩ := whole_iff.1 H3.out
    have sa := HSA.out w (Below.refl _ _)
    have sb := HSB.out w (Below.refl _ _)
    rw [sa.rl.len, sa.rp.len] at x1
    rw [sa.rh.len, sa.rp.len] at x2
    rw [sa.rb.len, sa.rp.len] at x3
    rw [sb.rl.len, sb.rp.len] at y1
    rw [sb.rh.len, sb.rp.len] at y2
    rw [sb.rb.len, sb.rp.len] at y3
    exact ⟨x1, x2, x3, y1, y2, y3⟩)
  obtain ⟨l2, l3, l4, l5, l6, l7⟩ := HLN.out
  obtain rfl : n2 = n1 := l2
  obtain rfl : n3 = n2 := l3
  obtain rfl : n4 = n3 := l4
  obtain rfl : m2 = n4 := l5
  obtain rfl : m3 = m2 := l6
  obtain rfl : m4 = m3 := l7
  obtain ⟨N, rfl⟩ : ∃ N, N = m4 := ⟨_, rfl⟩
  have HNO : Hid (∀ i, i < N → (¬ PLt S za zb i ∨ ∃ k, k < N ∧ ¬ QLt za zb i k) → r = false) := Lib.hid fun i hi hno => by
    cases r with
    | false => rfl
    | true =>
      have := HIF.out.1 rfl i hi
      rcases hno with h | ⟨k, hk, h⟩
      · exact absurd this.1 h
      · exact absurd (this.2 k hk) h
  clear ha5 hb5 HLN H2 H3 HR
  go_wp2_with fail
  go_loopw [7] (fun v7 wr => ∃ i : Nat, v7 = .int .i64 (i : Int) ∧ i ≤ N ∧ Below w2.heap.size w2 wr ∧ AllT (fun i => PLt S za zb i ∧ ∀ k, k < N → QLt za zb i k) i) (fun v7 _ => N - (intOf v7).toNat)
  case atStart => exact ⟨0, rfl, Nat.zero_le _, Below.refl _ _, AllT.zero _⟩
  case round =>
    obtain ⟨i, rfl, hiN, hb, hall⟩ := hrel
    have HALL := Lib.hid hall
    have HBW := Lib.hid hb
    have hba := HBA.out.keep (HV.out.trans (hb.mono HV.out.size))
    have hbb := HBB.out.keep (HV.out.trans (hb.mono HV.out.size))
    by_cases hlt : i < N
    · have hsa := HSA.out wr (HBV.out.trans (hb.mono HBV.out.size))
      have hsb := HSB.out wr (HBV.out.trans (hb.mono HBV.out.size))
      have i1 : i < za.p.length := by rw [hsa.rp.len]; exact hlt
      have i2 : i < zb.p.length := by rw [hsb.rp.len]; exact hlt
      have i3 : i < za.lo.length := by rw [hsa.rl.len]; exact hlt
      have i4 : i < zb.lo.length := by rw [hsb.rl.len]; exact hlt
      have i5 : i < za.hi.length := by rw [hsa.rh.len]; exact hlt
      have i6 : i < zb.hi.length := by rw [hsb.rh.len]; exact hlt
      obtain ⟨bx, ox, rfl, -, e0, e1, e2, e3, e4⟩ := spot_at hsa.rp i1
      obtain ⟨by', oy, rfl, -, f0, f1, f2, f3, f4⟩ := spot_at hsb.rp i2
      obtain ⟨a, o, rfl, -, g1⟩ := hsa.rl.spot (by omega)
      obtain ⟨b, p, rfl, -, g2⟩ := hsa.rh.spot (by omega)
      obtain ⟨a', o', rfl, -, g3⟩ := hsb.rl.spot (by omega)
      obtain ⟨b', p', rfl, -, g4⟩ := hsb.rh.spot (by omega)
      have HIFI : Hid (PLt S za zb i ↔ samePl za.p[i] zb.p[i] = true ∧ S.below za.lo[i] zb.lo[i] = true ∧ S.below zb.hi[i] za.hi[i] = true) := Lib.hid ⟨fun h => ⟨h.1 i1 i2, h.2.1 i3 i4, h.2.2 i6 i5⟩, fun h => ⟨fun _ _ => h.1, fun _ _ => h.2.1, fun _ _ => h.2.2⟩⟩
      have HFT : Hid (za.lo[i] < 18446744073709551616 ∧ zb.lo[i] < 18446744073709551616 ∧ zb.hi[i] < 18446744073709551616 ∧ za.hi[i] < 18446744073709551616) := Lib.hid ⟨hsa.fl _ (List.getElem_mem i3), hsb.fl _ (List.getElem_mem i4), hsb.fh _ (List.getElem_mem i6), hsa.fh _ (List.getElem_mem i5)⟩
      replace g1 : wr.cell? ⟨a, o + i, none⟩ = some (.int .u64 (za.lo[i] : Int)) := g1 i i3
      replace g2 : wr.cell? ⟨b, p + i, none⟩ = some (.int .u64 (za.hi[i] : Int)) := g2 i i5
      replace g3 : wr.cell? ⟨a', o' + i, none⟩ = some (.int .u64 (zb.lo[i] : Int)) := g3 i i4
      replace g4 : wr.cell? ⟨b', p' + i, none⟩ = some (.int .u64 (zb.hi[i] : Int)) := g4 i i6
      generalize za.lo[i] = lo at *
      generalize za.hi[i] = hi at *
      generalize zb.lo[i] = lo' at *
      generalize zb.hi[i] = hi' at *
      generalize za.p[i] = sx at *
      generalize zb.p[i] = sy at *
      obtain ⟨xn, xp, xs, xv, xz⟩ := sx
      obtain ⟨yn, yp, ys, yv, yz⟩ := sy
      simp only at e0 e1 e2 e3 e4 f0 f1 f2 f3 f4
      have hal0 : Below wr.heap.size wr (wr.alloc (.cells #[.int .i64 xn, .int .u8 (xp : Int), .int .u8 (xs : Int), .bool xv, .int .u64 xz] 101)) := (Below.refl _ _).alloc (Nat.le_refl _) _
      have hal : Below wr.heap.size wr ((wr.alloc (.cells #[.int .i64 xn, .int .u8 (xp : Int), .int .u8 (xs : Int), .bool xv, .int .u64 xz] 101)).alloc (.cells #[.int .i64 yn, .int .u8 (yp : Int), .int .u8 (ys : Int), .bool yv, .int .u64 yz] 101)) := two_bel wr _ _
      have p0 := hba.p0
      have q0 := cell_old hbb.p0 hal0
      replace f0 := cell_old f0 hal0
      replace f1 := cell_old f1 hal0
      replace f2 := cell_old f2 hal0
      replace f3 := cell_old f3 hal0
      replace f4 := cell_old f4 hal0
      obtain ⟨v, hvw⟩ : ∃ v, (wr.alloc (.cells #[.int .i64 xn, .int .u8 (xp : Int), .int .u8 (xs : Int), .bool xv, .int .u64 xz] 101)).alloc (.cells #[.int .i64 yn, .int .u8 (yp : Int), .int .u8 (ys : Int), .bool yv, .int .u64 yz] 101) = v := ⟨_, rfl⟩
      have kx : v.heap[wr.heap.size]? = some (.cells #[.int .i64 xn, .int .u8 (xp : Int), .int .u8 (xs : Int), .bool xv, .int .u64 xz] 101 (0, 0)) := by
        rw [← hvw]
        exact (Below.heap_alloc _ _ _ (by simp)).trans (heap_alloc_new wr _)
      have ky : v.heap[wr.heap.size + 1]? = some (.cells #[.int .i64 yn, .int .u8 (yp : Int), .int .u8 (ys : Int), .bool yv, .int .u64 yz] 101 (0, 0)) := by
        rw [← hvw]
        have := heap_alloc_new (wr.alloc (.cells #[.int .i64 xn, .int .u8 (xp : Int), .int .u8 (xs : Int), .bool xv, .int .u64 xz] 101)) (.cells #[.int .i64 yn, .int .u8 (yp : Int), .int .u8 (ys : Int), .bool yv, .int .u64 yz] 101)
        rwa [World.size_alloc] at this
      have hwv : Below wr.heap.size wr v := hvw ▸ hal
      have hq3 := (HQ3.out.keep (HV.out.trans (hb.mono HV.out.size))).keep hwv
      have hbav := hba.keep hwv
      have hbbv := hbb.keep hwv
      have hlt0 : LtAt v w.heap.size wr.heap.size i t A n c m N c2 c3 d2 d3 a o b p a' o' b' p' lo hi lo' hi' xn xp xs yn yp ys := ⟨hq3.q0, hq3.q1, hq3.q2, hbav.p1, hbav.p2, hbbv.p1, hbbv.p2, (cell_blk (i := 0) kx).trans rfl, (cell_blk (i := 1) kx).trans rfl, (cell_blk (i := 2) kx).trans rfl, (cell_blk (i := 0) ky).trans rfl, (cell_blk (i := 1) ky).trans rfl, (cell_blk (i := 2) ky).trans rfl, cell_old g1 hwv, cell_old g2 hwv, cell_old g3 hwv, cell_old g4 hwv⟩
      have HLT : Hid (∀ W, Below v.heap.size v W → LtAt W w.heap.size wr.heap.size i t A n c m N c2 c3 d2 d3 a o b p a' o' b' p' lo hi lo' hi' xn xp xs yn yp ys) := Lib.hid fun W hW => hlt0.keep hW
      have HBW2 : Hid (Below w2.heap.size w2 v.drew) := Lib.hid (hb.trans ((hwv.trans ((Below.refl v.heap.size v).drew.mono hwv.size)).mono hb.size))
      have HLI := Lib.hid hlt
      have hin : (i : Int) < (N : Int) := by omega
      clear hb hall hba hbb hsa hsb i1 i2 i3 i4 i5 i6 g1 g2 g3 g4 hal0 hal kx ky hq3 hbav hbbv hlt0 hlt hiN hwv
      by_cases t1 : xn = yn
      case neg =>
        have hn1 : (xn != yn) = true := by simpa using t1
        have HT := Lib.hid t1
        clear t1
        go_wp2_with fail
        try rw [hvw]
        refine wp_region_ord [0, 1, 2, 3, 4, 5, 6, 7, 8, 9, 10, 11, 12, 13, 14, 15, 16, 17, 18, 19, 20, 21, 22, 23, 24, 25, 26, 27, 28, 29, 30, 31, 32, 33, 34, 35, 36, 37, 38, 39, 40, 41, 42, 43, 44, 45, 46, 47, 48] [31, 46] 49 (fun W => LtAt W w.heap.size wr.heap.size i t A n c m N c2 c3 d2 d3 a o b p a' o' b' p' lo hi lo' hi' xn xp xs yn yp ys) (by kernel_rfl) (by kernel_rfl) (by kernel_rfl) (by kernel_rfl) (fun _ _ _ _ _ h => h) (HLT.out _ (Below.refl _ v).drew) ?_
        simp only [steps, List.getElem?_cons_zero, List.getElem?_cons_succ]
        repeat (first
          | (refine ord_no rfl ?_; simp only [Act.put, List.setIfInBounds_toArray, List.set_cons_zero, List.set_cons_succ])
          | (refine ord_yes (v := ?_) rfl rfl ?_ ?_; rotate_left; (focus (rintro w' ⟨x0, x1, x2, x3, x4, x5, x6, x7, x8, x9, x10, x11, x12, x13, x14, x15, x16⟩; go_simp; try with_reducible rfl)); simp only [Act.put, List.setIfInBounds_toArray, List.set_cons_zero, List.set_cons_succ]))
        generalize v.drew = ve at *
        refine ord_end ?_
        obtain rfl : r = false := HNO.out i HLI.out (.inl fun h => (by
          have h1 := (HIFI.out.1 h).1
          unfold samePl at h1
          rw [Bool.and_eq_true] at h1
          exact HT.out (of_decide_eq_true h1.1)))
        clear hvw
        go_wp2_with fail
        go_ret
        exact ⟨rfl, HBV.out.trans (HBW2.out.mono HBV.out.size)⟩
      have hn1 : (xn != yn) = false := by simpa using t1
      have HT1 := Lib.hid t1
      clear t1
      by_cases t2 : xp = yp
      case neg =>
        have hn2 : ((xp : Int) != (yp : Int)) = true := by rw [int_ne, decide_eq_false t2]; rfl
        have HT := Lib.hid t2
        clear t2
        go_wp2_with fail
        try rw [hvw]
        refine wp_region_ord [0, 1, 2, 3, 4, 5, 6, 7, 8, 9, 10, 11, 12, 13, 14, 15, 16, 17, 18, 19, 20, 21, 22, 23, 24, 25, 26, 27, 28, 29, 30, 31, 32, 33, 34, 35, 36, 37, 38, 39, 40, 41, 42, 43, 44, 45, 46, 47, 48] [31, 46] 49 (fun W => LtAt W w.heap.size wr.heap.size i t A n c m N c2 c3 d2 d3 a o b p a' o' b' p' lo hi lo' hi' xn xp xs yn yp ys) (by kernel_rfl) (by kernel_rfl) (by kernel_rfl) (by kernel_rfl) (fun _ _ _ _ _ h => h) (HLT.out _ (Below.refl _ v).drew) ?_
        simp only [steps, List.getElem?_cons_zero, List.getElem?_cons_succ]
        repeat (first
          | (refine ord_no rfl ?_; simp only [Act.put, List.setIfInBounds_toArray, List.set_cons_zero, List.set_cons_succ])
          | (refine ord_yes (v := ?_) rfl rfl ?_ ?_; rotate_left; (focus (rintro w' ⟨x0, x1, x2, x3, x4, x5, x6, x7, x8, x9, x10, x11, x12, x13, x14, x15, x16⟩; go_simp; try with_reducible rfl)); simp only [Act.put, List.setIfInBounds_toArray, List.set_cons_zero, List.set_cons_succ]))
        generalize v.drew = ve at *
        refine ord_end ?_
        obtain rfl : r = false := HNO.out i HLI.out (.inl fun h => (by
          have h1 := (HIFI.out.1 h).1
          unfold samePl at h1
          rw [Bool.and_eq_true, Bool.and_eq_true] at h1
          exact HT.out (of_decide_eq_true h1.2.1)))
        clear hvw
        go_wp2_with fail
        go_ret
        exact ⟨rfl, HBV.out.trans (HBW2.out.mono HBV.out.size)⟩
      have hn2 : ((xp : Int) != (yp : Int)) = false := by rw [int_ne, decide_eq_true t2]; rfl
      have HT2 := Lib.hid t2
      clear t2
      by_cases t3 : xs = ys
      case neg =>
        have hn3 : ((xs : Int) != (ys : Int)) = true := by rw [int_ne, decide_eq_false t3]; rfl
        have HT := Lib.hid t3
        clear t3
        go_wp2_with fail
        try rw [hvw]
        refine wp_region_ord [0, 1, 2, 3, 4, 5, 6, 7, 8, 9, 10, 11, 12, 13, 14, 15, 16, 17, 18, 19, 20, 21, 22, 23, 24, 25, 26, 27, 28, 29, 30, 31, 32, 33, 34, 35, 36, 37, 38, 39, 40, 41, 42, 43, 44, 45, 46, 47, 48] [31, 46] 49 (fun W => LtAt W w.heap.size wr.heap.size i t A n c m N c2 c3 d2 d3 a o b p a' o' b' p' lo hi lo' hi' xn xp xs yn yp ys) (by kernel_rfl) (by kernel_rfl) (by kernel_rfl) (by kernel_rfl) (fun _ _ _ _ _ h => h) (HLT.out _ (Below.refl _ v).drew) ?_
        simp only [steps, List.getElem?_cons_zero, List.getElem?_cons_succ]
        repeat (first
          | (refine ord_no rfl ?_; simp only [Act.put, List.setIfInBounds_toArray, List.set_cons_zero, List.set_cons_succ])
          | (refine ord_yes (v := ?_) rfl rfl ?_ ?_; rotate_left; (focus (rintro w' ⟨x0, x1, x2, x3, x4, x5, x6, x7, x8, x9, x10, x11, x12, x13, x14, x15, x16⟩; go_simp; try with_reducible rfl)); simp only [Act.put, List.setIfInBounds_toArray, List.set_cons_zero, List.set_cons_succ]))
        generalize v.drew = ve at *
        refine ord_end ?_
        obtain rfl : r = false := HNO.out i HLI.out (.inl fun h => (by
          have h1 := (HIFI.out.1 h).1
          unfold samePl at h1
          rw [Bool.and_eq_true, Bool.and_eq_true] at h1
          exact HT.out (of_decide_eq_true h1.2.2)))
        clear hvw
        go_wp2_with fail
        go_ret
        exact ⟨rfl, HBV.out.trans (HBW2.out.mono HBV.out.size)⟩
      have hn3 : ((xs : Int) != (ys : Int)) = false := by rw [int_ne, decide_eq_true t3]; rfl
      have HT3 := Lib.hid t3
      clear t3
      go_wp2_with fail
      try rw [hvw]
      refine wp_region_ord [0, 1, 2, 3, 4, 5, 6, 7, 8, 9, 10, 11, 12, 13, 14, 15, 16, 17, 18, 19, 20, 21, 22, 23, 24, 25, 26, 27, 28, 29, 30, 31, 32, 33, 34, 35, 36, 37, 38, 39, 40, 41, 42, 43, 44, 45, 46, 47, 48] [31, 46] 49 (fun W => LtAt W w.heap.size wr.heap.size i t A n c m N c2 c3 d2 d3 a o b p a' o' b' p' lo hi lo' hi' xn xp xs yn yp ys) (by kernel_rfl) (by kernel_rfl) (by kernel_rfl) (by kernel_rfl) (fun _ _ _ _ _ h => h) (HLT.out _ (Below.refl _ v).drew) ?_
      simp only [steps, List.getElem?_cons_zero, List.getElem?_cons_succ]
      repeat (first
        | (refine ord_no rfl ?_; simp only [Act.put, List.setIfInBounds_toArray, List.set_cons_zero, List.set_cons_succ])
        | (refine ord_yes (v := ?_) rfl rfl ?_ ?_; rotate_left; (focus (rintro w' ⟨x0, x1, x2, x3, x4, x5, x6, x7, x8, x9, x10, x11, x12, x13, x14, x15, x16⟩; go_simp; try with_reducible rfl)); simp only [Act.put, List.setIfInBounds_toArray, List.set_cons_zero, List.set_cons_succ]))
      refine ord_hard rfl rfl (fun K hK => ?_)
      go_simp
      have hcal := HC49.out _ (HBV.out.trans (HBW2.out.mono HBV.out.size)) lo lo' HFT.out.1 HFT.out.2.1
      obtain ⟨ra, hra⟩ : ∃ r, S.below lo lo' = r := ⟨_, rfl⟩
      rw [hra] at hcal
      have Hra := Lib.hid hra
      refine hcal.mono ?_
      rintro e wc0 ⟨rfl, hv⟩
      have HBC0 := Lib.hid (HBW2.out.trans (hv.mono HBW2.out.size))
      have HVC0 := Lib.hid ((Below.refl v.heap.size v).drew.trans (hv.mono (Below.refl v.heap.size v).drew.size))
      clear hcal hra hv
      refine hK.out _ _ (fun _ => HLT.out _ HVC0.out) ?_
      clear hK K
      try simp only [Act.put, List.setIfInBounds_toArray, List.set_cons_zero, List.set_cons_succ]
      cases ra with
      | false =>
        repeat (first
          | (refine ord_no rfl ?_; simp only [Act.put, List.setIfInBounds_toArray, List.set_cons_zero, List.set_cons_succ])
          | (refine ord_yes (v := ?_) rfl rfl ?_ ?_; rotate_left; (focus (rintro w' ⟨x0, x1, x2, x3, x4, x5, x6, x7, x8, x9, x10, x11, x12, x13, x14, x15, x16⟩; go_simp; try with_reducible rfl)); simp only [Act.put, List.setIfInBounds_toArray, List.set_cons_zero, List.set_cons_succ]))
        refine ord_end ?_
        obtain rfl : r = false := HNO.out i HLI.out (.inl fun h => (by
          have h1 := (HIFI.out.1 h).2.1
          rw [Hra.out] at h1
          cases h1))
        clear hvw
        go_wp2_with fail
        go_ret
        exact ⟨rfl, HBV.out.trans (HBC0.out.mono HBV.out.size)⟩
      | true =>
      repeat (first
        | (refine ord_no rfl ?_; simp only [Act.put, List.setIfInBounds_toArray, List.set_cons_zero, List.set_cons_succ])
        | (refine ord_yes (v := ?_) rfl rfl ?_ ?_; rotate_left; (focus (rintro w' ⟨x0, x1, x2, x3, x4, x5, x6, x7, x8, x9, x10, x11, x12, x13, x14, x15, x16⟩; go_simp; try with_reducible rfl)); simp only [Act.put, List.setIfInBounds_toArray, List.set_cons_zero, List.set_cons_succ]))
      refine ord_hard rfl rfl (fun K hK => ?_)
      go_simp
      have hcal := HC49.out _ (HBV.out.trans (HBC0.out.mono HBV.out.size)) hi' hi HFT.out.2.2.1 HFT.out.2.2.2
      obtain ⟨rb, hrb⟩ : ∃ r, S.below hi' hi = r := ⟨_, rfl⟩
      rw [hrb] at hcal
      have Hrb := Lib.hid hrb
      refine hcal.mono ?_
      rintro e wc1 ⟨rfl, hv⟩
      have HBC1 := Lib.hid (HBC0.out.trans (hv.mono HBC0.out.size))
      have HVC1 := Lib.hid (HVC0.out.trans (hv.mono HVC0.out.size))
      clear hcal hrb hv
      refine hK.out _ _ (fun _ => HLT.out _ HVC1.out) ?_
      clear hK K
      try simp only [Act.put, List.setIfInBounds_toArray, List.set_cons_zero, List.set_cons_succ]
      cases rb with
      | false =>
        repeat (first
          | (refine ord_no rfl ?_; simp only [Act.put, List.setIfInBounds_toArray, List.set_cons_zero, List.set_cons_succ])
          | (refine ord_yes (v := ?_) rfl rfl ?_ ?_; rotate_left; (focus (rintro w' ⟨x0, x1, x2, x3, x4, x5, x6, x7, x8, x9, x10, x11, x12, x13, x14, x15, x16⟩; go_simp; try with_reducible rfl)); simp only [Act.put, List.setIfInBounds_toArray, List.set_cons_zero, List.set_cons_succ]))
        refine ord_end ?_
        obtain rfl : r = false := HNO.out i HLI.out (.inl fun h => (by
          have h1 := (HIFI.out.1 h).2.2
          rw [Hrb.out] at h1
          cases h1))
        clear hvw
        go_wp2_with fail
        go_ret
        exact ⟨rfl, HBV.out.trans (HBC1.out.mono HBV.out.size)⟩
      | true =>
      repeat (first
        | (refine ord_no rfl ?_; simp only [Act.put, List.setIfInBounds_toArray, List.set_cons_zero, List.set_cons_succ])
        | (refine ord_yes (v := ?_) rfl rfl ?_ ?_; rotate_left; (focus (rintro w' ⟨x0, x1, x2, x3, x4, x5, x6, x7, x8, x9, x10, x11, x12, x13, x14, x15, x16⟩; go_simp; try with_reducible rfl)); simp only [Act.put, List.setIfInBounds_toArray, List.set_cons_zero, List.set_cons_succ]))
      refine ord_end ?_
      have HPI : Hid (PLt S za zb i) := Lib.hid (HIFI.out.2 ⟨by
        unfold samePl
        rw [decide_eq_true HT1.out, decide_eq_true HT2.out, decide_eq_true HT3.out]
        rfl, Hra.out, Hrb.out⟩)
      clear hvw hn1 hn2 hn3 hin e0 e1 e2 e3 e4 f0 f1 f2 f3 f4 p0 q0
      go_wp2_with fail
      clear HLT HBW
      go_loopw [10] (fun v10 wq => ∃ k : Nat, v10 = .int .i64 (k : Int) ∧ k ≤ N ∧ Below w2.heap.size w2 wq ∧ AllT (QLt za zb i) k) (fun v10 _ => N - (intOf v10).toNat)
      case atStart => exact ⟨0, rfl, Nat.zero_le _, HBC1.out, AllT.zero _⟩
      case round =>
        obtain ⟨k, rfl, hk, hb, hall⟩ := hrel
        have HQA := Lib.hid hall
        have HBQ := Lib.hid hb
        have hba := HBA.out.keep (HV.out.trans (hb.mono HV.out.size))
        have hbb := HBB.out.keep (HV.out.trans (hb.mono HV.out.size))
        have p0 := hba.p0
        by_cases hltk : k < N
        · have hsa := HSA.out wr (HBV.out.trans (hb.mono HBV.out.size))
          have hsb := HSB.out wr (HBV.out.trans (hb.mono HBV.out.size))
          have i1 : i < za.be.length := by rw [hsa.rb.len]; exact HLI.out
          have i2 : i < zb.be.length := by rw [hsb.rb.len]; exact HLI.out
          have l1 := HA5.out _ (List.getElem_mem i1)
          have l2 := HB5.out _ (List.getElem_mem i2)
          have j1 : k < za.be[i].length := by rw [l1]; exact hltk
          have j2 : k < zb.be[i].length := by rw [l2]; exact hltk
          obtain ⟨b1, o1, b2, o2, cc, hA4, -, r1, -, r2⟩ := hsa.rb.at' i1 j1
          obtain ⟨b3, o3, b4, o4, cd, hB4, -, s1, -, s2⟩ := hsb.rb.at' i2 j2
          rw [l1] at r1
          rw [l2] at s1
          have p3 := hba.p3
          have q3 := hbb.p3
          rw [hA4] at p3
          rw [hB4] at q3
          have HQK : Hid (QLt za zb i k ↔ (za.be[i][k] = true → zb.be[i][k] = true)) := Lib.hid ⟨fun h => h i1 i2 j1 j2, fun h _ _ _ _ => h⟩
          generalize za.be[i][k] = bx at *
          generalize zb.be[i][k] = cx at *
          have HLK := Lib.hid hltk
          have hin : (i : Int) < (N : Int) := by have := HLI.out; omega
          have hkn : (k : Int) < (N : Int) := by omega
          have hkb : k ≤ 100000 := by have := HN.out; omega
          clear hsa hsb i1 i2 l1 l2 j1 j2 hba hbb hb hall hltk hk hA4 hB4
          cases bx with
          | false =>
            have HREL : Hid (AllT (QLt za zb i) (k + 1)) := Lib.hid (HQA.out.succ (HQK.out.2 fun e => by cases e))
            clear HQK
            go_wp2_with fail
            clear p3 q3 r1 r2 s1 s2 hin hkn p0
            go_roundw
            case rel => exact ⟨k + 1, by go_num, HLK.out, HBQ.out, HREL.out⟩
            case measure =>
              have := HLK.out
              simp [intOf]
              omega
          | true =>
            cases cx with
            | false =>
              obtain rfl : r = false := HNO.out i HLI.out (.inr ⟨k, HLK.out, fun h => by
                have := HQK.out.1 h rfl
                cases this⟩)
              have HBZ := Lib.hid (HBV.out.trans (HBQ.out.mono HBV.out.size))
              clear HQK
              go_wp2_with fail
              go_ret
              exact ⟨rfl, HBZ.out⟩
            | true =>
              have HREL : Hid (AllT (QLt za zb i) (k + 1)) := Lib.hid (HQA.out.succ (HQK.out.2 fun _ => rfl))
              clear HQK
              go_wp2_with fail
              clear p3 q3 r1 r2 s1 s2 hin hkn p0
              go_roundw
              case rel => exact ⟨k + 1, by go_num, HLK.out, HBQ.out, HREL.out⟩
              case measure =>
                have := HLK.out
                simp [intOf]
                omega
        · obtain rfl : k = N := by omega
          have hib : i ≤ 100000 := by have := HLI.out; have := HN.out; omega
          clear hba hbb hb hall hltk hk
          go_wp2_with fail
          go_roundw
          case rel => exact ⟨i + 1, by go_num, HLI.out, HBQ.out, HALL.out.succ ⟨HPI.out, HQA.out.all⟩⟩
          case measure =>
            have := HLI.out
            simp [intOf]
            omega
    · obtain rfl : i = N := by omega
      obtain rfl : r = true := HIF.out.2 hall.all
      have p0 := hba.p0
      have HBZ := Lib.hid (HBV.out.trans (hb.mono HBV.out.size))
      clear hba hbb hb hall hlt hiN
      go_wp2_with fail
      go_ret
      exact ⟨rfl, HBZ.out⟩
end Go.Proofs.YtfmpecnkkbpdlaaGreat.I
