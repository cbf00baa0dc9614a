/- SaA; RwI; Liv: merged. -/
import Derived.Deep.QuietTactic
import Derived.BigQuiet
import Derived.Test.YtmejhedegmjboaaGreatCame
import Derived.Test.YtmejhedegmjboaaGreatOfs
import Derived.Test.YtmejhedegmjboaaGreatRwK
import Derived.Test.YtmejhedegmjboaaGreatRwO
/- What SameNums, SameSpots, SameBools, SameBoolLists and SameSense tell of the same. No condition but that these can be read. -/
namespace Go.Proofs.YtmejhedegmjboaaGreat
open Go.RowKit

end Go.Proofs.YtmejhedegmjboaaGreat

/- What SameInts tells of the same; what is alike in an example. No condition but that these can be read. -/
namespace Go.Proofs.YtmejhedegmjboaaGreat
open Go.RowKit


end Go.Proofs.YtmejhedegmjboaaGreat

/- The example that all laws ask: lives is true. No condition. -/
namespace Go.Proofs.YtmejhedegmjboaaGreat
open Go.RowKit

def nI (v : Bool) (x : Nat) : Nd := ⟨1, 0, [105, 110, 116], 0, v, (x : Int), false, 0, false, 0⟩
theorem fits_I (v : Bool) (x : Nat) : (nI v x).Fits := ⟨fits_int.k0, fits_int.k1, fits_int.m0, fits_int.m1, fits_int.n0, fits_int.n1, fits_int.s1⟩
theorem tfits_I {v : Bool} {x : Nat} (h : x < 18446744073709551616) : (nI v x).TFits := ⟨⟨by simp [nI], by simp [nI]; omega⟩, ⟨by simp [nI], by simp [nI]⟩, ⟨by simp [nI], by simp [nI]⟩⟩
theorem tfits_F : nFun.TFits := ⟨⟨by simp [nFun], by simp [nFun]⟩, ⟨by simp [nFun], by simp [nFun]⟩, ⟨by simp [nFun], by simp [nFun]⟩⟩
/-- The two schemes. -/
def sE2 : Sch := ⟨1, 0, [nFun, nI true 0, nI true 0], [], []⟩
abbrev lS : Bo.Sr := laOf [3, 2]
abbrev xS : Bo.Sr := efOf 1
def z2 : Sen := senS lS [0] [1] (rcB 1 []) (labB sE2.b)

theorem ex_c2 : sE2.check lS xS = 0 := by decide +kernel
theorem ex_bot : lS.bot = 0 := by decide +kernel
theorem ex_top : lS.top = 1 := by decide +kernel
theorem ex_has : lS.has 0 = true := by decide +kernel
theorem low_nil {S : Bo.Sr} (hS : S.Ok) {v : List Nat} (h : Bo.IsLow S 1 [] v) (hb : S.has S.bot = true) : v = [S.bot] :=
  Bo.low_uniq hS h ⟨Bo.Under.start hS fun _ => hb, fun b hb => by cases hb⟩

theorem of_ex {s : Sch} {w : World} {x : Int} {p q : Q4} (h : OfIs lS xS s w x p q) (hc : s.check lS xS = 0) (h1 : s.lv = 1) (h2 : s.ev = 0) (hl : s.l = []) (he : s.e = []) : x = 0 ∧ SenIn w (senS lS [0] [1] (rcB 1 []) (labB s.b)) p := by
  rcases h with ⟨hx, -, -, h | ⟨-, -, h⟩⟩ | ⟨hx, ql, qe, lo, hi, lo', hi', hok, hp, -⟩
  · exact absurd (h.symm.trans hc) hx
  · exfalso
    rcases h with ⟨k, e, hn⟩ | ⟨k, e, hn⟩
    · have hk : k = 1 := by omega
      subst hk
      have := hn [0] ⟨rfl, fun i hi => by
        obtain rfl : i = 0 := by omega
        exact ex_has⟩
      rw [hl] at this
      cases this
    · have hk : k = 0 := by omega
      subst hk
      have := hn [] ⟨rfl, fun i hi => absurd hi (Nat.not_lt_zero i)⟩
      rw [he] at this
      cases this
  · obtain rfl : ql = 1 := by have := hok.lv; omega
    have hS := laOf_ok [3, 2]
    have g1 := hok.gl.low
    have g2 := hok.gl.high
    rw [hl] at g1 g2
    have hbb : lS.has lS.bot = true := by rw [ex_bot]; exact ex_has
    have e1 := low_nil hS g1 hbb
    have e2 := low_nil hS.turn g2 (hS.sub _ _ (hS.topl _ ex_has)).2
    rw [ex_bot] at e1
    replace e2 : hi = [lS.top] := e2
    rw [ex_top] at e2
    rw [e1, e2, hl] at hp
    exact ⟨hx, hp⟩

set_option maxRecDepth 100000 in
theorem chain_any (w : World) : Calls Tryz.prog 24 #[] w fun e w' => ∃ g, e = .returned (zV (some ⟨g, 0, none⟩) 2 2 1) ∧ Rd La.nm w' w'.heap.size (some ⟨g, 0, none⟩) 2 2 [3, 2] ∧ Below w.heap.size w w' := by
  obtain ⟨x, hx⟩ : ∃ x, w.alloc (.cells #[.slice none 0 0, .int .i64 0] 24) = x := ⟨_, rfl⟩
  have b0 : Below w.heap.size w x := hx ▸ (Below.refl _ _).alloc (Nat.le_refl _) _
  have sx : x.heap.size = w.heap.size + 1 := by rw [← hx, World.size_alloc]
  have k0 : x.heap[w.heap.size]? = some (.cells #[.slice none 0 0, .int .i64 0] 24 (0, 0)) := hx ▸ heap_alloc_new w _
  obtain ⟨y, hy⟩ : ∃ y, x.alloc (.cells #[.int .u64 3, .int .u64 2] 60) = y := ⟨_, rfl⟩
  have b1 : Below x.heap.size x y := hy ▸ (Below.refl _ _).alloc (Nat.le_refl _) _
  have k1 : y.heap[w.heap.size]? = some (.cells #[.slice none 0 0, .int .i64 0] 24 (0, 0)) := (b1.block _ (by rw [sx]; omega)).trans k0
  have k2 : y.heap[x.heap.size]? = some (.cells #[.int .u64 3, .int .u64 2] 60 (0, 0)) := hy ▸ heap_alloc_new x _
  have p0 := (cell_blk (i := 0) k1).trans rfl
  have p1 := (cell_blk (i := 1) k1).trans rfl
  have f0 : y.frozen? ⟨w.heap.size, 0, none⟩ = false := frozen_blk k1
  have f1 : y.frozen? ⟨w.heap.size, 1, none⟩ = false := frozen_blk k1
  have HK1 := Lib.hid k1
  have HK2 := Lib.hid k2
  have HB := Lib.hid (b0.trans (b1.mono b0.size))
  have HSX := Lib.hid sx
  clear b0 b1 k0 k1 k2 sx
  go_enter Tryz.func24, Tryz.ntmps24
  go_wp2_with fail
  clear hx hy
  refine bodyPost_ret (v := zV (some ⟨x.heap.size, 0, none⟩) 2 2 1) ?_ rfl ⟨x.heap.size, rfl, ?_, ?_⟩
  · exact results_cell_row (P := Tryz.prog) rfl _ _ w.heap.size 24 _ (0, 0) _ rfl (set_blk (set_blk HK1.out _) _) Tryz.underlying24 rfl rfl
  · have hne : x.heap.size ≠ w.heap.size := by have := HSX.out; omega
    have k2 : ((y.setCell ⟨w.heap.size, 0, none⟩ (.slice (some ⟨x.heap.size, 0, none⟩) 2 2)).setCell ⟨w.heap.size, 1, none⟩ (.int .i64 1)).heap[x.heap.size]? = some (.cells #[.int .u64 3, .int .u64 2] 60 (0, 0)) := (Below.heap_setCell _ _ _ _ hne).trans ((Below.heap_setCell _ _ _ _ hne).trans HK2.out)
    exact La.rd_blk (l := [3, 2]) k2 rfl (by decide)
  · exact below_set (below_set HB.out (Nat.le_refl _) _) (Nat.le_refl _) _


/-- The boxes of two senses. -/
structure B8 (w : World) (g : Nat) (A1 : Option Addr) (n1 c1 : Nat) (A2 : Option Addr) (n2 c2 : Nat) (A3 : Option Addr) (n3 c3 : Nat) (A4 : Option Addr) (n4 c4 : Nat) (B1 : Option Addr) (m1 d1 : Nat) (B2 : Option Addr) (m2 d2 : Nat) (B3 : Option Addr) (m3 d3 : Nat) (B4 : Option Addr) (m4 d4 : Nat) : Prop where
  p0 : w.cell? ⟨g, 0, none⟩ = some (.slice A1 n1 c1)
  p1 : w.cell? ⟨g, 1, none⟩ = some (.slice A2 n2 c2)
  p2 : w.cell? ⟨g, 2, none⟩ = some (.slice A3 n3 c3)
  p3 : w.cell? ⟨g, 3, none⟩ = some (.slice A4 n4 c4)
  q0 : w.cell? ⟨g + 1, 0, none⟩ = some (.slice B1 m1 d1)
  q1 : w.cell? ⟨g + 1, 1, none⟩ = some (.slice B2 m2 d2)
  q2 : w.cell? ⟨g + 1, 2, none⟩ = some (.slice B3 m3 d3)
  q3 : w.cell? ⟨g + 1, 3, none⟩ = some (.slice B4 m4 d4)
theorem B8.keep {w W : World} {g : Nat} {A1 : Option Addr} {n1 c1 : Nat} {A2 : Option Addr} {n2 c2 : Nat} {A3 : Option Addr} {n3 c3 : Nat} {A4 : Option Addr} {n4 c4 : Nat} {B1 : Option Addr} {m1 d1 : Nat} {B2 : Option Addr} {m2 d2 : Nat} {B3 : Option Addr} {m3 d3 : Nat} {B4 : Option Addr} {m4 d4 : Nat} (h : B8 w g A1 n1 c1 A2 n2 c2 A3 n3 c3 A4 n4 c4 B1 m1 d1 B2 m2 d2 B3 m3 d3 B4 m4 d4) (hb : Below w.heap.size w W) : B8 W g A1 n1 c1 A2 n2 c2 A3 n3 c3 A4 n4 c4 B1 m1 d1 B2 m2 d2 B3 m3 d3 B4 m4 d4 :=
  ⟨cell_old h.p0 hb, cell_old h.p1 hb, cell_old h.p2 hb, cell_old h.p3 hb, cell_old h.q0 hb, cell_old h.q1 hb, cell_old h.q2 hb, cell_old h.q3 hb⟩
theorem B8.new (w : World) (A1 : Option Addr) (n1 c1 : Nat) (A2 : Option Addr) (n2 c2 : Nat) (A3 : Option Addr) (n3 c3 : Nat) (A4 : Option Addr) (n4 c4 : Nat) (B1 : Option Addr) (m1 d1 : Nat) (B2 : Option Addr) (m2 d2 : Nat) (B3 : Option Addr) (m3 d3 : Nat) (B4 : Option Addr) (m4 d4 : Nat) :
    B8 ((w.alloc (.cells #[.slice A1 n1 c1, .slice A2 n2 c2, .slice A3 n3 c3, .slice A4 n4 c4] 28)).alloc (.cells #[.slice B1 m1 d1, .slice B2 m2 d2, .slice B3 m3 d3, .slice B4 m4 d4] 28)) w.heap.size A1 n1 c1 A2 n2 c2 A3 n3 c3 A4 n4 c4 B1 m1 d1 B2 m2 d2 B3 m3 d3 B4 m4 d4 := by
  obtain ⟨x, hx⟩ : ∃ x, w.alloc (.cells #[.slice A1 n1 c1, .slice A2 n2 c2, .slice A3 n3 c3, .slice A4 n4 c4] 28) = x := ⟨_, rfl⟩
  have sx : x.heap.size = w.heap.size + 1 := by rw [← hx, World.size_alloc]
  have b1 : Below x.heap.size x (x.alloc (.cells #[.slice B1 m1 d1, .slice B2 m2 d2, .slice B3 m3 d3, .slice B4 m4 d4] 28)) := (Below.refl _ _).alloc (Nat.le_refl _) _
  have k0 := (b1.block w.heap.size (by rw [sx]; omega)).trans (hx ▸ heap_alloc_new w (.cells #[.slice A1 n1 c1, .slice A2 n2 c2, .slice A3 n3 c3, .slice A4 n4 c4] 28))
  have k1 := heap_alloc_new x (.cells #[.slice B1 m1 d1, .slice B2 m2 d2, .slice B3 m3 d3, .slice B4 m4 d4] 28)
  rw [sx] at k1
  rw [hx]
  exact ⟨(cell_blk (i := 0) k0).trans rfl, (cell_blk (i := 1) k0).trans rfl, (cell_blk (i := 2) k0).trans rfl, (cell_blk (i := 3) k0).trans rfl, (cell_blk (i := 0) k1).trans rfl, (cell_blk (i := 1) k1).trans rfl, (cell_blk (i := 2) k1).trans rfl, (cell_blk (i := 3) k1).trans rfl⟩
theorem two_below (w : World) (o o' : Obj) : Below w.heap.size w ((w.alloc o).alloc o') := ((Below.refl _ _).alloc (Nat.le_refl _) _).alloc (by simp) _

theorem fits_e2 : ∀ x ∈ sE2.b, x.Fits := fits_cons fits_fun (fits_cons (fits_I _ _) (fits_cons (fits_I _ _) fits_nil))
theorem tfits_e2 : ∀ x ∈ sE2.b, x.TFits := fun x hx => by
  simp only [sE2, List.mem_cons, List.not_mem_nil, or_false] at hx
  rcases hx with rfl | rfl | rfl
  · exact tfits_F
  · exact tfits_I (by decide)
  · exact tfits_I (by decide)
abbrev oE2 : Obj := .cells #[.int .u8 5, .int .i64 0, .string (str []), .int .i64 2, .bool false, .int .u64 0, .bool false, .int .u64 0, .bool false, .int .u64 0, .int .u8 1, .int .i64 0, .string (str [105, 110, 116]), .int .i64 0, .bool true, .int .u64 0, .bool false, .int .u64 0, .bool false, .int .u64 0, .int .u8 1, .int .i64 0, .string (str [105, 110, 116]), .int .i64 0, .bool true, .int .u64 0, .bool false, .int .u64 0, .bool false, .int .u64 0] 116
theorem at_e2 (w : World) : SchAt (w.alloc oE2) sE2 (some ⟨w.heap.size, 0, none⟩) 3 3 none 0 0 none 0 0 :=
  ⟨Rs.of_own ndc_len (by decide) (own_of_blk (l := [nFun, nI true 0, nI true 0]) (n := 3) (heap_alloc_new w oE2) (Nat.zero_le _) rfl rfl (by unfold maxLen; omega)), fits_e2, tfits_e2, Rs.nil _ _, (fun _ h => by cases h), Rs.nil _ _, fun _ h => by cases h⟩


/-! ### What is alike, and fixed, there -/
/-- A test for what one is alike by. -/
def lookC (z : I.Sen) (i j : Nat) : Bool := decide (I.sd z i = I.sd z j) &&
  ((decide (I.sd z i = 1) || (decide (I.lw z i = I.lw z j) && (List.range z.p.length).all fun k => I.bb z k i == I.bb z k j)) &&
   (decide (I.sd z i = 0) || (decide (I.hg z i = I.hg z j) && (List.range z.p.length).all fun k => I.bb z i k == I.bb z j k)))
theorem look_C {z : I.Sen} {i j : Nat} (h : lookC z i j = false) : ¬ I.Look z i j := by
  intro hl
  obtain ⟨h1, h2, h3⟩ := hl
  have : lookC z i j = true := by
    unfold lookC
    rw [Bool.and_eq_true, Bool.and_eq_true, Bool.or_eq_true, Bool.or_eq_true]
    refine ⟨decide_eq_true h1, ?_, ?_⟩
    · by_cases e : I.sd z i = 1
      · exact .inl (decide_eq_true e)
      · refine .inr ?_
        rw [Bool.and_eq_true, List.all_eq_true]
        exact ⟨decide_eq_true (h2 e).1, fun k hk => beq_iff_eq.2 ((h2 e).2 k (List.mem_range.1 hk))⟩
    · by_cases e : I.sd z i = 0
      · exact .inl (decide_eq_true e)
      · refine .inr ?_
        rw [Bool.and_eq_true, List.all_eq_true]
        exact ⟨decide_eq_true (h3 e).1, fun k hk => beq_iff_eq.2 ((h3 e).2 k (List.mem_range.1 hk))⟩
  rw [h] at this
  cases this
abbrev zL : I.Sen := toI z2
theorem zL_len : zL.p.length = 4 := by decide +kernel
theorem zL_no : (List.range 4).all (fun i => (List.range i).all fun j => !lookC zL j i) = true := by decide +kernel
theorem zL_first {i : Nat} (h : i < 4) : I.first zL i = i := I.first_self fun j hj _ => look_C (by
  have h1 := List.all_eq_true.1 zL_no i (List.mem_range.2 h)
  have h2 := List.all_eq_true.1 h1 j (List.mem_range.2 hj)
  simpa using h2)
set_option maxRecDepth 100000 in
theorem simple_any (w : World) : Calls Tryz.prog 25 #[] w fun e w' => ∃ g, e = .returned (schV sE2 (some ⟨g, 0, none⟩) 3 3 none 0 0 none 0 0) ∧ SchAt w' sE2 (some ⟨g, 0, none⟩) 3 3 none 0 0 none 0 0 ∧ Below w.heap.size w w' := by
  obtain ⟨x, hx⟩ : ∃ x, w.alloc (.cells #[.int .i64 1, .int .i64 0, .slice (some ⟨w.heap.size + 1 + 1, 0, none⟩) 3 3, .slice none 0 0, .slice none 0 0] 49) = x := ⟨_, rfl⟩
  obtain ⟨y, hy⟩ : ∃ y, x.alloc (.cells #[.bool true, .int .u64 0] 62) = y := ⟨_, rfl⟩
  have b0 : Below w.heap.size w x := hx ▸ (Below.refl _ _).alloc (Nat.le_refl _) _
  have sx : x.heap.size = w.heap.size + 1 := by rw [← hx, World.size_alloc]
  have b1 : Below x.heap.size x y := hy ▸ (Below.refl _ _).alloc (Nat.le_refl _) _
  have sy : y.heap.size = w.heap.size + 1 + 1 := by rw [← hy, World.size_alloc, sx]
  have b2 : Below y.heap.size y (y.alloc oE2) := (Below.refl _ _).alloc (Nat.le_refl _) _
  have k0 : (y.alloc oE2).heap[w.heap.size]? = some (.cells #[.int .i64 1, .int .i64 0, .slice (some ⟨w.heap.size + 1 + 1, 0, none⟩) 3 3, .slice none 0 0, .slice none 0 0] 49 (0, 0)) := (b2.block _ (by rw [sy]; omega)).trans ((b1.block _ (by rw [sx]; omega)).trans (hx ▸ heap_alloc_new w _))
  have hs := at_e2 y
  rw [sy] at hs
  have hb : Below w.heap.size w (y.alloc oE2) := b0.trans ((b1.trans (b2.mono b1.size)).mono b0.size)
  have HK := Lib.hid k0
  have HS := Lib.hid hs
  have HB := Lib.hid hb
  clear b0 b1 b2 sx sy k0 hs hb
  subst hx hy
  unfold schV
  go_enter Tryz.func25, Tryz.ntmps25
  go_wp2_with fail
  refine bodyPost_ret (v := schV sE2 (some ⟨w.heap.size + 1 + 1, 0, none⟩) 3 3 none 0 0 none 0 0) ?_ rfl ⟨_, rfl, HS.out, HB.out⟩
  exact results_cell_row (P := Tryz.prog) rfl _ _ w.heap.size 49 _ (0, 0) _ rfl HK.out Tryz.underlying49 rfl rfl

end Go.Proofs.YtmejhedegmjboaaGreat
