/- The example that all laws ask: lives is true. No condition. -/
import Derived.Test.YtfmpecnkkbpdlaaGreatCame
import Derived.Test.YtfmpecnkkbpdlaaGreatLssC
namespace Go.Proofs.YtfmpecnkkbpdlaaGreat
open Go.RowKit

def nI (v : Bool) (x : Nat) : Nd := ⟨1, 0, [105, 110, 116], 0, v, (x : Int), false, 0, false, 0⟩
theorem fits_I (v : Bool) (x : Nat) : (nI v x).Fits := ⟨fits_int.k0, fits_int.k1, fits_int.m0, fits_int.m1, fits_int.n0, fits_int.n1, fits_int.s1⟩
theorem tfits_I {v : Bool} {x : Nat} (h : x < 18446744073709551616) : (nI v x).TFits := ⟨⟨by simp [nI], by simp [nI]; omega⟩, ⟨by simp [nI], by simp [nI]⟩, ⟨by simp [nI], by simp [nI]⟩⟩
theorem tfits_F : nFun.TFits := ⟨⟨by simp [nFun], by simp [nFun]⟩, ⟨by simp [nFun], by simp [nFun]⟩, ⟨by simp [nFun], by simp [nFun]⟩⟩
/-- The two schemes. -/
def sE1 : Sch := ⟨1, 0, [nI true 0], [], []⟩
def sE2 : Sch := ⟨1, 0, [nFun, nI true 0, nI true 0], [], []⟩
abbrev lS : Bo.Sr := laOf [3, 2]
abbrev xS : Bo.Sr := efOf 1
def z1 : Sen := senS lS [0] [1] (rcB 1 []) (labB sE1.b)
def z2 : Sen := senS lS [0] [1] (rcB 1 []) (labB sE2.b)

theorem ex_c1 : sE1.check lS xS = 0 := by decide +kernel
theorem ex_c2 : sE2.check lS xS = 0 := by decide +kernel
theorem ex_bot : lS.bot = 0 := by decide +kernel
theorem ex_top : lS.top = 1 := by decide +kernel
theorem ex_has : lS.has 0 = true := by decide +kernel
theorem z1_lo : z1.lo = [0] := by decide +kernel
theorem z1_hi : z1.hi = [1] := by decide +kernel
theorem z1_be : z1.be = [[false]] := by decide +kernel
theorem z2_p : z2.p.length = 4 := by decide +kernel
theorem z2_be : z2.be = [[false, false, false, false], [true, false, false, true], [false, false, false, true], [false, false, false, false]] := by decide +kernel
theorem z2_less : lessS lS z2 z2 = true := by decide +kernel

theorem low_nil {S : Bo.Sr} (hS : S.Ok) {v : List Nat} (h : Bo.IsLow S 1 [] v) (hb : S.has S.bot = true) : v = [S.bot] :=
  Bo.low_uniq hS h ⟨Bo.Under.start hS fun _ => hb, fun b hb => by cases hb⟩

theorem of_ex {s : Sch} {w : World} {x : Int} {p q : Q4} (h : OfIs lS xS s w x p q) (hc : s.check lS xS = 0) (h1 : s.lv = 1) (h2 : s.ev = 0) (hl : s.l = []) (he : s.e = []) : x = 0 ∧ SenIn w (senS lS [0] [1] (rcB 1 []) (labB s.b)) p := by
  rcases h with ⟨hx, -, -, h | ⟨-, -, h⟩⟩ | ⟨hx, ql, qe, lo, hi, lo', hi', hok, hp, -⟩
  · exact absurd (h.symm.trans hc) hx
  · exfalso
    rcases h with ⟨k, e, hn⟩ | ⟨k, e, hn⟩
    · have hk : k = 1 := by omega
      subst hk
      have := hn [0] ⟨rfl, fun i hi => by
        obtain rfl : i = 0 := by omega
        exact ex_has⟩
      rw [hl] at this
      cases this
    · have hk : k = 0 := by omega
      subst hk
      have := hn [] ⟨rfl, fun i hi => absurd hi (Nat.not_lt_zero i)⟩
      rw [he] at this
      cases this
  · obtain rfl : ql = 1 := by have := hok.lv; omega
    have hS := laOf_ok [3, 2]
    have g1 := hok.gl.low
    have g2 := hok.gl.high
    rw [hl] at g1 g2
    have hbb : lS.has lS.bot = true := by rw [ex_bot]; exact ex_has
    have e1 := low_nil hS g1 hbb
    have e2 := low_nil hS.turn g2 (hS.sub _ _ (hS.topl _ ex_has)).2
    rw [ex_bot] at e1
    replace e2 : hi = [lS.top] := e2
    rw [ex_top] at e2
    rw [e1, e2, hl] at hp
    exact ⟨hx, hp⟩

set_option maxRecDepth 100000 in
theorem chain_any (w : World) : Calls Tryz.prog 35 #[] w fun e w' => ∃ g, e = .returned (zV (some ⟨g, 0, none⟩) 2 2 1) ∧ Rd La.nm w' w'.heap.size (some ⟨g, 0, none⟩) 2 2 [3, 2] ∧ Below w.heap.size w w' := by
  obtain ⟨x, hx⟩ : ∃ x, w.alloc (.cells #[.slice none 0 0, .int .i64 0] 24) = x := ⟨_, rfl⟩
  have b0 : Below w.heap.size w x := hx ▸ (Below.refl _ _).alloc (Nat.le_refl _) _
  have sx : x.heap.size = w.heap.size + 1 := by rw [← hx, World.size_alloc]
  have k0 : x.heap[w.heap.size]? = some (.cells #[.slice none 0 0, .int .i64 0] 24 (0, 0)) := hx ▸ heap_alloc_new w _
  obtain ⟨y, hy⟩ : ∃ y, x.alloc (.cells #[.int .u64 3, .int .u64 2] 76) = y := ⟨_, rfl⟩
  have b1 : Below x.heap.size x y := hy ▸ (Below.refl _ _).alloc (Nat.le_refl _) _
  have k1 : y.heap[w.heap.size]? = some (.cells #[.slice none 0 0, .int .i64 0] 24 (0, 0)) := (b1.block _ (by rw [sx]; omega)).trans k0
  have k2 : y.heap[x.heap.size]? = some (.cells #[.int .u64 3, .int .u64 2] 76 (0, 0)) := hy ▸ heap_alloc_new x _
  have p0 := (cell_blk (i := 0) k1).trans rfl
  have p1 := (cell_blk (i := 1) k1).trans rfl
  have f0 : y.frozen? ⟨w.heap.size, 0, none⟩ = false := frozen_blk k1
  have f1 : y.frozen? ⟨w.heap.size, 1, none⟩ = false := frozen_blk k1
  have HK1 := Lib.hid k1
  have HK2 := Lib.hid k2
  have HB := Lib.hid (b0.trans (b1.mono b0.size))
  have HSX := Lib.hid sx
  clear b0 b1 k0 k1 k2 sx
  go_enter Tryz.func35, Tryz.ntmps35
  go_wp2_with fail
  clear hx hy
  refine bodyPost_ret (v := zV (some ⟨x.heap.size, 0, none⟩) 2 2 1) ?_ rfl ⟨x.heap.size, rfl, ?_, ?_⟩
  · exact results_cell_row (P := Tryz.prog) rfl _ _ w.heap.size 24 _ (0, 0) _ rfl (set_blk (set_blk HK1.out _) _) Tryz.underlying24 rfl rfl
  · have hne : x.heap.size ≠ w.heap.size := by have := HSX.out; omega
    have k2 : ((y.setCell ⟨w.heap.size, 0, none⟩ (.slice (some ⟨x.heap.size, 0, none⟩) 2 2)).setCell ⟨w.heap.size, 1, none⟩ (.int .i64 1)).heap[x.heap.size]? = some (.cells #[.int .u64 3, .int .u64 2] 76 (0, 0)) := (Below.heap_setCell _ _ _ _ hne).trans ((Below.heap_setCell _ _ _ _ hne).trans HK2.out)
    exact La.rd_blk (l := [3, 2]) k2 rfl (by decide)
  · exact below_set (below_set HB.out (Nat.le_refl _) _) (Nat.le_refl _) _

set_option maxRecDepth 100000 in
theorem term_any (n : Nat) (w : World) : Calls Tryz.prog 36 #[.int .u64 (n : Int)] w fun e w' => e = .returned (.agg #[.bool true, .int .u64 (n : Int)]) ∧ Below w.heap.size w w' := by
  have k0 := heap_alloc_new w (.cells #[.bool true, .int .u64 (n : Int)] 78)
  have hb : Below w.heap.size w (w.alloc (.cells #[.bool true, .int .u64 (n : Int)] 78)) := (Below.refl _ _).alloc (Nat.le_refl _) _
  go_enter Tryz.func36, Tryz.ntmps36
  go_wp2_with fail
  refine bodyPost_ret (v := .agg #[.bool true, .int .u64 (n : Int)]) ?_ rfl ⟨rfl, hb⟩
  exact results_cell_row (P := Tryz.prog) rfl _ _ w.heap.size 78 _ (0, 0) _ rfl k0 Tryz.underlying78 rfl rfl

theorem B8.new (w : World) (A1 : Option Addr) (n1 c1 : Nat) (A2 : Option Addr) (n2 c2 : Nat) (A3 : Option Addr) (n3 c3 : Nat) (A4 : Option Addr) (n4 c4 : Nat) (B1 : Option Addr) (m1 d1 : Nat) (B2 : Option Addr) (m2 d2 : Nat) (B3 : Option Addr) (m3 d3 : Nat) (B4 : Option Addr) (m4 d4 : Nat) :
    B8 ((w.alloc (.cells #[.slice A1 n1 c1, .slice A2 n2 c2, .slice A3 n3 c3, .slice A4 n4 c4] 28)).alloc (.cells #[.slice B1 m1 d1, .slice B2 m2 d2, .slice B3 m3 d3, .slice B4 m4 d4] 28)) w.heap.size A1 n1 c1 A2 n2 c2 A3 n3 c3 A4 n4 c4 B1 m1 d1 B2 m2 d2 B3 m3 d3 B4 m4 d4 := by
  obtain ⟨x, hx⟩ : ∃ x, w.alloc (.cells #[.slice A1 n1 c1, .slice A2 n2 c2, .slice A3 n3 c3, .slice A4 n4 c4] 28) = x := ⟨_, rfl⟩
  have sx : x.heap.size = w.heap.size + 1 := by rw [← hx, World.size_alloc]
  have b1 : Below x.heap.size x (x.alloc (.cells #[.slice B1 m1 d1, .slice B2 m2 d2, .slice B3 m3 d3, .slice B4 m4 d4] 28)) := (Below.refl _ _).alloc (Nat.le_refl _) _
  have k0 := (b1.block w.heap.size (by rw [sx]; omega)).trans (hx ▸ heap_alloc_new w (.cells #[.slice A1 n1 c1, .slice A2 n2 c2, .slice A3 n3 c3, .slice A4 n4 c4] 28))
  have k1 := heap_alloc_new x (.cells #[.slice B1 m1 d1, .slice B2 m2 d2, .slice B3 m3 d3, .slice B4 m4 d4] 28)
  rw [sx] at k1
  rw [hx]
  exact ⟨(cell_blk (i := 0) k0).trans rfl, (cell_blk (i := 1) k0).trans rfl, (cell_blk (i := 2) k0).trans rfl, (cell_blk (i := 3) k0).trans rfl, (cell_blk (i := 0) k1).trans rfl, (cell_blk (i := 1) k1).trans rfl, (cell_blk (i := 2) k1).trans rfl, (cell_blk (i := 3) k1).trans rfl⟩
theorem two_below (w : World) (o o' : Obj) : Below w.heap.size w ((w.alloc o).alloc o') := ((Below.refl _ _).alloc (Nat.le_refl _) _).alloc (by simp) _

theorem fits_e1 : ∀ x ∈ sE1.b, x.Fits := fits_cons (fits_I _ _) fits_nil
theorem fits_e2 : ∀ x ∈ sE2.b, x.Fits := fits_cons fits_fun (fits_cons (fits_I _ _) (fits_cons (fits_I _ _) fits_nil))
theorem tfits_e1 : ∀ x ∈ sE1.b, x.TFits := fun x hx => by
  simp only [sE1, List.mem_cons, List.not_mem_nil, or_false] at hx
  subst hx
  exact tfits_I (by decide)
theorem tfits_e2 : ∀ x ∈ sE2.b, x.TFits := fun x hx => by
  simp only [sE2, List.mem_cons, List.not_mem_nil, or_false] at hx
  rcases hx with rfl | rfl | rfl
  · exact tfits_F
  · exact tfits_I (by decide)
  · exact tfits_I (by decide)
abbrev oE1 : Obj := .cells #[.int .u8 1, .int .i64 0, .string (str [105, 110, 116]), .int .i64 0, .bool true, .int .u64 0, .bool false, .int .u64 0, .bool false, .int .u64 0] 91
abbrev oE2 : Obj := .cells #[.int .u8 5, .int .i64 0, .string (str []), .int .i64 2, .bool false, .int .u64 0, .bool false, .int .u64 0, .bool false, .int .u64 0, .int .u8 1, .int .i64 0, .string (str [105, 110, 116]), .int .i64 0, .bool true, .int .u64 0, .bool false, .int .u64 0, .bool false, .int .u64 0, .int .u8 1, .int .i64 0, .string (str [105, 110, 116]), .int .i64 0, .bool true, .int .u64 0, .bool false, .int .u64 0, .bool false, .int .u64 0] 91
theorem at_e1 (w : World) : SchAt (w.alloc oE1) sE1 (some ⟨w.heap.size, 0, none⟩) 1 1 none 0 0 none 0 0 :=
  ⟨Rs.of_own ndc_len (by decide) (own_of_blk (l := [nI true 0]) (n := 1) (heap_alloc_new w oE1) (Nat.zero_le _) rfl rfl (by unfold maxLen; omega)), fits_e1, tfits_e1, Rs.nil _ _, (fun _ h => by cases h), Rs.nil _ _, fun _ h => by cases h⟩
theorem at_e2 (w : World) : SchAt (w.alloc oE2) sE2 (some ⟨w.heap.size, 0, none⟩) 3 3 none 0 0 none 0 0 :=
  ⟨Rs.of_own ndc_len (by decide) (own_of_blk (l := [nFun, nI true 0, nI true 0]) (n := 3) (heap_alloc_new w oE2) (Nat.zero_le _) rfl rfl (by unfold maxLen; omega)), fits_e2, tfits_e2, Rs.nil _ _, (fun _ h => by cases h), Rs.nil _ _, fun _ h => by cases h⟩

set_option maxRecDepth 100000 in
set_option maxHeartbeats 4000000 in
theorem lives_any (w : World) : Calls Tryz.prog 11 #[] w fun e w' => e = .returned (.bool true) ∧ Below w.heap.size w w' := by
  go_enter Tryz.func11, Tryz.ntmps11
  go_wp2_with fail
  refine (chain_any w).mono ?_
  rintro e w1 ⟨g0, rfl, hr, hb1⟩
  have HB1 := Lib.hid hb1
  have hcall := of_sorts (some ⟨g0, 0, none⟩) 2 2 1 [3, 2] w1 hr (by intro x hx; simp only [List.mem_cons, List.not_mem_nil, or_false] at hx; omega)
  clear hr hb1
  have HC := Lib.hid hcall
  clear hcall
  go_wp2_with fail
  refine HC.out.mono ?_
  rintro e w2 ⟨a, b, rfl, hbo, hv⟩
  have HB2 := Lib.hid (HB1.out.trans (hv.mono HB1.out.size))
  have HBO := Lib.hid hbo
  clear hbo hv HC HB1
  go_wp2_with fail
  refine (term_any 0 w2).mono ?_
  rintro e w3 ⟨rfl, hv⟩
  have HB3 := Lib.hid (HB2.out.trans (hv.mono HB2.out.size))
  have hal : Below w3.heap.size w3 (w3.alloc oE1) := (Below.refl _ _).alloc (Nat.le_refl _) _
  have HBO3 := Lib.hid ((HBO.out.keep hv).keep hal)
  have HBA := Lib.hid (HB3.out.trans (hal.mono HB3.out.size))
  have HC := Lib.hid (senOf_any sE1 _ _ _ _ _ _ _ _ _ a b lS xS _ (at_e1 w3) HBO3.out (laOf_ok _) (efOf_ok _))
  clear hv hal HBO HB2 HB3
  unfold schV at HC
  go_wp2_with fail
  refine HC.out.mono ?_
  rintro e w4 ⟨x1, p1, q1, rfl, hof, hv⟩
  obtain ⟨hx1, hp1⟩ := of_ex hof ex_c1 rfl rfl rfl rfl
  obtain ⟨A1, n1, c1, A2, n2, c2, A3, n3, c3, A4, n4, c4⟩ := p1
  obtain ⟨B1, m1, d1, B2, m2, d2, B3, m3, d3, B4, m4, d4⟩ := q1
  replace hp1 : SenAt w4 z1 A1 n1 c1 A2 n2 c2 A3 n3 c3 A4 n4 c4 := hp1
  simp only [Q4.v, senV]
  have HB4 := Lib.hid (HBA.out.trans (hv.mono HBA.out.size))
  have HBO4 := Lib.hid (HBO3.out.keep hv)
  have HP1 := Lib.hid hp1
  clear hof hp1 hv HC HBO3 HBA
  subst hx1
  go_wp2_with fail
  have h8 := B8.new w4 A1 n1 c1 A2 n2 c2 A3 n3 c3 A4 n4 c4 B1 m1 d1 B2 m2 d2 B3 m3 d3 B4 m4 d4
  have hal := two_below w4 (.cells #[.slice A1 n1 c1, .slice A2 n2 c2, .slice A3 n3 c3, .slice A4 n4 c4] 28) (.cells #[.slice B1 m1 d1, .slice B2 m2 d2, .slice B3 m3 d3, .slice B4 m4 d4] 28)
  generalize (w4.alloc (.cells #[.slice A1 n1 c1, .slice A2 n2 c2, .slice A3 n3 c3, .slice A4 n4 c4] 28)).alloc (.cells #[.slice B1 m1 d1, .slice B2 m2 d2, .slice B3 m3 d3, .slice B4 m4 d4] 28) = wa at *
  have HBA := Lib.hid (HB4.out.trans (hal.mono HB4.out.size))
  have HBOA := Lib.hid (HBO4.out.keep hal)
  have HPA := Lib.hid (HP1.out.keep hal)
  have H8 := Lib.hid h8
  clear h8 hal HB4 HBO4 HP1
  generalize w4.heap.size = g3 at *
  refine (term_any 0 wa).mono ?_
  rintro e w5 ⟨rfl, hv⟩
  have HV5 := Lib.hid hv
  clear hv
  go_wp2_with fail
  refine (term_any 0 w5).mono ?_
  rintro e w6 ⟨rfl, hv⟩
  have HV6 := Lib.hid (HV5.out.trans (hv.mono HV5.out.size))
  clear hv HV5
  have hs2 := at_e2 w6
  have hal : Below w6.heap.size w6 (w6.alloc oE2) := (Below.refl _ _).alloc (Nat.le_refl _) _
  have hal2 : Below (w6.alloc oE2).heap.size (w6.alloc oE2) ((w6.alloc oE2).alloc (.cells #[.int .i64 1, .int .i64 0, .slice (some ⟨w6.heap.size, 0, none⟩) 3 3, .slice none 0 0, .slice none 0 0] 47)) := (Below.refl _ _).alloc (Nat.le_refl _) _
  have hbox := Box.new (w6.alloc oE2) 1 0 (some ⟨w6.heap.size, 0, none⟩) 3 3 none 0 0 none 0 0
  replace hs2 := hs2.keep hal2
  have hv7 := HV6.out.trans ((hal.trans (hal2.mono hal.size)).mono HV6.out.size)
  have HV7 := Lib.hid hv7
  have hcall := senOf_any sE2 _ _ _ _ _ _ _ _ _ a b lS xS _ hs2 (HBOA.out.keep hv7) (laOf_ok _) (efOf_ok _)
  rw [World.size_alloc] at hbox
  have z0 := hbox.z0
  have z1' := hbox.z1
  have z2' := hbox.z2
  have z3 := hbox.z3
  have z4 := hbox.z4
  clear hs2 hal hal2 hv7 hbox HV6
  have HC := Lib.hid hcall
  clear hcall
  unfold schV at HC
  go_wp2_with fail
  refine HC.out.mono ?_
  rintro e w8 ⟨x2, p2, q2, rfl, hof, hv⟩
  obtain ⟨hx2, hp2⟩ := of_ex hof ex_c2 rfl rfl rfl rfl
  obtain ⟨C1, k1, f1, C2, k2, f2, C3, k3, f3, C4, k4, f4⟩ := p2
  obtain ⟨D1, l1, i1, D2, l2, i2, D3, l3, i3, D4, l4, i4⟩ := q2
  replace hp2 : SenAt w8 z2 C1 k1 f1 C2 k2 f2 C3 k3 f3 C4 k4 f4 := hp2
  simp only [Q4.v, senV]
  have HV8 := Lib.hid (HV7.out.trans (hv.mono HV7.out.size))
  have HP2 := Lib.hid hp2
  clear hof hp2 hv HC HV7 z0 z1' z2' z3 z4
  subst hx2
  have h8b := B8.new w8 C1 k1 f1 C2 k2 f2 C3 k3 f3 C4 k4 f4 D1 l1 i1 D2 l2 i2 D3 l3 i3 D4 l4 i4
  have hal := two_below w8 (.cells #[.slice C1 k1 f1, .slice C2 k2 f2, .slice C3 k3 f3, .slice C4 k4 f4] 28) (.cells #[.slice D1 l1 i1, .slice D2 l2 i2, .slice D3 l3 i3, .slice D4 l4 i4] 28)
  have hvf := HV8.out.trans (hal.mono HV8.out.size)
  have h8 := H8.out.keep hvf
  have hpa := HPA.out.keep hvf
  have hpb := HP2.out.keep hal
  have HBF := Lib.hid (HBA.out.trans (hvf.mono HBA.out.size))
  have hbof := HBOA.out.keep hvf
  have e1 : n2 = 1 := by rw [← hpa.rl.len, z1_lo]; rfl
  have e2 : n3 = 1 := by rw [← hpa.rh.len, z1_hi]; rfl
  have e3 : k1 = 4 := by rw [← hpb.rp.len, z2_p]
  subst e1 e2 e3
  obtain ⟨b1, o1, rfl, -, hlo⟩ := hpa.rl.spot (by decide)
  have hlo0 := hlo 0 (by rw [z1_lo]; decide)
  rw [show z1.lo[0]'(by rw [z1_lo]; decide) = 0 by simp [z1_lo]] at hlo0
  obtain ⟨b2, o2, rfl, -, hhi⟩ := hpa.rh.spot (by decide)
  have hhi0 := hhi 0 (by rw [z1_hi]; decide)
  rw [show z1.hi[0]'(by rw [z1_hi]; decide) = 1 by simp [z1_hi]] at hhi0
  have hrb := hpa.rb
  rw [z1_be] at hrb
  obtain ⟨b3, o3, b4, o4, y1, rfl, -, hr1, -, hr2⟩ := hrb.at' (i := 0) (by decide) (j := 0) (by decide)
  have hsb := hpb.rb
  rw [z2_be] at hsb
  obtain ⟨b5, o5, b6, o6, y2, hC4, -, hr3, -, hr4⟩ := hsb.at' (i := 2) (by decide) (j := 3) (by decide)
  obtain ⟨b7, o7, b8, o8, y3, hC5, -, hr5, -, hr6⟩ := hsb.at' (i := 3) (by decide) (j := 2) (by decide)
  have hn4 := hrb.len
  have hk4 := hsb.len
  have en4 : n4 = 1 := hn4.symm
  have ek4 : k4 = 4 := hk4.symm
  subst en4 ek4 hC4
  injection hC5 with hC5
  injection hC5 with hC6 hC7
  subst hC6 hC7
  have t1 := h8.p1
  have t2 := h8.p2
  have t3 := h8.p3
  have t4 := h8b.p0
  have t5 := h8b.p1
  have t6 := h8b.p2
  have t7 := h8b.p3
  have hless := less_any (.iface 52 (.pointer a)) lS ⟨C1, 4, f1, C2, k2, f2, C3, k3, f3, some ⟨b5, o5, none⟩, 4, f4⟩ ⟨C1, 4, f1, C2, k2, f2, C3, k3, f3, some ⟨b5, o5, none⟩, 4, f4⟩ z2 z2 _ hbof.sl.into hpb hpb (show (4 : Nat) ≤ 100000 by decide) true z2_less
  simp only [Q4.v, senV] at hless
  have HL := Lib.hid hless
  replace hlo0 : _ = some (Value.int .u64 0) := hlo0
  replace hhi0 : _ = some (Value.int .u64 1) := hhi0
  replace hr2 : _ = some (Value.bool false) := hr2
  replace hr4 : _ = some (Value.bool true) := hr4
  replace hr6 : _ = some (Value.bool false) := hr6
  replace hr1 : _ = some (Value.slice (some ⟨b4, o4, none⟩) 1 y1) := hr1
  replace hr3 : _ = some (Value.slice (some ⟨b6, o6, none⟩) 4 y2) := hr3
  replace hr5 : _ = some (Value.slice (some ⟨b8, o8, none⟩) 4 y3) := hr5
  simp only [Nat.add_zero] at hlo0 hhi0 hr1 hr2
  clear hless h8 h8b hal hvf hpa hpb hbof hlo hhi hrb hsb hn4 hk4 H8 HPA HP2 HV8 HBOA HBA
  go_wp2_with fail
  trace_state
  refine HL.out.mono ?_
  rintro e w9 ⟨rfl, hv⟩
  have HF := Lib.hid (HBF.out.trans (hv.mono HBF.out.size))
  clear hv HL
  go_wp2_with fail
  go_ret
  exact ⟨rfl, HF.out⟩
end Go.Proofs.YtfmpecnkkbpdlaaGreat
