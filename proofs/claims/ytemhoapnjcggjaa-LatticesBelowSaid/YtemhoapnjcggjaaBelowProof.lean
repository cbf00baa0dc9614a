/- Proved: whatever the rows, and whichever two labels, LatticesBelow answers true: one is below another one just if their join is that one, and just if their meet is this one; the bottom is below all, the top above all; the arguments stay as they were. No condition. -/
import Derived.Test.YtemhoapnjcggjaaLatLaw
import Derived.Test.YtemhoapnjcggjaaRefCheck
import Derived.Test.YtemhoapnjcggjaaRows
namespace Go.Proofs.Ytemhoapnjcggjaa.latticesBelow
open Go.ChangeShapes Go.WideShapes Go.ChangeAt Go.RowKit

theorem own : ownKnob Try.prog.godebug = none := by kernel_rfl
theorem laidOut : laidOutB Try.prog = true := by kernel_rfl

set_option maxRecDepth 100000 in
set_option maxHeartbeats 2000000 in
theorem walk (A : Option Addr) (n c0 : Nat) (l : List Nat) (z0 z1 : Nat) (w : World) (h : Rd nm w w.heap.size A n c0 l) (hf : Fit l) (hz0 : z0 < 256) (hz1 : z1 < 256) :
    Calls Try.prog 6 #[.slice A n c0, .agg #[.int .u8 (z0 : Int), .int .u8 (z1 : Int)]] w fun e w' => e = .returned (.bool true) ∧ Below w.heap.size w w' := by
  have hal := (Below.refl w.heap.size w).alloc (Nat.le_refl _) (.cells #[.int .u8 (z0 : Int), .int .u8 (z1 : Int)] 48)
  have h' := h.at_size (Nat.le_refl _) hal
  by_cases hx : checkN l = 0
  case neg =>
    have hm := made_no A n c0 l _ h' hf hx
    clear h h' hal hx
    go_enter Try.func6, Try.ntmps6
    go_wp2_with fail
    refine hm.mono ?_
    rintro e w1 ⟨rfl, b1⟩
    have b01 := Below.next (Below.refl _ w) b1
    clear hm b1
    go_wp2_with fail
    refine (alive_any _).mono ?_
    rintro e w2 ⟨rfl, b2⟩
    go_wp2_with fail
    go_ret
    exact ⟨rfl, Below.then b01 b2⟩
  have hok := latOK_of hx
  have hl := h.len
  have hn : 1 ≤ n ∧ n ≤ 64 := by rw [← hl]; exact hok.known.1
  have hm := made_yes A n c0 l _ h' hf hx
  clear h h' hal hx hf
  have hmod0 := rem_nat z0 n
  have ha : z0 % n < n := Nat.mod_lt _ (by omega)
  generalize z0 % n = a at *
  have hmod1 := rem_nat z1 n
  have hb : z1 % n < n := Nat.mod_lt _ (by omega)
  generalize z1 % n = b at *
  have hn0 : ((n : Int) == 0) = false := by simp; omega
  have hn1 : ¬ (n : Int) = 0 := by omega
  have hn2 : ¬ n = 0 := by omega
  go_enter Try.func6, Try.ntmps6
  go_wp2_with fail
  refine hm.mono ?_
  rintro e w1 ⟨g, rfl, hg, hlat, b1⟩
  have hc0 : w1.cell? ⟨w.heap.size, 0, none⟩ = some (.int .u8 (z0 : Int)) := by
    rw [b1.cell (p := ⟨w.heap.size, 0, none⟩) (by simp), cell_blk (heap_alloc_new w _)]
    rfl
  have hc1 : w1.cell? ⟨w.heap.size, 1, none⟩ = some (.int .u8 (z1 : Int)) := by
    rw [b1.cell (p := ⟨w.heap.size, 1, none⟩) (by simp), cell_blk (heap_alloc_new w _)]
    rfl
  have b01 := Below.next (Below.refl _ w) b1
  obtain ⟨x, y, s, t, r, bs, bt1, e1, e2, e3, q1, q2, e4, e5, e6, e7, e8, e9, e10, e11⟩ := below_facts hok hl ha hb
  have HLAT := Lib.hid hlat
  have j1 := Lib.hid (l_below hlat hl a b r (by omega) (by omega) e1)
  have j2 := Lib.hid (l_has hlat a true (by simpa using ha))
  have j3 := Lib.hid (l_join hlat hl a b x (by omega) (by omega) e2)
  have j4 := Lib.hid (l_meet hlat hl a b y (by omega) (by omega) e3)
  have j5 := Lib.hid (l_bottom hlat hl s e4)
  have j6 := Lib.hid (l_below hlat hl s a true (by omega) (by omega) e6)
  have j7 := Lib.hid (l_top hlat hl t e5)
  have j8 := Lib.hid (l_below hlat hl a t true (by omega) (by omega) e7)
  have j9 := Lib.hid (l_has hlat n false (by simp))
  have m1 := Lib.hid (fun W (hW : LatAt W g n (pad l) (pad (turnedN l))) => l_bottom hW hl s e4 W rfl)
  have m2 := Lib.hid (fun W (hW : LatAt W g n (pad l) (pad (turnedN l))) => l_join hW hl a s a (by omega) (by omega) e8 W rfl)
  have m3 := Lib.hid (fun W (hW : LatAt W g n (pad l) (pad (turnedN l))) => l_top hW hl t e5 W rfl)
  have m4 := Lib.hid (fun W (hW : LatAt W g n (pad l) (pad (turnedN l))) => l_meet hW hl a t a (by omega) (by omega) e9 W rfl)
  have m5 := Lib.hid (fun W (hW : LatAt W g n (pad l) (pad (turnedN l))) => l_join hW hl a t t (by omega) (by omega) e10 W rfl)
  have m6 := Lib.hid (fun W (hW : LatAt W g n (pad l) (pad (turnedN l))) => l_meet hW hl a s s (by omega) (by omega) e11 W rfl)
  have q3 : (r != r) = false := by simp
  have q4 : ((a : Int) == (a : Int)) = true := by simp
  have q5 : ((t : Int) == (t : Int)) = true := by simp
  have q6 : ((s : Int) == (s : Int)) = true := by simp
  have H0 := Lib.hid hmod0
  have H1 := Lib.hid hmod1
  clear hmod0 hmod1 e1 e2 e3 e4 e5 e6 e7 e8 e9 e10 e11 hlat hm hok b1
  go_wp2_with fail
  rw [H0.out, H1.out]
  refine (j1.out _ rfl).mono ?_
  rintro e w1x1 ⟨rfl, hd⟩
  have kw1x1 := hd.heap.trans rfl
  have bw1x1 := b01.trans (hd.below (B := w.heap.size))
  clear hd  b01
  go_wp2_with fail
  refine (j2.out _ kw1x1).mono ?_
  rintro e w' ⟨rfl, rfl⟩
  go_wp2_with fail
  refine (j3.out _ kw1x1).mono ?_
  rintro e w' ⟨rfl, rfl⟩
  go_wp2_with fail
  refine (j4.out _ kw1x1).mono ?_
  rintro e w' ⟨rfl, rfl⟩
  go_wp2_with fail
  refine (j5.out _ kw1x1).mono ?_
  rintro e w' ⟨rfl, rfl⟩
  go_wp2_with fail
  refine (j6.out _ kw1x1).mono ?_
  rintro e w1x2 ⟨rfl, hd⟩
  have kw1x2 := hd.heap.trans kw1x1
  have bw1x2 := bw1x1.trans (hd.below (B := w.heap.size))
  clear hd kw1x1 bw1x1
  go_wp2_with fail
  refine (j7.out _ kw1x2).mono ?_
  rintro e w' ⟨rfl, rfl⟩
  go_wp2_with fail
  refine (j8.out _ kw1x2).mono ?_
  rintro e w1x3 ⟨rfl, hd⟩
  have kw1x3 := hd.heap.trans kw1x2
  have bw1x3 := bw1x2.trans (hd.below (B := w.heap.size))
  clear hd kw1x2 bw1x2
  go_wp2_with fail
  refine (j9.out _ kw1x3).mono ?_
  rintro e w' ⟨rfl, rfl⟩
  have HL3 := HLAT.out.heap kw1x3
  go_wp2_with fail
  refine (alive_any _).mono ?_
  rintro e w2 ⟨rfl, b2⟩
  have hk2 := HL3.keep b2
  have b02 := Below.then bw1x3 b2
  have i1 := m1.out w2 hk2
  have i2 := m2.out w2 hk2
  have i3 := m3.out w2 hk2
  have i4 := m4.out w2 hk2
  have i5 := m5.out w2 hk2
  have i6 := m6.out w2 hk2
  clear b2 bw1x3 hk2 HL3
  go_wp2_with fail
  refine i1.mono ?_
  rintro e w' ⟨rfl, rfl⟩
  go_wp2_with fail
  refine i2.mono ?_
  rintro e w' ⟨rfl, rfl⟩
  go_wp2_with fail
  refine i3.mono ?_
  rintro e w' ⟨rfl, rfl⟩
  go_wp2_with fail
  refine i4.mono ?_
  rintro e w' ⟨rfl, rfl⟩
  go_wp2_with fail
  refine i3.mono ?_
  rintro e w' ⟨rfl, rfl⟩
  go_wp2_with fail
  refine i5.mono ?_
  rintro e w' ⟨rfl, rfl⟩
  go_wp2_with fail
  refine i3.mono ?_
  rintro e w' ⟨rfl, rfl⟩
  go_wp2_with fail
  refine i1.mono ?_
  rintro e w' ⟨rfl, rfl⟩
  go_wp2_with fail
  refine i6.mono ?_
  rintro e w' ⟨rfl, rfl⟩
  go_wp2_with fail
  refine i1.mono ?_
  rintro e w' ⟨rfl, rfl⟩
  go_wp2_with fail
  go_ret
  exact ⟨rfl, b02⟩

set_option maxRecDepth 100000 in
theorem lifted (os : Os) (started : os.Started) (H : Type) (enc : TypeId × Value → H) :
    ReturnsInHanded {} Try.checked os 6 .any (Rows.latticesBelowSpec.pre6 enc Try.prog Try.f6 Rows.latticesBelowRow.domain false) (Rows.latticesBelowSpec.post enc Try.prog Try.f6 false true false false) := by
  refine returnsInHanded_of_change (C := Try.checked) own started (by kernel_rfl) Try.func6
    (ChangeSpec.witness6 (enc := enc) (C := Try.checked) false ⟨#[], #[.slice none 0 0, .agg #[.int .u8 0, .int .u8 0]], []⟩ 8 (by kernel_rfl) (by kernel_rfl) (by kernel_rfl) (by kernel_rfl)) ?_
  intro W base args ds gs before hval0 hW hcnd _
  have hval : ∀ (j : Nat) t v, Try.f6.params[j]? = some t → args[j]? = some v → Value.okWide Try.prog W .any base t v := hval0
  have hW' := hW
  obtain ⟨p, q, hA0, hV, rfl, hfz, hnd⟩ := hW
  have hA : DataW.TrodAll enc Try.prog W 0 (fun _ => true) true Try.f6.params.toList args.toList ds p := hA0
  rw [Try.params6] at hA hval
  obtain ⟨v0, vs0, d0, ds0, p0, q0, hargs, rfl, rfl, h0, r0⟩ := trodAll_cons hA
  obtain ⟨v1, vs1, d1, ds1, p1, q1, rfl, rfl, rfl, h1, r1⟩ := trodAll_cons r0
  obtain ⟨rfl, rfl, rfl⟩ := trodAll_nil r1
  obtain rfl : args = #[v0, v1] := by cases args; simp_all
  obtain ⟨rfl, rfl⟩ := trodVars_none hV
  obtain ⟨a0, len0, cap0, rfl⟩ := okWide_slice Try.underlying22 (hval 0 22 v0 rfl rfl)
  have lt0 : ∀ x ∈ p0, x.block < W.heap.size := by obtain ⟨m, hm⟩ := h0; exact DataW.trod_lt m _ _ _ hm
  have lt1 : ∀ x ∈ p1, x.block < W.heap.size := by obtain ⟨m, hm⟩ := h1; exact DataW.trod_lt m _ _ _ hm
  obtain ⟨us, hr, hu⟩ := opened_nums Try.underlying22 Try.underlying23 (by kernel_rfl) h0
  obtain ⟨z0, z1, rfl, wz0, wz1⟩ := opened_two Try.underlying48 Try.underlying5 (by kernel_rfl) (by kernel_rfl) h1
  clear hA0 hval0
  obtain ⟨y0, rfl, hy0⟩ := u8_nat2 wz0
  obtain ⟨y1, rfl, hy1⟩ := u8_nat2 wz1
  refine (walk a0 len0 cap0 us y0 y1 W hr hu hy0 hy1).mono fun e W' ⟨he, bel⟩ => ?_
  subst he
  exact ⟨_, rfl, _, _, _, [], _, [], hW', trodAll_mk1 (shut_bool Try.underlying4 _), (trodAll_cons_mk (Below.trod laidOut (by kernel_rfl) (of_decide_eq_true (by kernel_rfl)) h0 bel lt0) (trodAll_cons_mk (Below.trod laidOut (by kernel_rfl) (of_decide_eq_true (by kernel_rfl)) h1 bel lt1) trodAll_mk0)), rfl, bel.frame _, fun h => by cases h⟩

theorem over : Rows.latticesBelowRow.holds Try.pinned (OpenSpec.ofChange Rows.latticesBelowSpec) :=
  OpenClaim.holds_of_wide 6 Try.f6 rfl rfl rfl rfl rfl rfl rfl ⟨rfl, rfl, rfl, rfl, rfl⟩ rfl rfl rfl rfl rfl (by kernel_rfl) Try.func6 (by kernel_rfl)
    (of_decide_eq_true (by kernel_rfl)) (by unfold Func.isWrapper; first | (rw [if_pos (by decide +kernel)]; kernel_rfl) | (rw [if_neg (by decide +kernel)]; exact ⟨rfl, rfl⟩))
    (fun os started H enc _ => lifted os started H enc)

theorem proved : Rows.LatticesBelowSaid := over
#print axioms proved

end Go.Proofs.Ytemhoapnjcggjaa.latticesBelow
