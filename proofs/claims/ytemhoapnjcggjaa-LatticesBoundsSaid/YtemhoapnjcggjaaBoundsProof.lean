/- Proved: whatever the rows, and whichever three labels, LatticesBounds answers true: a join is above both, and below whatever is above both; a meet is below both, and above whatever is below both; the arguments stay as they were. No condition. -/
import Derived.Test.YtemhoapnjcggjaaLatLaw
import Derived.Test.YtemhoapnjcggjaaRefCheck
import Derived.Test.YtemhoapnjcggjaaRows
namespace Go.Proofs.Ytemhoapnjcggjaa.latticesBounds
open Go.ChangeShapes Go.WideShapes Go.ChangeAt Go.RowKit

theorem own : ownKnob Try.prog.godebug = none := by kernel_rfl
theorem laidOut : laidOutB Try.prog = true := by kernel_rfl

set_option maxRecDepth 100000 in
set_option maxHeartbeats 2000000 in
theorem walk (A : Option Addr) (n c0 : Nat) (l : List Nat) (z0 z1 z2 : Nat) (w : World) (h : Rd nm w w.heap.size A n c0 l) (hf : Fit l) (hz0 : z0 < 256) (hz1 : z1 < 256) (hz2 : z2 < 256) :
    Calls Try.prog 7 #[.slice A n c0, .agg #[.int .u8 (z0 : Int), .int .u8 (z1 : Int), .int .u8 (z2 : Int)]] w fun e w' => e = .returned (.bool true) ∧ Below w.heap.size w w' := by
  have hal := (Below.refl w.heap.size w).alloc (Nat.le_refl _) (.cells #[.int .u8 (z0 : Int), .int .u8 (z1 : Int), .int .u8 (z2 : Int)] 44)
  have h' := h.at_size (Nat.le_refl _) hal
  by_cases hx : checkN l = 0
  case neg =>
    have hm := made_no A n c0 l _ h' hf hx
    clear h h' hal hx
    go_enter Try.func7, Try.ntmps7
    go_wp2_with fail
    refine hm.mono ?_
    rintro e w1 ⟨rfl, b1⟩
    have b01 := Below.next (Below.refl _ w) b1
    clear hm b1
    go_wp2_with fail
    refine (alive_any _).mono ?_
    rintro e w2 ⟨rfl, b2⟩
    go_wp2_with fail
    go_ret
    exact ⟨rfl, Below.then b01 b2⟩
  have hok := latOK_of hx
  have hl := h.len
  have hn : 1 ≤ n ∧ n ≤ 64 := by rw [← hl]; exact hok.known.1
  have hm := made_yes A n c0 l _ h' hf hx
  clear h h' hal hx hf
  have hmod0 := rem_nat z0 n
  have ha : z0 % n < n := Nat.mod_lt _ (by omega)
  generalize z0 % n = a at *
  have hmod1 := rem_nat z1 n
  have hb : z1 % n < n := Nat.mod_lt _ (by omega)
  generalize z1 % n = b at *
  have hmod2 := rem_nat z2 n
  have hc : z2 % n < n := Nat.mod_lt _ (by omega)
  generalize z2 % n = c at *
  have hn0 : ((n : Int) == 0) = false := by simp; omega
  have hn1 : ¬ (n : Int) = 0 := by omega
  have hn2 : ¬ n = 0 := by omega
  go_enter Try.func7, Try.ntmps7
  go_wp2_with fail
  refine hm.mono ?_
  rintro e w1 ⟨g, rfl, hg, hlat, b1⟩
  have hc0 : w1.cell? ⟨w.heap.size, 0, none⟩ = some (.int .u8 (z0 : Int)) := by
    rw [b1.cell (p := ⟨w.heap.size, 0, none⟩) (by simp), cell_blk (heap_alloc_new w _)]
    rfl
  have hc1 : w1.cell? ⟨w.heap.size, 1, none⟩ = some (.int .u8 (z1 : Int)) := by
    rw [b1.cell (p := ⟨w.heap.size, 1, none⟩) (by simp), cell_blk (heap_alloc_new w _)]
    rfl
  have hc2 : w1.cell? ⟨w.heap.size, 2, none⟩ = some (.int .u8 (z2 : Int)) := by
    rw [b1.cell (p := ⟨w.heap.size, 2, none⟩) (by simp), cell_blk (heap_alloc_new w _)]
    rfl
  have b01 := Below.next (Below.refl _ w) b1
  obtain ⟨j, m, r1, r2, s1, s2, bj, bm, e1, e2, e3, e4, e5, e6, e7, e8, e9, e10, e11, e12⟩ := bounds_facts hok hl ha hb hc
  have HLAT := Lib.hid hlat
  have j1 := Lib.hid (l_join hlat hl a b j (by omega) (by omega) e1)
  have j2 := Lib.hid (l_meet hlat hl a b m (by omega) (by omega) e2)
  have j3 := Lib.hid (l_below hlat hl a j true (by omega) (by omega) e3)
  have j4 := Lib.hid (l_below hlat hl b j true (by omega) (by omega) e4)
  have j5 := Lib.hid (l_below hlat hl m a true (by omega) (by omega) e5)
  have j6 := Lib.hid (l_below hlat hl m b true (by omega) (by omega) e6)
  have m1 := Lib.hid (fun w2 (hW : LatAt w2 g n (pad l) (pad (turnedN l))) => l_below hW hl a c r1 (by omega) (by omega) e7)
  have m2 := Lib.hid (fun w2 (hW : LatAt w2 g n (pad l) (pad (turnedN l))) => l_below hW hl b c r2 (by omega) (by omega) e8)
  have m3 := Lib.hid (fun w2 (hW : LatAt w2 g n (pad l) (pad (turnedN l))) => l_below hW hl j c (r1 && r2) (by omega) (by omega) e9)
  have m4 := Lib.hid (fun w2 (hW : LatAt w2 g n (pad l) (pad (turnedN l))) => l_below hW hl c a s1 (by omega) (by omega) e10)
  have m5 := Lib.hid (fun w2 (hW : LatAt w2 g n (pad l) (pad (turnedN l))) => l_below hW hl c b s2 (by omega) (by omega) e11)
  have m6 := Lib.hid (fun w2 (hW : LatAt w2 g n (pad l) (pad (turnedN l))) => l_below hW hl c m (s1 && s2) (by omega) (by omega) e12)
  have H0 := Lib.hid hmod0
  have H1 := Lib.hid hmod1
  have H2 := Lib.hid hmod2
  clear hmod0 hmod1 hmod2 e1 e2 e3 e4 e5 e6 e7 e8 e9 e10 e11 e12 hlat hm hok b1
  go_wp2_with fail
  rw [H0.out, H1.out, H2.out]
  refine (j1.out _ rfl).mono ?_
  rintro e w' ⟨rfl, rfl⟩
  go_wp2_with fail
  refine (j2.out _ rfl).mono ?_
  rintro e w' ⟨rfl, rfl⟩
  go_wp2_with fail
  refine (j3.out _ rfl).mono ?_
  rintro e w1x1 ⟨rfl, hd⟩
  have kw1x1 := hd.heap.trans rfl
  have bw1x1 := b01.trans (hd.below (B := w.heap.size))
  clear hd  b01
  go_wp2_with fail
  refine (j4.out _ kw1x1).mono ?_
  rintro e w1x2 ⟨rfl, hd⟩
  have kw1x2 := hd.heap.trans kw1x1
  have bw1x2 := bw1x1.trans (hd.below (B := w.heap.size))
  clear hd kw1x1 bw1x1
  go_wp2_with fail
  refine (j5.out _ kw1x2).mono ?_
  rintro e w1x3 ⟨rfl, hd⟩
  have kw1x3 := hd.heap.trans kw1x2
  have bw1x3 := bw1x2.trans (hd.below (B := w.heap.size))
  clear hd kw1x2 bw1x2
  go_wp2_with fail
  refine (j6.out _ kw1x3).mono ?_
  rintro e w1x4 ⟨rfl, hd⟩
  have kw1x4 := hd.heap.trans kw1x3
  have bw1x4 := bw1x3.trans (hd.below (B := w.heap.size))
  clear hd kw1x3 bw1x3
  have HL3 := HLAT.out.heap kw1x4
  go_wp2_with fail
  refine (alive_any _).mono ?_
  rintro e w2 ⟨rfl, b2⟩
  have hk2 := HL3.keep b2
  have b02 := Below.then bw1x4 b2
  have i1 := Lib.hid (m1.out w2 hk2)
  have i2 := Lib.hid (m2.out w2 hk2)
  have i3 := Lib.hid (m3.out w2 hk2)
  have i4 := Lib.hid (m4.out w2 hk2)
  have i5 := Lib.hid (m5.out w2 hk2)
  have i6 := Lib.hid (m6.out w2 hk2)
  clear b2 bw1x4 hk2 HL3 m1 m2 m3 m4 m5 m6
  have q1 : (r2 == r2) = true := by simp
  have q2 : (s2 == s2) = true := by simp
  cases r1 with
  | true =>
    rw [Bool.true_and] at i3
    cases s1 with
    | true =>
      rw [Bool.true_and] at i6
      go_wp2_with fail
      refine (i1.out _ rfl).mono ?_
      rintro e w2x1 ⟨rfl, hd⟩
      have kw2x1 := hd.heap.trans rfl
      have bw2x1 := b02.trans (hd.below (B := w.heap.size))
      clear hd  b02
      go_wp2_with fail
      refine (i2.out _ kw2x1).mono ?_
      rintro e w2x2 ⟨rfl, hd⟩
      have kw2x2 := hd.heap.trans kw2x1
      have bw2x2 := bw2x1.trans (hd.below (B := w.heap.size))
      clear hd kw2x1 bw2x1
      go_wp2_with fail
      refine (i3.out _ kw2x2).mono ?_
      rintro e w2x3 ⟨rfl, hd⟩
      have kw2x3 := hd.heap.trans kw2x2
      have bw2x3 := bw2x2.trans (hd.below (B := w.heap.size))
      clear hd kw2x2 bw2x2
      go_wp2_with fail
      refine (i4.out _ kw2x3).mono ?_
      rintro e w2x4 ⟨rfl, hd⟩
      have kw2x4 := hd.heap.trans kw2x3
      have bw2x4 := bw2x3.trans (hd.below (B := w.heap.size))
      clear hd kw2x3 bw2x3
      go_wp2_with fail
      refine (i5.out _ kw2x4).mono ?_
      rintro e w2x5 ⟨rfl, hd⟩
      have kw2x5 := hd.heap.trans kw2x4
      have bw2x5 := bw2x4.trans (hd.below (B := w.heap.size))
      clear hd kw2x4 bw2x4
      go_wp2_with fail
      refine (i6.out _ kw2x5).mono ?_
      rintro e w2x6 ⟨rfl, hd⟩
      have kw2x6 := hd.heap.trans kw2x5
      have bw2x6 := bw2x5.trans (hd.below (B := w.heap.size))
      clear hd kw2x5 bw2x5
      go_wp2_with fail
      go_ret
      exact ⟨rfl, bw2x6⟩
    | false =>
      rw [Bool.false_and] at i6
      go_wp2_with fail
      refine (i1.out _ rfl).mono ?_
      rintro e w2x1 ⟨rfl, hd⟩
      have kw2x1 := hd.heap.trans rfl
      have bw2x1 := b02.trans (hd.below (B := w.heap.size))
      clear hd  b02
      go_wp2_with fail
      refine (i2.out _ kw2x1).mono ?_
      rintro e w2x2 ⟨rfl, hd⟩
      have kw2x2 := hd.heap.trans kw2x1
      have bw2x2 := bw2x1.trans (hd.below (B := w.heap.size))
      clear hd kw2x1 bw2x1
      go_wp2_with fail
      refine (i3.out _ kw2x2).mono ?_
      rintro e w2x3 ⟨rfl, hd⟩
      have kw2x3 := hd.heap.trans kw2x2
      have bw2x3 := bw2x2.trans (hd.below (B := w.heap.size))
      clear hd kw2x2 bw2x2
      go_wp2_with fail
      refine (i4.out _ kw2x3).mono ?_
      rintro e w2x4 ⟨rfl, hd⟩
      have kw2x4 := hd.heap.trans kw2x3
      have bw2x4 := bw2x3.trans (hd.below (B := w.heap.size))
      clear hd kw2x3 bw2x3
      go_wp2_with fail
      refine (i6.out _ kw2x4).mono ?_
      rintro e w2x5 ⟨rfl, hd⟩
      have kw2x5 := hd.heap.trans kw2x4
      have bw2x5 := bw2x4.trans (hd.below (B := w.heap.size))
      clear hd kw2x4 bw2x4
      go_wp2_with fail
      go_ret
      exact ⟨rfl, bw2x5⟩
  | false =>
    rw [Bool.false_and] at i3
    cases s1 with
    | true =>
      rw [Bool.true_and] at i6
      go_wp2_with fail
      refine (i1.out _ rfl).mono ?_
      rintro e w2x1 ⟨rfl, hd⟩
      have kw2x1 := hd.heap.trans rfl
      have bw2x1 := b02.trans (hd.below (B := w.heap.size))
      clear hd  b02
      go_wp2_with fail
      refine (i3.out _ kw2x1).mono ?_
      rintro e w2x2 ⟨rfl, hd⟩
      have kw2x2 := hd.heap.trans kw2x1
      have bw2x2 := bw2x1.trans (hd.below (B := w.heap.size))
      clear hd kw2x1 bw2x1
      go_wp2_with fail
      refine (i4.out _ kw2x2).mono ?_
      rintro e w2x3 ⟨rfl, hd⟩
      have kw2x3 := hd.heap.trans kw2x2
      have bw2x3 := bw2x2.trans (hd.below (B := w.heap.size))
      clear hd kw2x2 bw2x2
      go_wp2_with fail
      refine (i5.out _ kw2x3).mono ?_
      rintro e w2x4 ⟨rfl, hd⟩
      have kw2x4 := hd.heap.trans kw2x3
      have bw2x4 := bw2x3.trans (hd.below (B := w.heap.size))
      clear hd kw2x3 bw2x3
      go_wp2_with fail
      refine (i6.out _ kw2x4).mono ?_
      rintro e w2x5 ⟨rfl, hd⟩
      have kw2x5 := hd.heap.trans kw2x4
      have bw2x5 := bw2x4.trans (hd.below (B := w.heap.size))
      clear hd kw2x4 bw2x4
      go_wp2_with fail
      go_ret
      exact ⟨rfl, bw2x5⟩
    | false =>
      rw [Bool.false_and] at i6
      go_wp2_with fail
      refine (i1.out _ rfl).mono ?_
      rintro e w2x1 ⟨rfl, hd⟩
      have kw2x1 := hd.heap.trans rfl
      have bw2x1 := b02.trans (hd.below (B := w.heap.size))
      clear hd  b02
      go_wp2_with fail
      refine (i3.out _ kw2x1).mono ?_
      rintro e w2x2 ⟨rfl, hd⟩
      have kw2x2 := hd.heap.trans kw2x1
      have bw2x2 := bw2x1.trans (hd.below (B := w.heap.size))
      clear hd kw2x1 bw2x1
      go_wp2_with fail
      refine (i4.out _ kw2x2).mono ?_
      rintro e w2x3 ⟨rfl, hd⟩
      have kw2x3 := hd.heap.trans kw2x2
      have bw2x3 := bw2x2.trans (hd.below (B := w.heap.size))
      clear hd kw2x2 bw2x2
      go_wp2_with fail
      refine (i6.out _ kw2x3).mono ?_
      rintro e w2x4 ⟨rfl, hd⟩
      have kw2x4 := hd.heap.trans kw2x3
      have bw2x4 := bw2x3.trans (hd.below (B := w.heap.size))
      clear hd kw2x3 bw2x3
      go_wp2_with fail
      go_ret
      exact ⟨rfl, bw2x4⟩

set_option maxRecDepth 100000 in
theorem lifted (os : Os) (started : os.Started) (H : Type) (enc : TypeId × Value → H) :
    ReturnsInHanded {} Try.checked os 7 .any (Rows.latticesBoundsSpec.pre6 enc Try.prog Try.f7 Rows.latticesBoundsRow.domain false) (Rows.latticesBoundsSpec.post enc Try.prog Try.f7 false true false false) := by
  refine returnsInHanded_of_change (C := Try.checked) own started (by kernel_rfl) Try.func7
    (ChangeSpec.witness6 (enc := enc) (C := Try.checked) false ⟨#[], #[.slice none 0 0, .agg #[.int .u8 0, .int .u8 0, .int .u8 0]], []⟩ 8 (by kernel_rfl) (by kernel_rfl) (by kernel_rfl) (by kernel_rfl)) ?_
  intro W base args ds gs before hval0 hW hcnd _
  have hval : ∀ (j : Nat) t v, Try.f7.params[j]? = some t → args[j]? = some v → Value.okWide Try.prog W .any base t v := hval0
  have hW' := hW
  obtain ⟨p, q, hA0, hV, rfl, hfz, hnd⟩ := hW
  have hA : DataW.TrodAll enc Try.prog W 0 (fun _ => true) true Try.f7.params.toList args.toList ds p := hA0
  rw [Try.params7] at hA hval
  obtain ⟨v0, vs0, d0, ds0, p0, q0, hargs, rfl, rfl, h0, r0⟩ := trodAll_cons hA
  obtain ⟨v1, vs1, d1, ds1, p1, q1, rfl, rfl, rfl, h1, r1⟩ := trodAll_cons r0
  obtain ⟨rfl, rfl, rfl⟩ := trodAll_nil r1
  obtain rfl : args = #[v0, v1] := by cases args; simp_all
  obtain ⟨rfl, rfl⟩ := trodVars_none hV
  obtain ⟨a0, len0, cap0, rfl⟩ := okWide_slice Try.underlying22 (hval 0 22 v0 rfl rfl)
  have lt0 : ∀ x ∈ p0, x.block < W.heap.size := by obtain ⟨m, hm⟩ := h0; exact DataW.trod_lt m _ _ _ hm
  have lt1 : ∀ x ∈ p1, x.block < W.heap.size := by obtain ⟨m, hm⟩ := h1; exact DataW.trod_lt m _ _ _ hm
  obtain ⟨us, hr, hu⟩ := opened_nums Try.underlying22 Try.underlying23 (by kernel_rfl) h0
  obtain ⟨z0, z1, z2, rfl, wz0, wz1, wz2⟩ := opened_three Try.underlying44 Try.underlying5 (by kernel_rfl) (by kernel_rfl) h1
  clear hA0 hval0
  obtain ⟨y0, rfl, hy0⟩ := u8_nat2 wz0
  obtain ⟨y1, rfl, hy1⟩ := u8_nat2 wz1
  obtain ⟨y2, rfl, hy2⟩ := u8_nat2 wz2
  refine (walk a0 len0 cap0 us y0 y1 y2 W hr hu hy0 hy1 hy2).mono fun e W' ⟨he, bel⟩ => ?_
  subst he
  exact ⟨_, rfl, _, _, _, [], _, [], hW', trodAll_mk1 (shut_bool Try.underlying4 _), (trodAll_cons_mk (Below.trod laidOut (by kernel_rfl) (of_decide_eq_true (by kernel_rfl)) h0 bel lt0) (trodAll_cons_mk (Below.trod laidOut (by kernel_rfl) (of_decide_eq_true (by kernel_rfl)) h1 bel lt1) trodAll_mk0)), rfl, bel.frame _, fun h => by cases h⟩

theorem over : Rows.latticesBoundsRow.holds Try.pinned (OpenSpec.ofChange Rows.latticesBoundsSpec) :=
  OpenClaim.holds_of_wide 7 Try.f7 rfl rfl rfl rfl rfl rfl rfl ⟨rfl, rfl, rfl, rfl, rfl⟩ rfl rfl rfl rfl rfl (by kernel_rfl) Try.func7 (by kernel_rfl)
    (of_decide_eq_true (by kernel_rfl)) (by unfold Func.isWrapper; first | (rw [if_pos (by decide +kernel)]; kernel_rfl) | (rw [if_neg (by decide +kernel)]; exact ⟨rfl, rfl⟩))
    (fun os started H enc _ => lifted os started H enc)

theorem proved : Rows.LatticesBoundsSaid := over
#print axioms proved

end Go.Proofs.Ytemhoapnjcggjaa.latticesBounds
