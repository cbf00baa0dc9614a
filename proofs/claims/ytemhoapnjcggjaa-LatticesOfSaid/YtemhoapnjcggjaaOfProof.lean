/- Proved: whatever the rows and the two numbers, LatticesOf answers true: the lattice of the rows has, and tells below, joins, meets, bottom and top of the two exactly as documented, or is refused, and keeps nothing of what was handed in; the arguments stay as they were. No condition. -/
import Derived.Test.YtemhoapnjcggjaaLatLaw
import Derived.Test.YtemhoapnjcggjaaRefCheck
import Derived.Test.YtemhoapnjcggjaaRefLat
import Derived.Test.YtemhoapnjcggjaaRows
namespace Go.Proofs.Ytemhoapnjcggjaa.latticesOf
open Go.ChangeShapes Go.WideShapes Go.ChangeAt Go.RowKit

theorem own : ownKnob Try.prog.godebug = none := by kernel_rfl
theorem laidOut : laidOutB Try.prog = true := by kernel_rfl

theorem refHas_now (A : Option Addr) (n c a : Nat) (x : Bool) (w : World) (hn : n ≤ 1000) (hx : decide (a < n) = x) : Calls Try.prog 13 #[.slice A n c, .int .u64 (a : Int)] w fun e w' => e = .returned (.bool x) ∧ w = w' := hx ▸ refHas_any A n c a w hn
theorem refBelow_now (A : Option Addr) (n c B : Nat) (l : List Nat) (a b : Nat) (x : Bool) (w : World) (h : Rd nm w B A n c l) (hf : Fit l) (ha : a < 18446744073709551616) (hb : b < 18446744073709551616) (hx : belowB l a b = x) : Calls Try.prog 15 #[.slice A n c, .int .u64 (a : Int), .int .u64 (b : Int)] w fun e w' => e = .returned (.bool x) ∧ w = w' := hx ▸ refBelow_any A n c B l a b w h hf ha hb
theorem refBottom_now (A : Option Addr) (n c : Nat) (l : List Nat) (x : Nat) (w : World) (h : Rd nm w w.heap.size A n c l) (hf : Fit l) (hok : LatOK l) (hx : endN l n = x) : Calls Try.prog 17 #[.slice A n c] w fun e w' => e = .returned (.int .u64 (x : Int)) ∧ Below w.heap.size w w' := hx ▸ refBottom_any A n c l w h hf hok
theorem refTop_now (A : Option Addr) (n c : Nat) (l : List Nat) (x : Nat) (w : World) (h : Rd nm w w.heap.size A n c l) (hf : Fit l) (hok : LatOK l) (hx : endN (turnedN l) n = x) : Calls Try.prog 19 #[.slice A n c] w fun e w' => e = .returned (.int .u64 (x : Int)) ∧ Below w.heap.size w w' := hx ▸ refTop_any A n c l w h hf hok
theorem refJoin_now (A : Option Addr) (n c : Nat) (l : List Nat) (a b x : Nat) (w : World) (h : Rd nm w w.heap.size A n c l) (hf : Fit l) (hok : LatOK l) (ha : a < 18446744073709551616) (hb : b < 18446744073709551616) (hx : nearN l n a b = x) : Calls Try.prog 21 #[.slice A n c, .int .u64 (a : Int), .int .u64 (b : Int)] w fun e w' => e = .returned (.int .u64 (x : Int)) ∧ Below w.heap.size w w' := hx ▸ refJoin_any A n c l a b w h hf hok ha hb
theorem refMeet_now (A : Option Addr) (n c : Nat) (l : List Nat) (a b x : Nat) (w : World) (h : Rd nm w w.heap.size A n c l) (hf : Fit l) (hok : LatOK l) (ha : a < 18446744073709551616) (hb : b < 18446744073709551616) (hx : nearN (turnedN l) n a b = x) : Calls Try.prog 23 #[.slice A n c, .int .u64 (a : Int), .int .u64 (b : Int)] w fun e w' => e = .returned (.int .u64 (x : Int)) ∧ Below w.heap.size w w' := hx ▸ refMeet_any A n c l a b w h hf hok ha hb

/-- The twin is overwritten; the lattice, and old memory, are as they were. -/
def OfRel (n : Nat) (l : List Nat) (w : World) (gt g : Nat) (v10 : Value) (wr : World) : Prop :=
  ∃ (i : Nat) (cs : Array Value), v10 = .int .i64 (i : Int) ∧ i ≤ n ∧ wr.heap[gt]? = some (.cells cs 23 (0, 0)) ∧ cs.size = n + 1 ∧ LatAt wr g n (pad l) (pad (turnedN l)) ∧ Below w.heap.size w wr

theorem lat_set {w : World} {g n gt i : Nat} {us ds : List Nat} (h : LatAt w g n us ds) (hne : gt < g) (u : Value) : LatAt (w.setCell ⟨gt, i, none⟩ u) g n us ds :=
  ⟨(Below.heap_setCell w _ _ g (show g ≠ gt by omega)).trans h.blk, h.ul, h.dl, h.top, h.uf, h.df⟩

set_option maxRecDepth 100000 in
set_option maxHeartbeats 2000000 in
theorem walk (A : Option Addr) (n c : Nat) (l : List Nat) (a b : Nat) (w : World) (h : Rd nm w w.heap.size A n c l) (hf : Fit l) (ha : a < 18446744073709551616) (hb : b < 18446744073709551616) :
    Calls Try.prog 3 #[.slice A n c, .int .u64 (a : Int), .int .u64 (b : Int)] w fun e w' => e = .returned (.bool true) ∧ Below w.heap.size w w' := by
  have HL := Lib.hid h.len
  by_cases h64 : (64 : Int) < (n : Int)
  · clear h
    go_enter Try.func3, Try.ntmps3
    go_wp2_with fail
    go_ret
    exact ⟨rfl, Below.refl _ _⟩
  have hn : n ≤ 64 := by omega
  go_enter Try.func3, Try.ntmps3
  go_wp2_with fail
  refine (twin_any A n c l w h (by omega)).mono ?_
  rintro e w1 ⟨gt, rfl, ht1, b1⟩
  have rt1 := ht1.rd
  have rl1 := h.at_size (Nat.le_refl _) b1
  by_cases hx : checkN l = 0
  case neg =>
    go_wp2_with fail
    refine (new_no _ n (n + 1) l w1 rt1 hf _ rfl hx).mono ?_
    rintro e w2 ⟨rfl, b2⟩
    have rl2 := rl1.at_size (Nat.le_refl _) b2
    have ht2 := ht1.keep b2
    have d2 := Below.then b1 b2
    clear rl1 rt1 ht1 b1 b2
    go_wp2_with fail
    refine (refCheck_any A n c l w2 rl2 hf).mono ?_
    rintro e w3 ⟨x, rfl, hxx, b3⟩
    obtain rfl : x = checkN l := checkN_of hxx
    have rl3 := rl2.at_size (Nat.le_refl _) b3
    have ht3 := ht2.keep b3
    have d3 := Below.then d2 b3
    clear rl2 ht2 b3 d2 hxx
    generalize checkN l = x at *
    have hee : (x != x) = false := by simp
    have hne : (x != 0) = true := by simpa using hx
    go_wp2_with fail
    refine (left_any w _ A gt n c l w3 ht3 rl3).mono ?_
    rintro e w4 ⟨rfl, q, rfl⟩
    go_wp2_with fail
    go_ret
    exact ⟨rfl, d3.trans (below_drewN _ _)⟩
  have HOK := Lib.hid (latOK_of hx)
  go_wp2_with fail
  refine (new_yes _ n (n + 1) l w1 rt1 hf hx).mono ?_
  rintro e w2 ⟨g, rfl, hg, hl2, b2⟩
  have hgt : gt < g := Nat.lt_of_lt_of_le ht1.lt hg
  have hold : w.heap.size ≤ gt := ht1.old
  have rl2 := rl1.at_size (Nat.le_refl _) b2
  have ht2 := ht1.keep b2
  have d2 := Below.then b1 b2
  clear rl1 rt1 ht1 b1 b2 hg
  go_wp2_with fail
  refine (refCheck_any A n c l w2 rl2 hf).mono ?_
  rintro e w3 ⟨x, rfl, hxx, b3⟩
  obtain rfl : x = 0 := (checkN_of hxx).trans hx
  have hl3 := hl2.keep b3
  have rl3 := rl2.at_size (Nat.le_refl _) b3
  have ht3 := ht2.keep b3
  have d3 := Below.then d2 b3
  clear rl2 ht2 hl2 b3 d2 hxx hx
  go_wp2_with fail
  refine (left_any w _ A gt n c l w3 ht3 rl3).mono ?_
  rintro e w4 ⟨rfl, q, rfl⟩
  have hl4 : LatAt (w3.drewN q) g n (pad l) (pad (turnedN l)) := hl3.heap rfl
  have d4 : Below w.heap.size w (w3.drewN q) := d3.trans (below_drewN _ _)
  have ht4 : (w3.drewN q).heap[gt]? = some (.cells (cl (l ++ [77])) 23 (0, 0)) := ht3.blk
  have hsz : (cl (l ++ [77])).size = n + 1 := by
    have := HL.out
    simp [cl]
    omega
  clear hl3 rl3 ht3 d3
  generalize w3.drewN q = w4 at *
  generalize cl (l ++ [77]) = cs0 at *
  have HT := Lib.hid ht4
  clear ht4
  go_wp2_with fail
  go_loopw [10] (fun v10 wr => OfRel n l w gt g v10 wr) (fun v10 _ => n - (intOf v10).toNat)
  case atStart => exact ⟨0, cs0, rfl, by omega, HT.out, hsz, hl4, d4⟩
  case round =>
    clear HT hsz hl4 d4
    obtain ⟨i, cs, rfl, hi, hblk, hcs, hl5, d5⟩ := hrel
    by_cases hlt : i < n
    · have hic : i < cs.size := by omega
      have hcell : wr.cell? ⟨gt, i, none⟩ = some cs[i] := by rw [cell_blk hblk]; exact Array.getElem?_eq_getElem hic
      have hfz : wr.frozen? ⟨gt, i, none⟩ = false := frozen_blk hblk
      have HB := Lib.hid hblk
      have HS := Lib.hid hcs
      clear hblk hcs
      generalize cs[i] = u at *
      go_wp2
      go_roundw
      case rel => exact ⟨i + 1, cs.setIfInBounds i (.int .u64 0), by go_num, by omega, set_blk HB.out _, by rw [Array.size_setIfInBounds]; exact HS.out, lat_set hl5 hgt _, d5.setCell (p := ⟨gt, i, none⟩) hold _⟩
      case measure => simp [intOf]; omega
    · obtain rfl : i = n := by omega
      clear hblk hcs
      have r5 : Rd nm wr wr.heap.size A i c l := h.at_size (Nat.le_refl _) d5
      obtain ⟨w5, rfl⟩ : ∃ w5 : World, w5 = wr := ⟨_, rfl⟩
      obtain ⟨va, hva⟩ : ∃ va, decide (a < i) = va := ⟨_, rfl⟩
      obtain ⟨vb, hvb⟩ : ∃ vb, belowB l a b = vb := ⟨_, rfl⟩
      obtain ⟨vs, hvs⟩ : ∃ vs, endN l i = vs := ⟨_, rfl⟩
      obtain ⟨vt, hvt⟩ : ∃ vt, endN (turnedN l) i = vt := ⟨_, rfl⟩
      obtain ⟨vj, hvj⟩ : ∃ vj, nearN l i a b = vj := ⟨_, rfl⟩
      obtain ⟨vm, hvm⟩ : ∃ vm, nearN (turnedN l) i a b = vm := ⟨_, rfl⟩
      have q1 : (va != va) = false := by simp
      have q2 : (vb != vb) = false := by simp
      have q3 : ((vs : Int) != (vs : Int)) = false := by simp
      have q4 : ((vt : Int) != (vt : Int)) = false := by simp
      have q5 : ((vj : Int) == (vj : Int)) = true := by simp
      have q6 : ((vm : Int) == (vm : Int)) = true := by simp
      have HVa := Lib.hid hva
      have HVb := Lib.hid hvb
      have HVs := Lib.hid hvs
      have HVt := Lib.hid hvt
      have HVj := Lib.hid hvj
      have HVm := Lib.hid hvm
      clear hva hvb hvs hvt hvj hvm h
      go_wp2_with fail
      refine (l_has hl5 a va HVa.out _ rfl).mono ?_
      rintro e w' ⟨rfl, rfl⟩
      go_wp2_with fail
      refine (refHas_now A i c a va w5 (by omega) HVa.out).mono ?_
      rintro e w' ⟨rfl, rfl⟩
      go_wp2_with fail
      refine (l_below hl5 HL.out a b vb ha hb HVb.out _ rfl).mono ?_
      rintro e w6 ⟨rfl, bb⟩
      have bb := bb.below (B := w5.heap.size)
      have hl6 := hl5.keep bb
      have r6 := r5.at_size (Nat.le_refl _) bb
      have d6 := Below.then d5 bb
      clear hl5 r5 d5 bb
      go_wp2_with fail
      refine (refBelow_now A i c _ l a b vb w6 r6 hf ha hb HVb.out).mono ?_
      rintro e w' ⟨rfl, rfl⟩
      go_wp2_with fail
      refine (l_bottom hl6 HL.out vs HVs.out _ rfl).mono ?_
      rintro e w' ⟨rfl, rfl⟩
      go_wp2_with fail
      refine (refBottom_now A i c l vs w6 r6 hf HOK.out HVs.out).mono ?_
      rintro e w7 ⟨rfl, bb⟩
      have hl7 := hl6.keep bb
      have r7 := r6.at_size (Nat.le_refl _) bb
      have d7 := Below.then d6 bb
      clear hl6 r6 d6 bb
      go_wp2_with fail
      refine (l_top hl7 HL.out vt HVt.out _ rfl).mono ?_
      rintro e w' ⟨rfl, rfl⟩
      go_wp2_with fail
      refine (refTop_now A i c l vt w7 r7 hf HOK.out HVt.out).mono ?_
      rintro e w8 ⟨rfl, bb⟩
      have hl8 := hl7.keep bb
      have r8 := r7.at_size (Nat.le_refl _) bb
      have d8 := Below.then d7 bb
      clear hl7 r7 d7 bb
      go_wp2_with fail
      refine (l_join hl8 HL.out a b vj ha hb HVj.out _ rfl).mono ?_
      rintro e w' ⟨rfl, rfl⟩
      go_wp2_with fail
      refine (refJoin_now A i c l a b vj w8 r8 hf HOK.out ha hb HVj.out).mono ?_
      rintro e w9 ⟨rfl, bb⟩
      have hl9 := hl8.keep bb
      have r9 := r8.at_size (Nat.le_refl _) bb
      have d9 := Below.then d8 bb
      clear hl8 r8 d8 bb
      go_wp2_with fail
      refine (l_meet hl9 HL.out a b vm ha hb HVm.out _ rfl).mono ?_
      rintro e w' ⟨rfl, rfl⟩
      go_wp2_with fail
      refine (refMeet_now A i c l a b vm w9 r9 hf HOK.out ha hb HVm.out).mono ?_
      rintro e w10 ⟨rfl, bb⟩
      have hl10 := hl9.keep bb
      have r10 := r9.at_size (Nat.le_refl _) bb
      have d10 := Below.then d9 bb
      clear hl9 r9 d9 bb
      go_wp2_with fail
      go_ret
      exact ⟨rfl, d10⟩

set_option maxRecDepth 100000 in
theorem lifted (os : Os) (started : os.Started) (H : Type) (enc : TypeId × Value → H) :
    ReturnsInHanded {} Try.checked os 3 .any (Rows.latticesOfSpec.pre6 enc Try.prog Try.f3 Rows.latticesOfRow.domain false) (Rows.latticesOfSpec.post enc Try.prog Try.f3 false true false false) := by
  refine returnsInHanded_of_change (C := Try.checked) own started (by kernel_rfl) Try.func3
    (ChangeSpec.witness6 (enc := enc) (C := Try.checked) false ⟨#[], #[.slice none 0 0, .int .u64 0, .int .u64 0], []⟩ 8 (by kernel_rfl) (by kernel_rfl) (by kernel_rfl) (by kernel_rfl)) ?_
  intro W base args ds gs before hval0 hW hcnd _
  have hval : ∀ (j : Nat) t v, Try.f3.params[j]? = some t → args[j]? = some v → Value.okWide Try.prog W .any base t v := hval0
  have hW' := hW
  obtain ⟨p, q, hA0, hV, rfl, hfz, hnd⟩ := hW
  have hA : DataW.TrodAll enc Try.prog W 0 (fun _ => true) true Try.f3.params.toList args.toList ds p := hA0
  rw [Try.params3] at hA hval
  obtain ⟨v0, vs0, d0, ds0, p0, q0, hargs, rfl, rfl, h0, r0⟩ := trodAll_cons hA
  obtain ⟨v1, vs1, d1, ds1, p1, q1, rfl, rfl, rfl, h1, r1⟩ := trodAll_cons r0
  obtain ⟨v2, vs2, d2, ds2, p2, q2, rfl, rfl, rfl, h2, r2⟩ := trodAll_cons r1
  obtain ⟨rfl, rfl, rfl⟩ := trodAll_nil r2
  obtain rfl : args = #[v0, v1, v2] := by cases args; simp_all
  obtain ⟨rfl, rfl⟩ := trodVars_none hV
  obtain ⟨a0, len0, cap0, rfl⟩ := okWide_slice Try.underlying22 (hval 0 22 v0 rfl rfl)
  have lt0 : ∀ x ∈ p0, x.block < W.heap.size := by obtain ⟨m, hm⟩ := h0; exact DataW.trod_lt m _ _ _ hm
  obtain ⟨us, hr, hu⟩ := opened_nums Try.underlying22 Try.underlying23 (by kernel_rfl) h0
  obtain ⟨x1, rfl, rfl, rfl, w1⟩ := open_int Try.underlying23 (hval 1 23 v1 rfl rfl) h1
  obtain ⟨x2, rfl, rfl, rfl, w2⟩ := open_int Try.underlying23 (hval 2 23 v2 rfl rfl) h2
  clear hA0 hval0
  have w1' := w1
  have w2' := w2
  obtain ⟨y1, rfl, hy1⟩ := u64_nat w1
  obtain ⟨y2, rfl, hy2⟩ := u64_nat w2
  refine (walk a0 len0 cap0 us y1 y2 W hr hu hy1 hy2).mono fun e W' ⟨he, bel⟩ => ?_
  subst he
  exact ⟨_, rfl, _, _, _, [], _, [], hW', trodAll_mk1 (shut_bool Try.underlying4 _), (trodAll_cons_mk (Below.trod laidOut (by kernel_rfl) (of_decide_eq_true (by kernel_rfl)) h0 bel lt0) (trodAll_cons_mk (shut_int Try.underlying23 w1') (trodAll_cons_mk (shut_int Try.underlying23 w2') trodAll_mk0))), rfl, bel.frame _, fun h => by cases h⟩

theorem over : Rows.latticesOfRow.holds Try.pinned (OpenSpec.ofChange Rows.latticesOfSpec) :=
  OpenClaim.holds_of_wide 3 Try.f3 rfl rfl rfl rfl rfl rfl rfl ⟨rfl, rfl, rfl, rfl, rfl⟩ rfl rfl rfl rfl rfl (by kernel_rfl) Try.func3 (by kernel_rfl)
    (of_decide_eq_true (by kernel_rfl)) (by unfold Func.isWrapper; first | (rw [if_pos (by decide +kernel)]; kernel_rfl) | (rw [if_neg (by decide +kernel)]; exact ⟨rfl, rfl⟩))
    (fun os started H enc _ => lifted os started H enc)

theorem proved : Rows.LatticesOfSaid := over
#print axioms proved

end Go.Proofs.Ytemhoapnjcggjaa.latticesOf
