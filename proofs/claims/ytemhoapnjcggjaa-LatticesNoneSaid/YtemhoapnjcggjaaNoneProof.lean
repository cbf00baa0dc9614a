/- Proved: whatever the two numbers, LatticesNone answers true: a lattice that is not there, or that no call made, has no labels, and its joins, meets, bottom and top are 0; the arguments stay as they were. No condition. -/
import Derived.Test.YtemhoapnjcggjaaLatLaw
import Derived.Test.YtemhoapnjcggjaaRefCheck
import Derived.Test.YtemhoapnjcggjaaRows
namespace Go.Proofs.Ytemhoapnjcggjaa.latticesNone
open Go.ChangeShapes Go.WideShapes Go.ChangeAt Go.RowKit

theorem own : ownKnob Try.prog.godebug = none := by kernel_rfl
theorem laidOut : laidOutB Try.prog = true := by kernel_rfl

def NoRel (w2 : World) (v6 : Value) (wr : World) : Prop := ∃ i : Nat, v6 = .int .i64 (i : Int) ∧ i ≤ 2 ∧ Drawn w2 wr

theorem near_zero (a b : Nat) : nearN z64 0 a b = 0 := by rw [nearN, if_neg (fun h => absurd h.1 (by omega))]
theorem end_zero : endN z64 0 = 0 := rfl
theorem below_zero (a b : Nat) : belowB (z64.take 0) a b = false := belowB_no (fun h => absurd h.2.2.1 (by simp))

theorem drawn_on {w w1 w2 : World} (h : Drawn w w1) (k : Drawn w1 w2) : Drawn w w2 := by
  obtain ⟨q, rfl⟩ := k
  exact h.more q

set_option maxRecDepth 100000 in
set_option maxHeartbeats 2000000 in
theorem walk (a b : Nat) (w : World) (ha : a < 18446744073709551616) (hb : b < 18446744073709551616) :
    Calls Try.prog 4 #[.int .u64 (a : Int), .int .u64 (b : Int)] w fun e w' => e = .returned (.bool true) ∧ Below w.heap.size w w' := by
  have hz := zero41
  have hsm := lc_some 0 z64 z64
  obtain ⟨wb, hwb⟩ : ∃ wb, wb = (w.alloc (.cells (lc 0 z64 z64) 41)).alloc (.cells #[.pointer none, .pointer (some ⟨w.heap.size, 0, none⟩)] 25) := ⟨_, rfl⟩
  have hlat : LatAt wb w.heap.size 0 z64 z64 := by
    rw [hwb]
    exact ⟨heap_alloc2_old _ _ _, rfl, rfl, by decide, by unfold Fit z64; decide, by unfold Fit z64; decide⟩
  have hc0 : wb.cell? ⟨w.heap.size + 1, 0, none⟩ = some (.pointer none) := by
    rw [hwb, cell_blk (heap_alloc2_new _ _ _)]
    rfl
  have hc1 : wb.cell? ⟨w.heap.size + 1, 1, none⟩ = some (.pointer (some ⟨w.heap.size, 0, none⟩)) := by
    rw [hwb, cell_blk (heap_alloc2_new _ _ _)]
    rfl
  have hbb : Below w.heap.size w wb := by
    rw [hwb]
    exact ((Below.refl _ _).alloc (Nat.le_refl _) _).alloc (by simp) _
  have HWB := Lib.hid hwb
  clear hwb
  go_enter Try.func4, Try.ntmps4
  go_wp2
  rw [← HWB.out]
  clear HWB hz hsm
  have HLAT := Lib.hid hlat
  have HC0 := Lib.hid hc0
  have HC1 := Lib.hid hc1
  clear hlat hc0 hc1
  generalize w.heap.size + 1 = g2 at *
  obtain ⟨g, hg⟩ : ∃ g, g = w.heap.size := ⟨_, rfl⟩
  rw [← hg] at HLAT HC1 ⊢
  clear hg
  go_loopw [6] (fun v6 wr => NoRel wb v6 wr) (fun v6 _ => 2 - (intOf v6).toNat)
  case atStart => exact ⟨0, rfl, by omega, Drawn.refl _⟩
  case round =>
    obtain ⟨i, rfl, hi, hd⟩ := hrel
    by_cases hlt : i < 2
    · by_cases h0 : i = 0
      · have hcell : wr.cell? ⟨g2, i, none⟩ = some (.pointer none) := by rw [h0, hd.cell]; exact HC0.out
        have HI := Lib.hid h0
        clear h0
        go_wp2_with fail
        refine (hasL_nil a wr).mono ?_
        rintro e w' ⟨rfl, rfl⟩
        go_wp2_with fail
        refine (belowL_nil a b wr).mono ?_
        rintro e wx ⟨rfl, hdx⟩
        have hcell2 : wx.cell? ⟨g2, i, none⟩ = some (.pointer none) := (hdx.cell _).trans hcell
        have hd2 : Drawn wb wx := drawn_on hd hdx
        clear hcell hd hdx
        go_wp2_with fail
        refine (joinL_nil a b wx).mono ?_
        rintro e w' ⟨rfl, rfl⟩
        go_wp2_with fail
        refine (meetL_nil a b wx).mono ?_
        rintro e w' ⟨rfl, rfl⟩
        go_wp2_with fail
        refine (bottomL_nil wx).mono ?_
        rintro e w' ⟨rfl, rfl⟩
        go_wp2_with fail
        refine (topL_nil wx).mono ?_
        rintro e w' ⟨rfl, rfl⟩
        go_wp2_with fail
        go_roundw
        case rel => exact ⟨i + 1, by go_num, by omega, hd2⟩
        case measure => simp [intOf]; omega
      · have h1 : i = 1 := by omega
        have hcell : wr.cell? ⟨g2, i, none⟩ = some (.pointer (some ⟨g, 0, none⟩)) := by rw [h1, hd.cell]; exact HC1.out
        have hl1 : LatAt wr g 0 z64 z64 := HLAT.out.heap hd.heap
        have HI := Lib.hid h1
        clear h1 h0
        have j1 := has_now hl1 a false (by simp)
        have j2 := below_lat hl1 a b false ha hb (below_zero a b)
        have j3 := Lib.hid fun (W : World) (hW : W.heap = wr.heap) => join_now (hl1.heap hW) a b 0 ha hb (by rw [near_zero]; rfl)
        have j4 := Lib.hid fun (W : World) (hW : W.heap = wr.heap) => meet_now (hl1.heap hW) a b 0 ha hb (by rw [near_zero]; rfl)
        have j5 := Lib.hid fun (W : World) (hW : W.heap = wr.heap) => bottom_now (hl1.heap hW) 0 (by rw [end_zero]; rfl)
        have j6 := Lib.hid fun (W : World) (hW : W.heap = wr.heap) => top_now (hl1.heap hW) 0 (by rw [end_zero]; rfl)
        clear hl1
        go_wp2_with fail
        refine j1.mono ?_
        rintro e w' ⟨rfl, rfl⟩
        go_wp2_with fail
        refine j2.mono ?_
        rintro e wx ⟨rfl, hdx⟩
        have hcell2 : wx.cell? ⟨g2, i, none⟩ = some (.pointer (some ⟨g, 0, none⟩)) := (hdx.cell _).trans hcell
        have hd2 : Drawn wb wx := drawn_on hd hdx
        have hh : wx.heap = wr.heap := hdx.heap
        clear hcell hd hdx
        go_wp2_with fail
        refine (j3.out wx hh).mono ?_
        rintro e w' ⟨rfl, rfl⟩
        go_wp2_with fail
        refine (j4.out wx hh).mono ?_
        rintro e w' ⟨rfl, rfl⟩
        go_wp2_with fail
        refine (j5.out wx hh).mono ?_
        rintro e w' ⟨rfl, rfl⟩
        go_wp2_with fail
        refine (j6.out wx hh).mono ?_
        rintro e w' ⟨rfl, rfl⟩
        go_wp2_with fail
        go_roundw
        case rel => exact ⟨i + 1, by go_num, by omega, hd2⟩
        case measure => simp [intOf]; omega
    · obtain rfl : i = 2 := by omega
      have hb2 : Below w.heap.size w wr := hbb.trans hd.below
      clear hd
      go_wp2_with fail
      refine (alive_any _).mono ?_
      rintro e w2 ⟨rfl, b2⟩
      go_wp2_with fail
      go_ret
      exact ⟨rfl, Below.then hb2 b2⟩

set_option maxRecDepth 100000 in
theorem lifted (os : Os) (started : os.Started) (H : Type) (enc : TypeId × Value → H) :
    ReturnsInHanded {} Try.checked os 4 .any (Rows.latticesNoneSpec.pre6 enc Try.prog Try.f4 Rows.latticesNoneRow.domain false) (Rows.latticesNoneSpec.post enc Try.prog Try.f4 false true false false) := by
  refine returnsInHanded_of_change (C := Try.checked) own started (by kernel_rfl) Try.func4
    (ChangeSpec.witness6 (enc := enc) (C := Try.checked) false ⟨#[], #[.int .u64 0, .int .u64 0], []⟩ 8 (by kernel_rfl) (by kernel_rfl) (by kernel_rfl) (by kernel_rfl)) ?_
  intro W base args ds gs before hval0 hW hcnd _
  have hval : ∀ (j : Nat) t v, Try.f4.params[j]? = some t → args[j]? = some v → Value.okWide Try.prog W .any base t v := hval0
  have hW' := hW
  obtain ⟨p, q, hA0, hV, rfl, hfz, hnd⟩ := hW
  have hA : DataW.TrodAll enc Try.prog W 0 (fun _ => true) true Try.f4.params.toList args.toList ds p := hA0
  rw [Try.params4] at hA hval
  obtain ⟨v0, vs0, d0, ds0, p0, q0, hargs, rfl, rfl, h0, r0⟩ := trodAll_cons hA
  obtain ⟨v1, vs1, d1, ds1, p1, q1, rfl, rfl, rfl, h1, r1⟩ := trodAll_cons r0
  obtain ⟨rfl, rfl, rfl⟩ := trodAll_nil r1
  obtain rfl : args = #[v0, v1] := by cases args; simp_all
  obtain ⟨rfl, rfl⟩ := trodVars_none hV
  obtain ⟨x0, rfl, rfl, rfl, w0⟩ := open_int Try.underlying23 (hval 0 23 v0 rfl rfl) h0
  obtain ⟨x1, rfl, rfl, rfl, w1⟩ := open_int Try.underlying23 (hval 1 23 v1 rfl rfl) h1
  clear hA0 hval0
  have w0' := w0
  have w1' := w1
  obtain ⟨y0, rfl, hy0⟩ := u64_nat w0
  obtain ⟨y1, rfl, hy1⟩ := u64_nat w1
  refine (walk y0 y1 W hy0 hy1).mono fun e W' ⟨he, bel⟩ => ?_
  subst he
  exact ⟨_, rfl, _, _, _, [], _, [], hW', trodAll_mk1 (shut_bool Try.underlying4 _), (trodAll_cons_mk (shut_int Try.underlying23 w0') (trodAll_cons_mk (shut_int Try.underlying23 w1') trodAll_mk0)), rfl, bel.frame _, fun h => by cases h⟩

theorem over : Rows.latticesNoneRow.holds Try.pinned (OpenSpec.ofChange Rows.latticesNoneSpec) :=
  OpenClaim.holds_of_wide 4 Try.f4 rfl rfl rfl rfl rfl rfl rfl ⟨rfl, rfl, rfl, rfl, rfl⟩ rfl rfl rfl rfl rfl (by kernel_rfl) Try.func4 (by kernel_rfl)
    (of_decide_eq_true (by kernel_rfl)) (by unfold Func.isWrapper; first | (rw [if_pos (by decide +kernel)]; kernel_rfl) | (rw [if_neg (by decide +kernel)]; exact ⟨rfl, rfl⟩))
    (fun os started H enc _ => lifted os started H enc)

theorem proved : Rows.LatticesNoneSaid := over
#print axioms proved

end Go.Proofs.Ytemhoapnjcggjaa.latticesNone
