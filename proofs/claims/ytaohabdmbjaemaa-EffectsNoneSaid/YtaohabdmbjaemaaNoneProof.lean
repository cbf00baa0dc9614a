/- Proved: whatever the two numbers, EffectsNone answers true: sets that are not there, or that no call made, have no set, and tell 0 for joins, meets, bottom and top; the arguments stay as they were. No condition. -/
import Derived.Test.YtaohabdmbjaemaaAlive
import Derived.Test.YtaohabdmbjaemaaOpen
import Derived.Test.YtaohabdmbjaemaaRows
namespace Go.Proofs.Ytaohabdmbjaemaa.effectsNone
open Go.ChangeShapes Go.WideShapes Go.ChangeAt Go.RowKit

theorem own : ownKnob Try.prog.godebug = none := by kernel_rfl
theorem laidOut : laidOutB Try.prog = true := by kernel_rfl

def NoRel (g g2 B : Nat) (w0 : World) (v6 : Value) (wr : World) : Prop := ∃ i : Nat, v6 = .int .i64 (i : Int) ∧ i ≤ 2 ∧ wr.cell? ⟨g2, 0, none⟩ = some (.pointer none) ∧ wr.cell? ⟨g2, 1, none⟩ = some (.pointer (some ⟨g, 0, none⟩)) ∧ g2 < wr.heap.size ∧ EffAt wr g false 0 ∧ Below B w0 wr

set_option maxRecDepth 100000 in
set_option maxHeartbeats 2000000 in
theorem walk (a b : Nat) (w : World) (ha : a < 18446744073709551616) (hb : b < 18446744073709551616) :
    Calls Try.prog 4 #[.int .u64 (a : Int), .int .u64 (b : Int)] w fun e w' => e = .returned (.bool true) ∧ Below w.heap.size w w' := by
  obtain ⟨wb, hwb⟩ : ∃ wb, wb = (w.alloc (.cells #[.bool false, .int .u64 0] 36)).alloc (.cells #[.pointer none, .pointer (some ⟨w.heap.size, 0, none⟩)] 23) := ⟨_, rfl⟩
  have hE : EffAt wb w.heap.size false 0 := ⟨by rw [hwb]; exact heap_alloc2_old _ _ _, by decide⟩
  have hc0 : wb.cell? ⟨w.heap.size + 1, 0, none⟩ = some (.pointer none) := by
    rw [hwb, cell_blk (heap_alloc2_new _ _ _)]
    rfl
  have hc1 : wb.cell? ⟨w.heap.size + 1, 1, none⟩ = some (.pointer (some ⟨w.heap.size, 0, none⟩)) := by
    rw [hwb, cell_blk (heap_alloc2_new _ _ _)]
    rfl
  have hbb : Below w.heap.size w wb := by
    rw [hwb]
    exact ((Below.refl _ _).alloc (Nat.le_refl _) _).alloc (by simp) _
  have hg2 : w.heap.size + 1 < wb.heap.size := by
    rw [hwb]
    simp
  have HWB := Lib.hid hwb
  clear hwb
  go_enter Try.func4, Try.ntmps4
  go_wp2
  rw [← HWB.out]
  clear HWB
  generalize w.heap.size + 1 = g2 at *
  have HE := Lib.hid hE
  have HC0 := Lib.hid hc0
  have HC1 := Lib.hid hc1
  have HBB := Lib.hid hbb
  clear hE hc0 hc1 hbb
  obtain ⟨g, hg⟩ : ∃ g, g = w.heap.size := ⟨_, rfl⟩
  rw [← hg] at HE HC1 ⊢
  clear hg
  go_loopw [6] (fun v6 wr => NoRel g g2 w.heap.size w v6 wr) (fun v6 _ => 2 - (intOf v6).toNat)
  case atStart => exact ⟨0, rfl, by omega, HC0.out, HC1.out, hg2, HE.out, HBB.out⟩
  case round =>
    clear HC0 HC1 HE HBB hg2
    obtain ⟨i, rfl, hi, hc0, hc1, hg2, hE, hB⟩ := hrel
    by_cases hlt : i < 2
    · by_cases h0 : i = 0
      · have hc : wr.cell? ⟨g2, i, none⟩ = some (.pointer none) := by rw [h0]; exact hc0
        have px : EffP wr none false 0 := .inl ⟨rfl, rfl, rfl⟩
        have HI := Lib.hid h0
        clear h0
        go_wp2_with fail
        refine (has_is px a ha false rfl).mono ?_
        rintro e wy ⟨rfl, hb⟩
        replace hc := (hb.cell (p := ⟨g2, i, none⟩) hg2).trans hc
        replace hc0 := (hb.cell (p := ⟨g2, 0, none⟩) hg2).trans hc0
        replace hc1 := (hb.cell (p := ⟨g2, 1, none⟩) hg2).trans hc1
        replace hg2 := Nat.lt_of_lt_of_le hg2 hb.size
        replace hE := hE.keep hb
        replace px := px.keep hb
        replace hB := Below.then hB (Nat.le_refl _) hb
        clear hb
        go_wp2_with fail
        refine (below_is px a b ha hb false rfl).mono ?_
        rintro e wy ⟨rfl, hb⟩
        replace hc := (hb.cell (p := ⟨g2, i, none⟩) hg2).trans hc
        replace hc0 := (hb.cell (p := ⟨g2, 0, none⟩) hg2).trans hc0
        replace hc1 := (hb.cell (p := ⟨g2, 1, none⟩) hg2).trans hc1
        replace hg2 := Nat.lt_of_lt_of_le hg2 hb.size
        replace hE := hE.keep hb
        replace px := px.keep hb
        replace hB := Below.then hB (Nat.le_refl _) hb
        clear hb
        go_wp2_with fail
        refine (join_is px a b ha hb 0 rfl).mono ?_
        rintro e wy ⟨rfl, hb⟩
        replace hc := (hb.cell (p := ⟨g2, i, none⟩) hg2).trans hc
        replace hc0 := (hb.cell (p := ⟨g2, 0, none⟩) hg2).trans hc0
        replace hc1 := (hb.cell (p := ⟨g2, 1, none⟩) hg2).trans hc1
        replace hg2 := Nat.lt_of_lt_of_le hg2 hb.size
        replace hE := hE.keep hb
        replace px := px.keep hb
        replace hB := Below.then hB (Nat.le_refl _) hb
        clear hb
        go_wp2_with fail
        refine (meet_is px a b ha hb 0 rfl).mono ?_
        rintro e wy ⟨rfl, hb⟩
        replace hc := (hb.cell (p := ⟨g2, i, none⟩) hg2).trans hc
        replace hc0 := (hb.cell (p := ⟨g2, 0, none⟩) hg2).trans hc0
        replace hc1 := (hb.cell (p := ⟨g2, 1, none⟩) hg2).trans hc1
        replace hg2 := Nat.lt_of_lt_of_le hg2 hb.size
        replace hE := hE.keep hb
        replace px := px.keep hb
        replace hB := Below.then hB (Nat.le_refl _) hb
        clear hb
        go_wp2_with fail
        refine (bottom_any _ _).mono ?_
        rintro e w' ⟨rfl, rfl⟩
        go_wp2_with fail
        refine (top_is px 0 rfl).mono ?_
        rintro e w' ⟨rfl, rfl⟩
        go_wp2_with fail
        go_roundw
        case rel => exact ⟨i + 1, by go_num, by omega, hc0, hc1, hg2, hE, hB⟩
        case measure => simp [intOf]; omega
      · have h1 : i = 1 := by omega
        have hc : wr.cell? ⟨g2, i, none⟩ = some (.pointer (some ⟨g, 0, none⟩)) := by rw [h1]; exact hc1
        have px : EffP wr (some ⟨g, 0, none⟩) false 0 := hE.p
        have HI := Lib.hid h1
        clear h1 h0
        go_wp2_with fail
        refine (has_is px a ha false rfl).mono ?_
        rintro e wy ⟨rfl, hb⟩
        replace hc := (hb.cell (p := ⟨g2, i, none⟩) hg2).trans hc
        replace hc0 := (hb.cell (p := ⟨g2, 0, none⟩) hg2).trans hc0
        replace hc1 := (hb.cell (p := ⟨g2, 1, none⟩) hg2).trans hc1
        replace hg2 := Nat.lt_of_lt_of_le hg2 hb.size
        replace hE := hE.keep hb
        replace px := px.keep hb
        replace hB := Below.then hB (Nat.le_refl _) hb
        clear hb
        go_wp2_with fail
        refine (below_is px a b ha hb false rfl).mono ?_
        rintro e wy ⟨rfl, hb⟩
        replace hc := (hb.cell (p := ⟨g2, i, none⟩) hg2).trans hc
        replace hc0 := (hb.cell (p := ⟨g2, 0, none⟩) hg2).trans hc0
        replace hc1 := (hb.cell (p := ⟨g2, 1, none⟩) hg2).trans hc1
        replace hg2 := Nat.lt_of_lt_of_le hg2 hb.size
        replace hE := hE.keep hb
        replace px := px.keep hb
        replace hB := Below.then hB (Nat.le_refl _) hb
        clear hb
        go_wp2_with fail
        refine (join_is px a b ha hb 0 rfl).mono ?_
        rintro e wy ⟨rfl, hb⟩
        replace hc := (hb.cell (p := ⟨g2, i, none⟩) hg2).trans hc
        replace hc0 := (hb.cell (p := ⟨g2, 0, none⟩) hg2).trans hc0
        replace hc1 := (hb.cell (p := ⟨g2, 1, none⟩) hg2).trans hc1
        replace hg2 := Nat.lt_of_lt_of_le hg2 hb.size
        replace hE := hE.keep hb
        replace px := px.keep hb
        replace hB := Below.then hB (Nat.le_refl _) hb
        clear hb
        go_wp2_with fail
        refine (meet_is px a b ha hb 0 rfl).mono ?_
        rintro e wy ⟨rfl, hb⟩
        replace hc := (hb.cell (p := ⟨g2, i, none⟩) hg2).trans hc
        replace hc0 := (hb.cell (p := ⟨g2, 0, none⟩) hg2).trans hc0
        replace hc1 := (hb.cell (p := ⟨g2, 1, none⟩) hg2).trans hc1
        replace hg2 := Nat.lt_of_lt_of_le hg2 hb.size
        replace hE := hE.keep hb
        replace px := px.keep hb
        replace hB := Below.then hB (Nat.le_refl _) hb
        clear hb
        go_wp2_with fail
        refine (bottom_any _ _).mono ?_
        rintro e w' ⟨rfl, rfl⟩
        go_wp2_with fail
        refine (top_is px 0 rfl).mono ?_
        rintro e w' ⟨rfl, rfl⟩
        go_wp2_with fail
        go_roundw
        case rel => exact ⟨i + 1, by go_num, by omega, hc0, hc1, hg2, hE, hB⟩
        case measure => simp [intOf]; omega
    · obtain rfl : i = 2 := by omega
      clear hc0 hc1 hE
      go_wp2_with fail
      refine (alive_any _).mono ?_
      rintro e w2 ⟨rfl, b2⟩
      go_wp2_with fail
      go_ret
      exact ⟨rfl, Below.then hB (Nat.le_refl _) b2⟩

set_option maxRecDepth 100000 in
theorem lifted (os : Os) (started : os.Started) (H : Type) (enc : TypeId × Value → H) :
    ReturnsInHanded {} Try.checked os 4 .any (Rows.effectsNoneSpec.pre6 enc Try.prog Try.f4 Rows.effectsNoneRow.domain false) (Rows.effectsNoneSpec.post enc Try.prog Try.f4 false true false false) := by
  refine returnsInHanded_of_change (C := Try.checked) own started (by kernel_rfl) Try.func4
    (ChangeSpec.witness6 (enc := enc) (C := Try.checked) false ⟨#[], #[.int .u64 0, .int .u64 0], []⟩ 8 (by kernel_rfl) (by kernel_rfl) (by kernel_rfl) (by kernel_rfl)) ?_
  intro W base args ds gs before hval0 hW hcnd _
  have hval : ∀ (j : Nat) t v, Try.f4.params[j]? = some t → args[j]? = some v → Value.okWide Try.prog W .any base t v := hval0
  have hW' := hW
  obtain ⟨p, q, hA0, hV, rfl, hfz, hnd⟩ := hW
  have hA : DataW.TrodAll enc Try.prog W 0 (fun _ => true) true Try.f4.params.toList args.toList ds p := hA0
  rw [Try.params4] at hA hval
  obtain ⟨v0, vs0, d0, ds0, p0, q0, hargs, rfl, rfl, h0, r0⟩ := trodAll_cons hA
  obtain ⟨v1, vs1, d1, ds1, p1, q1, rfl, rfl, rfl, h1, r1⟩ := trodAll_cons r0
  obtain ⟨rfl, rfl, rfl⟩ := trodAll_nil r1
  obtain rfl : args = #[v0, v1] := by cases args; simp_all
  obtain ⟨rfl, rfl⟩ := trodVars_none hV
  obtain ⟨x0, rfl, rfl, rfl, w0⟩ := open_int Try.underlying22 (hval 0 22 v0 rfl rfl) h0
  obtain ⟨x1, rfl, rfl, rfl, w1⟩ := open_int Try.underlying22 (hval 1 22 v1 rfl rfl) h1
  clear hA0 hval0
  have w0' := w0
  obtain ⟨y0, rfl, hy0⟩ := u64_nat w0
  have w1' := w1
  obtain ⟨y1, rfl, hy1⟩ := u64_nat w1
  refine (walk y0 y1 W hy0 hy1).mono fun e W' ⟨he, bel⟩ => ?_
  subst he
  exact ⟨_, rfl, _, _, _, [], _, [], hW', trodAll_mk1 (shut_bool Try.underlying4 _), (trodAll_cons_mk (shut_int Try.underlying22 w0') (trodAll_cons_mk (shut_int Try.underlying22 w1') trodAll_mk0)), rfl, bel.frame _, fun h => by cases h⟩

theorem over : Rows.effectsNoneRow.holds Try.pinned (OpenSpec.ofChange Rows.effectsNoneSpec) :=
  OpenClaim.holds_of_wide 4 Try.f4 rfl rfl rfl rfl rfl rfl rfl ⟨rfl, rfl, rfl, rfl, rfl⟩ rfl rfl rfl rfl rfl (by kernel_rfl) Try.func4 (by kernel_rfl)
    (of_decide_eq_true (by kernel_rfl)) (by unfold Func.isWrapper; first | (rw [if_pos (by decide +kernel)]; kernel_rfl) | (rw [if_neg (by decide +kernel)]; exact ⟨rfl, rfl⟩))
    (fun os started H enc _ => lifted os started H enc)

theorem proved : Rows.EffectsNoneSaid := over
#print axioms proved

end Go.Proofs.Ytaohabdmbjaemaa.effectsNone
