/- Tables of bits by value: what has, direct and through tell. No condition but sizes. -/
import Derived.Test.YtomokkpfkhfemaaGreatDoorRch
import Derived.Test.YtomokkpfkhfemaaGreatDoorChk
import Derived.Test.YtomokkpfkhfemaaGreatDoorLaTurned
import Derived.Laws.Tables
import Derived.StillTailTactics
namespace Go.Proofs.YtomokkpfkhfemaaGreatDoor
open Go.RowKit

/-- A table of 64 rows of bits. -/
def tv (t : List Nat) : Value := .agg (La.cl t)

set_option maxRecDepth 100000 in
set_option maxHeartbeats 1000000 in
theorem has_any (t : List Nat) (i j : Nat) (w : World) (ht : t.length = 64) (hf : La.Fit t) (hi : i < 64) (hj : j < 64) :
    Calls Tryz.prog 65 #[tv t, .int .i64 (i : Int), .int .i64 (j : Int)] w fun e w' => e = .returned (.bool (La.bt t i j)) ∧ Below w.heap.size w w' := by
  have hb : Below w.heap.size w (w.alloc (.cells (La.cl t) 58)) := (Below.refl _ _).alloc (Nat.le_refl _) _
  have hx := heap_alloc_new w (.cells (La.cl t) 58)
  have hi' : i < t.length := by omega
  have hc := (cell_blk (i := i) hx).trans (La.cl_at hi')
  have e : La.bt t i j = t[i].testBit j := La.bt_get hi' j
  have hs := La.shr_is (k := j) (hf.get i hi')
  rw [Nat.min_eq_left (show j ≤ 64 by omega)] at hs
  rw [e, ← hs]
  clear e hs hx
  generalize t[i] = x at *
  unfold tv
  clear ht hf hi'
  have hi2 : (i : Int) < 64 := by omega
  have hj2 : (j : Int) < 64 := by omega
  go_enter Tryz.func65, Tryz.ntmps65
  go_wp2
  go_ret
  exact ⟨rfl, hb⟩

theorem zero51 (W : World) : (zeroValue 58).run Tryz.prog W = .ok (.agg (La.cl (idK 0))) W := by kernel_rfl
theorem cl_some {t : List Nat} (h : t.length = 64) : ¬ (La.cl t = #[]) := fun e => by
  have := congrArg Array.size e
  simp [La.cl, h] at this
theorem cl_size (t : List Nat) : (La.cl t).size = t.length := by simp [La.cl]
theorem cl_one (t : List Nat) : (La.cl t).all (·.oneCell') = true := by
  rw [Array.all_eq_true_iff_forall_mem]
  intro v hv
  obtain ⟨x, _, rfl⟩ := List.mem_map.1 (by simpa [La.cl] using hv : v ∈ t.map La.nm)
  rfl
theorem below_setRow {B : Nat} {w w' : World} (h : Below B w w') {g : Nat} (hg : B ≤ g) (cs : Array Value) : Below B w (w'.setRow g cs) :=
  ⟨h.os, h.tape, h.output, by rw [setRow_size]; exact h.size, fun b hb => (setRow_other w' g b cs (by omega)).trans (h.block b hb)⟩
theorem size51 : (Tryz.prog.info? 58).map (·.size) = some 64 := by kernel_rfl

def DRel1 (q : Nat) (w : World) (g : Nat) (v9 : Value) (wr : World) : Prop :=
  ∃ k : Nat, v9 = .int .i64 (k : Int) ∧ k ≤ q ∧ wr.heap[g]? = some (.cells (La.cl (idK k)) 58 (0, 0)) ∧ Below w.heap.size w wr
def DRel2 (q : Nat) (l : List Bd) (w : World) (g : Nat) (v19 : Value) (wr : World) : Prop :=
  ∃ k : Nat, v19 = .int .i64 (k : Int) ∧ k ≤ l.length ∧ wr.heap[g]? = some (.cells (La.cl (dirN q (l.take k))) 58 (0, 0)) ∧ Below w.heap.size w wr

theorem dir_snoc (q : Nat) (l : List Bd) (k : Nat) (h : k < l.length) : dirN q (l.take (k + 1)) = putB (dirN q (l.take k)) l[k] := by
  rw [dirN, List.take_succ_eq_append_getElem h, List.foldl_append]
  rfl

set_option maxRecDepth 100000 in
set_option maxHeartbeats 2000000 in
theorem direct_any (q : Nat) (A : Option Addr) (n c : Nat) (l : List Bd) (w : World) (h : Rs bdc 4 w w.heap.size A n c l) (hq : q ≤ 64) (hm : ∀ b ∈ l, mayB q b = true) :
    Calls Tryz.prog 14 #[.int .i64 (q : Int), .slice A n c] w fun e w' => e = .returned (tv (dirN q l)) ∧ Below w.heap.size w w' := by
  have HL := Lib.hid h.len
  have htop := h.top
  have hcap := h.cap
  unfold maxLen at htop
  have HR := Lib.hid h
  have HM := Lib.hid hm
  have HQ := Lib.hid hq
  have hz := zero51
  have hsm := cl_some (idK_len 0)
  have hb0 : Below w.heap.size w (w.alloc (.cells (La.cl (idK 0)) 58)) := (Below.refl _ _).alloc (Nat.le_refl _) _
  clear h hm hq
  go_enter Tryz.func14, Tryz.ntmps14
  go_wp2
  go_loopw [9] (fun v9 wr => DRel1 q w w.heap.size v9 wr) (fun v9 _ => q - (intOf v9).toNat)
  case atStart => exact ⟨0, rfl, by omega, heap_alloc_new _ _, hb0⟩
  case round =>
    clear hb0 hz hsm
    obtain ⟨k, rfl, hk, hblk, hb⟩ := hrel
    have hq64 := HQ.out
    by_cases hlt : k < q
    · have hfz : wr.frozen? ⟨w.heap.size, k, none⟩ = false := frozen_blk hblk
      have hkl : k < (idK k).length := by rw [idK_len]; omega
      have hce := (cell_blk (i := k) hblk).trans (La.cl_at hkl)
      have hp := La.two_pow (k := k) (by omega)
      have hk64 : (k : Int) < 64 := by omega
      have HB := Lib.hid hblk
      have HS := Lib.hid (idK_set (k := k))
      clear hblk
      generalize hpp : 2 ^ k = p at *
      generalize (idK k)[k] = z at *
      clear hpp
      go_wp2
      go_roundw
      case rel => exact ⟨k + 1, by go_num, by omega, by rw [set_blk HB.out, La.cl_set, HS.out], hb.setCell (p := ⟨w.heap.size, k, none⟩) (Nat.le_refl _) _⟩
      case measure => simp [intOf]; omega
    · obtain rfl : k = q := by omega
      have HB := Lib.hid hblk
      clear hblk
      go_wp2
      go_loopw [19] (fun v19 wr => DRel2 k l w w.heap.size v19 wr) (fun v19 _ => n - (intOf v19).toNat)
      case atStart => exact ⟨0, rfl, by omega, HB.out, hb⟩
      case round =>
        clear hb HB
        obtain ⟨j, rfl, hj, hblk, hb⟩ := hrel
        by_cases hlt2 : j < n
        · have hj' : j < l.length := by rw [HL.out]; exact hlt2
          have hr := (HR.out.at_size (Nat.le_refl _) hb)
          obtain ⟨b, o, rfl, hbb, e0, e1, e2, e3⟩ := bd_at hr hj'
          have hmb := HM.out _ (List.getElem_mem hj')
          have HF := Lib.hid (dir_snoc k l j hj')
          have hmt : ∀ b ∈ l.take j, mayB k b = true := fun b hb => HM.out b (List.mem_of_mem_take hb)
          have hlen := dir_len hq64 hmt
          have hlt64 := dir_lt hq64 hmt
          have HLT := Lib.hid hlt2
          generalize l[j] = y at *
          generalize dirN k (l.take j) = t at *
          obtain ⟨av, an, bv, bn⟩ := y
          simp only at e0 e1 e2 e3
          have hsz := hb.size
          have hltw : w.heap.size < wr.heap.size := lt_blk hblk
          have hnew := heap_alloc_new wr (.cells #[.bool av, .int .u64 (an : Int), .bool bv, .int .u64 (bn : Int)] 55)
          have g0 := (cell_blk (i := 0) hnew).trans rfl
          have g1 := (cell_blk (i := 1) hnew).trans rfl
          have g2 := (cell_blk (i := 2) hnew).trans rfl
          have g3 := (cell_blk (i := 3) hnew).trans rfl
          have HB2 : Hid ((wr.alloc (.cells #[.bool av, .int .u64 (an : Int), .bool bv, .int .u64 (bn : Int)] 55)).heap[w.heap.size]? = some (.cells (La.cl t) 58 (0, 0))) := Lib.hid ((Below.heap_alloc wr _ _ hltw).trans hblk)
          have hb2 := hb.alloc hb.size (.cells #[.bool av, .int .u64 (an : Int), .bool bv, .int .u64 (bn : Int)] 55)
          clear hblk hnew hr hbb hlt2 hmt hj'
          replace g0 : _ = some (Value.bool av) := g0
          replace g1 : _ = some (Value.int .u64 (an : Int)) := g1
          replace g2 : _ = some (Value.bool bv) := g2
          replace g3 : _ = some (Value.int .u64 (bn : Int)) := g3
          cases av with
          | false =>
            have HE : Hid (dirN k (l.take (j + 1)) = t) := Lib.hid HF.out
            clear HF g1 g2 g3 hmb hlt64
            have hjn := HLT.out
            go_wp2
            go_roundw
            case rel => exact ⟨j + 1, by go_num, by have := HL.out; omega, by rw [HE.out]; exact HB2.out, hb2⟩
            case measure => simp [intOf]; omega
          | true =>
            cases bv with
            | false =>
              have HE : Hid (dirN k (l.take (j + 1)) = t) := Lib.hid HF.out
              clear HF g1 g3 hmb hlt64
              have hjn := HLT.out
              go_wp2
              go_roundw
              case rel => exact ⟨j + 1, by go_num, by have := HL.out; omega, by rw [HE.out]; exact HB2.out, hb2⟩
              case measure => simp [intOf]; omega
            | true =>
              obtain ⟨han, hbn⟩ := mayB_edge hmb rfl rfl
              replace han : an < k := han
              replace hbn : bn < k := hbn
              have hxl : an < t.length := by omega
              have HP : Hid (dirN k (l.take (j + 1)) = t.set an (t[an] ||| 2 ^ bn)) := Lib.hid (by
                rw [HF.out, putB]
                simp only [Bool.and_true, cond_true]
                rw [List.getD_eq_getElem?_getD, List.getElem?_eq_getElem hxl]
                rfl)
              have e4 := (cell_blk (i := an) HB2.out).trans (La.cl_at hxl)
              have e5 := frozen_blk (i := an) HB2.out
              have hor := u64_or_nat t[an] (2 ^ bn) (hlt64 _ (List.getElem_mem hxl)) (Nat.pow_lt_pow_right (n := 64) (by decide) (by omega))
              have hp := La.two_pow (k := bn) (by omega)
              have han64 : (an : Int) < 64 := by omega
              have hbn64 : (bn : Int) < 64 := by omega
              clear hmb HF hlt64
              generalize 2 ^ bn = p at *
              generalize t[an] = z at *
              clear hxl hlen
              have hjn := HLT.out
              go_wp2
              generalize wr.alloc (.cells #[.bool true, .int .u64 (an : Int), .bool true, .int .u64 (bn : Int)] 55) = w2 at *
              generalize wr.heap.size = bx at *
              go_still_tail 11, (by kernel_rfl)
              change wpList _ _ _ _ _ w2.drew
              have HB3 : Hid (w2.drew.heap[w.heap.size]? = some (.cells (La.cl t) 58 (0, 0))) := HB2
              have f3 : w2.drew.cell? ⟨w.heap.size, an, none⟩ = some (.int .u64 (z : Int)) := e4
              have f4 : w2.drew.frozen? ⟨w.heap.size, an, none⟩ = false := e5
              have hb3 : Below w.heap.size w w2.drew := hb2.trans (La.below_drew _)
              clear g0 g1 g2 g3 e4 e5 hb2 HB2
              generalize w2.drew = w3 at *
              go_wp2
              go_roundw
              case rel => exact ⟨j + 1, by go_num, by have := HL.out; omega, by rw [set_blk HB3.out, La.cl_set, HP.out], hb3.setCell (p := ⟨w.heap.size, an, none⟩) (Nat.le_refl _) _⟩
              case measure => simp [intOf]; omega
        · obtain rfl : j = n := by have := HL.out; omega
          rw [← HL.out, List.take_length] at hblk
          have hlen := dir_len hq64 HM.out
          have HB := Lib.hid hblk
          clear hblk
          go_wp2_with (first | (with_reducible refine wpList_load_row rfl 58 (.tmp 4) rfl w.heap.size rfl 58 (La.cl (dirN k l)) (0, 0) _ HB.out Tryz.underlying58 rfl (by rw [size51, cl_size, hlen]) ?_) | (with_reducible refine wpList_store_row rfl 58 (.tmp 4) (.tmp 43) rfl w.heap.size (La.cl (dirN k l)) rfl rfl 58 _ HB.out (by rw [size51, cl_size, hlen]) rfl (cl_one _) ?_))
          exact bodyPost_ret (results_cell_row (P := Tryz.prog) rfl _ _ w.heap.size 58 _ (0, 0) _ rfl (setRow_heap _ _ _ _ _ _ HB.out) Tryz.underlying58 rfl (by rw [size51, cl_size, hlen])) rfl ⟨rfl, below_setRow hb (Nat.le_refl _) _⟩

/-! ### Over others -/
theorem stepW_lt {t : List Nat} {k i : Nat} (h : La.Fit t) : La.Fit (La.stepW t k i) := by
  intro x hx
  obtain ⟨y, hy, rfl⟩ := List.mem_map.1 hx
  have hy := List.mem_range.1 hy
  split
  · refine Nat.or_lt_two_pow (n := 64) (h _ (La.getD_mem hy)) ?_
    by_cases hk : k < t.length
    · exact h _ (La.getD_mem hk)
    · rw [La.getD_none hk]
      exact Nat.two_pow_pos 64
  · exact h _ (La.getD_mem hy)
theorem thr_fit {q : Nat} {t : List Nat} (h : La.Fit t) : ∀ k, La.Fit (thrN q t k)
  | 0 => h
  | k + 1 => stepW_lt (thr_fit h k)
theorem thr_len {q : Nat} {t : List Nat} (h : t.length = 64) : ∀ k, (thrN q t k).length = 64
  | 0 => h
  | k + 1 => by rw [thrN, La.stepW_len]; exact thr_len h k

def TRel (q : Nat) (t : List Nat) (w : World) (g : Nat) (v8 : Value) (wr : World) : Prop :=
  ∃ k : Nat, v8 = .int .i64 (k : Int) ∧ k ≤ q ∧ wr.heap[g]? = some (.cells (La.cl (thrN q t k)) 58 (0, 0)) ∧ wr.heap[g + 1]? = some (.cells (La.cl (idK 0)) 58 (0, 0)) ∧ Below w.heap.size w wr
def TIn (q : Nat) (t : List Nat) (k : Nat) (w : World) (g : Nat) (v12 : Value) (wr : World) : Prop :=
  ∃ i : Nat, v12 = .int .i64 (i : Int) ∧ i ≤ q ∧ wr.heap[g]? = some (.cells (La.cl (La.stepW t k i)) 58 (0, 0)) ∧ wr.heap[g + 1]? = some (.cells (La.cl (idK 0)) 58 (0, 0)) ∧ Below w.heap.size w wr

set_option maxRecDepth 100000 in
set_option maxHeartbeats 2000000 in
theorem through_any (q : Nat) (t : List Nat) (w : World) (hq : q ≤ 64) (ht : t.length = 64) (hf : La.Fit t) :
    Calls Tryz.prog 13 #[.int .i64 (q : Int), tv t] w fun e w' => e = .returned (tv (thrN q t q)) ∧ Below w.heap.size w w' := by
  have hz := zero51
  have hsm := cl_some (idK_len 0)
  have HQ := Lib.hid hq
  have HT := Lib.hid ht
  have HF := Lib.hid hf
  have hb0 : Below w.heap.size w ((w.alloc (.cells (La.cl t) 58)).alloc (.cells (La.cl (idK 0)) 58)) := ((Below.refl _ _).alloc (Nat.le_refl _) _).alloc (by simp) _
  have H0 : Hid (((w.alloc (.cells (La.cl t) 58)).alloc (.cells (La.cl (idK 0)) 58)).heap[w.heap.size]? = some (.cells (La.cl t) 58 (0, 0))) := Lib.hid ((Below.heap_alloc _ _ _ (by simp)).trans (heap_alloc_new _ _))
  have H1 : Hid (((w.alloc (.cells (La.cl t) 58)).alloc (.cells (La.cl (idK 0)) 58)).heap[w.heap.size + 1]? = some (.cells (La.cl (idK 0)) 58 (0, 0))) := Lib.hid (by
    have := heap_alloc_new (w.alloc (.cells (La.cl t) 58)) (.cells (La.cl (idK 0)) 58)
    rwa [show (w.alloc (.cells (La.cl t) 58)).heap.size = w.heap.size + 1 by simp] at this)
  clear hq ht hf
  unfold tv
  go_enter Tryz.func13, Tryz.ntmps13
  go_wp2
  go_loopw [8] (fun v8 wr => TRel q t w w.heap.size v8 wr) (fun v8 _ => q - (intOf v8).toNat)
  case atStart => exact ⟨0, rfl, by omega, H0.out, H1.out, hb0⟩
  case round =>
    clear hb0 hz hsm H0 H1
    obtain ⟨k, rfl, hk, hblk, hblk1, hb⟩ := hrel
    have hq64 := HQ.out
    have HB := Lib.hid hblk
    have HB1 := Lib.hid hblk1
    clear hblk hblk1
    by_cases hlt : k < q
    · obtain ⟨wo, rfl⟩ : ∃ wo, wo = wr := ⟨_, rfl⟩
      have HTL := Lib.hid (thr_len (q := q) HT.out k)
      have HTF := Lib.hid (thr_fit (q := q) HF.out k)
      have HNX : Hid (thrN q t (k + 1) = La.stepW (thrN q t k) k q) := Lib.hid rfl
      generalize thrN q t k = s at *
      go_wp2
      go_loopw [12] (fun v12 wr => TIn q s k w w.heap.size v12 wr) (fun v12 _ => q - (intOf v12).toNat)
      case atStart => exact ⟨0, rfl, by omega, by rw [La.stepW_zero]; exact HB.out, HB1.out, hb⟩
      case round =>
        clear HB HB1 hb
        obtain ⟨i, rfl, hi, hblk, hblk1, hb⟩ := hrel
        have HB := Lib.hid hblk
        have HB1 := Lib.hid hblk1
        by_cases hlt2 : i < q
        · have hlen : (La.stepW s k i).length = 64 := by rw [La.stepW_len]; exact HTL.out
          have hfit := stepW_lt (k := k) (i := i) HTF.out
          have HN := Lib.hid (La.stepW_next s k i (by have := HTL.out; omega))
          have hhas := has_any (La.stepW s k i) i k wr hlen hfit (by omega) (by omega)
          generalize La.stepW s k i = u at *
          have hil : i < u.length := by omega
          have hkl : k < u.length := by omega
          rw [La.bt_get hil] at hhas
          have hci := (cell_blk (i := i) hblk).trans (La.cl_at hil)
          have hck := (cell_blk (i := k) hblk).trans (La.cl_at hkl)
          have hfi := frozen_blk (i := i) hblk
          have hor := u64_or_nat u[i] u[k] (hfit _ (List.getElem_mem hil)) (hfit _ (List.getElem_mem hkl))
          have HN2 : Hid (La.stepW s k (i + 1) = if u[i].testBit k then u.set i (u[i] ||| u[k]) else u) := Lib.hid (by
            rw [HN.out, List.getD_eq_getElem?_getD, List.getElem?_eq_getElem hil, List.getD_eq_getElem?_getD, List.getElem?_eq_getElem hkl]
            rfl)
          have HHAS := Lib.hid hhas
          have HLE := Lib.hid hlen
          have hi64 : (i : Int) < 64 := by omega
          have hk64 : (k : Int) < 64 := by omega
          have hltw := lt_blk hblk
          have hltw1 := lt_blk hblk1
          clear HN hhas hlen hfit hblk hblk1
          generalize u[i] ||| u[k] = y at *
          generalize u[k] = xk at *
          generalize u[i] = xi at *
          clear hil hkl
          go_wp2_with (first | (with_reducible refine wpList_load_row rfl 58 (.tmp 3) rfl w.heap.size rfl 58 (La.cl u) (0, 0) _ HB.out Tryz.underlying58 rfl (by rw [size51, cl_size, HLE.out]) ?_) | fail)
          refine HHAS.out.mono ?_
          rintro e w2 ⟨rfl, hb2⟩
          have hb2' := hb.trans (hb2.mono hb.size)
          have HB' := Lib.hid ((hb2.block _ hltw).trans HB.out)
          have HB1' := Lib.hid ((hb2.block _ hltw1).trans HB1.out)
          replace hci : w2.cell? ⟨w.heap.size, i, none⟩ = some (.int .u64 (xi : Int)) := (hb2.cell (p := ⟨w.heap.size, i, none⟩) hltw).trans hci
          replace hck : w2.cell? ⟨w.heap.size, k, none⟩ = some (.int .u64 (xk : Int)) := (hb2.cell (p := ⟨w.heap.size, k, none⟩) hltw).trans hck
          replace hfi : w2.frozen? ⟨w.heap.size, i, none⟩ = false := frozen_blk HB'.out
          clear HHAS HB HB1 hb hb2 hltw hltw1
          cases hbit : xi.testBit k with
          | true =>
            have HE : Hid (La.stepW s k (i + 1) = u.set i y) := Lib.hid (by rw [HN2.out, hbit]; rfl)
            clear HN2 hbit
            go_wp2
            go_still_tail 8, (by kernel_rfl)
            change wpList _ _ _ _ _ w2.drew
            have HB3 : Hid (w2.drew.heap[w.heap.size]? = some (.cells (La.cl u) 58 (0, 0))) := HB'
            have HB4 : Hid (w2.drew.heap[w.heap.size + 1]? = some (.cells (La.cl (idK 0)) 58 (0, 0))) := HB1'
            have f3 : w2.drew.cell? ⟨w.heap.size, i, none⟩ = some (.int .u64 (xi : Int)) := hci
            have f4 : w2.drew.frozen? ⟨w.heap.size, i, none⟩ = false := hfi
            have hb3 : Below w.heap.size w w2.drew := hb2'.trans (La.below_drew _)
            clear hci hck hfi hb2' HB' HB1'
            generalize w2.drew = w3 at *
            go_wp2
            go_roundw
            case rel => exact ⟨i + 1, by go_num, by omega, by rw [set_blk HB3.out, La.cl_set, HE.out], (Below.heap_setCell w3 ⟨w.heap.size, i, none⟩ _ (w.heap.size + 1) (Nat.succ_ne_self _)).trans HB4.out, hb3.setCell (p := ⟨w.heap.size, i, none⟩) (Nat.le_refl _) _⟩
            case measure => simp [intOf]; omega
          | false =>
            have HE : Hid (La.stepW s k (i + 1) = u) := Lib.hid (by rw [HN2.out, hbit]; rfl)
            clear HN2 hbit
            go_wp2
            go_roundw
            case rel => exact ⟨i + 1, by go_num, by omega, by rw [HE.out]; exact HB'.out, HB1'.out, hb2'⟩
            case measure => simp [intOf]; omega
        · obtain rfl : i = q := by omega
          clear hblk hblk1
          go_wp2
          go_roundw
          case rel => exact ⟨k + 1, by go_num, by omega, by rw [HNX.out]; exact HB.out, HB1.out, hb⟩
          case measure => simp [intOf]; omega
    · obtain rfl : k = q := by omega
      have hlen := thr_len (q := k) HT.out k
      go_wp2_with (first | (with_reducible refine wpList_load_row rfl 58 (.tmp 3) rfl w.heap.size rfl 58 (La.cl (thrN k t k)) (0, 0) _ HB.out Tryz.underlying58 rfl (by rw [size51, cl_size, hlen]) ?_) | (with_reducible refine wpList_store_row rfl 58 (.tmp 4) (.tmp 29) rfl (w.heap.size + 1) (La.cl (thrN k t k)) rfl rfl 58 _ HB1.out (by rw [size51, cl_size, hlen]) (by rw [cl_size, cl_size, hlen, idK_len]) (cl_one _) ?_))
      exact bodyPost_ret (results_cell_row (P := Tryz.prog) rfl _ _ (w.heap.size + 1) 58 _ (0, 0) _ rfl (setRow_heap _ _ _ _ _ _ HB1.out) Tryz.underlying58 rfl (by rw [size51, cl_size, hlen])) rfl ⟨rfl, below_setRow hb (by omega) _⟩
end Go.Proofs.YtomokkpfkhfemaaGreatDoor
