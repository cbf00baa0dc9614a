/- The book's one list of numbers: it is filled, grown and looked at. Condition: it lies in a block of its own, or nowhere. -/
import Derived.Test.YtnoigcaapnjcgaaGreatDoorListBook
import Derived.Deep.QuietTactic
import Derived.BigQuiet
namespace Go.Proofs.YtnoigcaapnjcgaaGreatDoor
open Go.RowKit

theorem markNum_any (k : Nat) (w : World) (h : k ≤ 100) : Calls Tryz.prog 69 #[.int .i64 (k : Int)] w fun e w' => e = .returned (.int .u64 (k : Int)) ∧ w = w' := by
  go_enter Tryz.func69, Tryz.ntmps69
  go_wp2
  go_ret
  exact ⟨rfl, rfl⟩

theorem isNum_any (k : Nat) (w : World) (h : k ≤ 100) : Calls Tryz.prog 84 #[.int .u64 (k : Int), .int .i64 (k : Int)] w fun e w' => e = .returned (.bool true) ∧ w' = w := by
  have hk : ((k : Int) == (k : Int)) = true := by simp
  go_enter Tryz.func84, Tryz.ntmps84
  go_wp2
  go_ret
  exact ⟨rfl, rfl⟩

set_option maxRecDepth 100000 in
set_option maxHeartbeats 1000000 in
theorem fillNum_any (bk hb cap : Nat) (A : Option Addr) (n c no : Nat) (LA : Option Addr) (LN LC : Nat) (w : World) (hB : NB 4 63 bk hb cap A n c no LA LN LC w) (hL : NL 53 1 [.int .u64 (no : Int)] 0 w A n c) (hno : no ≤ 100) (hAb : ¬ lies A bk) (hAh : ¬ lies A hb) :
    Calls Tryz.prog 22 #[.pointer (some ⟨bk, 0, none⟩)] w fun e w' => e = .returned (.tuple #[]) ∧ Kept (lies A) w w' ∧ NL 53 1 [.int .u64 (no : Int)] n w' A n c := by
  obtain ⟨H, hH, h0, h1, h2⟩ := hB.hc
  have cb := hB.cb
  have hbk := hB.hbk
  have l0 : w.cell? ⟨hb, 0, none⟩ = some (.slice A n c) := by rw [cell_blk hH, h0]
  have l1 : w.cell? ⟨hb, 1, none⟩ = some (.slice LA LN LC) := by rw [cell_blk hH, h1]
  have l2 : w.cell? ⟨hb, 2, none⟩ = some (.int .i64 (no : Int)) := by rw [cell_blk hH, h2]
  clear hH h0 h1 h2
  cases hL with
  | no =>
    go_enter Tryz.func22, Tryz.ntmps22
    go_wp2
    refine wp_loop_rounds 2 ?_
    rw [rounds_succ]
    go_wp2
    refine wp_loop_rounds 1 ?_
    rw [rounds_succ]
    go_wp2
    rw [rounds_succ]
    go_wp2
    go_end0
    exact ⟨rfl, (Kept.refl _ _).alloc _, .no⟩
  | «at» g n c cur e1 e2 e3 e4 e5 e6 =>
    have hgb : g ≠ bk := fun e => hAb ⟨_, rfl, e.symm⟩
    have hgh : g ≠ hb := fun e => hAh ⟨_, rfl, e.symm⟩
    have HL : Hid (NL 53 1 [.int .u64 (no : Int)] 0 w (some ⟨g, 0, none⟩) n c) := Lib.hid (.at g n c cur e1 e2 e3 e4 e5 e6)
    have hg := lt_blk e1
    have CB := Lib.hid cb
    clear e1 e2 e6 cur hAb hAh
    go_enter Tryz.func22, Tryz.ntmps22
    go_wp2
    refine wp_loop_rounds 2 ?_
    rw [rounds_succ]
    go_wp2
    go_loopw [4] (fun i4 wr => FRel 53 1 [.int .u64 (no : Int)] n g c w.heap.size no w i4 wr) (fun i4 _ => n - (intOf i4).toNat)
    case atStart =>
      have hb := heap_alloc_new w (.cells #[.slice (some ⟨g, 0, none⟩) n c, .slice LA LN LC, .int .i64 (no : Int)] 63)
      exact ⟨0, rfl, by omega, (Kept.refl _ _).alloc _, HL.out.keep ((Kept.refl (fun _ => False) w).alloc _) (fun _ _ h => h), by rw [cell_blk hb]; rfl, by rw [cell_blk hb]; rfl, by simp⟩
    case round =>
      obtain ⟨q, rfl, hq, hkept, hnl, e0, e2, hC⟩ := hrel
      clear l0 l1 l2 cb
      have HNL := Lib.hid hnl
      have HK := Lib.hid hkept
      clear hnl hkept
      by_cases hlt : q < n
      · obtain ⟨cur, k1, k2, k3⟩ := HNL.out.blk
        have hqc : q < cur.size := by omega
        have hce : wr.cell? ⟨g, q, none⟩ = some cur[q] := by rw [cell_blk k1]; exact Array.getElem?_eq_getElem hqc
        have hfz : wr.frozen? ⟨g, q, none⟩ = false := frozen_blk k1
        have K1 := Lib.hid k1
        have K2 := Lib.hid k2
        have K3 := Lib.hid k3
        have hgC : g < w.heap.size := hg
        generalize cur[q] = old at hce
        clear k1 k2 k3
        go_wp2
        refine wp_region_ord [0, 1, 2, 3, 4, 5, 6, 7] [5, 7] 8 (fun w' => w'.cell? ⟨w.heap.size, 0, none⟩ = some (.slice (some ⟨g, 0, none⟩) n c) ∧ w'.cell? ⟨w.heap.size, 2, none⟩ = some (.int .i64 (no : Int))) (by kernel_rfl) (by kernel_rfl) (by kernel_rfl) (by kernel_rfl) (fun _ _ _ _ _ h => h) ⟨e0, e2⟩ ?_
        simp only [steps, List.getElem?_cons_zero, List.getElem?_cons_succ]
        repeat (first
          | (refine ord_no rfl ?_; simp only [Act.put, List.setIfInBounds_toArray, List.set_cons_zero, List.set_cons_succ])
          | (refine ord_yes (v := ?_) rfl rfl ?_ ?_; rotate_left; (focus (rintro w' ⟨hS0, hS2⟩; go_simp; try with_reducible rfl)); simp only [Act.put, List.setIfInBounds_toArray, List.set_cons_zero, List.set_cons_succ]))
        refine ord_hard rfl rfl (fun K hK => ?_)
        go_simp
        refine (markNum_any no wr.drew hno).mono ?_
        rintro e w2 ⟨rfl, rfl⟩
        refine hK.out _ _ (fun _ => ⟨e0, e2⟩) ?_
        clear hK K
        repeat (first
          | (refine ord_no rfl ?_; simp only [Act.put, List.setIfInBounds_toArray, List.set_cons_zero, List.set_cons_succ])
          | (refine ord_yes (v := ?_) rfl rfl ?_ ?_; rotate_left; (focus (rintro w' ⟨hS0, hS2⟩; go_simp; try with_reducible rfl)); simp only [Act.put, List.setIfInBounds_toArray, List.set_cons_zero, List.set_cons_succ]))
        refine ord_hard rfl rfl (fun K hK => ?_)
        go_simp
        refine hK.out _ _ (fun _ => ⟨(cell_other (by omega)).trans e0, (cell_other (by omega)).trans e2⟩) ?_
        clear hK K
        refine ord_end ?_
        go_wp2
        go_roundw
        case rel => exact fRel_next1 HK.out K1.out K2.out K3.out hlt e3 e4 e5 e0 e2 hC hgC
        case measure => simp [intOf]; omega
      · obtain rfl : q = n := by omega
        have cb2 : wr.cell? ⟨bk, 4, none⟩ = some (.slice (some ⟨hb, 0, none⟩) 1 cap) := (HK.out.cell (p := ⟨bk, 4, none⟩) hbk (fun e => hgb e.symm)).trans CB.out
        go_wp2
        rw [rounds_succ]
        go_wp2
        go_end0
        exact ⟨rfl, HK.out.mono fun b e => ⟨_, rfl, e⟩, HNL.out⟩

def GRel (E sz : Nat) (us : List Value) (A : Option Addr) (n c C no : Nat) (wo : World) (v4 i5 : Value) (wr : World) : Prop :=
  ∃ p : Nat, i5 = .int .i64 (p : Int) ∧ p ≤ 40 ∧ wr.cell? ⟨C, 2, none⟩ = some (.int .i64 (no : Int)) ∧ C < wr.heap.size ∧
    ((A = none ∧ n = 0 ∧ c = 0 ∧ p = 0 ∧ v4 = .slice none 0 0 ∧ Kept (lies none) wo wr) ∨ ∃ L c' : Nat, v4 = .slice (some ⟨L, 0, none⟩) (n + p) c' ∧ GI E sz us A n c p wo L c' wr)

theorem copy_stays {wr w1 w' : World} {E sz : Nat} {us : List Value} {L a c L2 c2 C : Nat} {cur cur' : Array Value} {v : Value} (e2 : wr.cell? ⟨C, 2, none⟩ = some v) (hC : C < wr.heap.size) (hLC : L ≠ C) (hk1 : Kept (fun _ => False) wr w1) (h1 : OneMore E sz us w1 w' L a c L2 c2 cur cur') :
    w'.cell? ⟨C, 2, none⟩ = some v :=
  (h1.kept.cell (p := ⟨C, 2, none⟩) (Nat.lt_of_lt_of_le hC hk1.size) (fun e => hLC e.1.symm)).trans ((hk1.cell (p := ⟨C, 2, none⟩) hC (fun h => h)).trans e2)

set_option maxRecDepth 100000 in
set_option maxHeartbeats 1000000 in
theorem growNum_any (bk hb cap : Nat) (A : Option Addr) (n c no : Nat) (LA : Option Addr) (LN LC : Nat) (w : World) (hB : NB 4 63 bk hb cap A n c no LA LN LC w) (hL : NL 53 1 [.int .u64 (no : Int)] n w A n c) (hno : no ≤ 100) (hAb : ¬ lies A bk) (hAh : ¬ lies A hb) (hbh : bk ≠ hb) :
    Calls Tryz.prog 37 #[.pointer (some ⟨bk, 0, none⟩)] w fun e w' => e = .returned (.tuple #[]) ∧ ∃ L c', GrowE 4 63 53 1 [.int .u64 (no : Int)] bk hb cap A n c no w L c' w' := by
  obtain ⟨i0, hi0, hz0, hz1, hz2⟩ := info_parts nm_inf
  obtain ⟨H, hH, h0, h1, h2⟩ := hB.hc
  have cb := hB.cb
  have hbk := hB.hbk
  have l0 : w.cell? ⟨hb, 0, none⟩ = some (.slice A n c) := by rw [cell_blk hH, h0]
  have l1 : w.cell? ⟨hb, 1, none⟩ = some (.slice LA LN LC) := by rw [cell_blk hH, h1]
  have l2 : w.cell? ⟨hb, 2, none⟩ = some (.int .i64 (no : Int)) := by rw [cell_blk hH, h2]
  have hnsm : n ≤ 1000000 := by cases hL <;> omega
  have HAlt : Hid (∀ b, lies A b → b < w.heap.size) := Lib.hid (by
    rintro b ⟨a, rfl, rfl⟩
    cases hL with
    | «at» g n c cur e1 e2 e3 e4 e5 e6 => exact lt_blk e1)
  have hhb := lt_blk hH
  clear hH h0 h1 h2
  go_enter Tryz.func37, Tryz.ntmps37
  go_wp2
  refine wp_loop_rounds 2 ?_
  rw [rounds_succ]
  go_wp2
  go_loopw [4, 5] (fun v4 i5 wr => GRel 53 1 [.int .u64 (no : Int)] A n c w.heap.size no w v4 i5 wr) (fun _ i5 _ => 40 - (intOf i5).toNat)
  case atStart =>
    have hb := heap_alloc_new w (.cells #[.slice A n c, .slice LA LN LC, .int .i64 (no : Int)] 63)
    refine ⟨0, rfl, by omega, by rw [cell_blk hb]; rfl, by simp, ?_⟩
    cases hL with
    | no => exact .inl ⟨rfl, rfl, rfl, rfl, rfl, (Kept.refl _ _).alloc _⟩
    | «at» g n c cur e1 e2 e3 e4 e5 e6 =>
      have hk : Kept (fun _ => False) w (w.alloc (.cells #[.slice (some ⟨g, 0, none⟩) n c, .slice LA LN LC, .int .i64 (no : Int)] 63)) := (Kept.refl _ _).alloc _
      exact .inr ⟨g, c, rfl, (hk.mono fun _ h => h.elim), NL.keep (.at g n c cur e1 e2 e3 e4 e5 e6) hk (fun _ _ h => h), ⟨cur, (hk.block g (lt_blk e1) (fun h => h)).trans e1, e2, e3, e4, e6⟩, .inl ⟨rfl, rfl⟩⟩
  case round =>
    obtain ⟨p, rfl, hp, e2, hC, hor⟩ := hrel
    have CB := Lib.hid cb
    have L0 := Lib.hid l0
    clear l0 l1 l2 cb
    have hmt := markNum_any no wr hno
    by_cases hlt : p < 40
    · have hd : decide ((p : Int) < 40) = true := by simp; omega
      rcases hor with ⟨rfl, rfl, rfl, rfl, rfl, hKn⟩ | ⟨L, c', rfl, hGI⟩
      · have HKN := Lib.hid hKn
        clear hKn
        go_wp2_with fail
        refine hmt.mono ?_
        rintro e w2 ⟨rfl, rfl⟩
        go_wp2_with (at_builtin; refine wpList_append_own _ rfl (.tmp 28) (.tmp 32) 24 rfl wr.heap.size 53 i0 _ 1 8 Tryz.underlying24 hi0 hz0 hz1 hz2 rfl (by decide) (.slice none 0 0) 0 [] rfl (World.ownsRow_nil _ _ _ _) ⟨wr.heap.size, 0, none⟩ 1 1 [.int .u64 (no : Int)] rfl rfl (one_src _ _ _) (one_one rfl) (by unfold maxLen; omega) (by omega) (by simp) ?_; intro v' w' own' hg' _)
        obtain ⟨A', c', rfl⟩ : ∃ A c, v' = .slice A (0 + 1) c := by
          rcases own'.2 with ⟨_, e⟩ | ⟨g, cap, cur, rfl, _⟩
          · cases e
          · exact ⟨_, _, rfl⟩
        obtain ⟨L, rfl, hGI⟩ := GI.first hC HKN.out ((Kept.refl (fun _ => False) wr).alloc _) rfl own' hg'
        go_roundw
        case rel => exact ⟨1, by simp, by omega, (hg'.block _ (by simp; omega) (by simp [Value.ownBlock])) |> fun hb => (World.cell?_of_block (a := ⟨w.heap.size, 2, none⟩) hb).trans ((World.cell?_alloc_lt wr _ ⟨w.heap.size, 2, none⟩ hC).trans e2), by have := hg'.size; simp at this; omega, .inr ⟨L, c', rfl, hGI⟩⟩
        case measure => simp [intOf]
      · obtain ⟨cur, q1, q2, q3, q4, q5⟩ := hGI.long
        have Q1 := Lib.hid q1
        have Q2 := Lib.hid q2
        have Q5 := Lib.hid q5
        have HGI := Lib.hid hGI
        have hLC : L ≠ w.heap.size := by
          rcases hGI.place with ⟨e, _⟩ | e
          · have := HAlt.out L ⟨_, e, rfl⟩
            omega
          · omega
        clear q1 q2 q5 hGI
        go_wp2_with fail
        refine hmt.mono ?_
        rintro e w2 ⟨rfl, rfl⟩
        have hX : (wr.alloc (.cells #[.int .u64 (no : Int)] 53)).heap[L]? = some (.cells cur 53 (0, 0)) := (Below.heap_alloc wr _ L (lt_blk Q1.out)).trans Q1.out
        have HX := Lib.hid hX
        clear hX
        go_wp2_with (at_builtin; refine wpList_append_one _ rfl (.tmp 28) (.tmp 32) 24 53 1 [.int .u64 (no : Int)] rfl i0 _ 8 Tryz.underlying24 hi0 hz0 hz1 hz2 rfl L (n + p) c' cur rfl HX.out Q2.out q3 q4 (by omega) (by omega) wr.heap.size rfl rfl (one_src _ _ _) (one_one rfl) ?_; intro L' c2 cur' w' hone)
        go_roundw
        case rel => exact ⟨p + 1, by go_num, by omega, copy_stays e2 hC hLC ((Kept.refl _ _).alloc _) hone, by have := hone.kept.size; simp at this; omega, .inr ⟨L', c2, by rw [Nat.add_assoc], HGI.out.next HAlt.out hC Q1.out Q5.out ((Kept.refl _ _).alloc _) hone⟩⟩
        case measure => simp [intOf]; omega
    · obtain rfl : p = 40 := by omega
      rcases hor with ⟨_, _, _, h0, _⟩ | ⟨L, c', rfl, hGI⟩
      · omega
      have HGI := Lib.hid hGI
      have hB' := hB.keep hGI.kept hAb hAh
      have cb2 := hB'.cb
      obtain ⟨H, hH, h0, h1, h2⟩ := hB'.hc
      have l1 : wr.cell? ⟨hb, 1, none⟩ = some (.slice LA LN LC) := by rw [cell_blk hH, h1]
      have hfz : wr.frozen? ⟨hb, 1, none⟩ = false := frozen_blk hH
      have hfin := GrowE.of (HT := 63) (by decide) hB hAb hAh hbh hGI
      have HF := Lib.hid hfin
      have cb3 := hfin.book.cb
      clear hH h0 h1 h2 hGI hB' hfin
      go_wp2
      rw [rounds_succ]
      go_wp2
      go_end0
      exact ⟨rfl, L, c', HF.out⟩
def LkRel (n : Nat) (w : World) (C : Nat) (V0 V1 V2 : Value) (i5 : Value) (wr : World) : Prop :=
  ∃ q : Nat, i5 = .int .i64 (q : Int) ∧ q ≤ n + 40 ∧ Kept (fun _ => False) w wr ∧ wr.cell? ⟨C, 0, none⟩ = some V0 ∧ wr.cell? ⟨C, 1, none⟩ = some V1 ∧ wr.cell? ⟨C, 2, none⟩ = some V2 ∧ C < wr.heap.size

set_option maxRecDepth 100000 in
set_option maxHeartbeats 1000000 in
theorem lookNum_any (bk hb cap : Nat) (A : Option Addr) (n c no L c' : Nat) (w : World) (hB : NB 4 63 bk hb cap A n c no (some ⟨L, 0, none⟩) (n + 40) c' w) (hL : NL 53 1 [.int .u64 (no : Int)] n w A n c) (hG : Long 53 1 [.int .u64 (no : Int)] (n + 40) L c' w) (hno : no ≤ 100) :
    Calls Tryz.prog 52 #[.pointer (some ⟨bk, 0, none⟩)] w fun e w' => e = .returned (.bool true) ∧ Kept (fun _ => False) w w' := by
  obtain ⟨H, hH, h0, h1, h2⟩ := hB.hc
  have cb := hB.cb
  have hbk := hB.hbk
  have l0 : w.cell? ⟨hb, 0, none⟩ = some (.slice A n c) := by rw [cell_blk hH, h0]
  have l1 : w.cell? ⟨hb, 1, none⟩ = some (.slice (some ⟨L, 0, none⟩) (n + 40) c') := by rw [cell_blk hH, h1]
  have l2 : w.cell? ⟨hb, 2, none⟩ = some (.int .i64 (no : Int)) := by rw [cell_blk hH, h2]
  have hnsm : n ≤ 1000000 := by cases hL <;> omega
  have hw40 : ((n : Int) + 40 != (n : Int) + 40) = false := by simp
  obtain ⟨curL, g1, g2, g3, g4, g5⟩ := hG
  have G1 := Lib.hid g1
  have G5 := Lib.hid g5
  have HLL := Lib.hid hL
  have CB := Lib.hid cb
  clear hH h0 h1 h2 g1 g2 g3 g4 g5 hL hB
  go_enter Tryz.func52, Tryz.ntmps52
  go_wp2
  refine wp_loop_rounds 2 ?_
  rw [rounds_succ]
  go_wp2
  go_loopw [5] (fun i5 wr => LkRel n w w.heap.size (.slice A n c) (.slice (some ⟨L, 0, none⟩) (n + 40) c') (.int .i64 (no : Int)) i5 wr) (fun i5 _ => n + 40 - (intOf i5).toNat)
  case atStart =>
    have hb := heap_alloc_new w (.cells #[.slice A n c, .slice (some ⟨L, 0, none⟩) (n + 40) c', .int .i64 (no : Int)] 63)
    exact ⟨0, rfl, by omega, (Kept.refl _ _).alloc _, by rw [cell_blk hb]; rfl, by rw [cell_blk hb]; rfl, by rw [cell_blk hb]; rfl, by simp⟩
  case round =>
    obtain ⟨q, rfl, hq, hk, e0, e1, e2, hC⟩ := hrel
    have HK := Lib.hid hk
    clear hk l0 l1 l2 cb
    by_cases hlt : q < n + 40
    · have f1 : wr.cell? ⟨L, q, none⟩ = some (.int .u64 (no : Int)) := by
        rw [HK.out.cell (p := ⟨L, q, none⟩) (lt_blk G1.out) (fun h => h), cell_blk G1.out]
        have := G5.out q (by omega)
        rwa [Nat.mod_one] at this
      by_cases hlt3 : q < n
      · obtain ⟨g, curg, rfl, k1, k3⟩ : ∃ g curg, A = some ⟨g, 0, none⟩ ∧ w.heap[g]? = some (.cells curg 53 (0, 0)) ∧ Mk 1 [.int .u64 (no : Int)] n curg := by
          have := HLL.out
          cases this with
          | no => omega
          | «at» g n c cur e1 e2 e3 e4 e5 e6 => exact ⟨g, cur, rfl, e1, e6⟩
        have f2 : wr.cell? ⟨g, q, none⟩ = some (.int .u64 (no : Int)) := by
          rw [HK.out.cell (p := ⟨g, q, none⟩) (lt_blk k1) (fun h => h), cell_blk k1]
          have := k3 q (by omega)
          rwa [Nat.mod_one] at this
        have hd3 : decide (q < n) = true := by simpa using hlt3
        clear k1 k3
        go_wp2
        go_quiet ((go_at_call 84; exact Calls.quiet_of_same (isNum_any no _ hno)))
        go_wp2
        go_roundw
        case rel => exact ⟨q + 1, by go_num, by omega, HK.out.drewN _, e0, e1, e2, hC⟩
        case measure => simp [intOf]; omega
      · have hd3 : decide (q < n) = false := by simpa using hlt3
        go_wp2
        go_quiet ((go_at_call 84; exact Calls.quiet_of_same (isNum_any no _ hno)))
        go_wp2
        go_roundw
        case rel => exact ⟨q + 1, by go_num, by omega, HK.out.drewN _, e0, e1, e2, hC⟩
        case measure => simp [intOf]; omega
    · have cb2 : wr.cell? ⟨bk, 4, none⟩ = some (.slice (some ⟨hb, 0, none⟩) 1 cap) := (HK.out.cell (p := ⟨bk, 4, none⟩) hbk (fun h => h)).trans CB.out
      go_wp2
      rw [rounds_succ]
      go_wp2
      go_ret
      exact ⟨rfl, HK.out⟩
end Go.Proofs.YtnoigcaapnjcgaaGreatDoor
