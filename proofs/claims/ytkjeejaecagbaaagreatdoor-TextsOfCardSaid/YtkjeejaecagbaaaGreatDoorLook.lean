/- The held lists are looked at: each one, and its longer one, is its mark. -/
import Derived.Test.YtkjeejaecagbaaaGreatDoorGrow
import Derived.Deep.QuietTactic
import Derived.BigQuiet
namespace Go.Proofs.YtkjeejaecagbaaaGreatDoor
open Go.RowKit

theorem isText_q (k : Nat) (w : World) (hk : k < 9) : Calls Tryz.prog 96 #[mark k, .int .i64 ((k : Int) + 1)] w fun e w' => e = .returned (.bool true) ∧ w' = w := by
  have := isText_any (k + 1) (by omega) w
  rw [Int.natCast_add] at this
  exact this.mono fun _ _ ⟨he, hw⟩ => ⟨he, hw.symm⟩

def LookRel (h : Held) (w : World) (i3 : Value) (wr : World) : Prop := ∃ k : Nat, i3 = .int .i64 (k : Int) ∧ k ≤ h.m ∧ Kept (fun _ => False) w wr

def LookIn (h : Held) (w : World) (k C : Nat) (LV : Value) (i5 : Value) (wr : World) : Prop :=
  ∃ q : Nat, i5 = .int .i64 (q : Int) ∧ q ≤ h.n k + 40 ∧ Kept (fun _ => False) w wr ∧ wr.cell? ⟨C, 0, none⟩ = some (.slice (h.a k) (h.n k) (h.c k)) ∧ wr.cell? ⟨C, 1, none⟩ = some LV ∧ wr.cell? ⟨C, 2, none⟩ = some (.int .i64 ((k : Int) + 1))

set_option maxRecDepth 100000 in
set_option maxHeartbeats 1000000 in
theorem look_any (h : Held) (w0 w : World) (hG : GrowAt h w0 h.m w) :
    Calls Tryz.prog 60 #[.pointer (some ⟨h.bk, 0, none⟩)] w fun e w' => e = .returned (.bool true) ∧ Kept (fun _ => False) w w' := by
  have hm := hG.book.many
  go_enter Tryz.func60, Tryz.ntmps60
  go_wp2
  go_loopw [3] (fun i3 wr => LookRel h w i3 wr) (fun i3 _ => h.m - (intOf i3).toNat)
  case atStart => exact ⟨0, rfl, by omega, Kept.refl _ _⟩
  case round =>
    obtain ⟨k, rfl, hk, hK⟩ := hrel
    have c1 : wr.cell? ⟨h.bk, 3, none⟩ = _ := (hK.cell (p := ⟨h.bk, 3, none⟩) hG.book.lt.1 (by simp)).trans hG.book.cell1
    by_cases hlt : k < h.m
    · obtain ⟨L, c, cur, l1, b1, b2, b3, b4, b5, _⟩ := hG.longs k hlt
      have d0 : wr.cell? ⟨h.hb, k * 3, none⟩ = _ := (hK.cell (p := ⟨h.hb, k * 3, none⟩) hG.book.lt.2 (by simp)).trans (hG.book.l k hlt)
      have d1 : wr.cell? ⟨h.hb, k * 3 + 1, none⟩ = _ := (hK.cell (p := ⟨h.hb, k * 3 + 1, none⟩) hG.book.lt.2 (by simp)).trans l1
      have d2 : wr.cell? ⟨h.hb, k * 3 + 2, none⟩ = _ := (hK.cell (p := ⟨h.hb, k * 3 + 2, none⟩) hG.book.lt.2 (by simp)).trans (hG.book.no k hlt)
      have hsm := hG.book.small k hlt
      have G1 := Lib.hid (hG.marks k hlt)
      have GN := Lib.hid (hG.book.nils k hlt)
      have B1 := Lib.hid b1
      have B5 := Lib.hid b5
      clear l1 b1 b2 b5
      have hw40 : ((h.n k : Int) + 40 != (h.n k : Int) + 40) = false := by simp
      obtain ⟨wo, rfl⟩ : ∃ wo : World, wo = wr := ⟨_, rfl⟩
      go_wp2
      go_loopw [5] (fun i5 wr => LookIn h w k wo.heap.size (.slice (some ⟨L, 0, none⟩) (h.n k + 40) c) i5 wr) (fun i5 _ => h.n k + 40 - (intOf i5).toNat)
      case atStart =>
        have hb := heap_alloc_new wo (.cells #[.slice (h.a k) (h.n k) (h.c k), .slice (some ⟨L, 0, none⟩) (h.n k + 40) c, .int .i64 ((k : Int) + 1)] 64)
        refine ⟨0, rfl, by omega, hK.alloc _, ?_, ?_, ?_⟩
        · rw [cell_blk hb]; rfl
        · rw [cell_blk hb]; rfl
        · rw [cell_blk hb]; rfl
      case round =>
        obtain ⟨q, rfl, hq, hK2, e0, e1, e2⟩ := hrel
        clear c1 d0 d1 d2
        by_cases hlt2 : q < h.n k + 40
        · have f1 : wr.cell? ⟨L, q, none⟩ = some (.string (wd (k + 1))) := by
            rw [hK2.cell (p := ⟨L, q, none⟩) (lt_blk B1.out) (by simp), cell_blk B1.out]
            exact B5.out q hlt2
          by_cases hlt3 : q < h.n k
          · have hnl : h.nl k = false := by
              cases hn : h.nl k with
              | false => rfl
              | true => have := (GN.out hn).1; omega
            obtain ⟨curg, g1, g2, g3⟩ := G1.out hnl
            have f2 : wr.cell? ⟨h.g k, q, none⟩ = some (.string (wd (k + 1))) := by
              rw [hK2.cell (p := ⟨h.g k, q, none⟩) (lt_blk g1) (by simp), cell_blk g1]
              exact g3 q hlt3
            have E0 := Lib.hid e0
            rw [show h.a k = some ⟨h.g k, 0, none⟩ by simp [Held.a, hnl]] at e0
            clear g1 g2 g3 hnl
            have hd3 : decide (q < h.n k) = true := by simpa using hlt3
            go_wp2
            go_quiet ((go_at_call 96; exact Calls.quiet_of_same (isText_q k _ (by omega))))
            go_wp2
            go_roundw
            case rel => exact ⟨q + 1, by go_num, by omega, hK2.drewN _, E0.out, e1, e2⟩
            case measure => simp [intOf]; omega
          · have hd3 : decide (q < h.n k) = false := by simpa using hlt3
            go_wp2
            go_quiet ((go_at_call 96; exact Calls.quiet_of_same (isText_q k _ (by omega))))
            go_wp2
            go_roundw
            case rel => exact ⟨q + 1, by go_num, by omega, hK2.drewN _, e0, e1, e2⟩
            case measure => simp [intOf]; omega
        · go_wp2
          go_roundw
          case rel => exact ⟨k + 1, by go_num, by omega, hK2⟩
          case measure => simp [intOf]; omega
    · go_wp2
      go_ret
      exact ⟨rfl, hK⟩

end Go.Proofs.YtkjeejaecagbaaaGreatDoor
