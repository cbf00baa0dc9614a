/- The book's lists are apart: Apart answers true. Condition: the lists lie in blocks of their own. -/
import Derived.Test.YtkjeejaecagbaaaGreatDoorKeep
import Derived.Test.YtkjeejaecagbaaaGreatDoorLook
namespace Go.Proofs.YtkjeejaecagbaaaGreatDoor
open Go.RowKit

theorem texts_any (bk k : Nat) (v : Value) (xs : List Value) (A : Option Addr) (n c : Nat) (w : World) (hB : BookK w bk k v xs) (hk : k ≤ 100) :
    Calls Tryz.prog 16 #[.pointer (some ⟨bk, 0, none⟩), .slice A n c] w fun e w' => e = .returned (.tuple #[]) ∧ ∃ v', BookK w' bk (k + 1) v' (xs ++ [.slice A n c, .slice none 0 0, .int .i64 ((k : Int) + 1)]) ∧ Kept (fun b => bk ≤ b) w w' := by
  go_enter Tryz.func16, Tryz.ntmps16
  go_wp2_with fail
  refine (keep_any bk k v xs A n c _ hB hk).mono ?_
  rintro e w1 ⟨rfl, v1, hB1, hk1⟩
  go_wp2_with fail
  go_end0
  exact ⟨rfl, v1, hB1, hk1⟩

set_option maxRecDepth 100000 in
set_option maxHeartbeats 4000000 in
theorem apart_any (h : Held) (v : Value) (w : World) (hB : BookAt h w) (hbk : w.heap[h.bk]? = some (.cells (bookCells (h.m : Int) v) 46 (0, 0))) :
    Calls Tryz.prog 17 #[.pointer (some ⟨h.bk, 0, none⟩)] w fun e w' => e = .returned (.bool true) ∧ Kept (fun b => b = h.hb ∨ ∃ j, j < h.m ∧ b = h.g j) w w' := by
  have HBK := Lib.hid hbk
  clear hbk
  go_enter Tryz.func17, Tryz.ntmps17
  go_wp2_with fail
  refine (fillByte_none h.bk _ (by rw [cell_blk HBK.out]; rfl)).mono ?_
  rintro e w' ⟨rfl, rfl⟩
  go_wp2_with fail
  refine (fillInt_none h.bk _ (by rw [cell_blk HBK.out]; rfl)).mono ?_
  rintro e w' ⟨rfl, rfl⟩
  go_wp2_with fail
  refine (fill_any h _ hB).mono ?_
  rintro e w1 ⟨rfl, k1, m1⟩
  have hn1 : ¬ ∃ j, j < h.m ∧ h.bk = h.g j := by rintro ⟨j, hj, e⟩; exact (hB.off j hj).1 e.symm
  have hn2 : ¬ ∃ j, j < h.m ∧ h.hb = h.g j := by rintro ⟨j, hj, e⟩; exact (hB.off j hj).2 e.symm
  have B1 := Lib.hid ((k1.block h.bk hB.lt.1 hn1).trans HBK.out)
  have hB1 : BookAt h w1 := hB.stay k1 hn1 hn2 fun i hi hni => by
    obtain ⟨cur, e1, e2, _⟩ := m1 i hi hni
    exact ⟨cur, e1, e2⟩
  have M1 := Lib.hid m1
  clear m1
  go_wp2_with fail
  refine (fillNum_none h.bk _ (by rw [cell_blk B1.out]; rfl)).mono ?_
  rintro e w' ⟨rfl, rfl⟩
  go_wp2_with fail
  refine (fillBool_none h.bk _ (by rw [cell_blk B1.out]; rfl)).mono ?_
  rintro e w' ⟨rfl, rfl⟩
  go_wp2_with fail
  refine (fillBoolList_none h.bk _ (by rw [cell_blk B1.out]; rfl)).mono ?_
  rintro e w' ⟨rfl, rfl⟩
  go_wp2_with fail
  refine (fillPair_none h.bk _ (by rw [cell_blk B1.out]; rfl)).mono ?_
  rintro e w' ⟨rfl, rfl⟩
  go_wp2_with fail
  refine (fillNode_none h.bk _ (by rw [cell_blk B1.out]; rfl)).mono ?_
  rintro e w' ⟨rfl, rfl⟩
  go_wp2_with fail
  refine (fillBound_none h.bk _ (by rw [cell_blk B1.out]; rfl)).mono ?_
  rintro e w' ⟨rfl, rfl⟩
  go_wp2_with fail
  refine (fillTerm_none h.bk _ (by rw [cell_blk B1.out]; rfl)).mono ?_
  rintro e w' ⟨rfl, rfl⟩
  go_wp2_with fail
  refine (fillSpot_none h.bk _ (by rw [cell_blk B1.out]; rfl)).mono ?_
  rintro e w' ⟨rfl, rfl⟩
  go_wp2_with fail
  refine (fillImport_none h.bk _ (by rw [cell_blk B1.out]; rfl)).mono ?_
  rintro e w' ⟨rfl, rfl⟩
  go_wp2_with fail
  refine (fillEntry_none h.bk _ (by rw [cell_blk B1.out]; rfl)).mono ?_
  rintro e w' ⟨rfl, rfl⟩
  go_wp2_with fail
  refine (fillItem_none h.bk _ (by rw [cell_blk B1.out]; rfl)).mono ?_
  rintro e w' ⟨rfl, rfl⟩
  go_wp2_with fail
  refine (fillWord_none h.bk _ (by rw [cell_blk B1.out]; rfl)).mono ?_
  rintro e w' ⟨rfl, rfl⟩
  go_wp2_with fail
  refine (growByte_none h.bk _ (by rw [cell_blk B1.out]; rfl)).mono ?_
  rintro e w' ⟨rfl, rfl⟩
  go_wp2_with fail
  refine (growInt_none h.bk _ (by rw [cell_blk B1.out]; rfl)).mono ?_
  rintro e w' ⟨rfl, rfl⟩
  go_wp2_with fail
  refine (grow_any h _ hB1 M1.out).mono ?_
  rintro e w2 ⟨rfl, hG⟩
  have hn3 : ¬ (h.bk = h.hb ∨ ∃ j, j < h.m ∧ h.bk = h.g j) := by
    rintro (e | e)
    · exact hB.ne e
    · exact hn1 e
  have B2 := Lib.hid ((hG.kept.block h.bk hB1.lt.1 hn3).trans B1.out)
  have k2 : Kept (fun b => b = h.hb ∨ ∃ j, j < h.m ∧ b = h.g j) w w2 := (k1.mono fun _ hb => .inr hb).trans hG.kept
  clear hn1 hn2 hn3
  go_wp2_with fail
  refine (growNum_none h.bk _ (by rw [cell_blk B2.out]; rfl)).mono ?_
  rintro e w' ⟨rfl, rfl⟩
  go_wp2_with fail
  refine (growBool_none h.bk _ (by rw [cell_blk B2.out]; rfl)).mono ?_
  rintro e w' ⟨rfl, rfl⟩
  go_wp2_with fail
  refine (growBoolList_none h.bk _ (by rw [cell_blk B2.out]; rfl)).mono ?_
  rintro e w' ⟨rfl, rfl⟩
  go_wp2_with fail
  refine (growPair_none h.bk _ (by rw [cell_blk B2.out]; rfl)).mono ?_
  rintro e w' ⟨rfl, rfl⟩
  go_wp2_with fail
  refine (growNode_none h.bk _ (by rw [cell_blk B2.out]; rfl)).mono ?_
  rintro e w' ⟨rfl, rfl⟩
  go_wp2_with fail
  refine (growBound_none h.bk _ (by rw [cell_blk B2.out]; rfl)).mono ?_
  rintro e w' ⟨rfl, rfl⟩
  go_wp2_with fail
  refine (growTerm_none h.bk _ (by rw [cell_blk B2.out]; rfl)).mono ?_
  rintro e w' ⟨rfl, rfl⟩
  go_wp2_with fail
  refine (growSpot_none h.bk _ (by rw [cell_blk B2.out]; rfl)).mono ?_
  rintro e w' ⟨rfl, rfl⟩
  go_wp2_with fail
  refine (growImport_none h.bk _ (by rw [cell_blk B2.out]; rfl)).mono ?_
  rintro e w' ⟨rfl, rfl⟩
  go_wp2_with fail
  refine (growEntry_none h.bk _ (by rw [cell_blk B2.out]; rfl)).mono ?_
  rintro e w' ⟨rfl, rfl⟩
  go_wp2_with fail
  refine (growItem_none h.bk _ (by rw [cell_blk B2.out]; rfl)).mono ?_
  rintro e w' ⟨rfl, rfl⟩
  go_wp2_with fail
  refine (growWord_none h.bk _ (by rw [cell_blk B2.out]; rfl)).mono ?_
  rintro e w' ⟨rfl, rfl⟩
  go_wp2_with fail
  refine (lookByte_none h.bk _ (by rw [cell_blk B2.out]; rfl)).mono ?_
  rintro e w' ⟨rfl, rfl⟩
  go_wp2_with fail
  refine (lookInt_none h.bk _ (by rw [cell_blk B2.out]; rfl)).mono ?_
  rintro e w' ⟨rfl, rfl⟩
  go_wp2_with fail
  refine (look_any h w1 _ hG).mono ?_
  rintro e w3 ⟨rfl, k3⟩
  have B3 := Lib.hid ((k3.block h.bk hG.book.lt.1 (by simp)).trans B2.out)
  have k4 := k2.trans (k3.mono fun _ hf => hf.elim)
  go_wp2_with fail
  refine (lookNum_none h.bk _ (by rw [cell_blk B3.out]; rfl)).mono ?_
  rintro e w' ⟨rfl, rfl⟩
  go_wp2_with fail
  refine (lookBool_none h.bk _ (by rw [cell_blk B3.out]; rfl)).mono ?_
  rintro e w' ⟨rfl, rfl⟩
  go_wp2_with fail
  refine (lookBoolList_none h.bk _ (by rw [cell_blk B3.out]; rfl)).mono ?_
  rintro e w' ⟨rfl, rfl⟩
  go_wp2_with fail
  refine (lookPair_none h.bk _ (by rw [cell_blk B3.out]; rfl)).mono ?_
  rintro e w' ⟨rfl, rfl⟩
  go_wp2_with fail
  refine (lookNode_none h.bk _ (by rw [cell_blk B3.out]; rfl)).mono ?_
  rintro e w' ⟨rfl, rfl⟩
  go_wp2_with fail
  refine (lookBound_none h.bk _ (by rw [cell_blk B3.out]; rfl)).mono ?_
  rintro e w' ⟨rfl, rfl⟩
  go_wp2_with fail
  refine (lookTerm_none h.bk _ (by rw [cell_blk B3.out]; rfl)).mono ?_
  rintro e w' ⟨rfl, rfl⟩
  go_wp2_with fail
  refine (lookSpot_none h.bk _ (by rw [cell_blk B3.out]; rfl)).mono ?_
  rintro e w' ⟨rfl, rfl⟩
  go_wp2_with fail
  refine (lookImport_none h.bk _ (by rw [cell_blk B3.out]; rfl)).mono ?_
  rintro e w' ⟨rfl, rfl⟩
  go_wp2_with fail
  refine (lookEntry_none h.bk _ (by rw [cell_blk B3.out]; rfl)).mono ?_
  rintro e w' ⟨rfl, rfl⟩
  go_wp2_with fail
  refine (lookItem_none h.bk _ (by rw [cell_blk B3.out]; rfl)).mono ?_
  rintro e w' ⟨rfl, rfl⟩
  go_wp2_with fail
  refine (lookWord_none h.bk _ (by rw [cell_blk B3.out]; rfl)).mono ?_
  rintro e w' ⟨rfl, rfl⟩
  go_wp2_with fail
  go_ret
  exact ⟨rfl, k4⟩

end Go.Proofs.YtkjeejaecagbaaaGreatDoor
