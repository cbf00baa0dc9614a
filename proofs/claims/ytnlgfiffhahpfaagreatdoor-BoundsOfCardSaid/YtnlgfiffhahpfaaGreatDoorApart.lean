/- The book's lists are apart: Apart answers true. Condition: the lists lie in blocks of their own. -/
import Derived.Test.YtnlgfiffhahpfaaGreatDoorKeep
import Derived.Test.YtnlgfiffhahpfaaGreatDoorNone
import Derived.Test.YtnlgfiffhahpfaaGreatDoorGM
import Derived.Test.YtnlgfiffhahpfaaGreatDoorGB
namespace Go.Proofs.YtnlgfiffhahpfaaGreatDoor
open Go.RowKit

set_option maxRecDepth 100000 in
set_option maxHeartbeats 8000000 in
theorem apart_any (hN hY : Held) (bk : Nat) (k : Int) (vM vB : Value) (w : World) (hBN : BookAt 4 114 73 1 hN w) (hBY : BookAt 9 112 77 4 hY w) (eN : hN.bk = bk) (eY : hY.bk = bk) (hbk : w.heap[bk]? = some (.cells (bookCells k vM vB) 61 (0, 0))) :
    Calls Tryz.prog 20 #[.pointer (some ⟨bk, 0, none⟩)] w fun e w' => e = .returned (.bool true) ∧ Kept (fun b => b = hN.hb ∨ hN.D hN.m b ∨ b = hY.hb ∨ hY.D hY.m b) w w' := by
  have CFM : Hid (∀ W, BookAt 4 114 73 1 hN W → Calls Tryz.prog 45 #[.pointer (some ⟨bk, 0, none⟩)] W fun e w' => e = .returned (.tuple #[]) ∧ Kept (hN.D hN.m) W w' ∧ ∀ j, j < hN.m → Marked 73 1 mkM hN w' j (hN.n j)) := Lib.hid fun W hW => by
    have := fillM_any hN W hW
    rwa [eN] at this
  have CGM : Hid (∀ W, BookAt 4 114 73 1 hN W → (∀ j, j < hN.m → Marked 73 1 mkM hN W j (hN.n j)) → Calls Tryz.prog 60 #[.pointer (some ⟨bk, 0, none⟩)] W fun e w' => e = .returned (.tuple #[]) ∧ GrowAt 4 114 73 1 mkM hN W hN.m w') := Lib.hid fun W hW hM => by
    have := growM_any hN W hW hM
    rwa [eN] at this
  have CLM : Hid (∀ W, Ready 4 114 73 1 mkM hN W → Calls Tryz.prog 75 #[.pointer (some ⟨bk, 0, none⟩)] W fun e w' => e = .returned (.bool true) ∧ Kept (fun _ => False) W w') := Lib.hid fun W hW => by
    have := lookM_any hN W hW
    rwa [eN] at this
  have CFB : Hid (∀ W, BookAt 9 112 77 4 hY W → Calls Tryz.prog 50 #[.pointer (some ⟨bk, 0, none⟩)] W fun e w' => e = .returned (.tuple #[]) ∧ Kept (hY.D hY.m) W w' ∧ ∀ j, j < hY.m → Marked 77 4 mkB hY w' j (hY.n j)) := Lib.hid fun W hW => by
    have := fillB_any hY W hW
    rwa [eY] at this
  have CGB : Hid (∀ W, BookAt 9 112 77 4 hY W → (∀ j, j < hY.m → Marked 77 4 mkB hY W j (hY.n j)) → Calls Tryz.prog 65 #[.pointer (some ⟨bk, 0, none⟩)] W fun e w' => e = .returned (.tuple #[]) ∧ GrowAt 9 112 77 4 mkB hY W hY.m w') := Lib.hid fun W hW hM => by
    have := growB_any hY W hW hM
    rwa [eY] at this
  have CLB : Hid (∀ W, Ready 9 112 77 4 mkB hY W → Calls Tryz.prog 80 #[.pointer (some ⟨bk, 0, none⟩)] W fun e w' => e = .returned (.bool true) ∧ Kept (fun _ => False) W w') := Lib.hid fun W hW => by
    have := lookB_any hY W hW
    rwa [eY] at this
  have B0 := Lib.hid hbk
  have N0 := Lib.hid hBN
  have Y0 := Lib.hid hBY
  clear hbk hBN hBY eN eY
  go_enter Tryz.func20, Tryz.ntmps20
  go_wp2_with fail
  refine (fillByte_none bk _ (by rw [cell_blk B0.out]; rfl)).mono ?_
  rintro e w' ⟨rfl, rfl⟩
  go_wp2_with fail
  refine (fillInt_none bk _ (by rw [cell_blk B0.out]; rfl)).mono ?_
  rintro e w' ⟨rfl, rfl⟩
  go_wp2_with fail
  refine (fillText_none bk _ (by rw [cell_blk B0.out]; rfl)).mono ?_
  rintro e w' ⟨rfl, rfl⟩
  go_wp2_with fail
  refine (CFM.out _ N0.out).mono ?_
  rintro e w1 ⟨rfl, k1, m1⟩
  have t1 := N0.out.typedD
  have B1 := Lib.hid ((k1.block bk (lt_blk B0.out) (t1.no B0.out (by decide))).trans B0.out)
  have N1 := Lib.hid (N0.out.stay k1 (N0.out.nbk (by decide)) (N0.out.nhb (by decide)) fun i hi hn => by
    obtain ⟨cur, e1, e2, _⟩ := m1 i hi hn
    exact ⟨cur, e1, e2⟩)
  have Y1 := Lib.hid (Y0.out.far k1 t1 (by decide) (by decide) (by decide))
  have M1 := Lib.hid m1
  have T1 := Lib.hid (k1.mono (D' := fun b => b = hN.hb ∨ hN.D hN.m b ∨ b = hY.hb ∨ hY.D hY.m b) fun b h => .inr (.inl h))
  clear k1 m1 t1 B0 N0 Y0
  go_wp2_with fail
  refine (fillBool_none bk _ (by rw [cell_blk B1.out]; rfl)).mono ?_
  rintro e w' ⟨rfl, rfl⟩
  go_wp2_with fail
  refine (fillBoolList_none bk _ (by rw [cell_blk B1.out]; rfl)).mono ?_
  rintro e w' ⟨rfl, rfl⟩
  go_wp2_with fail
  refine (fillPair_none bk _ (by rw [cell_blk B1.out]; rfl)).mono ?_
  rintro e w' ⟨rfl, rfl⟩
  go_wp2_with fail
  refine (fillNode_none bk _ (by rw [cell_blk B1.out]; rfl)).mono ?_
  rintro e w' ⟨rfl, rfl⟩
  go_wp2_with fail
  refine (CFB.out _ Y1.out).mono ?_
  rintro e w2 ⟨rfl, k2, m2⟩
  have t2 := Y1.out.typedD
  have B2 := Lib.hid ((k2.block bk (lt_blk B1.out) (t2.no B1.out (by decide))).trans B1.out)
  have Y2 := Lib.hid (Y1.out.stay k2 (Y1.out.nbk (by decide)) (Y1.out.nhb (by decide)) fun i hi hn => by
    obtain ⟨cur, e1, e2, _⟩ := m2 i hi hn
    exact ⟨cur, e1, e2⟩)
  have N2 := Lib.hid (N1.out.far k2 t2 (by decide) (by decide) (by decide))
  have M1' : Hid (∀ j, j < hN.m → Marked 73 1 mkM hN w2 j (hN.n j)) := Lib.hid fun j hj => (M1.out j hj).far k2 t2 (by decide)
  have M2 := Lib.hid m2
  have T2 := Lib.hid (T1.out.trans (k2.mono (D' := fun b => b = hN.hb ∨ hN.D hN.m b ∨ b = hY.hb ∨ hY.D hY.m b) fun b h => .inr (.inr (.inr h))))
  clear k2 m2 t2 B1 N1 Y1 M1 T1
  go_wp2_with fail
  refine (fillTerm_none bk _ (by rw [cell_blk B2.out]; rfl)).mono ?_
  rintro e w' ⟨rfl, rfl⟩
  go_wp2_with fail
  refine (fillSpot_none bk _ (by rw [cell_blk B2.out]; rfl)).mono ?_
  rintro e w' ⟨rfl, rfl⟩
  go_wp2_with fail
  refine (fillImport_none bk _ (by rw [cell_blk B2.out]; rfl)).mono ?_
  rintro e w' ⟨rfl, rfl⟩
  go_wp2_with fail
  refine (fillEntry_none bk _ (by rw [cell_blk B2.out]; rfl)).mono ?_
  rintro e w' ⟨rfl, rfl⟩
  go_wp2_with fail
  refine (fillItem_none bk _ (by rw [cell_blk B2.out]; rfl)).mono ?_
  rintro e w' ⟨rfl, rfl⟩
  go_wp2_with fail
  refine (fillWord_none bk _ (by rw [cell_blk B2.out]; rfl)).mono ?_
  rintro e w' ⟨rfl, rfl⟩
  go_wp2_with fail
  refine (growByte_none bk _ (by rw [cell_blk B2.out]; rfl)).mono ?_
  rintro e w' ⟨rfl, rfl⟩
  go_wp2_with fail
  refine (growInt_none bk _ (by rw [cell_blk B2.out]; rfl)).mono ?_
  rintro e w' ⟨rfl, rfl⟩
  go_wp2_with fail
  refine (growText_none bk _ (by rw [cell_blk B2.out]; rfl)).mono ?_
  rintro e w' ⟨rfl, rfl⟩
  go_wp2_with fail
  refine (CGM.out _ N2.out M1'.out).mono ?_
  rintro e w3 ⟨rfl, g3⟩
  have t3 := N2.out.typedG
  have B3 := Lib.hid ((g3.kept.block bk (lt_blk B2.out) (t3.no B2.out (by decide))).trans B2.out)
  have R3 : Hid (Ready 4 114 73 1 mkM hN w3) := Lib.hid ⟨g3.book, g3.marks, g3.longs⟩
  have Y3 := Lib.hid (Y2.out.far g3.kept t3 (by decide) (by decide) (by decide))
  have M3 : Hid (∀ j, j < hY.m → Marked 77 4 mkB hY w3 j (hY.n j)) := Lib.hid fun j hj => (M2.out j hj).far g3.kept t3 (by decide)
  have T3 := Lib.hid (T2.out.trans (g3.kept.mono (D' := fun b => b = hN.hb ∨ hN.D hN.m b ∨ b = hY.hb ∨ hY.D hY.m b) fun b h => h.elim .inl fun h => .inr (.inl h)))
  clear g3 t3 B2 N2 Y2 M1' M2 T2
  go_wp2_with fail
  refine (growBool_none bk _ (by rw [cell_blk B3.out]; rfl)).mono ?_
  rintro e w' ⟨rfl, rfl⟩
  go_wp2_with fail
  refine (growBoolList_none bk _ (by rw [cell_blk B3.out]; rfl)).mono ?_
  rintro e w' ⟨rfl, rfl⟩
  go_wp2_with fail
  refine (growPair_none bk _ (by rw [cell_blk B3.out]; rfl)).mono ?_
  rintro e w' ⟨rfl, rfl⟩
  go_wp2_with fail
  refine (growNode_none bk _ (by rw [cell_blk B3.out]; rfl)).mono ?_
  rintro e w' ⟨rfl, rfl⟩
  go_wp2_with fail
  refine (CGB.out _ Y3.out M3.out).mono ?_
  rintro e w4 ⟨rfl, g4⟩
  have t4 := Y3.out.typedG
  have B4 := Lib.hid ((g4.kept.block bk (lt_blk B3.out) (t4.no B3.out (by decide))).trans B3.out)
  have S4 : Hid (Ready 9 112 77 4 mkB hY w4) := Lib.hid ⟨g4.book, g4.marks, g4.longs⟩
  have R4 := Lib.hid (R3.out.far g4.kept t4 (by decide) (by decide) (by decide))
  have T4 := Lib.hid (T3.out.trans (g4.kept.mono (D' := fun b => b = hN.hb ∨ hN.D hN.m b ∨ b = hY.hb ∨ hY.D hY.m b) fun b h => h.elim (fun h => .inr (.inr (.inl h))) fun h => .inr (.inr (.inr h))))
  clear g4 t4 B3 R3 Y3 M3 T3
  go_wp2_with fail
  refine (growTerm_none bk _ (by rw [cell_blk B4.out]; rfl)).mono ?_
  rintro e w' ⟨rfl, rfl⟩
  go_wp2_with fail
  refine (growSpot_none bk _ (by rw [cell_blk B4.out]; rfl)).mono ?_
  rintro e w' ⟨rfl, rfl⟩
  go_wp2_with fail
  refine (growImport_none bk _ (by rw [cell_blk B4.out]; rfl)).mono ?_
  rintro e w' ⟨rfl, rfl⟩
  go_wp2_with fail
  refine (growEntry_none bk _ (by rw [cell_blk B4.out]; rfl)).mono ?_
  rintro e w' ⟨rfl, rfl⟩
  go_wp2_with fail
  refine (growItem_none bk _ (by rw [cell_blk B4.out]; rfl)).mono ?_
  rintro e w' ⟨rfl, rfl⟩
  go_wp2_with fail
  refine (growWord_none bk _ (by rw [cell_blk B4.out]; rfl)).mono ?_
  rintro e w' ⟨rfl, rfl⟩
  go_wp2_with fail
  refine (lookByte_none bk _ (by rw [cell_blk B4.out]; rfl)).mono ?_
  rintro e w' ⟨rfl, rfl⟩
  go_wp2_with fail
  refine (lookInt_none bk _ (by rw [cell_blk B4.out]; rfl)).mono ?_
  rintro e w' ⟨rfl, rfl⟩
  go_wp2_with fail
  refine (lookText_none bk _ (by rw [cell_blk B4.out]; rfl)).mono ?_
  rintro e w' ⟨rfl, rfl⟩
  go_wp2_with fail
  refine (CLM.out _ R4.out).mono ?_
  rintro e w5 ⟨rfl, k5⟩
  have B5 := Lib.hid ((k5.block bk (lt_blk B4.out) (fun h => h)).trans B4.out)
  have S5 := Lib.hid (S4.out.far k5 (typed_no _ []) (by decide) (by decide) (by decide))
  have T5 := Lib.hid (T4.out.trans (k5.mono (D' := fun b => b = hN.hb ∨ hN.D hN.m b ∨ b = hY.hb ∨ hY.D hY.m b) fun b h => h.elim))
  clear k5 B4 R4 S4 T4
  go_wp2_with fail
  refine (lookBool_none bk _ (by rw [cell_blk B5.out]; rfl)).mono ?_
  rintro e w' ⟨rfl, rfl⟩
  go_wp2_with fail
  refine (lookBoolList_none bk _ (by rw [cell_blk B5.out]; rfl)).mono ?_
  rintro e w' ⟨rfl, rfl⟩
  go_wp2_with fail
  refine (lookPair_none bk _ (by rw [cell_blk B5.out]; rfl)).mono ?_
  rintro e w' ⟨rfl, rfl⟩
  go_wp2_with fail
  refine (lookNode_none bk _ (by rw [cell_blk B5.out]; rfl)).mono ?_
  rintro e w' ⟨rfl, rfl⟩
  go_wp2_with fail
  refine (CLB.out _ S5.out).mono ?_
  rintro e w6 ⟨rfl, k6⟩
  have B6 := Lib.hid ((k6.block bk (lt_blk B5.out) (fun h => h)).trans B5.out)
  have T6 := Lib.hid (T5.out.trans (k6.mono (D' := fun b => b = hN.hb ∨ hN.D hN.m b ∨ b = hY.hb ∨ hY.D hY.m b) fun b h => h.elim))
  clear k6 B5 S5 T5
  go_wp2_with fail
  refine (lookTerm_none bk _ (by rw [cell_blk B6.out]; rfl)).mono ?_
  rintro e w' ⟨rfl, rfl⟩
  go_wp2_with fail
  refine (lookSpot_none bk _ (by rw [cell_blk B6.out]; rfl)).mono ?_
  rintro e w' ⟨rfl, rfl⟩
  go_wp2_with fail
  refine (lookImport_none bk _ (by rw [cell_blk B6.out]; rfl)).mono ?_
  rintro e w' ⟨rfl, rfl⟩
  go_wp2_with fail
  refine (lookEntry_none bk _ (by rw [cell_blk B6.out]; rfl)).mono ?_
  rintro e w' ⟨rfl, rfl⟩
  go_wp2_with fail
  refine (lookItem_none bk _ (by rw [cell_blk B6.out]; rfl)).mono ?_
  rintro e w' ⟨rfl, rfl⟩
  go_wp2_with fail
  refine (lookWord_none bk _ (by rw [cell_blk B6.out]; rfl)).mono ?_
  rintro e w' ⟨rfl, rfl⟩
  go_wp2_with fail
  go_ret
  exact ⟨rfl, T6.out⟩
end Go.Proofs.YtnlgfiffhahpfaaGreatDoor
