/- The book's lists are apart: Apart answers true. Condition: the lists lie in blocks of their own. -/
import Derived.Test.YtmiconjmeaammaaGreatDoorKeep
import Derived.Test.YtmiconjmeaammaaGreatDoorNone
import Derived.Test.YtmiconjmeaammaaGreatDoorGN
import Derived.Test.YtmiconjmeaammaaGreatDoorGB
import Derived.Test.YtmiconjmeaammaaGreatDoorGM
namespace Go.Proofs.YtmiconjmeaammaaGreatDoor
open Go.RowKit

set_option maxRecDepth 100000 in
set_option maxHeartbeats 8000000 in
theorem apart_any (hN hB hM : Held) (bk : Nat) (k : Int) (vN vB vM : Value) (w : World) (hBN : BookAt 8 149 110 10 hN w) (eN : hN.bk = bk) (hBB : BookAt 9 177 91 4 hB w) (eB : hB.bk = bk) (hBM : BookAt 4 147 80 1 hM w) (eM : hM.bk = bk) (hbk : w.heap[bk]? = some (.cells (bookCells k vN vB vM) 66 (0, 0))) :
    Calls Tryz.prog 20 #[.pointer (some ⟨bk, 0, none⟩)] w fun e w' => e = .returned (.bool true) ∧ Kept (fun b => (b = hN.hb ∨ hN.D hN.m b) ∨ (b = hB.hb ∨ hB.D hB.m b) ∨ (b = hM.hb ∨ hM.D hM.m b)) w w' := by
  have CFN : Hid (∀ W, BookAt 8 149 110 10 hN W → Calls Tryz.prog 54 #[.pointer (some ⟨bk, 0, none⟩)] W fun e w' => e = .returned (.tuple #[]) ∧ Kept (hN.D hN.m) W w' ∧ ∀ j, j < hN.m → Marked 110 10 mkN hN w' j (hN.n j)) := Lib.hid fun W hW => by
    have := fillN_any hN W hW
    rwa [eN] at this
  have CGN : Hid (∀ W, BookAt 8 149 110 10 hN W → (∀ j, j < hN.m → Marked 110 10 mkN hN W j (hN.n j)) → Calls Tryz.prog 69 #[.pointer (some ⟨bk, 0, none⟩)] W fun e w' => e = .returned (.tuple #[]) ∧ GrowAt 8 149 110 10 mkN hN W hN.m w') := Lib.hid fun W hW hMk => by
    have := growN_any hN W hW hMk
    rwa [eN] at this
  have CLN : Hid (∀ W, Ready 8 149 110 10 mkN hN W → Calls Tryz.prog 84 #[.pointer (some ⟨bk, 0, none⟩)] W fun e w' => e = .returned (.bool true) ∧ Kept (fun _ => False) W w') := Lib.hid fun W hW => by
    have := lookN_any hN W hW
    rwa [eN] at this
  have CFB : Hid (∀ W, BookAt 9 177 91 4 hB W → Calls Tryz.prog 55 #[.pointer (some ⟨bk, 0, none⟩)] W fun e w' => e = .returned (.tuple #[]) ∧ Kept (hB.D hB.m) W w' ∧ ∀ j, j < hB.m → Marked 91 4 mkB hB w' j (hB.n j)) := Lib.hid fun W hW => by
    have := fillB_any hB W hW
    rwa [eB] at this
  have CGB : Hid (∀ W, BookAt 9 177 91 4 hB W → (∀ j, j < hB.m → Marked 91 4 mkB hB W j (hB.n j)) → Calls Tryz.prog 70 #[.pointer (some ⟨bk, 0, none⟩)] W fun e w' => e = .returned (.tuple #[]) ∧ GrowAt 9 177 91 4 mkB hB W hB.m w') := Lib.hid fun W hW hMk => by
    have := growB_any hB W hW hMk
    rwa [eB] at this
  have CLB : Hid (∀ W, Ready 9 177 91 4 mkB hB W → Calls Tryz.prog 85 #[.pointer (some ⟨bk, 0, none⟩)] W fun e w' => e = .returned (.bool true) ∧ Kept (fun _ => False) W w') := Lib.hid fun W hW => by
    have := lookB_any hB W hW
    rwa [eB] at this
  have CFM : Hid (∀ W, BookAt 4 147 80 1 hM W → Calls Tryz.prog 50 #[.pointer (some ⟨bk, 0, none⟩)] W fun e w' => e = .returned (.tuple #[]) ∧ Kept (hM.D hM.m) W w' ∧ ∀ j, j < hM.m → Marked 80 1 mkM hM w' j (hM.n j)) := Lib.hid fun W hW => by
    have := fillM_any hM W hW
    rwa [eM] at this
  have CGM : Hid (∀ W, BookAt 4 147 80 1 hM W → (∀ j, j < hM.m → Marked 80 1 mkM hM W j (hM.n j)) → Calls Tryz.prog 65 #[.pointer (some ⟨bk, 0, none⟩)] W fun e w' => e = .returned (.tuple #[]) ∧ GrowAt 4 147 80 1 mkM hM W hM.m w') := Lib.hid fun W hW hMk => by
    have := growM_any hM W hW hMk
    rwa [eM] at this
  have CLM : Hid (∀ W, Ready 4 147 80 1 mkM hM W → Calls Tryz.prog 80 #[.pointer (some ⟨bk, 0, none⟩)] W fun e w' => e = .returned (.bool true) ∧ Kept (fun _ => False) W w') := Lib.hid fun W hW => by
    have := lookM_any hM W hW
    rwa [eM] at this
  have B := Lib.hid hbk
  have NN := Lib.hid hBN
  have NB := Lib.hid hBB
  have NM := Lib.hid hBM
  have T : Hid (Kept (fun b => (b = hN.hb ∨ hN.D hN.m b) ∨ (b = hB.hb ∨ hB.D hB.m b) ∨ (b = hM.hb ∨ hM.D hM.m b)) w w) := Lib.hid (Kept.refl _ _)
  clear hbk hBN eN hBB eB hBM eM
  go_enter Tryz.func20, Tryz.ntmps20
  go_wp2_with fail
  refine (fillByte_none bk _ (by rw [cell_blk B.out]; rfl)).mono ?_
  rintro e w' ⟨rfl, rfl⟩
  go_wp2_with fail
  refine (fillInt_none bk _ (by rw [cell_blk B.out]; rfl)).mono ?_
  rintro e w' ⟨rfl, rfl⟩
  go_wp2_with fail
  refine (fillText_none bk _ (by rw [cell_blk B.out]; rfl)).mono ?_
  rintro e w' ⟨rfl, rfl⟩
  go_wp2_with fail
  refine (CFM.out _ NM.out).mono ?_
  rintro e w1 ⟨rfl, kk, mm⟩
  have tt := NM.out.typedD
  replace B := Lib.hid ((kk.block bk (lt_blk B.out) (tt.no B.out (by decide))).trans B.out)
  replace NM := Lib.hid (NM.out.stay kk (NM.out.nbk (by decide)) (NM.out.nhb (by decide)) fun i hi hn => by
    obtain ⟨cur, e1, e2, _⟩ := mm i hi hn
    exact ⟨cur, e1, e2⟩)
  have MM := Lib.hid mm
  replace NN := Lib.hid (NN.out.far kk tt (by decide) (by decide) (by decide))
  replace NB := Lib.hid (NB.out.far kk tt (by decide) (by decide) (by decide))
  replace T := Lib.hid (T.out.trans (kk.mono (D' := fun b => (b = hN.hb ∨ hN.D hN.m b) ∨ (b = hB.hb ∨ hB.D hB.m b) ∨ (b = hM.hb ∨ hM.D hM.m b)) fun b h => .inr (.inr (.inr h))))
  clear kk mm tt
  go_wp2_with fail
  refine (fillBool_none bk _ (by rw [cell_blk B.out]; rfl)).mono ?_
  rintro e w' ⟨rfl, rfl⟩
  go_wp2_with fail
  refine (fillBoolList_none bk _ (by rw [cell_blk B.out]; rfl)).mono ?_
  rintro e w' ⟨rfl, rfl⟩
  go_wp2_with fail
  refine (fillPair_none bk _ (by rw [cell_blk B.out]; rfl)).mono ?_
  rintro e w' ⟨rfl, rfl⟩
  go_wp2_with fail
  refine (CFN.out _ NN.out).mono ?_
  rintro e w2 ⟨rfl, kk, mm⟩
  have tt := NN.out.typedD
  replace B := Lib.hid ((kk.block bk (lt_blk B.out) (tt.no B.out (by decide))).trans B.out)
  replace NN := Lib.hid (NN.out.stay kk (NN.out.nbk (by decide)) (NN.out.nhb (by decide)) fun i hi hn => by
    obtain ⟨cur, e1, e2, _⟩ := mm i hi hn
    exact ⟨cur, e1, e2⟩)
  have MN := Lib.hid mm
  replace NB := Lib.hid (NB.out.far kk tt (by decide) (by decide) (by decide))
  replace NM := Lib.hid (NM.out.far kk tt (by decide) (by decide) (by decide))
  replace MM : Hid (∀ j, j < hM.m → Marked 80 1 mkM hM w2 j (hM.n j)) := Lib.hid fun j hj => (MM.out j hj).far kk tt (by decide)
  replace T := Lib.hid (T.out.trans (kk.mono (D' := fun b => (b = hN.hb ∨ hN.D hN.m b) ∨ (b = hB.hb ∨ hB.D hB.m b) ∨ (b = hM.hb ∨ hM.D hM.m b)) fun b h => .inl (.inr h)))
  clear kk mm tt
  go_wp2_with fail
  refine (CFB.out _ NB.out).mono ?_
  rintro e w3 ⟨rfl, kk, mm⟩
  have tt := NB.out.typedD
  replace B := Lib.hid ((kk.block bk (lt_blk B.out) (tt.no B.out (by decide))).trans B.out)
  replace NB := Lib.hid (NB.out.stay kk (NB.out.nbk (by decide)) (NB.out.nhb (by decide)) fun i hi hn => by
    obtain ⟨cur, e1, e2, _⟩ := mm i hi hn
    exact ⟨cur, e1, e2⟩)
  have MB := Lib.hid mm
  replace NN := Lib.hid (NN.out.far kk tt (by decide) (by decide) (by decide))
  replace MN : Hid (∀ j, j < hN.m → Marked 110 10 mkN hN w3 j (hN.n j)) := Lib.hid fun j hj => (MN.out j hj).far kk tt (by decide)
  replace NM := Lib.hid (NM.out.far kk tt (by decide) (by decide) (by decide))
  replace MM : Hid (∀ j, j < hM.m → Marked 80 1 mkM hM w3 j (hM.n j)) := Lib.hid fun j hj => (MM.out j hj).far kk tt (by decide)
  replace T := Lib.hid (T.out.trans (kk.mono (D' := fun b => (b = hN.hb ∨ hN.D hN.m b) ∨ (b = hB.hb ∨ hB.D hB.m b) ∨ (b = hM.hb ∨ hM.D hM.m b)) fun b h => .inr (.inl (.inr h))))
  clear kk mm tt
  go_wp2_with fail
  refine (fillTerm_none bk _ (by rw [cell_blk B.out]; rfl)).mono ?_
  rintro e w' ⟨rfl, rfl⟩
  go_wp2_with fail
  refine (fillSpot_none bk _ (by rw [cell_blk B.out]; rfl)).mono ?_
  rintro e w' ⟨rfl, rfl⟩
  go_wp2_with fail
  refine (fillImport_none bk _ (by rw [cell_blk B.out]; rfl)).mono ?_
  rintro e w' ⟨rfl, rfl⟩
  go_wp2_with fail
  refine (fillEntry_none bk _ (by rw [cell_blk B.out]; rfl)).mono ?_
  rintro e w' ⟨rfl, rfl⟩
  go_wp2_with fail
  refine (fillItem_none bk _ (by rw [cell_blk B.out]; rfl)).mono ?_
  rintro e w' ⟨rfl, rfl⟩
  go_wp2_with fail
  refine (fillWord_none bk _ (by rw [cell_blk B.out]; rfl)).mono ?_
  rintro e w' ⟨rfl, rfl⟩
  go_wp2_with fail
  refine (growByte_none bk _ (by rw [cell_blk B.out]; rfl)).mono ?_
  rintro e w' ⟨rfl, rfl⟩
  go_wp2_with fail
  refine (growInt_none bk _ (by rw [cell_blk B.out]; rfl)).mono ?_
  rintro e w' ⟨rfl, rfl⟩
  go_wp2_with fail
  refine (growText_none bk _ (by rw [cell_blk B.out]; rfl)).mono ?_
  rintro e w' ⟨rfl, rfl⟩
  go_wp2_with fail
  refine (CGM.out _ NM.out MM.out).mono ?_
  rintro e w4 ⟨rfl, gg⟩
  have tt := NM.out.typedG
  replace B := Lib.hid ((gg.kept.block bk (lt_blk B.out) (tt.no B.out (by decide))).trans B.out)
  have RM : Hid (Ready 4 147 80 1 mkM hM w4) := Lib.hid ⟨gg.book, gg.marks, gg.longs⟩
  replace NN := Lib.hid (NN.out.far gg.kept tt (by decide) (by decide) (by decide))
  replace MN : Hid (∀ j, j < hN.m → Marked 110 10 mkN hN w4 j (hN.n j)) := Lib.hid fun j hj => (MN.out j hj).far gg.kept tt (by decide)
  replace NB := Lib.hid (NB.out.far gg.kept tt (by decide) (by decide) (by decide))
  replace MB : Hid (∀ j, j < hB.m → Marked 91 4 mkB hB w4 j (hB.n j)) := Lib.hid fun j hj => (MB.out j hj).far gg.kept tt (by decide)
  replace T := Lib.hid (T.out.trans (gg.kept.mono (D' := fun b => (b = hN.hb ∨ hN.D hN.m b) ∨ (b = hB.hb ∨ hB.D hB.m b) ∨ (b = hM.hb ∨ hM.D hM.m b)) fun b h => .inr (.inr (h))))
  clear gg tt NM MM
  go_wp2_with fail
  refine (growBool_none bk _ (by rw [cell_blk B.out]; rfl)).mono ?_
  rintro e w' ⟨rfl, rfl⟩
  go_wp2_with fail
  refine (growBoolList_none bk _ (by rw [cell_blk B.out]; rfl)).mono ?_
  rintro e w' ⟨rfl, rfl⟩
  go_wp2_with fail
  refine (growPair_none bk _ (by rw [cell_blk B.out]; rfl)).mono ?_
  rintro e w' ⟨rfl, rfl⟩
  go_wp2_with fail
  refine (CGN.out _ NN.out MN.out).mono ?_
  rintro e w5 ⟨rfl, gg⟩
  have tt := NN.out.typedG
  replace B := Lib.hid ((gg.kept.block bk (lt_blk B.out) (tt.no B.out (by decide))).trans B.out)
  have RN : Hid (Ready 8 149 110 10 mkN hN w5) := Lib.hid ⟨gg.book, gg.marks, gg.longs⟩
  replace NB := Lib.hid (NB.out.far gg.kept tt (by decide) (by decide) (by decide))
  replace MB : Hid (∀ j, j < hB.m → Marked 91 4 mkB hB w5 j (hB.n j)) := Lib.hid fun j hj => (MB.out j hj).far gg.kept tt (by decide)
  replace RM := Lib.hid (RM.out.far gg.kept tt (by decide) (by decide) (by decide))
  replace T := Lib.hid (T.out.trans (gg.kept.mono (D' := fun b => (b = hN.hb ∨ hN.D hN.m b) ∨ (b = hB.hb ∨ hB.D hB.m b) ∨ (b = hM.hb ∨ hM.D hM.m b)) fun b h => .inl (h)))
  clear gg tt NN MN
  go_wp2_with fail
  refine (CGB.out _ NB.out MB.out).mono ?_
  rintro e w6 ⟨rfl, gg⟩
  have tt := NB.out.typedG
  replace B := Lib.hid ((gg.kept.block bk (lt_blk B.out) (tt.no B.out (by decide))).trans B.out)
  have RB : Hid (Ready 9 177 91 4 mkB hB w6) := Lib.hid ⟨gg.book, gg.marks, gg.longs⟩
  replace RN := Lib.hid (RN.out.far gg.kept tt (by decide) (by decide) (by decide))
  replace RM := Lib.hid (RM.out.far gg.kept tt (by decide) (by decide) (by decide))
  replace T := Lib.hid (T.out.trans (gg.kept.mono (D' := fun b => (b = hN.hb ∨ hN.D hN.m b) ∨ (b = hB.hb ∨ hB.D hB.m b) ∨ (b = hM.hb ∨ hM.D hM.m b)) fun b h => .inr (.inl (h))))
  clear gg tt NB MB
  go_wp2_with fail
  refine (growTerm_none bk _ (by rw [cell_blk B.out]; rfl)).mono ?_
  rintro e w' ⟨rfl, rfl⟩
  go_wp2_with fail
  refine (growSpot_none bk _ (by rw [cell_blk B.out]; rfl)).mono ?_
  rintro e w' ⟨rfl, rfl⟩
  go_wp2_with fail
  refine (growImport_none bk _ (by rw [cell_blk B.out]; rfl)).mono ?_
  rintro e w' ⟨rfl, rfl⟩
  go_wp2_with fail
  refine (growEntry_none bk _ (by rw [cell_blk B.out]; rfl)).mono ?_
  rintro e w' ⟨rfl, rfl⟩
  go_wp2_with fail
  refine (growItem_none bk _ (by rw [cell_blk B.out]; rfl)).mono ?_
  rintro e w' ⟨rfl, rfl⟩
  go_wp2_with fail
  refine (growWord_none bk _ (by rw [cell_blk B.out]; rfl)).mono ?_
  rintro e w' ⟨rfl, rfl⟩
  go_wp2_with fail
  refine (lookByte_none bk _ (by rw [cell_blk B.out]; rfl)).mono ?_
  rintro e w' ⟨rfl, rfl⟩
  go_wp2_with fail
  refine (lookInt_none bk _ (by rw [cell_blk B.out]; rfl)).mono ?_
  rintro e w' ⟨rfl, rfl⟩
  go_wp2_with fail
  refine (lookText_none bk _ (by rw [cell_blk B.out]; rfl)).mono ?_
  rintro e w' ⟨rfl, rfl⟩
  go_wp2_with fail
  refine (CLM.out _ RM.out).mono ?_
  rintro e w7 ⟨rfl, kk⟩
  replace B := Lib.hid ((kk.block bk (lt_blk B.out) (fun h => h)).trans B.out)
  replace RN := Lib.hid (RN.out.far kk (typed_no _ []) (by decide) (by decide) (by decide))
  replace RB := Lib.hid (RB.out.far kk (typed_no _ []) (by decide) (by decide) (by decide))
  replace T := Lib.hid (T.out.trans (kk.mono (D' := fun b => (b = hN.hb ∨ hN.D hN.m b) ∨ (b = hB.hb ∨ hB.D hB.m b) ∨ (b = hM.hb ∨ hM.D hM.m b)) fun b h => h.elim))
  clear kk RM
  go_wp2_with fail
  refine (lookBool_none bk _ (by rw [cell_blk B.out]; rfl)).mono ?_
  rintro e w' ⟨rfl, rfl⟩
  go_wp2_with fail
  refine (lookBoolList_none bk _ (by rw [cell_blk B.out]; rfl)).mono ?_
  rintro e w' ⟨rfl, rfl⟩
  go_wp2_with fail
  refine (lookPair_none bk _ (by rw [cell_blk B.out]; rfl)).mono ?_
  rintro e w' ⟨rfl, rfl⟩
  go_wp2_with fail
  refine (CLN.out _ RN.out).mono ?_
  rintro e w8 ⟨rfl, kk⟩
  replace B := Lib.hid ((kk.block bk (lt_blk B.out) (fun h => h)).trans B.out)
  replace RB := Lib.hid (RB.out.far kk (typed_no _ []) (by decide) (by decide) (by decide))
  replace T := Lib.hid (T.out.trans (kk.mono (D' := fun b => (b = hN.hb ∨ hN.D hN.m b) ∨ (b = hB.hb ∨ hB.D hB.m b) ∨ (b = hM.hb ∨ hM.D hM.m b)) fun b h => h.elim))
  clear kk RN
  go_wp2_with fail
  refine (CLB.out _ RB.out).mono ?_
  rintro e w9 ⟨rfl, kk⟩
  replace B := Lib.hid ((kk.block bk (lt_blk B.out) (fun h => h)).trans B.out)
  replace T := Lib.hid (T.out.trans (kk.mono (D' := fun b => (b = hN.hb ∨ hN.D hN.m b) ∨ (b = hB.hb ∨ hB.D hB.m b) ∨ (b = hM.hb ∨ hM.D hM.m b)) fun b h => h.elim))
  clear kk RB
  go_wp2_with fail
  refine (lookTerm_none bk _ (by rw [cell_blk B.out]; rfl)).mono ?_
  rintro e w' ⟨rfl, rfl⟩
  go_wp2_with fail
  refine (lookSpot_none bk _ (by rw [cell_blk B.out]; rfl)).mono ?_
  rintro e w' ⟨rfl, rfl⟩
  go_wp2_with fail
  refine (lookImport_none bk _ (by rw [cell_blk B.out]; rfl)).mono ?_
  rintro e w' ⟨rfl, rfl⟩
  go_wp2_with fail
  refine (lookEntry_none bk _ (by rw [cell_blk B.out]; rfl)).mono ?_
  rintro e w' ⟨rfl, rfl⟩
  go_wp2_with fail
  refine (lookItem_none bk _ (by rw [cell_blk B.out]; rfl)).mono ?_
  rintro e w' ⟨rfl, rfl⟩
  go_wp2_with fail
  refine (lookWord_none bk _ (by rw [cell_blk B.out]; rfl)).mono ?_
  rintro e w' ⟨rfl, rfl⟩
  go_wp2_with fail
  go_ret
  exact ⟨rfl, T.out⟩
end Go.Proofs.YtmiconjmeaammaaGreatDoor
