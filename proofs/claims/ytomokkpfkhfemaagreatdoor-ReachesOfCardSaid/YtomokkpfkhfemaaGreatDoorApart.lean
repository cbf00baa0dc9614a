/- The book's lists are apart: Apart answers true. Condition: the lists lie in blocks of their own. -/
import Derived.Test.YtomokkpfkhfemaaGreatDoorKeep
import Derived.Test.YtomokkpfkhfemaaGreatDoorNone
import Derived.Test.YtomokkpfkhfemaaGreatDoorGO
import Derived.Test.YtomokkpfkhfemaaGreatDoorGL
import Derived.Test.YtomokkpfkhfemaaGreatDoorGB
namespace Go.Proofs.YtomokkpfkhfemaaGreatDoor
open Go.RowKit

set_option maxRecDepth 100000 in
set_option maxHeartbeats 8000000 in
theorem apart_any (hO hL hB : Held) (bk : Nat) (k : Int) (vO vL vB : Value) (w : World) (hBO : BookAt 5 88 4 1 hO w) (eO : hO.bk = bk) (hBL : BookAt 6 70 62 1 hL w) (eL : hL.bk = bk) (hBB : BookAt 9 68 55 4 hB w) (eB : hB.bk = bk) (hbk : w.heap[bk]? = some (.cells (bookCells k vO vL vB) 46 (0, 0))) :
    Calls Tryz.prog 11 #[.pointer (some ⟨bk, 0, none⟩)] w fun e w' => e = .returned (.bool true) ∧ Kept (fun b => (b = hO.hb ∨ hO.D hO.m b) ∨ (b = hL.hb ∨ hL.D hL.m b) ∨ (b = hB.hb ∨ hB.D hB.m b)) w w' := by
  have CFO : Hid (∀ W, BookAt 5 88 4 1 hO W → Calls Tryz.prog 24 #[.pointer (some ⟨bk, 0, none⟩)] W fun e w' => e = .returned (.tuple #[]) ∧ Kept (hO.D hO.m) W w' ∧ ∀ j, j < hO.m → Marked 4 1 mkO hO w' j (hO.n j)) := Lib.hid fun W hW => by
    have := fillO_any hO W hW
    rwa [eO] at this
  have CGO : Hid (∀ W, BookAt 5 88 4 1 hO W → (∀ j, j < hO.m → Marked 4 1 mkO hO W j (hO.n j)) → Calls Tryz.prog 39 #[.pointer (some ⟨bk, 0, none⟩)] W fun e w' => e = .returned (.tuple #[]) ∧ GrowAt 5 88 4 1 mkO hO W hO.m w') := Lib.hid fun W hW hM => by
    have := growO_any hO W hW hM
    rwa [eO] at this
  have CLO : Hid (∀ W, Ready 5 88 4 1 mkO hO W → Calls Tryz.prog 54 #[.pointer (some ⟨bk, 0, none⟩)] W fun e w' => e = .returned (.bool true) ∧ Kept (fun _ => False) W w') := Lib.hid fun W hW => by
    have := lookO_any hO W hW
    rwa [eO] at this
  have CFL : Hid (∀ W, BookAt 6 70 62 1 hL W → Calls Tryz.prog 25 #[.pointer (some ⟨bk, 0, none⟩)] W fun e w' => e = .returned (.tuple #[]) ∧ Kept (hL.D hL.m) W w' ∧ ∀ j, j < hL.m → Marked 62 1 mkL hL w' j (hL.n j)) := Lib.hid fun W hW => by
    have := fillL_any hL W hW
    rwa [eL] at this
  have CGL : Hid (∀ W, BookAt 6 70 62 1 hL W → (∀ j, j < hL.m → Marked 62 1 mkL hL W j (hL.n j)) → Calls Tryz.prog 40 #[.pointer (some ⟨bk, 0, none⟩)] W fun e w' => e = .returned (.tuple #[]) ∧ GrowAt 6 70 62 1 mkL hL W hL.m w') := Lib.hid fun W hW hM => by
    have := growL_any hL W hW hM
    rwa [eL] at this
  have CLL : Hid (∀ W, Ready 6 70 62 1 mkL hL W → Calls Tryz.prog 55 #[.pointer (some ⟨bk, 0, none⟩)] W fun e w' => e = .returned (.bool true) ∧ Kept (fun _ => False) W w') := Lib.hid fun W hW => by
    have := lookL_any hL W hW
    rwa [eL] at this
  have CFB : Hid (∀ W, BookAt 9 68 55 4 hB W → Calls Tryz.prog 28 #[.pointer (some ⟨bk, 0, none⟩)] W fun e w' => e = .returned (.tuple #[]) ∧ Kept (hB.D hB.m) W w' ∧ ∀ j, j < hB.m → Marked 55 4 mkB hB w' j (hB.n j)) := Lib.hid fun W hW => by
    have := fillB_any hB W hW
    rwa [eB] at this
  have CGB : Hid (∀ W, BookAt 9 68 55 4 hB W → (∀ j, j < hB.m → Marked 55 4 mkB hB W j (hB.n j)) → Calls Tryz.prog 43 #[.pointer (some ⟨bk, 0, none⟩)] W fun e w' => e = .returned (.tuple #[]) ∧ GrowAt 9 68 55 4 mkB hB W hB.m w') := Lib.hid fun W hW hM => by
    have := growB_any hB W hW hM
    rwa [eB] at this
  have CLB : Hid (∀ W, Ready 9 68 55 4 mkB hB W → Calls Tryz.prog 58 #[.pointer (some ⟨bk, 0, none⟩)] W fun e w' => e = .returned (.bool true) ∧ Kept (fun _ => False) W w') := Lib.hid fun W hW => by
    have := lookB_any hB W hW
    rwa [eB] at this
  have B := Lib.hid hbk
  have NO := Lib.hid hBO
  have NL := Lib.hid hBL
  have NB := Lib.hid hBB
  have T : Hid (Kept (fun b => (b = hO.hb ∨ hO.D hO.m b) ∨ (b = hL.hb ∨ hL.D hL.m b) ∨ (b = hB.hb ∨ hB.D hB.m b)) w w) := Lib.hid (Kept.refl _ _)
  clear hbk hBO eO hBL eL hBB eB
  go_enter Tryz.func11, Tryz.ntmps11
  go_wp2_with fail
  refine (fillByte_none bk _ (by rw [cell_blk B.out]; rfl)).mono ?_
  rintro e w' ⟨rfl, rfl⟩
  go_wp2_with fail
  refine (fillInt_none bk _ (by rw [cell_blk B.out]; rfl)).mono ?_
  rintro e w' ⟨rfl, rfl⟩
  go_wp2_with fail
  refine (fillText_none bk _ (by rw [cell_blk B.out]; rfl)).mono ?_
  rintro e w' ⟨rfl, rfl⟩
  go_wp2_with fail
  refine (fillNum_none bk _ (by rw [cell_blk B.out]; rfl)).mono ?_
  rintro e w' ⟨rfl, rfl⟩
  go_wp2_with fail
  refine (CFO.out _ NO.out).mono ?_
  rintro e w1 ⟨rfl, kk, mm⟩
  have tt := NO.out.typedD
  replace B := Lib.hid ((kk.block bk (lt_blk B.out) (tt.no B.out (by decide))).trans B.out)
  replace NO := Lib.hid (NO.out.stay kk (NO.out.nbk (by decide)) (NO.out.nhb (by decide)) fun i hi hn => by
    obtain ⟨cur, e1, e2, _⟩ := mm i hi hn
    exact ⟨cur, e1, e2⟩)
  have MO := Lib.hid mm
  replace NL := Lib.hid (NL.out.far kk tt (by decide) (by decide) (by decide))
  replace NB := Lib.hid (NB.out.far kk tt (by decide) (by decide) (by decide))
  replace T := Lib.hid (T.out.trans (kk.mono (D' := fun b => (b = hO.hb ∨ hO.D hO.m b) ∨ (b = hL.hb ∨ hL.D hL.m b) ∨ (b = hB.hb ∨ hB.D hB.m b)) fun b h => .inl (.inr h)))
  clear kk mm tt
  go_wp2_with fail
  refine (CFL.out _ NL.out).mono ?_
  rintro e w2 ⟨rfl, kk, mm⟩
  have tt := NL.out.typedD
  replace B := Lib.hid ((kk.block bk (lt_blk B.out) (tt.no B.out (by decide))).trans B.out)
  replace NL := Lib.hid (NL.out.stay kk (NL.out.nbk (by decide)) (NL.out.nhb (by decide)) fun i hi hn => by
    obtain ⟨cur, e1, e2, _⟩ := mm i hi hn
    exact ⟨cur, e1, e2⟩)
  have ML := Lib.hid mm
  replace NO := Lib.hid (NO.out.far kk tt (by decide) (by decide) (by decide))
  replace MO : Hid (∀ j, j < hO.m → Marked 4 1 mkO hO w2 j (hO.n j)) := Lib.hid fun j hj => (MO.out j hj).far kk tt (by decide)
  replace NB := Lib.hid (NB.out.far kk tt (by decide) (by decide) (by decide))
  replace T := Lib.hid (T.out.trans (kk.mono (D' := fun b => (b = hO.hb ∨ hO.D hO.m b) ∨ (b = hL.hb ∨ hL.D hL.m b) ∨ (b = hB.hb ∨ hB.D hB.m b)) fun b h => .inr (.inl (.inr h))))
  clear kk mm tt
  go_wp2_with fail
  refine (fillPair_none bk _ (by rw [cell_blk B.out]; rfl)).mono ?_
  rintro e w' ⟨rfl, rfl⟩
  go_wp2_with fail
  refine (fillNode_none bk _ (by rw [cell_blk B.out]; rfl)).mono ?_
  rintro e w' ⟨rfl, rfl⟩
  go_wp2_with fail
  refine (CFB.out _ NB.out).mono ?_
  rintro e w3 ⟨rfl, kk, mm⟩
  have tt := NB.out.typedD
  replace B := Lib.hid ((kk.block bk (lt_blk B.out) (tt.no B.out (by decide))).trans B.out)
  replace NB := Lib.hid (NB.out.stay kk (NB.out.nbk (by decide)) (NB.out.nhb (by decide)) fun i hi hn => by
    obtain ⟨cur, e1, e2, _⟩ := mm i hi hn
    exact ⟨cur, e1, e2⟩)
  have MB := Lib.hid mm
  replace NO := Lib.hid (NO.out.far kk tt (by decide) (by decide) (by decide))
  replace MO : Hid (∀ j, j < hO.m → Marked 4 1 mkO hO w3 j (hO.n j)) := Lib.hid fun j hj => (MO.out j hj).far kk tt (by decide)
  replace NL := Lib.hid (NL.out.far kk tt (by decide) (by decide) (by decide))
  replace ML : Hid (∀ j, j < hL.m → Marked 62 1 mkL hL w3 j (hL.n j)) := Lib.hid fun j hj => (ML.out j hj).far kk tt (by decide)
  replace T := Lib.hid (T.out.trans (kk.mono (D' := fun b => (b = hO.hb ∨ hO.D hO.m b) ∨ (b = hL.hb ∨ hL.D hL.m b) ∨ (b = hB.hb ∨ hB.D hB.m b)) fun b h => .inr (.inr (.inr h))))
  clear kk mm tt
  go_wp2_with fail
  refine (fillTerm_none bk _ (by rw [cell_blk B.out]; rfl)).mono ?_
  rintro e w' ⟨rfl, rfl⟩
  go_wp2_with fail
  refine (fillSpot_none bk _ (by rw [cell_blk B.out]; rfl)).mono ?_
  rintro e w' ⟨rfl, rfl⟩
  go_wp2_with fail
  refine (fillImport_none bk _ (by rw [cell_blk B.out]; rfl)).mono ?_
  rintro e w' ⟨rfl, rfl⟩
  go_wp2_with fail
  refine (fillEntry_none bk _ (by rw [cell_blk B.out]; rfl)).mono ?_
  rintro e w' ⟨rfl, rfl⟩
  go_wp2_with fail
  refine (fillItem_none bk _ (by rw [cell_blk B.out]; rfl)).mono ?_
  rintro e w' ⟨rfl, rfl⟩
  go_wp2_with fail
  refine (fillWord_none bk _ (by rw [cell_blk B.out]; rfl)).mono ?_
  rintro e w' ⟨rfl, rfl⟩
  go_wp2_with fail
  refine (growByte_none bk _ (by rw [cell_blk B.out]; rfl)).mono ?_
  rintro e w' ⟨rfl, rfl⟩
  go_wp2_with fail
  refine (growInt_none bk _ (by rw [cell_blk B.out]; rfl)).mono ?_
  rintro e w' ⟨rfl, rfl⟩
  go_wp2_with fail
  refine (growText_none bk _ (by rw [cell_blk B.out]; rfl)).mono ?_
  rintro e w' ⟨rfl, rfl⟩
  go_wp2_with fail
  refine (growNum_none bk _ (by rw [cell_blk B.out]; rfl)).mono ?_
  rintro e w' ⟨rfl, rfl⟩
  go_wp2_with fail
  refine (CGO.out _ NO.out MO.out).mono ?_
  rintro e w4 ⟨rfl, gg⟩
  have tt := NO.out.typedG
  replace B := Lib.hid ((gg.kept.block bk (lt_blk B.out) (tt.no B.out (by decide))).trans B.out)
  have RO : Hid (Ready 5 88 4 1 mkO hO w4) := Lib.hid ⟨gg.book, gg.marks, gg.longs⟩
  replace NL := Lib.hid (NL.out.far gg.kept tt (by decide) (by decide) (by decide))
  replace ML : Hid (∀ j, j < hL.m → Marked 62 1 mkL hL w4 j (hL.n j)) := Lib.hid fun j hj => (ML.out j hj).far gg.kept tt (by decide)
  replace NB := Lib.hid (NB.out.far gg.kept tt (by decide) (by decide) (by decide))
  replace MB : Hid (∀ j, j < hB.m → Marked 55 4 mkB hB w4 j (hB.n j)) := Lib.hid fun j hj => (MB.out j hj).far gg.kept tt (by decide)
  replace T := Lib.hid (T.out.trans (gg.kept.mono (D' := fun b => (b = hO.hb ∨ hO.D hO.m b) ∨ (b = hL.hb ∨ hL.D hL.m b) ∨ (b = hB.hb ∨ hB.D hB.m b)) fun b h => .inl (h)))
  clear gg tt NO MO
  go_wp2_with fail
  refine (CGL.out _ NL.out ML.out).mono ?_
  rintro e w5 ⟨rfl, gg⟩
  have tt := NL.out.typedG
  replace B := Lib.hid ((gg.kept.block bk (lt_blk B.out) (tt.no B.out (by decide))).trans B.out)
  have RL : Hid (Ready 6 70 62 1 mkL hL w5) := Lib.hid ⟨gg.book, gg.marks, gg.longs⟩
  replace RO := Lib.hid (RO.out.far gg.kept tt (by decide) (by decide) (by decide))
  replace NB := Lib.hid (NB.out.far gg.kept tt (by decide) (by decide) (by decide))
  replace MB : Hid (∀ j, j < hB.m → Marked 55 4 mkB hB w5 j (hB.n j)) := Lib.hid fun j hj => (MB.out j hj).far gg.kept tt (by decide)
  replace T := Lib.hid (T.out.trans (gg.kept.mono (D' := fun b => (b = hO.hb ∨ hO.D hO.m b) ∨ (b = hL.hb ∨ hL.D hL.m b) ∨ (b = hB.hb ∨ hB.D hB.m b)) fun b h => .inr (.inl (h))))
  clear gg tt NL ML
  go_wp2_with fail
  refine (growPair_none bk _ (by rw [cell_blk B.out]; rfl)).mono ?_
  rintro e w' ⟨rfl, rfl⟩
  go_wp2_with fail
  refine (growNode_none bk _ (by rw [cell_blk B.out]; rfl)).mono ?_
  rintro e w' ⟨rfl, rfl⟩
  go_wp2_with fail
  refine (CGB.out _ NB.out MB.out).mono ?_
  rintro e w6 ⟨rfl, gg⟩
  have tt := NB.out.typedG
  replace B := Lib.hid ((gg.kept.block bk (lt_blk B.out) (tt.no B.out (by decide))).trans B.out)
  have RB : Hid (Ready 9 68 55 4 mkB hB w6) := Lib.hid ⟨gg.book, gg.marks, gg.longs⟩
  replace RO := Lib.hid (RO.out.far gg.kept tt (by decide) (by decide) (by decide))
  replace RL := Lib.hid (RL.out.far gg.kept tt (by decide) (by decide) (by decide))
  replace T := Lib.hid (T.out.trans (gg.kept.mono (D' := fun b => (b = hO.hb ∨ hO.D hO.m b) ∨ (b = hL.hb ∨ hL.D hL.m b) ∨ (b = hB.hb ∨ hB.D hB.m b)) fun b h => .inr (.inr (h))))
  clear gg tt NB MB
  go_wp2_with fail
  refine (growTerm_none bk _ (by rw [cell_blk B.out]; rfl)).mono ?_
  rintro e w' ⟨rfl, rfl⟩
  go_wp2_with fail
  refine (growSpot_none bk _ (by rw [cell_blk B.out]; rfl)).mono ?_
  rintro e w' ⟨rfl, rfl⟩
  go_wp2_with fail
  refine (growImport_none bk _ (by rw [cell_blk B.out]; rfl)).mono ?_
  rintro e w' ⟨rfl, rfl⟩
  go_wp2_with fail
  refine (growEntry_none bk _ (by rw [cell_blk B.out]; rfl)).mono ?_
  rintro e w' ⟨rfl, rfl⟩
  go_wp2_with fail
  refine (growItem_none bk _ (by rw [cell_blk B.out]; rfl)).mono ?_
  rintro e w' ⟨rfl, rfl⟩
  go_wp2_with fail
  refine (growWord_none bk _ (by rw [cell_blk B.out]; rfl)).mono ?_
  rintro e w' ⟨rfl, rfl⟩
  go_wp2_with fail
  refine (lookByte_none bk _ (by rw [cell_blk B.out]; rfl)).mono ?_
  rintro e w' ⟨rfl, rfl⟩
  go_wp2_with fail
  refine (lookInt_none bk _ (by rw [cell_blk B.out]; rfl)).mono ?_
  rintro e w' ⟨rfl, rfl⟩
  go_wp2_with fail
  refine (lookText_none bk _ (by rw [cell_blk B.out]; rfl)).mono ?_
  rintro e w' ⟨rfl, rfl⟩
  go_wp2_with fail
  refine (lookNum_none bk _ (by rw [cell_blk B.out]; rfl)).mono ?_
  rintro e w' ⟨rfl, rfl⟩
  go_wp2_with fail
  refine (CLO.out _ RO.out).mono ?_
  rintro e w7 ⟨rfl, kk⟩
  replace B := Lib.hid ((kk.block bk (lt_blk B.out) (fun h => h)).trans B.out)
  replace RL := Lib.hid (RL.out.far kk (typed_no _ []) (by decide) (by decide) (by decide))
  replace RB := Lib.hid (RB.out.far kk (typed_no _ []) (by decide) (by decide) (by decide))
  replace T := Lib.hid (T.out.trans (kk.mono (D' := fun b => (b = hO.hb ∨ hO.D hO.m b) ∨ (b = hL.hb ∨ hL.D hL.m b) ∨ (b = hB.hb ∨ hB.D hB.m b)) fun b h => h.elim))
  clear kk RO
  go_wp2_with fail
  refine (CLL.out _ RL.out).mono ?_
  rintro e w8 ⟨rfl, kk⟩
  replace B := Lib.hid ((kk.block bk (lt_blk B.out) (fun h => h)).trans B.out)
  replace RB := Lib.hid (RB.out.far kk (typed_no _ []) (by decide) (by decide) (by decide))
  replace T := Lib.hid (T.out.trans (kk.mono (D' := fun b => (b = hO.hb ∨ hO.D hO.m b) ∨ (b = hL.hb ∨ hL.D hL.m b) ∨ (b = hB.hb ∨ hB.D hB.m b)) fun b h => h.elim))
  clear kk RL
  go_wp2_with fail
  refine (lookPair_none bk _ (by rw [cell_blk B.out]; rfl)).mono ?_
  rintro e w' ⟨rfl, rfl⟩
  go_wp2_with fail
  refine (lookNode_none bk _ (by rw [cell_blk B.out]; rfl)).mono ?_
  rintro e w' ⟨rfl, rfl⟩
  go_wp2_with fail
  refine (CLB.out _ RB.out).mono ?_
  rintro e w9 ⟨rfl, kk⟩
  replace B := Lib.hid ((kk.block bk (lt_blk B.out) (fun h => h)).trans B.out)
  replace T := Lib.hid (T.out.trans (kk.mono (D' := fun b => (b = hO.hb ∨ hO.D hO.m b) ∨ (b = hL.hb ∨ hL.D hL.m b) ∨ (b = hB.hb ∨ hB.D hB.m b)) fun b h => h.elim))
  clear kk RB
  go_wp2_with fail
  refine (lookTerm_none bk _ (by rw [cell_blk B.out]; rfl)).mono ?_
  rintro e w' ⟨rfl, rfl⟩
  go_wp2_with fail
  refine (lookSpot_none bk _ (by rw [cell_blk B.out]; rfl)).mono ?_
  rintro e w' ⟨rfl, rfl⟩
  go_wp2_with fail
  refine (lookImport_none bk _ (by rw [cell_blk B.out]; rfl)).mono ?_
  rintro e w' ⟨rfl, rfl⟩
  go_wp2_with fail
  refine (lookEntry_none bk _ (by rw [cell_blk B.out]; rfl)).mono ?_
  rintro e w' ⟨rfl, rfl⟩
  go_wp2_with fail
  refine (lookItem_none bk _ (by rw [cell_blk B.out]; rfl)).mono ?_
  rintro e w' ⟨rfl, rfl⟩
  go_wp2_with fail
  refine (lookWord_none bk _ (by rw [cell_blk B.out]; rfl)).mono ?_
  rintro e w' ⟨rfl, rfl⟩
  go_wp2_with fail
  go_ret
  exact ⟨rfl, T.out⟩
end Go.Proofs.YtomokkpfkhfemaaGreatDoor
