import Derived.Test.YtphklakjadchmaaGreatDoorGI
import Derived.Test.YtphklakjadchmaaGreatDoorGL
import Derived.Test.YtphklakjadchmaaGreatDoorGM
import Derived.Test.YtphklakjadchmaaGreatDoorGO
import Derived.Test.YtphklakjadchmaaGreatDoorGS
import Derived.Test.YtphklakjadchmaaGreatDoorKeep
import Derived.Test.YtphklakjadchmaaGreatDoorNone
namespace Go.Proofs.YtphklakjadchmaaGreatDoor
open Go.RowKit
set_option maxRecDepth 100000 in
set_option maxHeartbeats 8000000 in
theorem apart_any (hI hS hM hO hL:Held)(bk:Nat)(k:Int)(vI vS vM vO vL:Value)(w:World)(hBI:BookAt 2 144 3 1 hI w)(eI:hI.bk=bk)(hBS:BookAt 11 180 102 5 hS w)(eS:hS.bk=bk)(hBM:BookAt 4 148 82 1 hM w)(eM:hM.bk=bk)(hBO:BookAt 5 146 4 1 hO w)(eO:hO.bk=bk)(hBL:BookAt 6 160 42 1 hL w)(eL:hL.bk=bk)(hbk:w.heap[bk]?=some (.cells (bookCells k vI vS vM vO vL) 62 (0,0))):
  Calls Tryz.prog 21 #[.pointer (some ⟨bk,0,none⟩)] w fun e w'=>e= .returned (.bool true)∧Kept (fun b=>(b=hI.hb∨hI.D hI.m b)∨(b=hS.hb∨hS.D hS.m b)∨(b=hM.hb∨hM.D hM.m b)∨(b=hO.hb∨hO.D hO.m b)∨(b=hL.hb∨hL.D hL.m b)) w w':=by
 have CFI:Hid (∀W,BookAt 2 144 3 1 hI W→Calls Tryz.prog 47 #[.pointer (some ⟨bk,0,none⟩)] W fun e w'=>e= .returned (.tuple #[])∧Kept (hI.D hI.m) W w'∧ ∀j,j < hI.m→Marked 3 1 mkI hI w' j (hI.n j)):=Lib.hid fun W hW=>by
  have:=fillI_any hI W hW
  rwa [eI] at this
 have CGI:Hid (∀W,BookAt 2 144 3 1 hI W→(∀j,j < hI.m→Marked 3 1 mkI hI W j (hI.n j))→Calls Tryz.prog 62 #[.pointer (some ⟨bk,0,none⟩)] W fun e w'=>e= .returned (.tuple #[])∧GrowAt 2 144 3 1 mkI hI W hI.m w'):=Lib.hid fun W hW hMk=>by
  have:=growI_any hI W hW hMk
  rwa [eI] at this
 have CLI:Hid (∀W,Ready 2 144 3 1 mkI hI W→Calls Tryz.prog 77 #[.pointer (some ⟨bk,0,none⟩)] W fun e w'=>e= .returned (.bool true)∧Kept (fun _=>False) W w'):=Lib.hid fun W hW=>by
  have:=lookI_any hI W hW
  rwa [eI] at this
 have CFS:Hid (∀W,BookAt 11 180 102 5 hS W→Calls Tryz.prog 56 #[.pointer (some ⟨bk,0,none⟩)] W fun e w'=>e= .returned (.tuple #[])∧Kept (hS.D hS.m) W w'∧ ∀j,j < hS.m→Marked 102 5 mkS hS w' j (hS.n j)):=Lib.hid fun W hW=>by
  have:=fillS_any hS W hW
  rwa [eS] at this
 have CGS:Hid (∀W,BookAt 11 180 102 5 hS W→(∀j,j < hS.m→Marked 102 5 mkS hS W j (hS.n j))→Calls Tryz.prog 71 #[.pointer (some ⟨bk,0,none⟩)] W fun e w'=>e= .returned (.tuple #[])∧GrowAt 11 180 102 5 mkS hS W hS.m w'):=Lib.hid fun W hW hMk=>by
  have:=growS_any hS W hW hMk
  rwa [eS] at this
 have CLS:Hid (∀W,Ready 11 180 102 5 mkS hS W→Calls Tryz.prog 86 #[.pointer (some ⟨bk,0,none⟩)] W fun e w'=>e= .returned (.bool true)∧Kept (fun _=>False) W w'):=Lib.hid fun W hW=>by
  have:=lookS_any hS W hW
  rwa [eS] at this
 have CFM:Hid (∀W,BookAt 4 148 82 1 hM W→Calls Tryz.prog 49 #[.pointer (some ⟨bk,0,none⟩)] W fun e w'=>e= .returned (.tuple #[])∧Kept (hM.D hM.m) W w'∧ ∀j,j < hM.m→Marked 82 1 mkM hM w' j (hM.n j)):=Lib.hid fun W hW=>by
  have:=fillM_any hM W hW
  rwa [eM] at this
 have CGM:Hid (∀W,BookAt 4 148 82 1 hM W→(∀j,j < hM.m→Marked 82 1 mkM hM W j (hM.n j))→Calls Tryz.prog 64 #[.pointer (some ⟨bk,0,none⟩)] W fun e w'=>e= .returned (.tuple #[])∧GrowAt 4 148 82 1 mkM hM W hM.m w'):=Lib.hid fun W hW hMk=>by
  have:=growM_any hM W hW hMk
  rwa [eM] at this
 have CLM:Hid (∀W,Ready 4 148 82 1 mkM hM W→Calls Tryz.prog 79 #[.pointer (some ⟨bk,0,none⟩)] W fun e w'=>e= .returned (.bool true)∧Kept (fun _=>False) W w'):=Lib.hid fun W hW=>by
  have:=lookM_any hM W hW
  rwa [eM] at this
 have CFO:Hid (∀W,BookAt 5 146 4 1 hO W→Calls Tryz.prog 50 #[.pointer (some ⟨bk,0,none⟩)] W fun e w'=>e= .returned (.tuple #[])∧Kept (hO.D hO.m) W w'∧ ∀j,j < hO.m→Marked 4 1 mkO hO w' j (hO.n j)):=Lib.hid fun W hW=>by
  have:=fillO_any hO W hW
  rwa [eO] at this
 have CGO:Hid (∀W,BookAt 5 146 4 1 hO W→(∀j,j < hO.m→Marked 4 1 mkO hO W j (hO.n j))→Calls Tryz.prog 65 #[.pointer (some ⟨bk,0,none⟩)] W fun e w'=>e= .returned (.tuple #[])∧GrowAt 5 146 4 1 mkO hO W hO.m w'):=Lib.hid fun W hW hMk=>by
  have:=growO_any hO W hW hMk
  rwa [eO] at this
 have CLO:Hid (∀W,Ready 5 146 4 1 mkO hO W→Calls Tryz.prog 80 #[.pointer (some ⟨bk,0,none⟩)] W fun e w'=>e= .returned (.bool true)∧Kept (fun _=>False) W w'):=Lib.hid fun W hW=>by
  have:=lookO_any hO W hW
  rwa [eO] at this
 have CFL:Hid (∀W,BookAt 6 160 42 1 hL W→Calls Tryz.prog 51 #[.pointer (some ⟨bk,0,none⟩)] W fun e w'=>e= .returned (.tuple #[])∧Kept (hL.D hL.m) W w'∧ ∀j,j < hL.m→Marked 42 1 mkL hL w' j (hL.n j)):=Lib.hid fun W hW=>by
  have:=fillL_any hL W hW
  rwa [eL] at this
 have CGL:Hid (∀W,BookAt 6 160 42 1 hL W→(∀j,j < hL.m→Marked 42 1 mkL hL W j (hL.n j))→Calls Tryz.prog 66 #[.pointer (some ⟨bk,0,none⟩)] W fun e w'=>e= .returned (.tuple #[])∧GrowAt 6 160 42 1 mkL hL W hL.m w'):=Lib.hid fun W hW hMk=>by
  have:=growL_any hL W hW hMk
  rwa [eL] at this
 have CLL:Hid (∀W,Ready 6 160 42 1 mkL hL W→Calls Tryz.prog 81 #[.pointer (some ⟨bk,0,none⟩)] W fun e w'=>e= .returned (.bool true)∧Kept (fun _=>False) W w'):=Lib.hid fun W hW=>by
  have:=lookL_any hL W hW
  rwa [eL] at this
 have B:=Lib.hid hbk
 have NI:=Lib.hid hBI
 have NS:=Lib.hid hBS
 have NM:=Lib.hid hBM
 have NO:=Lib.hid hBO
 have NL:=Lib.hid hBL
 have T:Hid (Kept (fun b=>(b=hI.hb∨hI.D hI.m b)∨(b=hS.hb∨hS.D hS.m b)∨(b=hM.hb∨hM.D hM.m b)∨(b=hO.hb∨hO.D hO.m b)∨(b=hL.hb∨hL.D hL.m b)) w w):=Lib.hid (Kept.refl _ _)
 clear hbk hBI eI hBS eS hBM eM hBO eO hBL eL
 go_enter Tryz.func21,Tryz.ntmps21
 go_wp2_with fail
 refine(fillByte_none bk _ (by rw[cell_blk B.out];rfl)).mono ?_
 rintro e w' ⟨rfl,rfl⟩
 go_wp2_with fail
 refine(CFI.out _ NI.out).mono ?_
 rintro e w1 ⟨rfl,kk,mm⟩
 have tt:=NI.out.typedD
 replace B:=Lib.hid ((kk.block bk (lt_blk B.out) (tt.no B.out (by decide))).trans B.out)
 replace NI:=Lib.hid (NI.out.stay kk (NI.out.nbk (by decide)) (NI.out.nhb (by decide)) fun i hi hn=>by
  obtain⟨cur,e1,e2,_⟩:=mm i hi hn
  exact⟨cur,e1,e2⟩)
 have MI:=Lib.hid mm
 replace NS:=Lib.hid (NS.out.far kk tt (by decide) (by decide) (by decide))
 replace NM:=Lib.hid (NM.out.far kk tt (by decide) (by decide) (by decide))
 replace NO:=Lib.hid (NO.out.far kk tt (by decide) (by decide) (by decide))
 replace NL:=Lib.hid (NL.out.far kk tt (by decide) (by decide) (by decide))
 replace T:=Lib.hid (T.out.trans (kk.mono (D':=fun b=>(b=hI.hb∨hI.D hI.m b)∨(b=hS.hb∨hS.D hS.m b)∨(b=hM.hb∨hM.D hM.m b)∨(b=hO.hb∨hO.D hO.m b)∨(b=hL.hb∨hL.D hL.m b)) fun b h=> .inl (.inr h)))
 clear kk mm tt
 go_wp2_with fail
 refine(fillText_none bk _ (by rw[cell_blk B.out];rfl)).mono ?_
 rintro e w' ⟨rfl,rfl⟩
 go_wp2_with fail
 refine(CFM.out _ NM.out).mono ?_
 rintro e w2 ⟨rfl,kk,mm⟩
 have tt:=NM.out.typedD
 replace B:=Lib.hid ((kk.block bk (lt_blk B.out) (tt.no B.out (by decide))).trans B.out)
 replace NM:=Lib.hid (NM.out.stay kk (NM.out.nbk (by decide)) (NM.out.nhb (by decide)) fun i hi hn=>by
  obtain⟨cur,e1,e2,_⟩:=mm i hi hn
  exact⟨cur,e1,e2⟩)
 have MM:=Lib.hid mm
 replace NI:=Lib.hid (NI.out.far kk tt (by decide) (by decide) (by decide))
 replace MI:Hid (∀j,j < hI.m→Marked 3 1 mkI hI w2 j (hI.n j)):=Lib.hid fun j hj=>(MI.out j hj).far kk tt (by decide)
 replace NS:=Lib.hid (NS.out.far kk tt (by decide) (by decide) (by decide))
 replace NO:=Lib.hid (NO.out.far kk tt (by decide) (by decide) (by decide))
 replace NL:=Lib.hid (NL.out.far kk tt (by decide) (by decide) (by decide))
 replace T:=Lib.hid (T.out.trans (kk.mono (D':=fun b=>(b=hI.hb∨hI.D hI.m b)∨(b=hS.hb∨hS.D hS.m b)∨(b=hM.hb∨hM.D hM.m b)∨(b=hO.hb∨hO.D hO.m b)∨(b=hL.hb∨hL.D hL.m b)) fun b h=> .inr (.inr (.inl (.inr h)))))
 clear kk mm tt
 go_wp2_with fail
 refine(CFO.out _ NO.out).mono ?_
 rintro e w3 ⟨rfl,kk,mm⟩
 have tt:=NO.out.typedD
 replace B:=Lib.hid ((kk.block bk (lt_blk B.out) (tt.no B.out (by decide))).trans B.out)
 replace NO:=Lib.hid (NO.out.stay kk (NO.out.nbk (by decide)) (NO.out.nhb (by decide)) fun i hi hn=>by
  obtain⟨cur,e1,e2,_⟩:=mm i hi hn
  exact⟨cur,e1,e2⟩)
 have MO:=Lib.hid mm
 replace NI:=Lib.hid (NI.out.far kk tt (by decide) (by decide) (by decide))
 replace MI:Hid (∀j,j < hI.m→Marked 3 1 mkI hI w3 j (hI.n j)):=Lib.hid fun j hj=>(MI.out j hj).far kk tt (by decide)
 replace NS:=Lib.hid (NS.out.far kk tt (by decide) (by decide) (by decide))
 replace NM:=Lib.hid (NM.out.far kk tt (by decide) (by decide) (by decide))
 replace MM:Hid (∀j,j < hM.m→Marked 82 1 mkM hM w3 j (hM.n j)):=Lib.hid fun j hj=>(MM.out j hj).far kk tt (by decide)
 replace NL:=Lib.hid (NL.out.far kk tt (by decide) (by decide) (by decide))
 replace T:=Lib.hid (T.out.trans (kk.mono (D':=fun b=>(b=hI.hb∨hI.D hI.m b)∨(b=hS.hb∨hS.D hS.m b)∨(b=hM.hb∨hM.D hM.m b)∨(b=hO.hb∨hO.D hO.m b)∨(b=hL.hb∨hL.D hL.m b)) fun b h=> .inr (.inr (.inr (.inl (.inr h))))))
 clear kk mm tt
 go_wp2_with fail
 refine(CFL.out _ NL.out).mono ?_
 rintro e w4 ⟨rfl,kk,mm⟩
 have tt:=NL.out.typedD
 replace B:=Lib.hid ((kk.block bk (lt_blk B.out) (tt.no B.out (by decide))).trans B.out)
 replace NL:=Lib.hid (NL.out.stay kk (NL.out.nbk (by decide)) (NL.out.nhb (by decide)) fun i hi hn=>by
  obtain⟨cur,e1,e2,_⟩:=mm i hi hn
  exact⟨cur,e1,e2⟩)
 have ML:=Lib.hid mm
 replace NI:=Lib.hid (NI.out.far kk tt (by decide) (by decide) (by decide))
 replace MI:Hid (∀j,j < hI.m→Marked 3 1 mkI hI w4 j (hI.n j)):=Lib.hid fun j hj=>(MI.out j hj).far kk tt (by decide)
 replace NS:=Lib.hid (NS.out.far kk tt (by decide) (by decide) (by decide))
 replace NM:=Lib.hid (NM.out.far kk tt (by decide) (by decide) (by decide))
 replace MM:Hid (∀j,j < hM.m→Marked 82 1 mkM hM w4 j (hM.n j)):=Lib.hid fun j hj=>(MM.out j hj).far kk tt (by decide)
 replace NO:=Lib.hid (NO.out.far kk tt (by decide) (by decide) (by decide))
 replace MO:Hid (∀j,j < hO.m→Marked 4 1 mkO hO w4 j (hO.n j)):=Lib.hid fun j hj=>(MO.out j hj).far kk tt (by decide)
 replace T:=Lib.hid (T.out.trans (kk.mono (D':=fun b=>(b=hI.hb∨hI.D hI.m b)∨(b=hS.hb∨hS.D hS.m b)∨(b=hM.hb∨hM.D hM.m b)∨(b=hO.hb∨hO.D hO.m b)∨(b=hL.hb∨hL.D hL.m b)) fun b h=> .inr (.inr (.inr (.inr (.inr h))))))
 clear kk mm tt
 go_wp2_with fail
 refine(fillPair_none bk _ (by rw[cell_blk B.out];rfl)).mono ?_
 rintro e w' ⟨rfl,rfl⟩
 go_wp2_with fail
 refine(fillNode_none bk _ (by rw[cell_blk B.out];rfl)).mono ?_
 rintro e w' ⟨rfl,rfl⟩
 go_wp2_with fail
 refine(fillBound_none bk _ (by rw[cell_blk B.out];rfl)).mono ?_
 rintro e w' ⟨rfl,rfl⟩
 go_wp2_with fail
 refine(fillTerm_none bk _ (by rw[cell_blk B.out];rfl)).mono ?_
 rintro e w' ⟨rfl,rfl⟩
 go_wp2_with fail
 refine(CFS.out _ NS.out).mono ?_
 rintro e w5 ⟨rfl,kk,mm⟩
 have tt:=NS.out.typedD
 replace B:=Lib.hid ((kk.block bk (lt_blk B.out) (tt.no B.out (by decide))).trans B.out)
 replace NS:=Lib.hid (NS.out.stay kk (NS.out.nbk (by decide)) (NS.out.nhb (by decide)) fun i hi hn=>by
  obtain⟨cur,e1,e2,_⟩:=mm i hi hn
  exact⟨cur,e1,e2⟩)
 have MS:=Lib.hid mm
 replace NI:=Lib.hid (NI.out.far kk tt (by decide) (by decide) (by decide))
 replace MI:Hid (∀j,j < hI.m→Marked 3 1 mkI hI w5 j (hI.n j)):=Lib.hid fun j hj=>(MI.out j hj).far kk tt (by decide)
 replace NM:=Lib.hid (NM.out.far kk tt (by decide) (by decide) (by decide))
 replace MM:Hid (∀j,j < hM.m→Marked 82 1 mkM hM w5 j (hM.n j)):=Lib.hid fun j hj=>(MM.out j hj).far kk tt (by decide)
 replace NO:=Lib.hid (NO.out.far kk tt (by decide) (by decide) (by decide))
 replace MO:Hid (∀j,j < hO.m→Marked 4 1 mkO hO w5 j (hO.n j)):=Lib.hid fun j hj=>(MO.out j hj).far kk tt (by decide)
 replace NL:=Lib.hid (NL.out.far kk tt (by decide) (by decide) (by decide))
 replace ML:Hid (∀j,j < hL.m→Marked 42 1 mkL hL w5 j (hL.n j)):=Lib.hid fun j hj=>(ML.out j hj).far kk tt (by decide)
 replace T:=Lib.hid (T.out.trans (kk.mono (D':=fun b=>(b=hI.hb∨hI.D hI.m b)∨(b=hS.hb∨hS.D hS.m b)∨(b=hM.hb∨hM.D hM.m b)∨(b=hO.hb∨hO.D hO.m b)∨(b=hL.hb∨hL.D hL.m b)) fun b h=> .inr (.inl (.inr h))))
 clear kk mm tt
 go_wp2_with fail
 refine(fillImport_none bk _ (by rw[cell_blk B.out];rfl)).mono ?_
 rintro e w' ⟨rfl,rfl⟩
 go_wp2_with fail
 refine(fillEntry_none bk _ (by rw[cell_blk B.out];rfl)).mono ?_
 rintro e w' ⟨rfl,rfl⟩
 go_wp2_with fail
 refine(fillItem_none bk _ (by rw[cell_blk B.out];rfl)).mono ?_
 rintro e w' ⟨rfl,rfl⟩
 go_wp2_with fail
 refine(fillWord_none bk _ (by rw[cell_blk B.out];rfl)).mono ?_
 rintro e w' ⟨rfl,rfl⟩
 go_wp2_with fail
 refine(growByte_none bk _ (by rw[cell_blk B.out];rfl)).mono ?_
 rintro e w' ⟨rfl,rfl⟩
 go_wp2_with fail
 refine(CGI.out _ NI.out MI.out).mono ?_
 rintro e w6 ⟨rfl,gg⟩
 have tt:=NI.out.typedG
 replace B:=Lib.hid ((gg.kept.block bk (lt_blk B.out) (tt.no B.out (by decide))).trans B.out)
 have RI:Hid (Ready 2 144 3 1 mkI hI w6):=Lib.hid ⟨gg.book,gg.marks,gg.longs⟩
 replace NS:=Lib.hid (NS.out.far gg.kept tt (by decide) (by decide) (by decide))
 replace MS:Hid (∀j,j < hS.m→Marked 102 5 mkS hS w6 j (hS.n j)):=Lib.hid fun j hj=>(MS.out j hj).far gg.kept tt (by decide)
 replace NM:=Lib.hid (NM.out.far gg.kept tt (by decide) (by decide) (by decide))
 replace MM:Hid (∀j,j < hM.m→Marked 82 1 mkM hM w6 j (hM.n j)):=Lib.hid fun j hj=>(MM.out j hj).far gg.kept tt (by decide)
 replace NO:=Lib.hid (NO.out.far gg.kept tt (by decide) (by decide) (by decide))
 replace MO:Hid (∀j,j < hO.m→Marked 4 1 mkO hO w6 j (hO.n j)):=Lib.hid fun j hj=>(MO.out j hj).far gg.kept tt (by decide)
 replace NL:=Lib.hid (NL.out.far gg.kept tt (by decide) (by decide) (by decide))
 replace ML:Hid (∀j,j < hL.m→Marked 42 1 mkL hL w6 j (hL.n j)):=Lib.hid fun j hj=>(ML.out j hj).far gg.kept tt (by decide)
 replace T:=Lib.hid (T.out.trans (gg.kept.mono (D':=fun b=>(b=hI.hb∨hI.D hI.m b)∨(b=hS.hb∨hS.D hS.m b)∨(b=hM.hb∨hM.D hM.m b)∨(b=hO.hb∨hO.D hO.m b)∨(b=hL.hb∨hL.D hL.m b)) fun b h=> .inl (h)))
 clear gg tt NI MI
 go_wp2_with fail
 refine(growText_none bk _ (by rw[cell_blk B.out];rfl)).mono ?_
 rintro e w' ⟨rfl,rfl⟩
 go_wp2_with fail
 refine(CGM.out _ NM.out MM.out).mono ?_
 rintro e w7 ⟨rfl,gg⟩
 have tt:=NM.out.typedG
 replace B:=Lib.hid ((gg.kept.block bk (lt_blk B.out) (tt.no B.out (by decide))).trans B.out)
 have RM:Hid (Ready 4 148 82 1 mkM hM w7):=Lib.hid ⟨gg.book,gg.marks,gg.longs⟩
 replace RI:=Lib.hid (RI.out.far gg.kept tt (by decide) (by decide) (by decide))
 replace NS:=Lib.hid (NS.out.far gg.kept tt (by decide) (by decide) (by decide))
 replace MS:Hid (∀j,j < hS.m→Marked 102 5 mkS hS w7 j (hS.n j)):=Lib.hid fun j hj=>(MS.out j hj).far gg.kept tt (by decide)
 replace NO:=Lib.hid (NO.out.far gg.kept tt (by decide) (by decide) (by decide))
 replace MO:Hid (∀j,j < hO.m→Marked 4 1 mkO hO w7 j (hO.n j)):=Lib.hid fun j hj=>(MO.out j hj).far gg.kept tt (by decide)
 replace NL:=Lib.hid (NL.out.far gg.kept tt (by decide) (by decide) (by decide))
 replace ML:Hid (∀j,j < hL.m→Marked 42 1 mkL hL w7 j (hL.n j)):=Lib.hid fun j hj=>(ML.out j hj).far gg.kept tt (by decide)
 replace T:=Lib.hid (T.out.trans (gg.kept.mono (D':=fun b=>(b=hI.hb∨hI.D hI.m b)∨(b=hS.hb∨hS.D hS.m b)∨(b=hM.hb∨hM.D hM.m b)∨(b=hO.hb∨hO.D hO.m b)∨(b=hL.hb∨hL.D hL.m b)) fun b h=> .inr (.inr (.inl (h)))))
 clear gg tt NM MM
 go_wp2_with fail
 refine(CGO.out _ NO.out MO.out).mono ?_
 rintro e w8 ⟨rfl,gg⟩
 have tt:=NO.out.typedG
 replace B:=Lib.hid ((gg.kept.block bk (lt_blk B.out) (tt.no B.out (by decide))).trans B.out)
 have RO:Hid (Ready 5 146 4 1 mkO hO w8):=Lib.hid ⟨gg.book,gg.marks,gg.longs⟩
 replace RI:=Lib.hid (RI.out.far gg.kept tt (by decide) (by decide) (by decide))
 replace NS:=Lib.hid (NS.out.far gg.kept tt (by decide) (by decide) (by decide))
 replace MS:Hid (∀j,j < hS.m→Marked 102 5 mkS hS w8 j (hS.n j)):=Lib.hid fun j hj=>(MS.out j hj).far gg.kept tt (by decide)
 replace RM:=Lib.hid (RM.out.far gg.kept tt (by decide) (by decide) (by decide))
 replace NL:=Lib.hid (NL.out.far gg.kept tt (by decide) (by decide) (by decide))
 replace ML:Hid (∀j,j < hL.m→Marked 42 1 mkL hL w8 j (hL.n j)):=Lib.hid fun j hj=>(ML.out j hj).far gg.kept tt (by decide)
 replace T:=Lib.hid (T.out.trans (gg.kept.mono (D':=fun b=>(b=hI.hb∨hI.D hI.m b)∨(b=hS.hb∨hS.D hS.m b)∨(b=hM.hb∨hM.D hM.m b)∨(b=hO.hb∨hO.D hO.m b)∨(b=hL.hb∨hL.D hL.m b)) fun b h=> .inr (.inr (.inr (.inl (h))))))
 clear gg tt NO MO
 go_wp2_with fail
 refine(CGL.out _ NL.out ML.out).mono ?_
 rintro e w9 ⟨rfl,gg⟩
 have tt:=NL.out.typedG
 replace B:=Lib.hid ((gg.kept.block bk (lt_blk B.out) (tt.no B.out (by decide))).trans B.out)
 have RL:Hid (Ready 6 160 42 1 mkL hL w9):=Lib.hid ⟨gg.book,gg.marks,gg.longs⟩
 replace RI:=Lib.hid (RI.out.far gg.kept tt (by decide) (by decide) (by decide))
 replace NS:=Lib.hid (NS.out.far gg.kept tt (by decide) (by decide) (by decide))
 replace MS:Hid (∀j,j < hS.m→Marked 102 5 mkS hS w9 j (hS.n j)):=Lib.hid fun j hj=>(MS.out j hj).far gg.kept tt (by decide)
 replace RM:=Lib.hid (RM.out.far gg.kept tt (by decide) (by decide) (by decide))
 replace RO:=Lib.hid (RO.out.far gg.kept tt (by decide) (by decide) (by decide))
 replace T:=Lib.hid (T.out.trans (gg.kept.mono (D':=fun b=>(b=hI.hb∨hI.D hI.m b)∨(b=hS.hb∨hS.D hS.m b)∨(b=hM.hb∨hM.D hM.m b)∨(b=hO.hb∨hO.D hO.m b)∨(b=hL.hb∨hL.D hL.m b)) fun b h=> .inr (.inr (.inr (.inr (h))))))
 clear gg tt NL ML
 go_wp2_with fail
 refine(growPair_none bk _ (by rw[cell_blk B.out];rfl)).mono ?_
 rintro e w' ⟨rfl,rfl⟩
 go_wp2_with fail
 refine(growNode_none bk _ (by rw[cell_blk B.out];rfl)).mono ?_
 rintro e w' ⟨rfl,rfl⟩
 go_wp2_with fail
 refine(growBound_none bk _ (by rw[cell_blk B.out];rfl)).mono ?_
 rintro e w' ⟨rfl,rfl⟩
 go_wp2_with fail
 refine(growTerm_none bk _ (by rw[cell_blk B.out];rfl)).mono ?_
 rintro e w' ⟨rfl,rfl⟩
 go_wp2_with fail
 refine(CGS.out _ NS.out MS.out).mono ?_
 rintro e w10 ⟨rfl,gg⟩
 have tt:=NS.out.typedG
 replace B:=Lib.hid ((gg.kept.block bk (lt_blk B.out) (tt.no B.out (by decide))).trans B.out)
 have RS:Hid (Ready 11 180 102 5 mkS hS w10):=Lib.hid ⟨gg.book,gg.marks,gg.longs⟩
 replace RI:=Lib.hid (RI.out.far gg.kept tt (by decide) (by decide) (by decide))
 replace RM:=Lib.hid (RM.out.far gg.kept tt (by decide) (by decide) (by decide))
 replace RO:=Lib.hid (RO.out.far gg.kept tt (by decide) (by decide) (by decide))
 replace RL:=Lib.hid (RL.out.far gg.kept tt (by decide) (by decide) (by decide))
 replace T:=Lib.hid (T.out.trans (gg.kept.mono (D':=fun b=>(b=hI.hb∨hI.D hI.m b)∨(b=hS.hb∨hS.D hS.m b)∨(b=hM.hb∨hM.D hM.m b)∨(b=hO.hb∨hO.D hO.m b)∨(b=hL.hb∨hL.D hL.m b)) fun b h=> .inr (.inl (h))))
 clear gg tt NS MS
 go_wp2_with fail
 refine(growImport_none bk _ (by rw[cell_blk B.out];rfl)).mono ?_
 rintro e w' ⟨rfl,rfl⟩
 go_wp2_with fail
 refine(growEntry_none bk _ (by rw[cell_blk B.out];rfl)).mono ?_
 rintro e w' ⟨rfl,rfl⟩
 go_wp2_with fail
 refine(growItem_none bk _ (by rw[cell_blk B.out];rfl)).mono ?_
 rintro e w' ⟨rfl,rfl⟩
 go_wp2_with fail
 refine(growWord_none bk _ (by rw[cell_blk B.out];rfl)).mono ?_
 rintro e w' ⟨rfl,rfl⟩
 go_wp2_with fail
 refine(lookByte_none bk _ (by rw[cell_blk B.out];rfl)).mono ?_
 rintro e w' ⟨rfl,rfl⟩
 go_wp2_with fail
 refine(CLI.out _ RI.out).mono ?_
 rintro e w11 ⟨rfl,kk⟩
 replace B:=Lib.hid ((kk.block bk (lt_blk B.out) (fun h=>h)).trans B.out)
 replace RM:=Lib.hid (RM.out.far kk (typed_no _ []) (by decide) (by decide) (by decide))
 replace RO:=Lib.hid (RO.out.far kk (typed_no _ []) (by decide) (by decide) (by decide))
 replace RL:=Lib.hid (RL.out.far kk (typed_no _ []) (by decide) (by decide) (by decide))
 replace RS:=Lib.hid (RS.out.far kk (typed_no _ []) (by decide) (by decide) (by decide))
 replace T:=Lib.hid (T.out.trans (kk.mono (D':=fun b=>(b=hI.hb∨hI.D hI.m b)∨(b=hS.hb∨hS.D hS.m b)∨(b=hM.hb∨hM.D hM.m b)∨(b=hO.hb∨hO.D hO.m b)∨(b=hL.hb∨hL.D hL.m b)) fun b h=>h.elim))
 clear kk RI
 go_wp2_with fail
 refine(lookText_none bk _ (by rw[cell_blk B.out];rfl)).mono ?_
 rintro e w' ⟨rfl,rfl⟩
 go_wp2_with fail
 refine(CLM.out _ RM.out).mono ?_
 rintro e w12 ⟨rfl,kk⟩
 replace B:=Lib.hid ((kk.block bk (lt_blk B.out) (fun h=>h)).trans B.out)
 replace RO:=Lib.hid (RO.out.far kk (typed_no _ []) (by decide) (by decide) (by decide))
 replace RL:=Lib.hid (RL.out.far kk (typed_no _ []) (by decide) (by decide) (by decide))
 replace RS:=Lib.hid (RS.out.far kk (typed_no _ []) (by decide) (by decide) (by decide))
 replace T:=Lib.hid (T.out.trans (kk.mono (D':=fun b=>(b=hI.hb∨hI.D hI.m b)∨(b=hS.hb∨hS.D hS.m b)∨(b=hM.hb∨hM.D hM.m b)∨(b=hO.hb∨hO.D hO.m b)∨(b=hL.hb∨hL.D hL.m b)) fun b h=>h.elim))
 clear kk RM
 go_wp2_with fail
 refine(CLO.out _ RO.out).mono ?_
 rintro e w13 ⟨rfl,kk⟩
 replace B:=Lib.hid ((kk.block bk (lt_blk B.out) (fun h=>h)).trans B.out)
 replace RL:=Lib.hid (RL.out.far kk (typed_no _ []) (by decide) (by decide) (by decide))
 replace RS:=Lib.hid (RS.out.far kk (typed_no _ []) (by decide) (by decide) (by decide))
 replace T:=Lib.hid (T.out.trans (kk.mono (D':=fun b=>(b=hI.hb∨hI.D hI.m b)∨(b=hS.hb∨hS.D hS.m b)∨(b=hM.hb∨hM.D hM.m b)∨(b=hO.hb∨hO.D hO.m b)∨(b=hL.hb∨hL.D hL.m b)) fun b h=>h.elim))
 clear kk RO
 go_wp2_with fail
 refine(CLL.out _ RL.out).mono ?_
 rintro e w14 ⟨rfl,kk⟩
 replace B:=Lib.hid ((kk.block bk (lt_blk B.out) (fun h=>h)).trans B.out)
 replace RS:=Lib.hid (RS.out.far kk (typed_no _ []) (by decide) (by decide) (by decide))
 replace T:=Lib.hid (T.out.trans (kk.mono (D':=fun b=>(b=hI.hb∨hI.D hI.m b)∨(b=hS.hb∨hS.D hS.m b)∨(b=hM.hb∨hM.D hM.m b)∨(b=hO.hb∨hO.D hO.m b)∨(b=hL.hb∨hL.D hL.m b)) fun b h=>h.elim))
 clear kk RL
 go_wp2_with fail
 refine(lookPair_none bk _ (by rw[cell_blk B.out];rfl)).mono ?_
 rintro e w' ⟨rfl,rfl⟩
 go_wp2_with fail
 refine(lookNode_none bk _ (by rw[cell_blk B.out];rfl)).mono ?_
 rintro e w' ⟨rfl,rfl⟩
 go_wp2_with fail
 refine(lookBound_none bk _ (by rw[cell_blk B.out];rfl)).mono ?_
 rintro e w' ⟨rfl,rfl⟩
 go_wp2_with fail
 refine(lookTerm_none bk _ (by rw[cell_blk B.out];rfl)).mono ?_
 rintro e w' ⟨rfl,rfl⟩
 go_wp2_with fail
 refine(CLS.out _ RS.out).mono ?_
 rintro e w15 ⟨rfl,kk⟩
 replace B:=Lib.hid ((kk.block bk (lt_blk B.out) (fun h=>h)).trans B.out)
 replace T:=Lib.hid (T.out.trans (kk.mono (D':=fun b=>(b=hI.hb∨hI.D hI.m b)∨(b=hS.hb∨hS.D hS.m b)∨(b=hM.hb∨hM.D hM.m b)∨(b=hO.hb∨hO.D hO.m b)∨(b=hL.hb∨hL.D hL.m b)) fun b h=>h.elim))
 clear kk RS
 go_wp2_with fail
 refine(lookImport_none bk _ (by rw[cell_blk B.out];rfl)).mono ?_
 rintro e w' ⟨rfl,rfl⟩
 go_wp2_with fail
 refine(lookEntry_none bk _ (by rw[cell_blk B.out];rfl)).mono ?_
 rintro e w' ⟨rfl,rfl⟩
 go_wp2_with fail
 refine(lookItem_none bk _ (by rw[cell_blk B.out];rfl)).mono ?_
 rintro e w' ⟨rfl,rfl⟩
 go_wp2_with fail
 refine(lookWord_none bk _ (by rw[cell_blk B.out];rfl)).mono ?_
 rintro e w' ⟨rfl,rfl⟩
 go_wp2_with fail
 go_ret
 exact⟨rfl,T.out⟩
end Go.Proofs.YtphklakjadchmaaGreatDoor
