import Derived.Test.YtfmpecnkkbpdlaaGreatDoorGB
import Derived.Test.YtfmpecnkkbpdlaaGreatDoorGL
import Derived.Test.YtfmpecnkkbpdlaaGreatDoorGM
import Derived.Test.YtfmpecnkkbpdlaaGreatDoorGN
import Derived.Test.YtfmpecnkkbpdlaaGreatDoorGO
import Derived.Test.YtfmpecnkkbpdlaaGreatDoorGS
import Derived.Test.YtfmpecnkkbpdlaaGreatDoorKeep
import Derived.Test.YtfmpecnkkbpdlaaGreatDoorNone
set_option maxRecDepth 100000
set_option maxHeartbeats 8000000
namespace Go.Proofs.YtfmpecnkkbpdlaaGreatDoor
open Go.RowKit
theorem ZfB (hN hB hS hM hL:Held)(hO:Seg)(bk:Nat)(k:Int)(vN vB vS vM vO vL:Value)(w:World)(hBN:Zp 8 191 77 10 hN w)(eN:hN.bk=bk)(hBB:Zp 9 194 133 4 hB w)(eB:hB.bk=bk)(hBS:Zp 11 201 119 5 hS w)(eS:hS.bk=bk)(hBM:Zp 4 177 72 1 hM w)(eM:hM.bk=bk)(hBO:ZP hO w)(eO:hO.bk=bk)(hBL:Zp 6 183 78 1 hL w)(eL:hL.bk=bk)(hbk:w.heap[bk]?=some (.cells (Zz k vN vB vS vM vO vL) 64 (0,0))):
  Calls Tryz.prog 15 #[.pointer (some ⟨bk,0,none⟩)] w fun e w'=>e= .returned (.bool true)∧Kept (fun b=>(b=hN.hb∨hN.D hN.m b)∨(b=hB.hb∨hB.D hB.m b)∨(b=hS.hb∨hS.D hS.m b)∨(b=hM.hb∨hM.D hM.m b)∨((b=hO.hb∧0 < hO.m)∨hO.D hO.m b)∨(b=hL.hb∨hL.D hL.m b)) w w':=by
 have CFN:Hid (∀W,Zp 8 191 77 10 hN W→Calls Tryz.prog 51 #[.pointer (some ⟨bk,0,none⟩)] W fun e w'=>e= .returned (.tuple #[])∧Kept (hN.D hN.m) W w'∧ ∀j,j < hN.m→Marked 77 10 mkN hN w' j (hN.n j)):=Hd fun W hW=>by
  have:=Zf1 hN W hW
  rwa [eN] at this
 have CGN:Hid (∀W,Zp 8 191 77 10 hN W→(∀j,j < hN.m→Marked 77 10 mkN hN W j (hN.n j))→Calls Tryz.prog 66 #[.pointer (some ⟨bk,0,none⟩)] W fun e w'=>e= .returned (.tuple #[])∧GrowAt 8 191 77 10 mkN hN W hN.m w'):=Hd fun W hW hMk=>by
  have:=Zf2 hN W hW hMk
  rwa [eN] at this
 have CLN:Hid (∀W,Ready 8 191 77 10 mkN hN W→Calls Tryz.prog 81 #[.pointer (some ⟨bk,0,none⟩)] W fun e w'=>e= .returned (.bool true)∧Kept (fun _=>False) W w'):=Hd fun W hW=>by
  have:=Zf3 hN W hW
  rwa [eN] at this
 have CFB:Hid (∀W,Zp 9 194 133 4 hB W→Calls Tryz.prog 52 #[.pointer (some ⟨bk,0,none⟩)] W fun e w'=>e= .returned (.tuple #[])∧Kept (hB.D hB.m) W w'∧ ∀j,j < hB.m→Marked 133 4 mkB hB w' j (hB.n j)):=Hd fun W hW=>by
  have:=Ze5 hB W hW
  rwa [eB] at this
 have CGB:Hid (∀W,Zp 9 194 133 4 hB W→(∀j,j < hB.m→Marked 133 4 mkB hB W j (hB.n j))→Calls Tryz.prog 67 #[.pointer (some ⟨bk,0,none⟩)] W fun e w'=>e= .returned (.tuple #[])∧GrowAt 9 194 133 4 mkB hB W hB.m w'):=Hd fun W hW hMk=>by
  have:=Ze6 hB W hW hMk
  rwa [eB] at this
 have CLB:Hid (∀W,Ready 9 194 133 4 mkB hB W→Calls Tryz.prog 82 #[.pointer (some ⟨bk,0,none⟩)] W fun e w'=>e= .returned (.bool true)∧Kept (fun _=>False) W w'):=Hd fun W hW=>by
  have:=Ze7 hB W hW
  rwa [eB] at this
 have CFS:Hid (∀W,Zp 11 201 119 5 hS W→Calls Tryz.prog 54 #[.pointer (some ⟨bk,0,none⟩)] W fun e w'=>e= .returned (.tuple #[])∧Kept (hS.D hS.m) W w'∧ ∀j,j < hS.m→Marked 119 5 mkS hS w' j (hS.n j)):=Hd fun W hW=>by
  have:=Zgl hS W hW
  rwa [eS] at this
 have CGS:Hid (∀W,Zp 11 201 119 5 hS W→(∀j,j < hS.m→Marked 119 5 mkS hS W j (hS.n j))→Calls Tryz.prog 69 #[.pointer (some ⟨bk,0,none⟩)] W fun e w'=>e= .returned (.tuple #[])∧GrowAt 11 201 119 5 mkS hS W hS.m w'):=Hd fun W hW hMk=>by
  have:=Zgm hS W hW hMk
  rwa [eS] at this
 have CLS:Hid (∀W,Ready 11 201 119 5 mkS hS W→Calls Tryz.prog 84 #[.pointer (some ⟨bk,0,none⟩)] W fun e w'=>e= .returned (.bool true)∧Kept (fun _=>False) W w'):=Hd fun W hW=>by
  have:=Zgn hS W hW
  rwa [eS] at this
 have CFM:Hid (∀W,Zp 4 177 72 1 hM W→Calls Tryz.prog 47 #[.pointer (some ⟨bk,0,none⟩)] W fun e w'=>e= .returned (.tuple #[])∧Kept (hM.D hM.m) W w'∧ ∀j,j < hM.m→Marked 72 1 mkM hM w' j (hM.n j)):=Hd fun W hW=>by
  have:=ZgA hM W hW
  rwa [eM] at this
 have CGM:Hid (∀W,Zp 4 177 72 1 hM W→(∀j,j < hM.m→Marked 72 1 mkM hM W j (hM.n j))→Calls Tryz.prog 62 #[.pointer (some ⟨bk,0,none⟩)] W fun e w'=>e= .returned (.tuple #[])∧GrowAt 4 177 72 1 mkM hM W hM.m w'):=Hd fun W hW hMk=>by
  have:=ZgB hM W hW hMk
  rwa [eM] at this
 have CLM:Hid (∀W,Ready 4 177 72 1 mkM hM W→Calls Tryz.prog 77 #[.pointer (some ⟨bk,0,none⟩)] W fun e w'=>e= .returned (.bool true)∧Kept (fun _=>False) W w'):=Hd fun W hW=>by
  have:=ZgC hM W hW
  rwa [eM] at this
 have CFO:Hid (∀W,ZP hO W→Calls Tryz.prog 48 #[.pointer (some ⟨bk,0,none⟩)] W fun e w'=>e= .returned (.tuple #[])∧Kept (hO.D hO.m) W w'∧hO.Blks w'∧ ∀j,j < hO.m→Vm hO w' j (hO.n j)):=Hd fun W hW=>by
  have:=Zer hO W hW
  rwa [eO] at this
 have CGO:Hid (∀W,ZP hO W→(∀j,j < hO.m→Vm hO W j (hO.n j))→Calls Tryz.prog 63 #[.pointer (some ⟨bk,0,none⟩)] W fun e w'=>e= .returned (.tuple #[])∧KO hO W hO.m w'):=Hd fun W hW hMk=>by
  have:=Zeu hO W hW hMk
  rwa [eO] at this
 have CLO:Hid (∀W,QW hO W→Calls Tryz.prog 78 #[.pointer (some ⟨bk,0,none⟩)] W fun e w'=>e= .returned (.bool true)∧Kept (fun _=>False) W w'):=Hd fun W hW=>by
  have:=Zev hO W hW
  rwa [eO] at this
 have CFL:Hid (∀W,Zp 6 183 78 1 hL W→Calls Tryz.prog 49 #[.pointer (some ⟨bk,0,none⟩)] W fun e w'=>e= .returned (.tuple #[])∧Kept (hL.D hL.m) W w'∧ ∀j,j < hL.m→Marked 78 1 mkL hL w' j (hL.n j)):=Hd fun W hW=>by
  have:=Zfx hL W hW
  rwa [eL] at this
 have CGL:Hid (∀W,Zp 6 183 78 1 hL W→(∀j,j < hL.m→Marked 78 1 mkL hL W j (hL.n j))→Calls Tryz.prog 64 #[.pointer (some ⟨bk,0,none⟩)] W fun e w'=>e= .returned (.tuple #[])∧GrowAt 6 183 78 1 mkL hL W hL.m w'):=Hd fun W hW hMk=>by
  have:=Zfy hL W hW hMk
  rwa [eL] at this
 have CLL:Hid (∀W,Ready 6 183 78 1 mkL hL W→Calls Tryz.prog 79 #[.pointer (some ⟨bk,0,none⟩)] W fun e w'=>e= .returned (.bool true)∧Kept (fun _=>False) W w'):=Hd fun W hW=>by
  have:=Zfz hL W hW
  rwa [eL] at this
 have B:=Hd hbk
 have NN:=Hd hBN
 have NB:=Hd hBB
 have NS:=Hd hBS
 have NM:=Hd hBM
 have NO:=Hd hBO
 have NL:=Hd hBL
 have T:Hid (Kept (fun b=>(b=hN.hb∨hN.D hN.m b)∨(b=hB.hb∨hB.D hB.m b)∨(b=hS.hb∨hS.D hS.m b)∨(b=hM.hb∨hM.D hM.m b)∨((b=hO.hb∧0 < hO.m)∨hO.D hO.m b)∨(b=hL.hb∨hL.D hL.m b)) w w):=Hd (Kept.refl _ _)
 clear hbk hBN eN hBB eB hBS eS hBM eM hBO eO hBL eL
 go_enter Tryz.func15,Tryz.ntmps15
 go_wp2_with fail
 refine(ZaI bk _ (by rw[Za B.out];rfl)).mono ?_
 rintro e w' ⟨rfl,rfl⟩
 go_wp2_with fail
 refine(ZbO bk _ (by rw[Za B.out];rfl)).mono ?_
 rintro e w' ⟨rfl,rfl⟩
 go_wp2_with fail
 refine(ZaL bk _ (by rw[Za B.out];rfl)).mono ?_
 rintro e w' ⟨rfl,rfl⟩
 go_wp2_with fail
 refine(CFM.out _ NM.out).mono ?_
 rintro e w1 ⟨rfl,kk,mm⟩
 have tt:=NM.out.typedD
 replace B:=Hd ((kk.block bk (Zd B.out) (tt.no B.out (by decide))).trans B.out)
 replace NM:=Hd (NM.out.stay kk (NM.out.nbk (by decide)) (NM.out.nhb (by decide)) fun i hi hn=>by
  obtain⟨cur,e1,e2,_⟩:=mm i hi hn
  exact⟨cur,e1,e2⟩)
 have MM:=Hd mm
 replace NN:=Hd (NN.out.far kk tt (by decide) (by decide) (by decide))
 replace NB:=Hd (NB.out.far kk tt (by decide) (by decide) (by decide))
 replace NS:=Hd (NS.out.far kk tt (by decide) (by decide) (by decide))
 replace NO:=Hd (NO.out.far kk tt (by decide) (by decide) (by decide))
 replace NL:=Hd (NL.out.far kk tt (by decide) (by decide) (by decide))
 replace T:=Hd (T.out.trans (kk.mono (D':=fun b=>(b=hN.hb∨hN.D hN.m b)∨(b=hB.hb∨hB.D hB.m b)∨(b=hS.hb∨hS.D hS.m b)∨(b=hM.hb∨hM.D hM.m b)∨((b=hO.hb∧0 < hO.m)∨hO.D hO.m b)∨(b=hL.hb∨hL.D hL.m b)) fun b h=> .inr (.inr (.inr (.inl (.inr h))))))
 clear kk mm tt
 go_wp2_with fail
 refine(CFO.out _ NO.out).mono ?_
 rintro e w2 ⟨rfl,kk,bl,mm⟩
 have tt:=NO.out.typedD
 replace B:=Hd ((kk.block bk (Zd B.out) (tt.no B.out (by decide))).trans B.out)
 replace NO:=Hd (NO.out.stay kk NO.out.nbk (fun _=>NO.out.nhb) bl)
 have MO:=Hd mm
 replace NN:=Hd (NN.out.far kk tt (by decide) (by decide) (by decide))
 replace NB:=Hd (NB.out.far kk tt (by decide) (by decide) (by decide))
 replace NS:=Hd (NS.out.far kk tt (by decide) (by decide) (by decide))
 replace NM:=Hd (NM.out.far kk tt (by decide) (by decide) (by decide))
 replace MM:Hid (∀j,j < hM.m→Marked 72 1 mkM hM w2 j (hM.n j)):=Hd fun j hj=>(MM.out j hj).far kk tt (by decide)
 replace NL:=Hd (NL.out.far kk tt (by decide) (by decide) (by decide))
 replace T:=Hd (T.out.trans (kk.mono (D':=fun b=>(b=hN.hb∨hN.D hN.m b)∨(b=hB.hb∨hB.D hB.m b)∨(b=hS.hb∨hS.D hS.m b)∨(b=hM.hb∨hM.D hM.m b)∨((b=hO.hb∧0 < hO.m)∨hO.D hO.m b)∨(b=hL.hb∨hL.D hL.m b)) fun b h=> .inr (.inr (.inr (.inr (.inl (.inr h)))))))
 clear kk mm tt bl
 go_wp2_with fail
 refine(CFL.out _ NL.out).mono ?_
 rintro e w3 ⟨rfl,kk,mm⟩
 have tt:=NL.out.typedD
 replace B:=Hd ((kk.block bk (Zd B.out) (tt.no B.out (by decide))).trans B.out)
 replace NL:=Hd (NL.out.stay kk (NL.out.nbk (by decide)) (NL.out.nhb (by decide)) fun i hi hn=>by
  obtain⟨cur,e1,e2,_⟩:=mm i hi hn
  exact⟨cur,e1,e2⟩)
 have ML:=Hd mm
 replace NN:=Hd (NN.out.far kk tt (by decide) (by decide) (by decide))
 replace NB:=Hd (NB.out.far kk tt (by decide) (by decide) (by decide))
 replace NS:=Hd (NS.out.far kk tt (by decide) (by decide) (by decide))
 replace NM:=Hd (NM.out.far kk tt (by decide) (by decide) (by decide))
 replace MM:Hid (∀j,j < hM.m→Marked 72 1 mkM hM w3 j (hM.n j)):=Hd fun j hj=>(MM.out j hj).far kk tt (by decide)
 replace NO:=Hd (NO.out.far kk tt (by decide) (by decide) (by decide))
 replace MO:Hid (∀j,j < hO.m→Vm hO w3 j (hO.n j)):=Hd fun j hj=>(MO.out j hj).far kk tt (by decide)
 replace T:=Hd (T.out.trans (kk.mono (D':=fun b=>(b=hN.hb∨hN.D hN.m b)∨(b=hB.hb∨hB.D hB.m b)∨(b=hS.hb∨hS.D hS.m b)∨(b=hM.hb∨hM.D hM.m b)∨((b=hO.hb∧0 < hO.m)∨hO.D hO.m b)∨(b=hL.hb∨hL.D hL.m b)) fun b h=> .inr (.inr (.inr (.inr (.inr (.inr h)))))))
 clear kk mm tt
 go_wp2_with fail
 refine(ZaO bk _ (by rw[Za B.out];rfl)).mono ?_
 rintro e w' ⟨rfl,rfl⟩
 go_wp2_with fail
 refine(CFN.out _ NN.out).mono ?_
 rintro e w4 ⟨rfl,kk,mm⟩
 have tt:=NN.out.typedD
 replace B:=Hd ((kk.block bk (Zd B.out) (tt.no B.out (by decide))).trans B.out)
 replace NN:=Hd (NN.out.stay kk (NN.out.nbk (by decide)) (NN.out.nhb (by decide)) fun i hi hn=>by
  obtain⟨cur,e1,e2,_⟩:=mm i hi hn
  exact⟨cur,e1,e2⟩)
 have MN:=Hd mm
 replace NB:=Hd (NB.out.far kk tt (by decide) (by decide) (by decide))
 replace NS:=Hd (NS.out.far kk tt (by decide) (by decide) (by decide))
 replace NM:=Hd (NM.out.far kk tt (by decide) (by decide) (by decide))
 replace MM:Hid (∀j,j < hM.m→Marked 72 1 mkM hM w4 j (hM.n j)):=Hd fun j hj=>(MM.out j hj).far kk tt (by decide)
 replace NO:=Hd (NO.out.far kk tt (by decide) (by decide) (by decide))
 replace MO:Hid (∀j,j < hO.m→Vm hO w4 j (hO.n j)):=Hd fun j hj=>(MO.out j hj).far kk tt (by decide)
 replace NL:=Hd (NL.out.far kk tt (by decide) (by decide) (by decide))
 replace ML:Hid (∀j,j < hL.m→Marked 78 1 mkL hL w4 j (hL.n j)):=Hd fun j hj=>(ML.out j hj).far kk tt (by decide)
 replace T:=Hd (T.out.trans (kk.mono (D':=fun b=>(b=hN.hb∨hN.D hN.m b)∨(b=hB.hb∨hB.D hB.m b)∨(b=hS.hb∨hS.D hS.m b)∨(b=hM.hb∨hM.D hM.m b)∨((b=hO.hb∧0 < hO.m)∨hO.D hO.m b)∨(b=hL.hb∨hL.D hL.m b)) fun b h=> .inl (.inr h)))
 clear kk mm tt
 go_wp2_with fail
 refine(CFB.out _ NB.out).mono ?_
 rintro e w5 ⟨rfl,kk,mm⟩
 have tt:=NB.out.typedD
 replace B:=Hd ((kk.block bk (Zd B.out) (tt.no B.out (by decide))).trans B.out)
 replace NB:=Hd (NB.out.stay kk (NB.out.nbk (by decide)) (NB.out.nhb (by decide)) fun i hi hn=>by
  obtain⟨cur,e1,e2,_⟩:=mm i hi hn
  exact⟨cur,e1,e2⟩)
 have MB:=Hd mm
 replace NN:=Hd (NN.out.far kk tt (by decide) (by decide) (by decide))
 replace MN:Hid (∀j,j < hN.m→Marked 77 10 mkN hN w5 j (hN.n j)):=Hd fun j hj=>(MN.out j hj).far kk tt (by decide)
 replace NS:=Hd (NS.out.far kk tt (by decide) (by decide) (by decide))
 replace NM:=Hd (NM.out.far kk tt (by decide) (by decide) (by decide))
 replace MM:Hid (∀j,j < hM.m→Marked 72 1 mkM hM w5 j (hM.n j)):=Hd fun j hj=>(MM.out j hj).far kk tt (by decide)
 replace NO:=Hd (NO.out.far kk tt (by decide) (by decide) (by decide))
 replace MO:Hid (∀j,j < hO.m→Vm hO w5 j (hO.n j)):=Hd fun j hj=>(MO.out j hj).far kk tt (by decide)
 replace NL:=Hd (NL.out.far kk tt (by decide) (by decide) (by decide))
 replace ML:Hid (∀j,j < hL.m→Marked 78 1 mkL hL w5 j (hL.n j)):=Hd fun j hj=>(ML.out j hj).far kk tt (by decide)
 replace T:=Hd (T.out.trans (kk.mono (D':=fun b=>(b=hN.hb∨hN.D hN.m b)∨(b=hB.hb∨hB.D hB.m b)∨(b=hS.hb∨hS.D hS.m b)∨(b=hM.hb∨hM.D hM.m b)∨((b=hO.hb∧0 < hO.m)∨hO.D hO.m b)∨(b=hL.hb∨hL.D hL.m b)) fun b h=> .inr (.inl (.inr h))))
 clear kk mm tt
 go_wp2_with fail
 refine(ZaR bk _ (by rw[Za B.out];rfl)).mono ?_
 rintro e w' ⟨rfl,rfl⟩
 go_wp2_with fail
 refine(CFS.out _ NS.out).mono ?_
 rintro e w6 ⟨rfl,kk,mm⟩
 have tt:=NS.out.typedD
 replace B:=Hd ((kk.block bk (Zd B.out) (tt.no B.out (by decide))).trans B.out)
 replace NS:=Hd (NS.out.stay kk (NS.out.nbk (by decide)) (NS.out.nhb (by decide)) fun i hi hn=>by
  obtain⟨cur,e1,e2,_⟩:=mm i hi hn
  exact⟨cur,e1,e2⟩)
 have MS:=Hd mm
 replace NN:=Hd (NN.out.far kk tt (by decide) (by decide) (by decide))
 replace MN:Hid (∀j,j < hN.m→Marked 77 10 mkN hN w6 j (hN.n j)):=Hd fun j hj=>(MN.out j hj).far kk tt (by decide)
 replace NB:=Hd (NB.out.far kk tt (by decide) (by decide) (by decide))
 replace MB:Hid (∀j,j < hB.m→Marked 133 4 mkB hB w6 j (hB.n j)):=Hd fun j hj=>(MB.out j hj).far kk tt (by decide)
 replace NM:=Hd (NM.out.far kk tt (by decide) (by decide) (by decide))
 replace MM:Hid (∀j,j < hM.m→Marked 72 1 mkM hM w6 j (hM.n j)):=Hd fun j hj=>(MM.out j hj).far kk tt (by decide)
 replace NO:=Hd (NO.out.far kk tt (by decide) (by decide) (by decide))
 replace MO:Hid (∀j,j < hO.m→Vm hO w6 j (hO.n j)):=Hd fun j hj=>(MO.out j hj).far kk tt (by decide)
 replace NL:=Hd (NL.out.far kk tt (by decide) (by decide) (by decide))
 replace ML:Hid (∀j,j < hL.m→Marked 78 1 mkL hL w6 j (hL.n j)):=Hd fun j hj=>(ML.out j hj).far kk tt (by decide)
 replace T:=Hd (T.out.trans (kk.mono (D':=fun b=>(b=hN.hb∨hN.D hN.m b)∨(b=hB.hb∨hB.D hB.m b)∨(b=hS.hb∨hS.D hS.m b)∨(b=hM.hb∨hM.D hM.m b)∨((b=hO.hb∧0 < hO.m)∨hO.D hO.m b)∨(b=hL.hb∨hL.D hL.m b)) fun b h=> .inr (.inr (.inl (.inr h)))))
 clear kk mm tt
 go_wp2_with fail
 refine(QI bk _ (by rw[Za B.out];rfl)).mono ?_
 rintro e w' ⟨rfl,rfl⟩
 go_wp2_with fail
 refine(QT bk _ (by rw[Za B.out];rfl)).mono ?_
 rintro e w' ⟨rfl,rfl⟩
 go_wp2_with fail
 refine(ZaU bk _ (by rw[Za B.out];rfl)).mono ?_
 rintro e w' ⟨rfl,rfl⟩
 go_wp2_with fail
 refine(ZaX bk _ (by rw[Za B.out];rfl)).mono ?_
 rintro e w' ⟨rfl,rfl⟩
 go_wp2_with fail
 refine(ZaJ bk _ (by rw[Za B.out];rfl)).mono ?_
 rintro e w' ⟨rfl,rfl⟩
 go_wp2_with fail
 refine(ZbP bk _ (by rw[Za B.out];rfl)).mono ?_
 rintro e w' ⟨rfl,rfl⟩
 go_wp2_with fail
 refine(ZaM bk _ (by rw[Za B.out];rfl)).mono ?_
 rintro e w' ⟨rfl,rfl⟩
 go_wp2_with fail
 refine(CGM.out _ NM.out MM.out).mono ?_
 rintro e w7 ⟨rfl,gg⟩
 have tt:=NM.out.typedG
 replace B:=Hd ((gg.kept.block bk (Zd B.out) (tt.no B.out (by decide))).trans B.out)
 have RM:Hid (Ready 4 177 72 1 mkM hM w7):=Hd ⟨gg.book,gg.marks,gg.longs⟩
 replace NN:=Hd (NN.out.far gg.kept tt (by decide) (by decide) (by decide))
 replace MN:Hid (∀j,j < hN.m→Marked 77 10 mkN hN w7 j (hN.n j)):=Hd fun j hj=>(MN.out j hj).far gg.kept tt (by decide)
 replace NB:=Hd (NB.out.far gg.kept tt (by decide) (by decide) (by decide))
 replace MB:Hid (∀j,j < hB.m→Marked 133 4 mkB hB w7 j (hB.n j)):=Hd fun j hj=>(MB.out j hj).far gg.kept tt (by decide)
 replace NS:=Hd (NS.out.far gg.kept tt (by decide) (by decide) (by decide))
 replace MS:Hid (∀j,j < hS.m→Marked 119 5 mkS hS w7 j (hS.n j)):=Hd fun j hj=>(MS.out j hj).far gg.kept tt (by decide)
 replace NO:=Hd (NO.out.far gg.kept tt (by decide) (by decide) (by decide))
 replace MO:Hid (∀j,j < hO.m→Vm hO w7 j (hO.n j)):=Hd fun j hj=>(MO.out j hj).far gg.kept tt (by decide)
 replace NL:=Hd (NL.out.far gg.kept tt (by decide) (by decide) (by decide))
 replace ML:Hid (∀j,j < hL.m→Marked 78 1 mkL hL w7 j (hL.n j)):=Hd fun j hj=>(ML.out j hj).far gg.kept tt (by decide)
 replace T:=Hd (T.out.trans (gg.kept.mono (D':=fun b=>(b=hN.hb∨hN.D hN.m b)∨(b=hB.hb∨hB.D hB.m b)∨(b=hS.hb∨hS.D hS.m b)∨(b=hM.hb∨hM.D hM.m b)∨((b=hO.hb∧0 < hO.m)∨hO.D hO.m b)∨(b=hL.hb∨hL.D hL.m b)) fun b h=> .inr (.inr (.inr (.inl (h))))))
 clear gg tt NM MM
 go_wp2_with fail
 refine(CGO.out _ NO.out MO.out).mono ?_
 rintro e w8 ⟨rfl,gg⟩
 have tt:=NO.out.typedG
 replace B:=Hd ((gg.kept.block bk (Zd B.out) (tt.no B.out (by decide))).trans B.out)
 have RO:Hid (QW hO w8):=Hd ⟨gg.book,gg.marks,gg.longs⟩
 replace NN:=Hd (NN.out.far gg.kept tt (by decide) (by decide) (by decide))
 replace MN:Hid (∀j,j < hN.m→Marked 77 10 mkN hN w8 j (hN.n j)):=Hd fun j hj=>(MN.out j hj).far gg.kept tt (by decide)
 replace NB:=Hd (NB.out.far gg.kept tt (by decide) (by decide) (by decide))
 replace MB:Hid (∀j,j < hB.m→Marked 133 4 mkB hB w8 j (hB.n j)):=Hd fun j hj=>(MB.out j hj).far gg.kept tt (by decide)
 replace NS:=Hd (NS.out.far gg.kept tt (by decide) (by decide) (by decide))
 replace MS:Hid (∀j,j < hS.m→Marked 119 5 mkS hS w8 j (hS.n j)):=Hd fun j hj=>(MS.out j hj).far gg.kept tt (by decide)
 replace RM:=Hd (RM.out.far gg.kept tt (by decide) (by decide) (by decide))
 replace NL:=Hd (NL.out.far gg.kept tt (by decide) (by decide) (by decide))
 replace ML:Hid (∀j,j < hL.m→Marked 78 1 mkL hL w8 j (hL.n j)):=Hd fun j hj=>(ML.out j hj).far gg.kept tt (by decide)
 replace T:=Hd (T.out.trans (gg.kept.mono (D':=fun b=>(b=hN.hb∨hN.D hN.m b)∨(b=hB.hb∨hB.D hB.m b)∨(b=hS.hb∨hS.D hS.m b)∨(b=hM.hb∨hM.D hM.m b)∨((b=hO.hb∧0 < hO.m)∨hO.D hO.m b)∨(b=hL.hb∨hL.D hL.m b)) fun b h=> .inr (.inr (.inr (.inr (.inl (.inl h)))))))
 clear gg tt NO MO
 go_wp2_with fail
 refine(CGL.out _ NL.out ML.out).mono ?_
 rintro e w9 ⟨rfl,gg⟩
 have tt:=NL.out.typedG
 replace B:=Hd ((gg.kept.block bk (Zd B.out) (tt.no B.out (by decide))).trans B.out)
 have RL:Hid (Ready 6 183 78 1 mkL hL w9):=Hd ⟨gg.book,gg.marks,gg.longs⟩
 replace NN:=Hd (NN.out.far gg.kept tt (by decide) (by decide) (by decide))
 replace MN:Hid (∀j,j < hN.m→Marked 77 10 mkN hN w9 j (hN.n j)):=Hd fun j hj=>(MN.out j hj).far gg.kept tt (by decide)
 replace NB:=Hd (NB.out.far gg.kept tt (by decide) (by decide) (by decide))
 replace MB:Hid (∀j,j < hB.m→Marked 133 4 mkB hB w9 j (hB.n j)):=Hd fun j hj=>(MB.out j hj).far gg.kept tt (by decide)
 replace NS:=Hd (NS.out.far gg.kept tt (by decide) (by decide) (by decide))
 replace MS:Hid (∀j,j < hS.m→Marked 119 5 mkS hS w9 j (hS.n j)):=Hd fun j hj=>(MS.out j hj).far gg.kept tt (by decide)
 replace RM:=Hd (RM.out.far gg.kept tt (by decide) (by decide) (by decide))
 replace RO:=Hd (RO.out.far gg.kept tt (by decide) (by decide) (by decide))
 replace T:=Hd (T.out.trans (gg.kept.mono (D':=fun b=>(b=hN.hb∨hN.D hN.m b)∨(b=hB.hb∨hB.D hB.m b)∨(b=hS.hb∨hS.D hS.m b)∨(b=hM.hb∨hM.D hM.m b)∨((b=hO.hb∧0 < hO.m)∨hO.D hO.m b)∨(b=hL.hb∨hL.D hL.m b)) fun b h=> .inr (.inr (.inr (.inr (.inr (h)))))))
 clear gg tt NL ML
 go_wp2_with fail
 refine(ZaP bk _ (by rw[Za B.out];rfl)).mono ?_
 rintro e w' ⟨rfl,rfl⟩
 go_wp2_with fail
 refine(CGN.out _ NN.out MN.out).mono ?_
 rintro e w10 ⟨rfl,gg⟩
 have tt:=NN.out.typedG
 replace B:=Hd ((gg.kept.block bk (Zd B.out) (tt.no B.out (by decide))).trans B.out)
 have RN:Hid (Ready 8 191 77 10 mkN hN w10):=Hd ⟨gg.book,gg.marks,gg.longs⟩
 replace NB:=Hd (NB.out.far gg.kept tt (by decide) (by decide) (by decide))
 replace MB:Hid (∀j,j < hB.m→Marked 133 4 mkB hB w10 j (hB.n j)):=Hd fun j hj=>(MB.out j hj).far gg.kept tt (by decide)
 replace NS:=Hd (NS.out.far gg.kept tt (by decide) (by decide) (by decide))
 replace MS:Hid (∀j,j < hS.m→Marked 119 5 mkS hS w10 j (hS.n j)):=Hd fun j hj=>(MS.out j hj).far gg.kept tt (by decide)
 replace RM:=Hd (RM.out.far gg.kept tt (by decide) (by decide) (by decide))
 replace RO:=Hd (RO.out.far gg.kept tt (by decide) (by decide) (by decide))
 replace RL:=Hd (RL.out.far gg.kept tt (by decide) (by decide) (by decide))
 replace T:=Hd (T.out.trans (gg.kept.mono (D':=fun b=>(b=hN.hb∨hN.D hN.m b)∨(b=hB.hb∨hB.D hB.m b)∨(b=hS.hb∨hS.D hS.m b)∨(b=hM.hb∨hM.D hM.m b)∨((b=hO.hb∧0 < hO.m)∨hO.D hO.m b)∨(b=hL.hb∨hL.D hL.m b)) fun b h=> .inl (h)))
 clear gg tt NN MN
 go_wp2_with fail
 refine(CGB.out _ NB.out MB.out).mono ?_
 rintro e w11 ⟨rfl,gg⟩
 have tt:=NB.out.typedG
 replace B:=Hd ((gg.kept.block bk (Zd B.out) (tt.no B.out (by decide))).trans B.out)
 have RB:Hid (Ready 9 194 133 4 mkB hB w11):=Hd ⟨gg.book,gg.marks,gg.longs⟩
 replace RN:=Hd (RN.out.far gg.kept tt (by decide) (by decide) (by decide))
 replace NS:=Hd (NS.out.far gg.kept tt (by decide) (by decide) (by decide))
 replace MS:Hid (∀j,j < hS.m→Marked 119 5 mkS hS w11 j (hS.n j)):=Hd fun j hj=>(MS.out j hj).far gg.kept tt (by decide)
 replace RM:=Hd (RM.out.far gg.kept tt (by decide) (by decide) (by decide))
 replace RO:=Hd (RO.out.far gg.kept tt (by decide) (by decide) (by decide))
 replace RL:=Hd (RL.out.far gg.kept tt (by decide) (by decide) (by decide))
 replace T:=Hd (T.out.trans (gg.kept.mono (D':=fun b=>(b=hN.hb∨hN.D hN.m b)∨(b=hB.hb∨hB.D hB.m b)∨(b=hS.hb∨hS.D hS.m b)∨(b=hM.hb∨hM.D hM.m b)∨((b=hO.hb∧0 < hO.m)∨hO.D hO.m b)∨(b=hL.hb∨hL.D hL.m b)) fun b h=> .inr (.inl (h))))
 clear gg tt NB MB
 go_wp2_with fail
 refine(ZaS bk _ (by rw[Za B.out];rfl)).mono ?_
 rintro e w' ⟨rfl,rfl⟩
 go_wp2_with fail
 refine(CGS.out _ NS.out MS.out).mono ?_
 rintro e w12 ⟨rfl,gg⟩
 have tt:=NS.out.typedG
 replace B:=Hd ((gg.kept.block bk (Zd B.out) (tt.no B.out (by decide))).trans B.out)
 have RS:Hid (Ready 11 201 119 5 mkS hS w12):=Hd ⟨gg.book,gg.marks,gg.longs⟩
 replace RN:=Hd (RN.out.far gg.kept tt (by decide) (by decide) (by decide))
 replace RB:=Hd (RB.out.far gg.kept tt (by decide) (by decide) (by decide))
 replace RM:=Hd (RM.out.far gg.kept tt (by decide) (by decide) (by decide))
 replace RO:=Hd (RO.out.far gg.kept tt (by decide) (by decide) (by decide))
 replace RL:=Hd (RL.out.far gg.kept tt (by decide) (by decide) (by decide))
 replace T:=Hd (T.out.trans (gg.kept.mono (D':=fun b=>(b=hN.hb∨hN.D hN.m b)∨(b=hB.hb∨hB.D hB.m b)∨(b=hS.hb∨hS.D hS.m b)∨(b=hM.hb∨hM.D hM.m b)∨((b=hO.hb∧0 < hO.m)∨hO.D hO.m b)∨(b=hL.hb∨hL.D hL.m b)) fun b h=> .inr (.inr (.inl (h)))))
 clear gg tt NS MS
 go_wp2_with fail
 refine(QJ bk _ (by rw[Za B.out];rfl)).mono ?_
 rintro e w' ⟨rfl,rfl⟩
 go_wp2_with fail
 refine(QU bk _ (by rw[Za B.out];rfl)).mono ?_
 rintro e w' ⟨rfl,rfl⟩
 go_wp2_with fail
 refine(ZaV bk _ (by rw[Za B.out];rfl)).mono ?_
 rintro e w' ⟨rfl,rfl⟩
 go_wp2_with fail
 refine(ZaY bk _ (by rw[Za B.out];rfl)).mono ?_
 rintro e w' ⟨rfl,rfl⟩
 go_wp2_with fail
 refine(ZaK bk _ (by rw[Za B.out];rfl)).mono ?_
 rintro e w' ⟨rfl,rfl⟩
 go_wp2_with fail
 refine(ZbQ bk _ (by rw[Za B.out];rfl)).mono ?_
 rintro e w' ⟨rfl,rfl⟩
 go_wp2_with fail
 refine(ZaN bk _ (by rw[Za B.out];rfl)).mono ?_
 rintro e w' ⟨rfl,rfl⟩
 go_wp2_with fail
 refine(CLM.out _ RM.out).mono ?_
 rintro e w13 ⟨rfl,kk⟩
 replace B:=Hd ((kk.block bk (Zd B.out) (fun h=>h)).trans B.out)
 replace RO:=Hd (RO.out.far kk (ZO _ []) (by decide) (by decide) (by decide))
 replace RL:=Hd (RL.out.far kk (ZO _ []) (by decide) (by decide) (by decide))
 replace RN:=Hd (RN.out.far kk (ZO _ []) (by decide) (by decide) (by decide))
 replace RB:=Hd (RB.out.far kk (ZO _ []) (by decide) (by decide) (by decide))
 replace RS:=Hd (RS.out.far kk (ZO _ []) (by decide) (by decide) (by decide))
 replace T:=Hd (T.out.trans (kk.mono (D':=fun b=>(b=hN.hb∨hN.D hN.m b)∨(b=hB.hb∨hB.D hB.m b)∨(b=hS.hb∨hS.D hS.m b)∨(b=hM.hb∨hM.D hM.m b)∨((b=hO.hb∧0 < hO.m)∨hO.D hO.m b)∨(b=hL.hb∨hL.D hL.m b)) fun b h=>h.elim))
 clear kk RM
 go_wp2_with fail
 refine(CLO.out _ RO.out).mono ?_
 rintro e w14 ⟨rfl,kk⟩
 replace B:=Hd ((kk.block bk (Zd B.out) (fun h=>h)).trans B.out)
 replace RL:=Hd (RL.out.far kk (ZO _ []) (by decide) (by decide) (by decide))
 replace RN:=Hd (RN.out.far kk (ZO _ []) (by decide) (by decide) (by decide))
 replace RB:=Hd (RB.out.far kk (ZO _ []) (by decide) (by decide) (by decide))
 replace RS:=Hd (RS.out.far kk (ZO _ []) (by decide) (by decide) (by decide))
 replace T:=Hd (T.out.trans (kk.mono (D':=fun b=>(b=hN.hb∨hN.D hN.m b)∨(b=hB.hb∨hB.D hB.m b)∨(b=hS.hb∨hS.D hS.m b)∨(b=hM.hb∨hM.D hM.m b)∨((b=hO.hb∧0 < hO.m)∨hO.D hO.m b)∨(b=hL.hb∨hL.D hL.m b)) fun b h=>h.elim))
 clear kk RO
 go_wp2_with fail
 refine(CLL.out _ RL.out).mono ?_
 rintro e w15 ⟨rfl,kk⟩
 replace B:=Hd ((kk.block bk (Zd B.out) (fun h=>h)).trans B.out)
 replace RN:=Hd (RN.out.far kk (ZO _ []) (by decide) (by decide) (by decide))
 replace RB:=Hd (RB.out.far kk (ZO _ []) (by decide) (by decide) (by decide))
 replace RS:=Hd (RS.out.far kk (ZO _ []) (by decide) (by decide) (by decide))
 replace T:=Hd (T.out.trans (kk.mono (D':=fun b=>(b=hN.hb∨hN.D hN.m b)∨(b=hB.hb∨hB.D hB.m b)∨(b=hS.hb∨hS.D hS.m b)∨(b=hM.hb∨hM.D hM.m b)∨((b=hO.hb∧0 < hO.m)∨hO.D hO.m b)∨(b=hL.hb∨hL.D hL.m b)) fun b h=>h.elim))
 clear kk RL
 go_wp2_with fail
 refine(ZaQ bk _ (by rw[Za B.out];rfl)).mono ?_
 rintro e w' ⟨rfl,rfl⟩
 go_wp2_with fail
 refine(CLN.out _ RN.out).mono ?_
 rintro e w16 ⟨rfl,kk⟩
 replace B:=Hd ((kk.block bk (Zd B.out) (fun h=>h)).trans B.out)
 replace RB:=Hd (RB.out.far kk (ZO _ []) (by decide) (by decide) (by decide))
 replace RS:=Hd (RS.out.far kk (ZO _ []) (by decide) (by decide) (by decide))
 replace T:=Hd (T.out.trans (kk.mono (D':=fun b=>(b=hN.hb∨hN.D hN.m b)∨(b=hB.hb∨hB.D hB.m b)∨(b=hS.hb∨hS.D hS.m b)∨(b=hM.hb∨hM.D hM.m b)∨((b=hO.hb∧0 < hO.m)∨hO.D hO.m b)∨(b=hL.hb∨hL.D hL.m b)) fun b h=>h.elim))
 clear kk RN
 go_wp2_with fail
 refine(CLB.out _ RB.out).mono ?_
 rintro e w17 ⟨rfl,kk⟩
 replace B:=Hd ((kk.block bk (Zd B.out) (fun h=>h)).trans B.out)
 replace RS:=Hd (RS.out.far kk (ZO _ []) (by decide) (by decide) (by decide))
 replace T:=Hd (T.out.trans (kk.mono (D':=fun b=>(b=hN.hb∨hN.D hN.m b)∨(b=hB.hb∨hB.D hB.m b)∨(b=hS.hb∨hS.D hS.m b)∨(b=hM.hb∨hM.D hM.m b)∨((b=hO.hb∧0 < hO.m)∨hO.D hO.m b)∨(b=hL.hb∨hL.D hL.m b)) fun b h=>h.elim))
 clear kk RB
 go_wp2_with fail
 refine(ZaT bk _ (by rw[Za B.out];rfl)).mono ?_
 rintro e w' ⟨rfl,rfl⟩
 go_wp2_with fail
 refine(CLS.out _ RS.out).mono ?_
 rintro e w18 ⟨rfl,kk⟩
 replace B:=Hd ((kk.block bk (Zd B.out) (fun h=>h)).trans B.out)
 replace T:=Hd (T.out.trans (kk.mono (D':=fun b=>(b=hN.hb∨hN.D hN.m b)∨(b=hB.hb∨hB.D hB.m b)∨(b=hS.hb∨hS.D hS.m b)∨(b=hM.hb∨hM.D hM.m b)∨((b=hO.hb∧0 < hO.m)∨hO.D hO.m b)∨(b=hL.hb∨hL.D hL.m b)) fun b h=>h.elim))
 clear kk RS
 go_wp2_with fail
 refine(QK bk _ (by rw[Za B.out];rfl)).mono ?_
 rintro e w' ⟨rfl,rfl⟩
 go_wp2_with fail
 refine(QV bk _ (by rw[Za B.out];rfl)).mono ?_
 rintro e w' ⟨rfl,rfl⟩
 go_wp2_with fail
 refine(ZaW bk _ (by rw[Za B.out];rfl)).mono ?_
 rintro e w' ⟨rfl,rfl⟩
 go_wp2_with fail
 refine(ZaZ bk _ (by rw[Za B.out];rfl)).mono ?_
 rintro e w' ⟨rfl,rfl⟩
 go_wp2_with fail
 go_ret
 exact⟨rfl,T.out⟩
end Go.Proofs.YtfmpecnkkbpdlaaGreatDoor
