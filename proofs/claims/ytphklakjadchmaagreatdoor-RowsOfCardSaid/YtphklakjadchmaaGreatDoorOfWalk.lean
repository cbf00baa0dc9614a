import Derived.Test.YtphklakjadchmaaGreatDoorLiv
import Derived.Test.YtphklakjadchmaaGreatDoorOfA
import Derived.Test.YtphklakjadchmaaGreatDoorRfY
namespace Go.Proofs.YtphklakjadchmaaGreatDoor
open Go.RowKit
theorem two_rbox (w:World)(t1:Nat)(B1:Option Addr)(m1 d1 e1 t2:Nat)(B2:Option Addr)(m2 d2 e2:Nat):RBox ((w.alloc (.cells #[.int .i64 (t1:Int),.slice B1 m1 d1,.int .i64 (e1:Int)] 36)).alloc (.cells #[.int .i64 (t2:Int),.slice B2 m2 d2,.int .i64 (e2:Int)] 36)) w.heap.size t1 B1 m1 d1 e1∧RBox ((w.alloc (.cells #[.int .i64 (t1:Int),.slice B1 m1 d1,.int .i64 (e1:Int)] 36)).alloc (.cells #[.int .i64 (t2:Int),.slice B2 m2 d2,.int .i64 (e2:Int)] 36)) (w.heap.size+1) t2 B2 m2 d2 e2:=by
 refine⟨(RBox.of (heap_alloc_new w _)).keep ((Below.refl _ _).alloc (Nat.le_refl _) _),?_⟩
 have:=RBox.of (heap_alloc_new (w.alloc (.cells #[.int .i64 (t1:Int),.slice B1 m1 d1,.int .i64 (e1:Int)] 36)) (.cells #[.int .i64 (t2:Int),.slice B2 m2 d2,.int .i64 (e2:Int)] 36))
 rwa [World.size_alloc] at this
set_option maxRecDepth 100000 in
set_option maxHeartbeats 16000000 in
theorem walk (A5:Option Addr)(n5 c5:Nat)(k:Int)(rows:List Nat)(z:I.Sen)(A1:Option Addr)(n1 c1:Nat)(A2:Option Addr)(n2 c2:Nat)(A3:Option Addr)(n3 c3:Nat)(A4:Option Addr)(n4 c4:Nat)(w:World)(hr:Rd La.nm w w.heap.size A5 n5 c5 rows)(hrf:La.Fit rows)(h:I.SenAt w z A1 n1 c1 A2 n2 c2 A3 n3 c3 A4 n4 c4):
  Calls Tryz.prog 3 #[zV A5 n5 c5 k,senV A1 n1 c1 A2 n2 c2 A3 n3 c3 A4 n4 c4] w fun e w'=>e= .returned (.bool true)∧Below w.heap.size w w':=by
 have HSA:Hid (∀W,Below w.heap.size w W→I.SenAt W z A1 n1 c1 A2 n2 c2 A3 n3 c3 A4 n4 c4):=Lib.hid fun W hW=>h.keep hW
 have HR:Hid (∀W,Below w.heap.size w W→Rd La.nm W W.heap.size A5 n5 c5 rows):=Lib.hid fun W hW=>hr.at_size (Nat.le_refl _) hW
 obtain⟨S,hS⟩: ∃S,laOf rows=S:=⟨_,rfl⟩
 obtain⟨X,hX⟩: ∃X,efOf k=X:=⟨_,rfl⟩
 have HPC:Hid (∀W,Below w.heap.size w W→Calls Tryz.prog 6 #[zV A5 n5 c5 k] W fun e w'=> ∃a b,e= .returned (.tuple #[.iface 83 (.pointer a),.iface 86 (.pointer b)])∧Both w' a b S X∧Below W.heap.size W w'):=Lib.hid fun W hW=>hS▸hX▸of_sorts A5 n5 c5 k rows W (HR.out W hW) hrf
 have HDC:Hid (∀W,Below w.heap.size w W→Calls Tryz.prog 7 #[zV A5 n5 c5 k] W fun e w'=> ∃t1 B1 m1 d1 e1 t2 B2 m2 d2 e2,e= .returned (.tuple #[Bo.rsV t1 B1 m1 d1 e1,Bo.rsV t2 B2 m2 d2 e2])∧Bo.RSrt W.heap.size w' t1 B1 m1 d1 e1 S∧Bo.RSrt W.heap.size w' t2 B2 m2 d2 e2 X∧Below W.heap.size W w'):=Lib.hid fun W hW=>hS▸hX▸doc_any A5 n5 c5 k rows W (HR.out W hW) hrf
 have HGA:=Lib.hid fun W (hW:Below w.heap.size w W)=>I.greatS_any A1 n1 c1 A2 n2 c2 A3 n3 c3 A4 n4 c4 z W (h.keep hW)
 have HLEN:=Lib.hid h.rp.len
 have HFIT:=Lib.hid (And.intro h.fl h.fh)
 clear hS hX HR
 obtain⟨x,hx⟩: ∃x,w.alloc (.cells #[.slice A5 n5 c5,.int .i64 k] 24)=x:=⟨_,rfl⟩
 obtain⟨y,hy⟩: ∃y,x.alloc (.cells #[.slice A1 n1 c1,.slice A2 n2 c2,.slice A3 n3 c3,.slice A4 n4 c4] 28)=y:=⟨_,rfl⟩
 have b0:Below w.heap.size w x:=hx▸(Below.refl _ _).alloc (Nat.le_refl _) _
 have sx:x.heap.size=w.heap.size+1:=by rw[← hx,World.size_alloc]
 have b1:Below x.heap.size x y:=hy▸(Below.refl _ _).alloc (Nat.le_refl _) _
 have k0:y.heap[w.heap.size]?=some (.cells #[.slice A5 n5 c5,.int .i64 k] 24 (0,0)):=(b1.block _ (by rw[sx];omega)).trans (hx▸heap_alloc_new w _)
 have k1:y.heap[w.heap.size+1]?=some (.cells #[.slice A1 n1 c1,.slice A2 n2 c2,.slice A3 n3 c3,.slice A4 n4 c4] 28 (0,0)):=by rw[← sx, ← hy];exact heap_alloc_new x _
 have hb:Below w.heap.size w y:=b0.trans (b1.mono b0.size)
 have s0:=(cell_blk (i:=0) k0).trans rfl
 have s1:=(cell_blk (i:=1) k0).trans rfl
 have hzb:=I.ZB.of k1
 have HB:=Lib.hid hb
 have HZB:=Lib.hid hzb
 have HS0:=Lib.hid s0
 have HS1:=Lib.hid s1
 have z0:=hzb.p0
 have z1:=hzb.p1
 have z2:=hzb.p2
 have z3:=hzb.p3
 have hga:=HGA.out y hb
 have HG:=Lib.hid hga
 clear b0 b1 sx k0 k1 hb hzb h hr hrf s1 hga HGA
 subst hx
 unfold senV at HG ⊢
 unfold zV at HPC HDC ⊢
 go_enter Tryz.func3,Tryz.ntmps3
 go_wp2_with fail
 clear hy
 refine HG.out.mono ?_
 rintro e w1 ⟨⟨gr,rfl,hgr⟩,hv⟩
 have HGR:=Lib.hid hgr
 have HV1:=Lib.hid hv
 replace s0:=cell_old s0 hv
 clear hv hgr z0 z1 z2 z3 HG
 cases gr with
 |true=>
  have HBZ:=Lib.hid (HB.out.trans (HV1.out.mono HB.out.size))
  go_wp2_with fail
  refine(lives_any _).mono ?_
  rintro e wz ⟨rfl,hv⟩
  have HZ:=Lib.hid (HBZ.out.trans (hv.mono HBZ.out.size))
  clear hv
  go_wp2_with fail
  go_ret
  exact⟨rfl,HZ.out⟩
 |false=>
 by_cases hbig:100 < n5
 ·have hbig':(100:Int) < (n5:Int):=by omega
  have HBZ:=Lib.hid (HB.out.trans (HV1.out.mono HB.out.size))
  clear hbig
  go_wp2_with fail
  refine(lives_any _).mono ?_
  rintro e wz ⟨rfl,hv⟩
  have HZ:=Lib.hid (HBZ.out.trans (hv.mono HBZ.out.size))
  clear hv
  go_wp2_with fail
  go_ret
  exact⟨rfl,HZ.out⟩
 have hbig': ¬(100:Int) < (n5:Int):=by omega
 have HSM:=Lib.hid (HGR.out rfl)
 have s1:=cell_old HS1.out HV1.out
 have HCP:=Lib.hid (HPC.out w1 (HB.out.trans (HV1.out.mono HB.out.size)))
 clear hbig HPC HGR
 go_wp2_with fail
 refine HCP.out.mono ?_
 rintro e w2 ⟨a,b,rfl,hbo,hv⟩
 have HV2:=Lib.hid (HV1.out.trans (hv.mono HV1.out.size))
 have HBO2:=Lib.hid hbo
 clear s0 s1
 have s0:=cell_old HS0.out HV2.out
 have s1:=cell_old HS1.out HV2.out
 have HCD:=Lib.hid (HDC.out w2 (HB.out.trans (HV2.out.mono HB.out.size)))
 clear hv hbo hbig' HCP HDC HV1
 go_wp2_with fail
 refine HCD.out.mono ?_
 rintro e w3 ⟨t1,B1,m1,d1,e1,t2,B2,m2,d2,e2,rfl,hr1,hr2,hv⟩
 have HV3:=Lib.hid (HV2.out.trans (hv.mono HV2.out.size))
 have hal:=two_below w3 (.cells #[.int .i64 (t1:Int),.slice B1 m1 d1,.int .i64 (e1:Int)] 36) (.cells #[.int .i64 (t2:Int),.slice B2 m2 d2,.int .i64 (e2:Int)] 36)
 have hk:=two_rbox w3 t1 B1 m1 d1 e1 t2 B2 m2 d2 e2
 obtain⟨wa,hwa⟩: ∃wa,(w3.alloc (.cells #[.int .i64 (t1:Int),.slice B1 m1 d1,.int .i64 (e1:Int)] 36)).alloc (.cells #[.int .i64 (t2:Int),.slice B2 m2 d2,.int .i64 (e2:Int)] 36)=wa:=⟨_,rfl⟩
 rw[hwa] at hal hk
 have HVA:=Lib.hid (HV3.out.trans (hal.mono HV3.out.size))
 have HBA:=Lib.hid (HB.out.trans (HVA.out.mono HB.out.size))
 have HBOA:=Lib.hid ((HBO2.out.keep hv).keep hal)
 have HRA1:=Lib.hid ((hr1.mono hv.size).keep hal)
 have HRA2:=Lib.hid ((hr2.mono hv.size).keep hal)
 have HKA:=Lib.hid hk
 have HTW:=Lib.hid (I.twinSen_any A1 n1 c1 A2 n2 c2 A3 n3 c3 A4 n4 c4 z wa (HSA.out wa HBA.out) (by have:=HSM.out.p;omega) (by have:=HSM.out.lo;omega) (by have:=HSM.out.hi;omega) (by have:=HSM.out.be;omega) (fun r hr=>by have:=HSM.out.row r hr;omega))
 have hzs:=HZB.out.keep HVA.out
 have z0:=hzs.p0
 have z1:=hzs.p1
 have z2:=hzs.p2
 have z3:=hzs.p3
 unfold senV at HTW
 simp only[Bo.rsV]
 clear s0 s1 hv hr1 hr2 hal hk hzs HCD HV2 HV3 HBO2
 go_wp2_with fail
 clear hwa
 refine HTW.out.mono ?_
 rintro e w5 ⟨g1,g2,g3,g4,rfl,htw,hv⟩
 clear HTW z0 z1 z2 z3
 have hal:Below w5.heap.size w5 (w5.alloc (.cells #[.slice (some ⟨g1,0,none⟩) n1 (n1+1),.slice (some ⟨g2,0,none⟩) n2 (n2+1),.slice (some ⟨g3,0,none⟩) n3 (n3+1),.slice (some ⟨g4,0,none⟩) n4 (n4+1)] 28)):=(Below.refl _ _).alloc (Nat.le_refl _) _
 have hzo:=I.ZB.of (heap_alloc_new w5 (.cells #[.slice (some ⟨g1,0,none⟩) n1 (n1+1),.slice (some ⟨g2,0,none⟩) n2 (n2+1),.slice (some ⟨g3,0,none⟩) n3 (n3+1),.slice (some ⟨g4,0,none⟩) n4 (n4+1)] 28))
 obtain⟨wb,hwb⟩: ∃wb,w5.alloc (.cells #[.slice (some ⟨g1,0,none⟩) n1 (n1+1),.slice (some ⟨g2,0,none⟩) n2 (n2+1),.slice (some ⟨g3,0,none⟩) n3 (n3+1),.slice (some ⟨g4,0,none⟩) n4 (n4+1)] 28)=wb:=⟨_,rfl⟩
 rw[hwb] at hzo hal
 have hv5:=hv.trans (hal.mono hv.size)
 have HVB:=Lib.hid (HVA.out.trans (hv5.mono HVA.out.size))
 have HBB:=Lib.hid (HB.out.trans (HVB.out.mono HB.out.size))
 have HBOB:=Lib.hid (HBOA.out.keep hv5)
 have HRB1:=Lib.hid (HRA1.out.keep hv5)
 have HRB2:=Lib.hid (HRA2.out.keep hv5)
 have HKB:Hid (RBox wb w3.heap.size t1 B1 m1 d1 e1∧RBox wb (w3.heap.size+1) t2 B2 m2 d2 e2):=Lib.hid ⟨HKA.out.1.keep hv5,HKA.out.2.keep hv5⟩
 have htb:=htw.keep hal
 have HT:=Lib.hid htb
 have HSO:=Lib.hid (htb.at HFIT.out.1 HFIT.out.2 (by have:=HSM.out.be;omega) (fun r hr=>by have:=HSM.out.row r hr;omega))
 have HZO:=Lib.hid hzo
 have HBS:=Lib.hid HBA.out.size
 have HOF:=Lib.hid (I.rowsOf_any (.iface 83 (.pointer a)) z (some ⟨g1,0,none⟩) n1 (n1+1) (some ⟨g2,0,none⟩) n2 (n2+1) (some ⟨g3,0,none⟩) n3 (n3+1) (some ⟨g4,0,none⟩) n4 (n4+1) wb HSO.out (by have:=HSM.out.p;omega))
 have y0:=hzo.p0
 have y1:=hzo.p1
 have y2:=hzo.p2
 have y3:=hzo.p3
 unfold senV at HOF
 clear hzo hal hv hv5 htw htb HVA HBA HBOA HRA1 HRA2 HKA
 go_wp2_with fail
 clear hwb y0 y1 y2 y3
 refine HOF.out.mono ?_
 rintro e w6 ⟨Aa,na,ca,rfl,ho⟩
 have HV6:=Lib.hid ho.1
 have HOA:=Lib.hid ho
 have hzo:=HZO.out.keep HV6.out
 have y0:=hzo.p0
 have y1:=hzo.p1
 have y2:=hzo.p2
 have y3:=hzo.p3
 have HF1:=Lib.hid (I.fixed_any (.iface 83 (.pointer a)) S z (some ⟨g1,0,none⟩) n1 (n1+1) (some ⟨g2,0,none⟩) n2 (n2+1) (some ⟨g3,0,none⟩) n3 (n3+1) (some ⟨g4,0,none⟩) n4 (n4+1) w6 (HBOB.out.keep HV6.out).sl.into (HSO.out.keep HV6.out) (by have:=HSM.out.p;omega))
 unfold senV at HF1
 clear ho hzo HOF
 go_wp2_with fail
 clear y0 y1 y2 y3
 refine HF1.out.mono ?_
 rintro e w7 ⟨Ab,nb,cb,Ac,nc,cc,rfl,hfx⟩
 have HV67:=Lib.hid hfx.1
 have HV7:=Lib.hid (HV6.out.trans (hfx.1.mono HV6.out.size))
 have HFX:=Lib.hid hfx
 have hzo:=HZO.out.keep HV7.out
 have y0:=hzo.p0
 have y1:=hzo.p1
 have y2:=hzo.p2
 have y3:=hzo.p3
 have HF2:=Lib.hid (I.fixed_any (.iface 86 (.pointer b)) X z (some ⟨g1,0,none⟩) n1 (n1+1) (some ⟨g2,0,none⟩) n2 (n2+1) (some ⟨g3,0,none⟩) n3 (n3+1) (some ⟨g4,0,none⟩) n4 (n4+1) w7 (HBOB.out.keep HV7.out).sx.into (HSO.out.keep HV7.out) (by have:=HSM.out.p;omega))
 unfold senV at HF2
 clear hfx hzo HF1
 go_wp2_with fail
 clear y0 y1 y2 y3
 refine HF2.out.mono ?_
 rintro e w8 ⟨Ad,nd,cd,Ae,ne,ce,rfl,hfx⟩
 have HV78:=Lib.hid hfx.1
 have HV8:=Lib.hid (HV7.out.trans (hfx.1.mono HV7.out.size))
 have HFY:=Lib.hid hfx
 have HB8:=Lib.hid (HBB.out.trans (HV8.out.mono HBB.out.size))
 have hzs:=HZB.out.keep (HVB.out.trans (HV8.out.mono HVB.out.size))
 have z0:=hzs.p0
 have z1:=hzs.p1
 have z2:=hzs.p2
 have z3:=hzs.p3
 have f0:=(HKB.out.1.keep HV8.out).s0
 have f1:=(HKB.out.1.keep HV8.out).s1
 have f2:=(HKB.out.1.keep HV8.out).s2
 have HF3:=Lib.hid (I.fixedR_any t1 B1 m1 d1 e1 S z A1 n1 c1 A2 n2 c2 A3 n3 c3 A4 n4 c4 w8 (HRB1.out.keep HV8.out) (HSA.out w8 HB8.out) (by have:=HSM.out.p;omega))
 unfold senV Bo.rsV at HF3
 clear hfx hzs HF2
 go_wp2_with fail
 clear z0 z1 z2 z3 f0 f1 f2
 refine HF3.out.mono ?_
 rintro e w9 ⟨Af,nf,cf,Ag,ng,cg,rfl,hrf1,hrg1,hv⟩
 have HV89:=Lib.hid hv
 have HV9:=Lib.hid (HV8.out.trans (hv.mono HV8.out.size))
 have HRF:=Lib.hid (And.intro hrf1 hrg1)
 have HB9:=Lib.hid (HBB.out.trans (HV9.out.mono HBB.out.size))
 have hzs:=HZB.out.keep (HVB.out.trans (HV9.out.mono HVB.out.size))
 have z0:=hzs.p0
 have z1:=hzs.p1
 have z2:=hzs.p2
 have z3:=hzs.p3
 have f0:=(HKB.out.2.keep HV9.out).s0
 have f1:=(HKB.out.2.keep HV9.out).s1
 have f2:=(HKB.out.2.keep HV9.out).s2
 have HF4:=Lib.hid (I.fixedR_any t2 B2 m2 d2 e2 X z A1 n1 c1 A2 n2 c2 A3 n3 c3 A4 n4 c4 w9 (HRB2.out.keep HV9.out) (HSA.out w9 HB9.out) (by have:=HSM.out.p;omega))
 unfold senV Bo.rsV at HF4
 clear hrf1 hrg1 hv hzs HF3 HB8
 go_wp2_with fail
 clear z0 z1 z2 z3 f0 f1 f2
 refine HF4.out.mono ?_
 rintro e wd ⟨Ah,nh,ch,Ai,ni,ci,rfl,hrh1,hri1,hv⟩
 have HV9D:=Lib.hid hv
 have HVD:=Lib.hid (HV9.out.trans (hv.mono HV9.out.size))
 have HRH:=Lib.hid (And.intro hrh1 hri1)
 have HBD:=Lib.hid (HBB.out.trans (HVD.out.mono HBB.out.size))
 have hl9:z.p.length≤1000:=by have:=HSM.out.p;have:=HLEN.out;omega
 have v6d:=HV67.out.trans ((HV78.out.trans ((HV89.out.trans (HV9D.out.mono HV89.out.size)).mono HV78.out.size)).mono HV67.out.size)
 have v7d:=HV78.out.trans ((HV89.out.trans (HV9D.out.mono HV89.out.size)).mono HV78.out.size)
 have v8d:=HV89.out.trans (HV9D.out.mono HV89.out.size)
 have r1:=(HOA.out.rd hl9).at_size (Nat.le_refl _) v6d
 have r2:=(HFX.out.rd hl9).1.at_size (Nat.le_refl _) v7d
 have r3:=(HFX.out.rd hl9).2.at_size (Nat.le_refl _) v7d
 have r4:=(HFY.out.rd hl9).1.at_size (Nat.le_refl _) v8d
 have r5:=(HFY.out.rd hl9).2.at_size (Nat.le_refl _) v8d
 have q2:=HRF.out.1.at_size (Nat.le_refl _) HV9D.out
 have q3:=HRF.out.2.at_size (Nat.le_refl _) HV9D.out
 obtain rfl:nb=nf:=r2.len.symm.trans q2.len
 obtain rfl:nc=ng:=r3.len.symm.trans q3.len
 obtain rfl:nd=nh:=r4.len.symm.trans hrh1.len
 obtain rfl:ne=ni:=r5.len.symm.trans hri1.len
 have HR1:=Lib.hid r1
 have HR2:=Lib.hid r2
 have HR3:=Lib.hid r3
 have HR4:=Lib.hid r4
 have HR5:=Lib.hid r5
 have HQ2:=Lib.hid q2
 have HQ3:=Lib.hid q3
 have HQ4:=Lib.hid hrh1
 have HQ5:=Lib.hid hri1
 obtain⟨E,hE,hLg,hgE,hGE⟩:=tw_ents HT.out.t4 (by have:=HSM.out.be;have:=HT.out.l4;omega) (fun r hr=>by have:=HSM.out.row r hr;omega)
 rw[HT.out.l4] at hE hLg hGE
 have HE:=Lib.hid (hE.keep HVD.out)
 have HLG:=Lib.hid hLg
 have HGE:=Lib.hid hgE
 have HGD:=Lib.hid hGE
 obtain⟨la,lab⟩:=lone_of HOA.out hl9
 obtain⟨lb,lc,lbb,lcb⟩:=lone_fx HFX.out hl9
 have HLA:=Lib.hid (And.intro (fun no=>(la no).keep (Kept.of_below (D:=fun _=>False) v6d) fun _ _=>id) lab)
 have HLB:=Lib.hid (And.intro (fun no=>(lb no).keep (Kept.of_below (D:=fun _=>False) v7d) fun _ _=>id) lbb)
 have HLC:=Lib.hid (And.intro (fun no=>(lc no).keep (Kept.of_below (D:=fun _=>False) v7d) fun _ _=>id) lcb)
 have HN:=Lib.hid (And.intro HSM.out.be (And.intro HSM.out.lo HSM.out.hi))
 clear hv hl9 v6d v7d v8d r1 r2 r3 r4 r5 q2 q3 hrh1 hri1 hE hLg hgE hGE la lab lb lc lbb lcb HF4 HRF HRH HOA HFX HFY HB9
 have hk0:=book0 wd
 have K0:Kept (fun b=>wd.heap.size≤b) wd (wd.alloc (.cells (bookCells 0 (.slice none 0 0) (.slice none 0 0) (.slice none 0 0) (.slice none 0 0) (.slice none 0 0)) 62)):=(Kept.refl _ _).alloc _
 unfold bookCells at hk0 K0
 obtain⟨wk,hwk⟩: ∃wk,wd.alloc (.cells #[.int .i64 0,.slice none 0 0,.slice none 0 0,.slice none 0 0,.slice none 0 0,.slice none 0 0,.slice none 0 0,.slice none 0 0,.slice none 0 0,.slice none 0 0,.slice none 0 0,.slice none 0 0,.slice none 0 0,.slice none 0 0,.slice none 0 0,.slice none 0 0] 62)=wk:=⟨_,rfl⟩
 rw[hwk] at hk0 K0
 have hzo:=HZO.out.keep (HVD.out.trans ((K0.below (Nat.le_refl _) fun _ h=>h).mono HVD.out.size))
 have y0:=hzo.p0
 have y1:=hzo.p1
 have y2:=hzo.p2
 have y3:=hzo.p3
 have HK0:=Lib.hid K0
 have HCS:=Lib.hid (putSen_any wd.heap.size 0 E _ 0 [] _ 0 [] _ 0 [] _ 0 [] _ 0 [] (some ⟨g1,0,none⟩) n1 (n1+1) (some ⟨g2,0,none⟩) n2 (n2+1) (some ⟨g3,0,none⟩) n3 (n3+1) (some ⟨g4,0,none⟩) n4 (n4+1) wd wk rfl HE.out K0 hk0 (by have:=HN.out;omega) (by omega) (by omega) (by omega) (by omega) (by omega))
 unfold senV at HCS
 clear hzo K0 hk0
 go_wp2_with fail
 clear hwk y0 y1 y2 y3
 refine HCS.out.mono ?_
 rintro e x1 ⟨rfl,uS,uM,uO,uL,K1,-,k1⟩
 have HK1:=Lib.hid (HK0.out.trans k1)
 have HBK1:=Lib.hid K1
 have HCI:=Lib.hid (putI_any wd.heap.size (0+1+1+1+n4+1) _ _ _ _ _ _ _ _ _ _ _ _ _ _ _ Aa na ca x1 K1 (by have:=HN.out;omega) (by omega))
 clear K1 k1 HCS HK0
 go_wp2_with fail
 refine HCI.out.mono ?_
 rintro e x2 ⟨rfl,uI,K2,k2⟩
 have HK2:=Lib.hid (HK1.out.trans (kept_bk k2 HBK1.out.oI))
 have HBK2:=Lib.hid K2
 have HCI:=Lib.hid (putO_any wd.heap.size (0+1+1+1+n4+1+1) _ _ _ _ _ _ _ _ _ _ _ _ _ _ _ Ab nb cb x2 K2 (by have:=HN.out;omega) (by have:=HN.out;omega))
 clear K2 k2 HK1 HBK1
 go_wp2_with fail
 refine HCI.out.mono ?_
 rintro e x3 ⟨rfl,uO2,K3,k3⟩
 have HK3:=Lib.hid (HK2.out.trans (kept_bk k3 HBK2.out.oO))
 have HBK3:=Lib.hid K3
 have HCI:=Lib.hid (putM_any wd.heap.size (0+1+1+1+n4+1+1+1) _ _ _ _ _ _ _ _ _ _ _ _ _ _ _ Ac nc cc x3 K3 (by have:=HN.out;omega) (by omega))
 clear K3 k3 HK2 HBK2
 go_wp2_with fail
 refine HCI.out.mono ?_
 rintro e x4 ⟨rfl,uM2,K4,k4⟩
 have HK4:=Lib.hid (HK3.out.trans (kept_bk k4 HBK3.out.oM))
 have HX4:=Lib.hid (HK4.out.below (Nat.le_refl _) fun _ h=>h)
 have HBK4:=Lib.hid K4
 have HB4:=Lib.hid (HBD.out.trans (HX4.out.mono HBD.out.size))
 have hzs:=HZB.out.keep (HVB.out.trans ((HVD.out.trans (HX4.out.mono HVD.out.size)).mono HVB.out.size))
 have z0:=hzs.p0
 have z1:=hzs.p1
 have z2:=hzs.p2
 have z3:=hzs.p3
 have HCI:=Lib.hid (I.of_ref z A1 n1 c1 A2 n2 c2 A3 n3 c3 A4 n4 c4 x4 (HSA.out x4 HB4.out) (by have:=HSM.out.p;omega))
 unfold senV at HCI
 clear K4 k4 hzs HK3 HBK3 HK4
 go_wp2_with fail
 clear z0 z1 z2 z3
 refine HCI.out.mono ?_
 rintro e x5 ⟨Aj,nj,cj,rfl,hrj,hv⟩
 have HX5:=Lib.hid (HX4.out.trans (hv.mono HX4.out.size))
 have HY5:=Lib.hid hv
 have r1:=HR1.out.at_size (Nat.le_refl _) HX5.out
 obtain rfl:na=nj:=r1.len.symm.trans hrj.len
 have HC1:=Lib.hid (sameInts_any Aa Aj na ca cj _ _ _ x5 r1 hrj)
 clear hrj r1 hv HCI HR1
 go_wp2_with fail
 refine HC1.out.mono ?_
 rintro e x6 ⟨rfl,hv⟩
 have HX6:=Lib.hid (HX5.out.trans (hv.mono HX5.out.size))
 have HY6:=Lib.hid (HY5.out.trans (hv.mono HY5.out.size))
 have HC1:=Lib.hid (sameBools_any Ab Af nb cb cf _ _ _ x6 (HR2.out.at_size (Nat.le_refl _) HX6.out) (HQ2.out.at_size (Nat.le_refl _) HX6.out))
 clear hv HR2 HQ2 HX5 HY5
 go_wp2_with fail
 refine HC1.out.mono ?_
 rintro e x7 ⟨rfl,hv⟩
 have HX7:=Lib.hid (HX6.out.trans (hv.mono HX6.out.size))
 have HY7:=Lib.hid (HY6.out.trans (hv.mono HY6.out.size))
 have HC1:=Lib.hid (sameNums_any Ac Ag nc cc cg _ _ _ x7 (HR3.out.at_size (Nat.le_refl _) HX7.out) (HQ3.out.at_size (Nat.le_refl _) HX7.out))
 clear hv HR3 HQ3 HX6 HY6
 go_wp2_with fail
 refine HC1.out.mono ?_
 rintro e x8 ⟨rfl,hv⟩
 have HX8:=Lib.hid (HX7.out.trans (hv.mono HX7.out.size))
 have HY8:=Lib.hid (HY7.out.trans (hv.mono HY7.out.size))
 have HC1:=Lib.hid (sameBools_any Ad Ah nd cd ch _ _ _ x8 (HR4.out.at_size (Nat.le_refl _) HX8.out) (HQ4.out.at_size (Nat.le_refl _) HX8.out))
 clear hv HR4 HQ4 HX7 HY7
 go_wp2_with fail
 refine HC1.out.mono ?_
 rintro e x9 ⟨rfl,hv⟩
 have HX9:=Lib.hid (HX8.out.trans (hv.mono HX8.out.size))
 have HY9:=Lib.hid (HY8.out.trans (hv.mono HY8.out.size))
 have HC1:=Lib.hid (sameNums_any Ae Ai ne ce ci _ _ _ x9 (HR5.out.at_size (Nat.le_refl _) HX9.out) (HQ5.out.at_size (Nat.le_refl _) HX9.out))
 clear hv HR5 HQ5 HX8 HY8
 go_wp2_with fail
 refine HC1.out.mono ?_
 rintro e xa ⟨rfl,hv⟩
 have HXA:=Lib.hid (HX9.out.trans (hv.mono HX9.out.size))
 have HYA:=Lib.hid (HY9.out.trans (hv.mono HY9.out.size))
 have hzo:=HZO.out.keep (HVD.out.trans (HXA.out.mono HVD.out.size))
 have y0:=hzo.p0
 have y1:=hzo.p1
 have y2:=hzo.p2
 have y3:=hzo.p3
 have hzs:=HZB.out.keep (HVB.out.trans ((HVD.out.trans (HXA.out.mono HVD.out.size)).mono HVB.out.size))
 have z0:=hzs.p0
 have z1:=hzs.p1
 have z2:=hzs.p2
 have z3:=hzs.p3
 have HC1:=Lib.hid (I.leftSen_any wa g1 g2 g3 g4 A1 n1 c1 A2 n2 c2 A3 n3 c3 A4 n4 c4 z xa (HT.out.keep (HVD.out.trans (HXA.out.mono HVD.out.size))) (HSA.out xa (HBD.out.trans (HXA.out.mono HBD.out.size))) (by have:=HN.out;omega) (fun r hr=>by have:=HSM.out.row r hr;omega))
 unfold senV at HC1
 clear hv hzo hzs HX9 HY9
 go_wp2_with fail
 clear y0 y1 y2 y3 z0 z1 z2 z3
 refine HC1.out.mono ?_
 rintro e xb ⟨rfl,hv⟩
 have HXB:=Lib.hid (HXA.out.trans (hv.mono HXA.out.size))
 have HYB:=Lib.hid (HYA.out.trans (hv.mono HYA.out.size))
 have HVX:=Lib.hid (HVD.out.trans (HXB.out.mono HVD.out.size))
 have keepX: ∀{E' sz:Nat} {e:Ent},Lone E' sz wd e→Lone E' sz xb e:=fun h=>h.keep (Kept.of_below (D:=fun _=>False) HXB.out) fun _ _=>id
 have HCA:=Lib.hid (apart_all wa wb g1 g2 g3 g4 z n1 n2 n3 n4 wd.heap.size Aa na ca Ab nb cb Ac nc cc E _ _ _ _ _ xb (bookK_keep HBK4.out HYB.out) HT.out HVX.out HVD.out.size HLG.out HGE.out HGD.out ⟨fun no=>keepX (HLA.out.1 no),HLA.out.2⟩ ⟨fun no=>keepX (HLB.out.1 no),fun a e=>Nat.le_trans HV6.out.size (HLB.out.2 a e)⟩ ⟨fun no=>keepX (HLC.out.1 no),fun a e=>Nat.le_trans HV6.out.size (HLC.out.2 a e)⟩ HN.out)
 have HEN:=Lib.hid (HBB.out.trans (HVX.out.mono HBB.out.size))
 have HBW:=Lib.hid HBS.out
 clear hv HC1 HXA HYA keepX
 go_wp2_with fail
 refine HCA.out.mono ?_
 rintro e xc ⟨rfl,hv⟩
 have HXC:=Lib.hid (HEN.out.trans (hv.mono HBW.out))
 clear hv HCA
 go_wp2_with fail
 refine(lives_any _).mono ?_
 rintro e xd ⟨rfl,hv⟩
 have HXD:=Lib.hid (HXC.out.trans (hv.mono HXC.out.size))
 clear hv
 go_wp2_with fail
 go_ret
 exact⟨rfl,HXD.out⟩
end Go.Proofs.YtphklakjadchmaaGreatDoor
