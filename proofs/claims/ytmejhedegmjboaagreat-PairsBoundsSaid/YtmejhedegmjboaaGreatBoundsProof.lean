import Derived.Test.YtmejhedegmjboaaGreatRows
import Derived.Test.YtmejhedegmjboaaGreatDocD
import Derived.Test.YtmejhedegmjboaaGreatLiv
import Derived.Test.YtmejhedegmjboaaGreatOpn
import Derived.Test.YtmejhedegmjboaaGreatPnJ
import Derived.Test.YtmejhedegmjboaaGreatPnK
import Derived.Test.YtmejhedegmjboaaGreatPnL
set_option maxRecDepth 100000
set_option maxHeartbeats 8000000
namespace Go.Proofs.YtmejhedegmjboaaGreat.pairsBounds
open Go.RowKit in
theorem ZbX {w W:World}{t:Nat}{A:Option Addr}{n c m:Nat}{S:Bo.Sr}(h:Bo.RSrt w.heap.size w t A n c m S)(hb:Below w.heap.size w W):Bo.RSrt W.heap.size W t A n c m S:=h.keep hb
open Go.ChangeShapes Go.WideShapes Go.ChangeAt Go.RowKit
theorem walk (A5:Option Addr)(n5 c5:Nat)(k:Int)(rows:List Nat)(z:I.Sen)(A1:Option Addr)(n1 c1:Nat)(A2:Option Addr)(n2 c2:Nat)(A3:Option Addr)(n3 c3:Nat)(A4:Option Addr)(n4 c4:Nat)(A6:Option Addr)(n6 c6:Nat)(ts:List Tm)(w:World)(hr:Rd La.nm w w.heap.size A5 n5 c5 rows)(hrf:La.Fit rows)(h:I.Zx w z A1 n1 c1 A2 n2 c2 A3 n3 c3 A4 n4 c4)(ht:Rs tmc 2 w w.heap.size A6 n6 c6 ts):
  Calls Tryz.prog 3 #[zV A5 n5 c5 k,senV A1 n1 c1 A2 n2 c2 A3 n3 c3 A4 n4 c4,.slice A6 n6 c6] w fun e w'=>e= .returned (.bool true)∧Below w.heap.size w w':=by
 have HSA:Hid (∀W,Below w.heap.size w W→I.Zx W z A1 n1 c1 A2 n2 c2 A3 n3 c3 A4 n4 c4):=Hd fun W hW=>h.keep hW
 have HT:Hid (∀W,Below w.heap.size w W→Rs tmc 2 W W.heap.size A6 n6 c6 ts):=Hd fun W hW=>ht.at_size lR hW
 have HPC:Hid (∀W,Below w.heap.size w W→Calls Tryz.prog 10 #[zV A5 n5 c5 k] W fun e w'=> ∃a b,e= .returned (.tuple #[.iface 74 (.pointer a),.iface 77 (.pointer b)])∧Both w' a b (laOf rows) (efOf k)∧Below W.heap.size W w'):=Hd fun W hW=>Zdf A5 n5 c5 k rows W (hr.at_size lR hW) hrf
 have HDC:Hid (∀W,Below w.heap.size w W→Calls Tryz.prog 11 #[zV A5 n5 c5 k] W fun e w'=> ∃t1 B1 m1 d1 e1 t2 B2 m2 d2 e2,e= .returned (.tuple #[Bo.rsV t1 B1 m1 d1 e1,Bo.rsV t2 B2 m2 d2 e2])∧Bo.RSrt W.heap.size w' t1 B1 m1 d1 e1 (laOf rows)∧Bo.RSrt W.heap.size w' t2 B2 m2 d2 e2 (efOf k)∧Below W.heap.size W w'):=Hd fun W hW=>Zjz A5 n5 c5 k rows W (hr.at_size lR hW) hrf
 have HGA:=Hd fun W (hW:Below w.heap.size w W)=>I.Zd2 A1 n1 c1 A2 n2 c2 A3 n3 c3 A4 n4 c4 z W (h.keep hW)
 have HLEN:=Hd h.rp.len
 have HLT:=Hd ht.len
 have HTOP:=Hd (show n6≤maxLen from Nat.le_trans ht.cap ht.top)
 have HFIT:=Hd (And.intro h.fl h.fh)
 obtain⟨x,hx⟩: ∃x,w.alloc (.cells #[.slice A5 n5 c5,.int .i64 k] 24)=x:=⟨_,rfl⟩
 obtain⟨y,hy⟩: ∃y,x.alloc (.cells #[.slice A1 n1 c1,.slice A2 n2 c2,.slice A3 n3 c3,.slice A4 n4 c4] 28)=y:=⟨_,rfl⟩
 have b0:Below w.heap.size w x:=hx▸bA
 have sx:x.heap.size=w.heap.size+1:=by rw[← hx,World.size_alloc]
 have b1:Below x.heap.size x y:=hy▸bA
 have k0:y.heap[w.heap.size]?=some (.cells #[.slice A5 n5 c5,.int .i64 k] 24 (0,0)):=(b1.block _ (by rw[sx];omega)).trans (hx▸heap_alloc_new w _)
 have k1:y.heap[w.heap.size+1]?=some (.cells #[.slice A1 n1 c1,.slice A2 n2 c2,.slice A3 n3 c3,.slice A4 n4 c4] 28 (0,0)):=by rw[← sx, ← hy];exact heap_alloc_new x _
 have hb:Below w.heap.size w y:=b0.trans (b1.mono b0.size)
 have s0:=(Zb (i:=0) k0).trans rfl
 have s1:=(Zb (i:=1) k0).trans rfl
 have hzb:=I.ZB.of k1
 have HB:=Hd hb
 have HZB:=Hd hzb
 have HS0:=Hd s0
 have HS1:=Hd s1
 have z0:=hzb.p0
 have z1:=hzb.p1
 have z2:=hzb.p2
 have z3:=hzb.p3
 have hga:=HGA.out y hb
 have HG:=Hd hga
 clear b0 b1 sx k0 k1 hb hzb h hr hrf ht s1 hga HGA
 subst hx
 unfold senV at HG ⊢
 unfold zV at HPC HDC ⊢
 go_enter Tryz.func3,Tryz.ntmps3
 go_wp2_with fail
 clear hy
 refine HG.out.mono ?_
 rintro e w1 ⟨⟨gr,rfl,hgr⟩,hv⟩
 have HGR:=Hd hgr
 have HV1:=Hd hv
 replace s0:=Za s0 hv
 clear hv hgr z0 z1 z2 z3 HG
 cases gr with
 |true=>(
 have HBZ:=Hd (HB.out.trans (HV1.out.mono HB.out.size))
 go_wp2_with fail
 refine(Yz _).mono ?_
 rintro e wz ⟨rfl,hv⟩
 have HZ:=Hd (HBZ.out.trans (hv.mono HBZ.out.size))
 clear hv
 go_wp2_with fail
 go_ret
 exact⟨rfl,HZ.out⟩)
 |false=>
 by_cases hbig:100 < n5
 ·(
 have hbig':(100:Int) < (n5:Int):=by omega
 have HBZ:=Hd (HB.out.trans (HV1.out.mono HB.out.size))
 clear hbig
 go_wp2_with fail
 refine(Yz _).mono ?_
 rintro e wz ⟨rfl,hv⟩
 have HZ:=Hd (HBZ.out.trans (hv.mono HBZ.out.size))
 clear hv
 go_wp2_with fail
 go_ret
 exact⟨rfl,HZ.out⟩)
 have hbig': ¬(100:Int) < (n5:Int):=by omega
 by_cases hbig2:200 < n6
 ·(
 have hbig2':(200:Int) < (n6:Int):=by omega
 have HBZ:=Hd (HB.out.trans (HV1.out.mono HB.out.size))
 clear hbig hbig2
 go_wp2_with fail
 refine(Yz _).mono ?_
 rintro e wz ⟨rfl,hv⟩
 have HZ:=Hd (HBZ.out.trans (hv.mono HBZ.out.size))
 clear hv
 go_wp2_with fail
 go_ret
 exact⟨rfl,HZ.out⟩)
 have hbig2': ¬(200:Int) < (n6:Int):=by omega
 have HN6:Hid (n6≤200):=Hd (by omega)
 have HSM:=Hd (HGR.out rfl)
 have s1:=Za HS1.out HV1.out
 have hcp:=HPC.out w1 (HB.out.trans (HV1.out.mono HB.out.size))
 have HCP:=Hd hcp
 clear hcp hbig hbig2 HPC HGR
 go_wp2_with fail
 refine HCP.out.mono ?_
 rintro e w2 ⟨a,b,rfl,hbo,hv⟩
 have HV2:=Hd (HV1.out.trans (hv.mono HV1.out.size))
 have HBO:=Hd hbo
 have HB2:=Hd (HB.out.trans (HV2.out.mono HB.out.size))
 have s0:=Za HS0.out HV2.out
 have s1:=Za HS1.out HV2.out
 have HDD:=Hd (HDC.out w2 HB2.out)
 clear hv hbo HCP HV1 HDC hbig' hbig2'
 go_wp2_with fail
 refine HDD.out.mono ?_
 rintro e w3 ⟨t1,B1,m1,d1,e1,t2,B2,m2,d2,e2,rfl,hs,-,hv⟩
 have HSR:=Hd (hs.mono hv.size)
 have HV3:=Hd (HV2.out.trans (hv.mono HV2.out.size))
 have HBO3:=Hd (HBO.out.keep hv)
 clear hs hv HDD s0 s1 HBO
 unfold Bo.rsV
 go_wp2_with fail
 obtain⟨g9,hg9⟩: ∃b,w3.heap.size=b:=⟨_,rfl⟩
 obtain⟨w4,hw4⟩: ∃x,(w3.alloc (.cells #[.int .i64 (t1:Int),.slice B1 m1 d1,.int .i64 (e1:Int)] 37)).alloc (.cells #[.int .i64 (t2:Int),.slice B2 m2 d2,.int .i64 (e2:Int)] 37)=x:=⟨_,rfl⟩
 have ha1:Below w3.heap.size w3 (w3.alloc (.cells #[.int .i64 (t1:Int),.slice B1 m1 d1,.int .i64 (e1:Int)] 37)):=bA
 have ha2:Below (w3.alloc (.cells #[.int .i64 (t1:Int),.slice B1 m1 d1,.int .i64 (e1:Int)] 37)).heap.size (w3.alloc (.cells #[.int .i64 (t1:Int),.slice B1 m1 d1,.int .i64 (e1:Int)] 37)) ((w3.alloc (.cells #[.int .i64 (t1:Int),.slice B1 m1 d1,.int .i64 (e1:Int)] 37)).alloc (.cells #[.int .i64 (t2:Int),.slice B2 m2 d2,.int .i64 (e2:Int)] 37)):=bA
 have k0:=(ha2.block w3.heap.size (by rw[World.size_alloc];omega)).trans (heap_alloc_new w3 (.cells #[.int .i64 (t1:Int),.slice B1 m1 d1,.int .i64 (e1:Int)] 37))
 have h34:=ha1.trans (ha2.mono ha1.size)
 rw[hw4] at k0 h34 ⊢
 rw[hg9] at k0
 try rw[hg9]
 have HRB4:=Hd (RBox.of k0)
 have HV4:=Hd (HV3.out.trans (h34.mono HV3.out.size))
 have HBO4:=Hd (HBO3.out.keep h34)
 have HSR4:=Hd (ZbX HSR.out h34)
 have HBL4:=Hd (HB.out.trans (HV4.out.mono HB.out.size))
 have HTT:=Hd (Tt.Zg6 A6 n6 c6 ts w4 (HT.out w4 HBL4.out) (by have:=HN6.out;omega))
 clear ha1 ha2 k0 h34 hw4 hg9 HBO3 HSR HV3
 refine HTT.out.mono ?_
 rintro e w5 ⟨gt,rfl,htw,hv⟩
 have HTW:=Hd htw
 have HV5:=Hd (HV4.out.trans (hv.mono HV4.out.size))
 have HBL5:=Hd (HB.out.trans (HV5.out.mono HB.out.size))
 have HRB5:=Hd (HRB4.out.keep hv)
 have HBO5:=Hd (HBO4.out.keep hv)
 have HSR5:=Hd (ZbX HSR4.out hv)
 have HZ5:=Hd (HZB.out.keep HV5.out)
 clear hv htw HTT HV4 HBO4 HSR4 HRB4
 go_wp2_with fail
 go_loopw [12] (fun v12 wr=> ∃n:Int,v12= .int .i64 n∧ -1≤n∧n≤4∧Below w5.heap.size w5 wr) (fun v12 _=>(4 - intOf v12).toNat)
 case atStart=>exact⟨-1,rfl,by omega,by omega,Below.refl _ _⟩
 case round=>(
 obtain⟨n,rfl,hn1,hn4,hb⟩:=hrel
 have HBW:=Hd hb
 by_cases hlt:n < 4
 case pos=>(
 have HLT:=Hd (And.intro hn1 hlt)
 have HBB:Hid (∀W,Below wr.heap.size wr W→Below w.heap.size w W∧Below w5.heap.size w5 W):=Hd fun W hW=>⟨HBL5.out.trans ((hb.trans (hW.mono hb.size)).mono HBL5.out.size),hb.trans (hW.mono hb.size)⟩
 have HP1:Hid (∀W,Below wr.heap.size wr W→Calls Tryz.prog 14 #[.iface 74 (.pointer a),.agg #[.slice A1 n1 c1,.slice A2 n2 c2,.slice A3 n3 c3,.slice A4 n4 c4],.slice (some ⟨gt,0,none⟩) n6 (n6+1),.int .i64 n] W fun e w'=> ∃A' N' c',e= .returned (.slice A' N' c')∧w'.ownsRow W.heap.size 69 4 (.slice A' N' c') N' ((I.bdsAns (laOf rows) z ts n).flatMap Bo.bdc)∧Below W.heap.size W w'):=Hd fun W hW=>I.UJ (.iface 74 (.pointer a)) (laOf rows) (Qr _) z A1 n1 c1 A2 n2 c2 A3 n3 c3 A4 n4 c4 _ _ _ ts n W (HBO5.out.keep (HBB.out W hW).2).sl.into (HSA.out W (HBB.out W hW).1) (by have:=HSM.out.p;omega) (HTW.out.keep (HBB.out W hW).2).rs
 have HP2:Hid (∀W,Below wr.heap.size wr W→Calls Tryz.prog 15 #[.agg #[.int .i64 (t1:Int),.slice B1 m1 d1,.int .i64 (e1:Int)],.agg #[.slice A1 n1 c1,.slice A2 n2 c2,.slice A3 n3 c3,.slice A4 n4 c4],.slice A6 n6 c6,.int .i64 n] W fun e w'=> ∃A' N' c',e= .returned (.slice A' N' c')∧w'.ownsRow W.heap.size 69 4 (.slice A' N' c') N' ((I.bdsAns (laOf rows) z ts n).flatMap Bo.bdc)∧Below W.heap.size W w'):=Hd fun W hW=>I.Zek t1 B1 m1 d1 e1 (laOf rows) (Qr _) z A1 n1 c1 A2 n2 c2 A3 n3 c3 A4 n4 c4 A6 n6 c6 ts n W (ZbX HSR5.out (HBB.out W hW).2) (HSA.out W (HBB.out W hW).1) (by have:=HSM.out.p;omega) (HT.out W (HBB.out W hW).1)
 have HKR:Hid (∀W,Below wr.heap.size wr W→I.ZB W (w.heap.size+1) A1 n1 c1 A2 n2 c2 A3 n3 c3 A4 n4 c4∧RBox W g9 t1 B1 m1 d1 e1):=Hd fun W hW=>⟨HZ5.out.keep (HBB.out W hW).2,HRB5.out.keep (HBB.out W hW).2⟩
 generalize I.bdsAns (laOf rows) z ts n=bl at*
 clear hb
 go_wp2_with fail
 have hkp:=HKR.out _ (Below.refl wr.heap.size wr).drew
 refine wro [0,1,2,3,5,6,7,8,4,9,10,11] [4,9,10] 12 (fun W=>I.ZB W (w.heap.size+1) A1 n1 c1 A2 n2 c2 A3 n3 c3 A4 n4 c4∧RBox W g9 t1 B1 m1 d1 e1) (by kernel_rfl) (fun _ _ _ _ _ h=>h) hkp ?_
 simp only[steps,sE,sD]
 clear hkp
 have HVD:=Hd (show Below wr.heap.size wr wr.drew from(Below.refl _ _).drew)
 generalize World.drew wr=wc at*
 repeat((first|refine Zf rfl ?_|(refine Zd (v:= ?_) rfl rfl ?_ ?_;rotate_left;(focus(rintro w' ⟨⟨x0,x1,x2,x3⟩,x4,x5,x6⟩;go_simp;try with_reducible rfl))));simp only[Act.put,sA,sB,sC])
 refine Ze rfl rfl (fun K hK=> ?_)
 go_simp
 refine(HP1.out _ HVD.out).mono ?_
 rintro e w7 ⟨P,np,cp,rfl,ho,hv⟩
 have HP:=Hd (Rs.of_own Bo.Zr (by decide) ho)
 have HV7:=Hd (HVD.out.trans (hv.mono HVD.out.size))
 have hkp:=HKR.out _ HV7.out
 clear ho hv HP1 HVD
 refine hK.out _ _ (fun _=>hkp) ?_
 clear hK K hkp
 try simp only[Act.put,sA,sB,sC]
 repeat((first|refine Zf rfl ?_|(refine Zd (v:= ?_) rfl rfl ?_ ?_;rotate_left;(focus(rintro w' ⟨⟨x0,x1,x2,x3⟩,x4,x5,x6⟩;go_simp;try with_reducible rfl))));simp only[Act.put,sA,sB,sC])
 refine Ze rfl rfl (fun K hK=> ?_)
 go_simp
 refine(HP2.out _ HV7.out).mono ?_
 rintro e w8 ⟨P',np',cp',rfl,ho,hv⟩
 have hp':=Rs.of_own Bo.Zr (by decide) ho
 have hp:=HP.out.at_size lR hv
 obtain rfl:np=np':=hp.len.symm.trans hp'.len
 have HSB:=Hd (I.Zg3 P P' np cp cp' _ w8 hp hp')
 have HV8:=Hd (HV7.out.trans (hv.mono HV7.out.size))
 have hkp:=HKR.out _ HV8.out
 clear ho hv hp hp' HP HP2 HV7
 refine hK.out _ _ (fun _=>hkp) ?_
 clear hK K hkp
 try simp only[Act.put,sA,sB,sC]
 repeat((first|refine Zf rfl ?_|(refine Zd (v:= ?_) rfl rfl ?_ ?_;rotate_left;(focus(rintro w' ⟨⟨x0,x1,x2,x3⟩,x4,x5,x6⟩;go_simp;try with_reducible rfl))));simp only[Act.put,sA,sB,sC])
 refine Ze rfl rfl (fun K hK=> ?_)
 go_simp
 refine(HSB.out).mono ?_
 rintro e w9 ⟨rfl,hv⟩
 have HV9:=Hd (HV8.out.trans (hv.mono HV8.out.size))
 have hkp:=HKR.out _ HV9.out
 clear hv HSB HV8
 refine hK.out _ _ (fun _=>hkp) ?_
 clear hK K hkp
 try simp only[Act.put,sA,sB,sC]
 repeat((first|refine Zf rfl ?_|(refine Zd (v:= ?_) rfl rfl ?_ ?_;rotate_left;(focus(rintro w' ⟨⟨x0,x1,x2,x3⟩,x4,x5,x6⟩;go_simp;try with_reducible rfl))));simp only[Act.put,sA,sB,sC])
 refine Zg ?_
 have HBE:=Hd (HBW.out.trans (HV9.out.mono HBW.out.size))
 go_wp2_with fail
 go_roundw
 case rel=>exact⟨n+1,by go_num,by have:=HLT.out;omega,by have:=HLT.out;omega,HBE.out⟩
 case measure=>(
 have:=HLT.out
 simp[intOf]
 omega))
 case neg=>(
 obtain rfl:n=4:=by omega
 have HLF:=Hd (Tt.Zg7 w4 _ A6 gt n6 c6 ts wr (HTW.out.keep hb) (HT.out wr (HBL5.out.trans (hb.mono HBL5.out.size))))
 clear hlt hn1 hn4 hb
 go_wp2_with fail
 refine HLF.out.mono ?_
 rintro e w6 ⟨rfl,hv⟩
 have HB6:=Hd (HBW.out.trans (hv.mono HBW.out.size))
 clear hv HLF
 go_wp2_with fail
 refine(Yz _).mono ?_
 rintro e wz ⟨rfl,hv⟩
 have HZ:=Hd (HBL5.out.trans ((HB6.out.trans (hv.mono HB6.out.size)).mono HBL5.out.size))
 clear hv
 go_wp2_with fail
 go_ret
 exact⟨rfl,HZ.out⟩))
theorem own:ownKnob Tryz.prog.godebug=none:=by kernel_rfl
theorem laidOut:laidOutB Tryz.prog=true:=by kernel_rfl
theorem lifted (os:Os)(started:os.Started)(H:Type)(enc:TypeId×Value→H):
  ReturnsInHanded {} Tryz.checked os 3 .any (Rows.pairsBoundsSpec.pre6 enc Tryz.prog Tryz.f3 Rows.pairsBoundsRow.domain false) (Rows.pairsBoundsSpec.post enc Tryz.prog Tryz.f3 false true false false):=by
 refine returnsInHanded_of_change (C:=Tryz.checked) own started (by kernel_rfl) Tryz.func3
  (ChangeSpec.witness6 (enc:=enc) (C:=Tryz.checked) false ⟨#[],#[.agg #[.slice none 0 0,.int .i64 0],.agg #[.slice none 0 0,.slice none 0 0,.slice none 0 0,.slice none 0 0],.slice none 0 0],[]⟩ 8 (by kernel_rfl) (by kernel_rfl) (by kernel_rfl) (by kernel_rfl)) ?_
 intro W base args ds gs before hval0 hW hcnd _
 have hval: ∀(j:Nat) t v,Tryz.f3.params[j]?=some t→args[j]?=some v→Value.okWide Tryz.prog W .any base t v:=hval0
 have hW':=hW
 obtain⟨p,q,hA0,hV,rfl,hfz,hnd⟩:=hW
 have hA:DataW.TrodAll enc Tryz.prog W 0 (fun _=>true) true Tryz.f3.params.toList args.toList ds p:=hA0
 rw[Tryz.params3] at hA hval
 obtain⟨v0,vs0,d0,ds0,p0,q0,hargs,rfl,rfl,h0,r0⟩:=trodAll_cons hA
 obtain⟨v1,vs1,d1,ds1,p1,q1,rfl,rfl,rfl,h1,r1⟩:=trodAll_cons r0
 obtain⟨v2,vs2,d2,ds2,p2,q2,rfl,rfl,rfl,h2,r2⟩:=trodAll_cons r1
 obtain⟨rfl,rfl,rfl⟩:=trodAll_nil r2
 obtain rfl:args= #[v0,v1,v2]:=by cases args;simp_all
 obtain⟨rfl,rfl⟩:=trodVars_none hV
 have lt0: ∀x∈p0,x.block < W.heap.size:=by obtain⟨m,hm⟩:=h0;exact DataW.trod_lt m _ _ _ hm
 have lt1: ∀x∈p1,x.block < W.heap.size:=by obtain⟨m,hm⟩:=h1;exact DataW.trod_lt m _ _ _ hm
 obtain⟨A6,n6,c6,rfl⟩:=okWide_slice Tryz.underlying29 (hval 2 29 v2 rfl rfl)
 have lt2: ∀x∈p2,x.block < W.heap.size:=by obtain⟨m,hm⟩:=h2;exact DataW.trod_lt m _ _ _ hm
 obtain⟨A5,n5,c5,k,rows,rfl,hr,hrf⟩:=Zbs h0
 obtain⟨z,A1,n1,c1,A2,n2,c2,A3,n3,c3,A4,n4,c4,rfl,ha⟩:=I.Zbf h1
 clear hA0 hval0
 obtain⟨ts,ht⟩:=Za8 h2
 refine(walk A5 n5 c5 k rows z A1 n1 c1 A2 n2 c2 A3 n3 c3 A4 n4 c4 A6 n6 c6 ts W hr hrf ha ht).mono fun e W' ⟨he,bel⟩=> ?_
 subst he
 exact⟨_,rfl,_,_,_,[],_,[],hW',trodAll_mk1 (shut_bool Tryz.underlying4 _),(trodAll_cons_mk (Below.trod laidOut (by kernel_rfl) (of_decide_eq_true (by kernel_rfl)) h0 bel lt0) (trodAll_cons_mk (Below.trod laidOut (by kernel_rfl) (of_decide_eq_true (by kernel_rfl)) h1 bel lt1) (trodAll_cons_mk (Below.trod laidOut (by kernel_rfl) (of_decide_eq_true (by kernel_rfl)) h2 bel lt2) trodAll_mk0))),rfl,bel.frame _,fun h=>by cases h⟩
theorem over:Rows.pairsBoundsRow.holds Tryz.pinned (OpenSpec.ofChange Rows.pairsBoundsSpec):=
 OpenClaim.holds_of_wide 3 Tryz.f3 rfl rfl rfl rfl rfl rfl rfl ⟨rfl,rfl,rfl,rfl,rfl⟩ rfl rfl rfl rfl rfl (by kernel_rfl) Tryz.func3 (by kernel_rfl)
  (of_decide_eq_true (by kernel_rfl)) (by unfold Func.isWrapper;first|(rw[if_pos (by decide+kernel)];kernel_rfl)|(rw[if_neg (by decide+kernel)];exact⟨rfl,rfl⟩))
  (fun os started H enc _=>lifted os started H enc)
theorem proved:Rows.PairsBoundsSaid:=over
end Go.Proofs.YtmejhedegmjboaaGreat.pairsBounds
