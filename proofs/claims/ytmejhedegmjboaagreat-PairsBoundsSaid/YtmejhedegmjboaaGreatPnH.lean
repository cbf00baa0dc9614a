import Derived.Test.YtmejhedegmjboaaGreatPnF
import Derived.Test.YtmejhedegmjboaaGreatRfY
set_option maxRecDepth 100000
set_option maxHeartbeats 4000000
namespace Go.Proofs.YtmejhedegmjboaaGreat.I
open Go.RowKit PaC
theorem ZfA {w:World}{z:Sen}{A1:Option Addr}{n1 c1:Nat}{A2:Option Addr}{n2 c2:Nat}{A3:Option Addr}{n3 c3:Nat}{A4:Option Addr}{n4 c4:Nat}(h:Zx w z A1 n1 c1 A2 n2 c2 A3 n3 c3 A4 n4 c4)(i:Nat):lw z i < 18446744073709551616:=by
 unfold lw
 by_cases hi:i < z.lo.length
 ·rw[List.getD_eq_getElem?_getD,List.getElem?_eq_getElem hi]
  exact h.fl _ (List.getElem_mem hi)
 ·rw[List.getD_eq_getElem?_getD,List.getElem?_eq_none (by omega)]
  decide
theorem ZfB {w:World}{z:Sen}{A1:Option Addr}{n1 c1:Nat}{A2:Option Addr}{n2 c2:Nat}{A3:Option Addr}{n3 c3:Nat}{A4:Option Addr}{n4 c4:Nat}(h:Zx w z A1 n1 c1 A2 n2 c2 A3 n3 c3 A4 n4 c4)(i:Nat):hg z i < 18446744073709551616:=by
 unfold hg
 by_cases hi:i < z.hi.length
 ·rw[List.getD_eq_getElem?_getD,List.getElem?_eq_getElem hi]
  exact h.fh _ (List.getElem_mem hi)
 ·rw[List.getD_eq_getElem?_getD,List.getElem?_eq_none (by omega)]
  decide
theorem Zd5 {c:Cfg}(h:c.n=0):c.sorted= []:=by
 unfold Cfg.sorted Cfg.vnsI
 rw[h]
 rfl
theorem Zd6 (t:Nat)(B:Option Addr)(m d q:Nat)(A1:Option Addr)(n1 c1:Nat)(A2:Option Addr)(n2 c2:Nat)(A3:Option Addr)(n3 c3:Nat)(A4:Option Addr)(n4 c4:Nat)(D1:Option Addr)(e1:Nat)(D2:Option Addr)(e2:Nat)(w:World):
  Calls Tryz.prog 65 #[.agg #[.int .i64 (t:Int),.slice B m d,.int .i64 (q:Int),.slice A1 n1 c1,.slice A2 n2 c2,.slice A3 n3 c3,.slice A4 n4 c4],.slice D1 0 e1,.slice D2 0 e2] w fun e w'=>e= .returned (.slice none 0 0)∧Below w.heap.size w w':=by
 have hal:Below w.heap.size w (w.alloc (.cells #[.int .i64 (t:Int),.slice B m d,.int .i64 (q:Int),.slice A1 n1 c1,.slice A2 n2 c2,.slice A3 n3 c3,.slice A4 n4 c4] 93)):=bA
 have HW0:=Hd hal
 clear hal
 go_enter Tryz.func65,Tryz.ntmps65
 go_wp2_with fail
 generalize w.alloc (.cells #[.int .i64 (t:Int),.slice B m d,.int .i64 (q:Int),.slice A1 n1 c1,.slice A2 n2 c2,.slice A3 n3 c3,.slice A4 n4 c4] 93)=wa at*
 go_loopw [7,8] (fun v7 v8 wr=>v7= .slice none 0 0∧v8= .int .i64 0∧wr=wa) (fun _ _ _=>0)
 case atStart=>exact⟨rfl,rfl,rfl⟩
 case round=>(
 obtain⟨rfl,rfl,rfl⟩:=hrel
 go_wp2_with fail
 go_loopw [9,10] (fun v9 v10 wx=>v9= .slice none 0 0∧v10= .int .i64 0∧wx=wr) (fun _ _ _=>0)
 case atStart=>exact⟨rfl,rfl,rfl⟩
 case round=>(
 obtain⟨rfl,rfl,rfl⟩:=hrel
 go_wp2_with fail
 go_loopw [7,9,13] (fun v7 v9 v13 wx=>v7= .slice none 0 0∧v9= .slice none 0 0∧v13= .int .i64 0∧wx=wr) (fun _ _ _ _=>0)
 case atStart=>exact⟨rfl,rfl,rfl,rfl⟩
 case round=>(
 obtain⟨rfl,rfl,rfl,rfl⟩:=hrel
 go_wp2_with fail
 go_loopw [7,18] (fun v7 v18 wx=>v7= .slice none 0 0∧v18= .int .i64 0∧wx=wr) (fun _ _ _=>0)
 case atStart=>exact⟨rfl,rfl,rfl⟩
 case round=>(
 obtain⟨rfl,rfl,rfl⟩:=hrel
 go_wp2_with fail
 go_loopw [19,20] (fun v19 v20 wx=>v19= .slice none 0 0∧v20= .int .i64 0∧wx=wr) (fun _ _ _=>0)
 case atStart=>exact⟨rfl,rfl,rfl⟩
 case round=>(
 obtain⟨rfl,rfl,rfl⟩:=hrel
 go_wp2_with fail
 go_ret
 exact⟨rfl,HW0.out⟩)))))
theorem ZfC (t:Nat)(B:Option Addr)(m d q:Nat)(S:Bo.Sr)(z:Sen)(A1:Option Addr)(n1 c1:Nat)(A2:Option Addr)(n2 c2:Nat)(A3:Option Addr)(n3 c3:Nat)(A4:Option Addr)(n4 c4:Nat)(D1:Option Addr)(k1 e1:Nat)(D2:Option Addr)(k2 e2:Nat)(w:World)(hs:Bo.RSrt w.heap.size w t B m d q S)(h:Zx w z A1 n1 c1 A2 n2 c2 A3 n3 c3 A4 n4 c4)(hw:Zn z=true)(hn:n1≤1000)(h1:Rd nmI w w.heap.size D1 k1 e1 (alF z))(h2:Rd Value.bool w w.heap.size D2 k2 e2 (fixF S z)):
  Calls Tryz.prog 65 #[.agg #[.int .i64 (t:Int),.slice B m d,.int .i64 (q:Int),.slice A1 n1 c1,.slice A2 n2 c2,.slice A3 n3 c3,.slice A4 n4 c4],.slice D1 k1 e1,.slice D2 k2 e2] w fun e w'=> ∃A N c,e= .returned (.slice A N c)∧w'.ownsRow w.heap.size 95 3 (.slice A N c) N ((cfg S z).sorted.flatMap ndC)∧Below w.heap.size w w':=by
 have hlen:=h.rp.len
 have ea:alF z=(List.range z.p.length).map (first z):=if_pos hw
 have ef:fixF S z=(List.range z.p.length).map (fixB S z):=if_pos hw
 have l1:n1=k1:=by(
 have:=h1.len
 rw[ea,List.length_map,List.length_range] at this
 omega)
 have l2:n1=k2:=by(
 have:=h2.len
 rw[ef,List.length_map,List.length_range] at this
 omega)
 subst l1
 subst l2
 rcases Nat.eq_zero_or_pos n1 with h0|h0
 ·(
 subst h0
 refine(Zd6 t B m d q A1 0 c1 A2 n2 c2 A3 n3 c3 A4 n4 c4 D1 e1 D2 e2 w).mono ?_
 rintro e w' ⟨rfl,hb⟩
 refine⟨none,0,0,rfl,?_,hb⟩
 rw[Zd5 (show(cfg S z).n=0 from hlen)]
 exact World.ownsRow_nil _ _ _ _)
 ·(
 obtain⟨p0,o0,p1,o1,p2,o2,p4,o4,rfl,rfl,rfl,rfl,g2,g3,g4,hL,hsd,hcl⟩:=Zgc h hw h0
 obtain rfl:=g2.symm
 obtain rfl:=g3.symm
 obtain rfl:=g4.symm
 obtain⟨b1,q1,rfl,hb1,hc1⟩:=h1.spot h0
 obtain⟨b2,q2,rfl,hb2,hc2⟩:=h2.spot h0
 have hal:Below w.heap.size w (w.alloc (.cells #[.int .i64 (t:Int),.slice B m d,.int .i64 (q:Int),.slice (some ⟨p0,o0,none⟩) n1 c1,.slice (some ⟨p1,o1,none⟩) n1 c2,.slice (some ⟨p2,o2,none⟩) n1 c3,.slice (some ⟨p4,o4,none⟩) n1 c4] 93)):=bA
 have hfl:=ZfA h
 have hfh:=ZfB h
 refine(Zej t B m d q n1 c1 c2 c3 c4 p0 o0 p1 o1 p2 o2 p4 o4 (cfg S z) b1 q1 e1 b2 q2 e2 w hlen hn ⟨fun i hi=> ?_,fun i hi=> ?_,fun i hi=> ?_,fun W hW a b ha hb=> ?_,fun W hW a b ha hb=> ?_,fun W hW a b ha hb=> ?_⟩)
 ·(
 have hi':i < (alF z).length:=by rw[h1.len];exact hi
 have:=hc1 i hi'
 have e:(alF z)[i]=first z i:=by(
 have:=List.getElem_of_eq ea hi'
 rw[this]
 simp)
 rw[e] at this
 exact Za this hal)
 ·(
 have hi':i < (fixF S z).length:=by rw[h2.len];exact hi
 have:=hc2 i hi'
 have e:(fixF S z)[i]=fixB S z i:=by(
 have:=List.getElem_of_eq ef hi'
 rw[this]
 simp)
 rw[e] at this
 exact Za this hal)
 ·exact Za (hcl.s i hi) hal
 ·exact ZdT z t B m d q n1 c1 c2 c3 c4 p0 o0 p1 o1 p2 o2 p4 o4 a b W (hcl.keep (hal.trans (hW.mono hal.size))) hL hn ha hb
 ·exact ZbU z t B m d q n1 c1 c2 c3 c4 p0 o0 p1 o1 p2 o2 p4 o4 a b W (hcl.keep (hal.trans (hW.mono hal.size))) hL hn ha hb
 ·have hp:=ZiA z t B m d q n1 c1 c2 c3 c4 p0 o0 p1 o1 p2 o2 p4 o4 S a b W (hs.keep (hal.trans (hW.mono hal.size))) (hcl.keep (hal.trans (hW.mono hal.size))) hL hfl hfh hn ha hb
  rw[Zix (S:=S) (z:=z) (by rw[hL];exact ha) (by rw[hL];exact hb)] at hp
  exact hp)
theorem Y8 {fn:Func}{t u v x y:Tmp}(h:fn.results= #[.tmp t,.tmp u,.tmp v,.tmp x,.tmp y])(tmps:Array Value)(P:Program)(w:World):
  (results fn tmps).run P w= .ok (.tuple #[tmps.getD t undef,tmps.getD u undef,tmps.getD v undef,tmps.getD x undef,tmps.getD y undef]) w:=by
 simp[results,h]
structure ZfD (S:Bo.Sr)(z:Sen)(w:World)(D1:Option Addr)(k1 e1:Nat)(D2:Option Addr)(k2 e2:Nat)(D3:Option Addr)(k3 e3:Nat)(A:Option Addr)(N c:Nat):Prop where
 f:Rd nmI w w.heap.size D1 k1 e1 (alF z)
 x:Rd Value.bool w w.heap.size D2 k2 e2 (fixF S z)
 v:Rd La.nm w w.heap.size D3 k3 e3 (fvF S z)
 n:Rs ndC 3 w w.heap.size A N c (cfg S z).sorted
theorem ZfD.keep {S:Bo.Sr}{z:Sen}{w W:World}{D1:Option Addr}{k1 e1:Nat}{D2:Option Addr}{k2 e2:Nat}{D3:Option Addr}{k3 e3:Nat}{A:Option Addr}{N c:Nat}(h:ZfD S z w D1 k1 e1 D2 k2 e2 D3 k3 e3 A N c)(hb:Below w.heap.size w W):ZfD S z W D1 k1 e1 D2 k2 e2 D3 k3 e3 A N c:=
 ⟨h.f.at_size lR hb,h.x.at_size lR hb,h.v.at_size lR hb,h.n.at_size lR hb⟩
theorem ZfE (t:Nat)(B:Option Addr)(m d q:Nat)(S:Bo.Sr)(z:Sen)(A1:Option Addr)(n1 c1:Nat)(A2:Option Addr)(n2 c2:Nat)(A3:Option Addr)(n3 c3:Nat)(A4:Option Addr)(n4 c4:Nat)(w:World)(hs:Bo.RSrt w.heap.size w t B m d q S)(h:Zx w z A1 n1 c1 A2 n2 c2 A3 n3 c3 A4 n4 c4)(hn:n1≤1000):
  Calls Tryz.prog 36 #[Bo.rsV t B m d q,senV A1 n1 c1 A2 n2 c2 A3 n3 c3 A4 n4 c4] w fun e w'=> ∃D1 k1 e1 D2 k2 e2 D3 k3 e3 A N c,e= .returned (.tuple #[.slice D1 k1 e1,.slice D2 k2 e2,.slice D3 k3 e3,.slice A N c,.bool (Zn z)])∧(Zn z=true→ZfD S z w' D1 k1 e1 D2 k2 e2 D3 k3 e3 A N c)∧Below w.heap.size w w':=by
 obtain⟨r,hr⟩: ∃r,Zn z=r:=⟨_,rfl⟩
 have HR:=Hd hr
 obtain⟨x,hx⟩: ∃x,w.alloc (.cells #[.int .i64 (t:Int),.slice B m d,.int .i64 (q:Int)] 37)=x:=⟨_,rfl⟩
 obtain⟨y,hy⟩: ∃y,x.alloc (.cells #[.slice A1 n1 c1,.slice A2 n2 c2,.slice A3 n3 c3,.slice A4 n4 c4] 28)=y:=⟨_,rfl⟩
 have b0:Below w.heap.size w x:=hx▸bA
 have sx:x.heap.size=w.heap.size+1:=by rw[← hx,World.size_alloc]
 have b1:Below x.heap.size x y:=hy▸bA
 have k0:=hx▸heap_alloc_new w (.cells #[.int .i64 (t:Int),.slice B m d,.int .i64 (q:Int)] 37)
 have hrb:RBox y w.heap.size t B m d q:=(RBox.of k0).keep b1
 have hz:ZB y (w.heap.size+1) A1 n1 c1 A2 n2 c2 A3 n3 c3 A4 n4 c4:=by rw[← sx, ← hy];exact ZB.of (heap_alloc_new x _)
 have hb:Below w.heap.size w y:=b0.trans (b1.mono b0.size)
 have HB:=Hd hb
 have HZ:=Hd hz
 have HQ:=Hd hrb
 have HSW:Hid (∀W,Below w.heap.size w W→Zx W z A1 n1 c1 A2 n2 c2 A3 n3 c3 A4 n4 c4):=Hd fun W hW=>h.keep hW
 have HRS:Hid (∀W,Below w.heap.size w W→Bo.RSrt W.heap.size W t B m d q S):=Hd fun W hW=>hs.keep hW
 have HN:=Hd hn
 have HWH:Hid (∀W,Below w.heap.size w W→Calls Tryz.prog 62 #[.agg #[.slice A1 n1 c1,.slice A2 n2 c2,.slice A3 n3 c3,.slice A4 n4 c4]] W fun e w'=>e= .returned (.bool r)∧Below W.heap.size W w'):=Hd fun W hW=>YC A1 n1 c1 A2 n2 c2 A3 n3 c3 A4 n4 c4 z W (HSW.out W hW) (by omega) r hr
 have HOF:Hid (∀W,Below w.heap.size w W→Calls Tryz.prog 63 #[.agg #[.slice A1 n1 c1,.slice A2 n2 c2,.slice A3 n3 c3,.slice A4 n4 c4]] W fun e w'=> ∃A n c,e= .returned (.slice A n c)∧Rd nmI w' w'.heap.size A n c (alF z)∧Below W.heap.size W w'):=Hd fun W hW=>ZlJ z A1 n1 c1 A2 n2 c2 A3 n3 c3 A4 n4 c4 W (HSW.out W hW) hn
 have HFX:Hid (∀W,Below w.heap.size w W→Calls Tryz.prog 64 #[.agg #[.int .i64 (t:Int),.slice B m d,.int .i64 (q:Int)],.agg #[.slice A1 n1 c1,.slice A2 n2 c2,.slice A3 n3 c3,.slice A4 n4 c4]] W fun e w'=> ∃A n c A' n' c',e= .returned (.tuple #[.slice A n c,.slice A' n' c'])∧Rd Value.bool w' w'.heap.size A n c (fixF S z)∧Rd La.nm w' w'.heap.size A' n' c' (fvF S z)∧Below W.heap.size W w'):=Hd fun W hW=>Zes t B m d q S z A1 n1 c1 A2 n2 c2 A3 n3 c3 A4 n4 c4 W (HRS.out W hW) (HSW.out W hW) hn
 have q0:=hrb.s0
 have q1:=hrb.s1
 have q2:=hrb.s2
 have z0:=hz.p0
 have z1:=hz.p1
 have z2:=hz.p2
 have z3:=hz.p3
 clear hr b0 b1 sx k0 hrb hz hb h hs hn
 subst hx
 unfold senV Bo.rsV
 go_enter Tryz.func36,Tryz.ntmps36
 go_wp2_with fail
 generalize hwd:World.alloc (World.alloc w _) _=wd'
 obtain rfl:y=wd':=hy.symm.trans hwd
 clear hwd hy
 refine(HWH.out y HB.out).mono ?_
 rintro e w1 ⟨rfl,hv⟩
 have HV1:=Hd hv
 have hz:=HZ.out.keep hv
 replace z0:=hz.p0
 replace z1:=hz.p1
 replace z2:=hz.p2
 replace z3:=hz.p3
 clear hv hz q0 q1 q2 HWH
 cases r with
 |false=>(
 have HB1:=Hd (HB.out.trans (HV1.out.mono HB.out.size))
 go_wp2_with fail
 refine bodyPost_ret (Y8 rfl _ _ _) rfl ?_
 exact⟨none,0,0,none,0,0,none,0,0,none,0,0,by rw[HR.out];rfl,fun e=>(by rw[HR.out] at e;cases e),HB1.out⟩)
 |true=>(
 go_wp2_with fail
 refine(HOF.out w1 (HB.out.trans (HV1.out.mono HB.out.size))).mono ?_
 rintro e w2 ⟨D1,k1,e1,rfl,hd1,hv⟩
 have HD1:=Hd hd1
 have HV2:=Hd (HV1.out.trans (hv.mono HV1.out.size))
 have hz:=HZ.out.keep HV2.out
 have hrb:=HQ.out.keep HV2.out
 replace z0:=hz.p0
 replace z1:=hz.p1
 replace z2:=hz.p2
 replace z3:=hz.p3
 have q0:=hrb.s0
 have q1:=hrb.s1
 have q2:=hrb.s2
 clear hv hz hrb hd1 HOF HV1
 go_wp2_with fail
 refine(HFX.out w2 (HB.out.trans (HV2.out.mono HB.out.size))).mono ?_
 rintro e w3 ⟨D2,k2,e2,D3,k3,e3,rfl,hd2,hd3,hv⟩
 have HD13:=Hd (HD1.out.at_size lR hv)
 have HD2:=Hd hd2
 have HD3:=Hd hd3
 have HV3:=Hd (HV2.out.trans (hv.mono HV2.out.size))
 have HB3:=Hd (HB.out.trans (HV3.out.mono HB.out.size))
 have hz:=HZ.out.keep HV3.out
 have hrb:=HQ.out.keep HV3.out
 replace z0:=hz.p0
 replace z1:=hz.p1
 replace z2:=hz.p2
 replace z3:=hz.p3
 replace q0:=hrb.s0
 replace q1:=hrb.s1
 replace q2:=hrb.s2
 have HND:=Hd (ZfC t B m d q S z A1 n1 c1 A2 n2 c2 A3 n3 c3 A4 n4 c4 D1 k1 e1 D2 k2 e2 w3 (HRS.out w3 HB3.out) (HSW.out w3 HB3.out) HR.out HN.out HD13.out HD2.out)
 clear hv hz hrb hd2 hd3 HFX HV2 HD1
 go_wp2_with fail
 refine HND.out.mono ?_
 rintro e w4 ⟨A,N,c,rfl,ho,hv⟩
 have HNS:=Hd (Rs.of_own ZC (by decide) ho)
 have HB4:=Hd (HB3.out.trans (hv.mono HB3.out.size))
 have HAL:Hid (ZfD S z w4 D1 k1 e1 D2 k2 e2 D3 k3 e3 A N c):=Hd ⟨HD13.out.at_size lR hv,HD2.out.at_size lR hv,HD3.out.at_size lR hv,HNS.out⟩
 clear ho hv HND z0 z1 z2 z3 q0 q1 q2
 go_wp2_with fail
 refine bodyPost_ret (Y8 rfl _ _ _) rfl ?_
 exact⟨D1,k1,e1,D2,k2,e2,D3,k3,e3,A,N,c,by rw[HR.out];rfl,fun _=>HAL.out,HB4.out⟩)
end Go.Proofs.YtmejhedegmjboaaGreat.I
