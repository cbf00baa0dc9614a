import Derived.Test.YtmejhedegmjboaaGreatRfO
import Derived.Test.YtmejhedegmjboaaGreatRfX
set_option maxRecDepth 100000
set_option maxHeartbeats 8000000
namespace Go.Proofs.YtmejhedegmjboaaGreat.I
open Go.RowKit
theorem ZgI {W W':World}{b n m sz1 sz2:Nat}{E F:TypeId}{v y:Value}{xs ys:List Value}(hE:E≠F)(hy:W.ownsRow b E sz1 y m ys)(hv:W.ownsRow b F sz2 v n xs)(hg:W.grownBy W' v.ownBlock):W'.ownsRow b E sz1 y m ys:=
 Zv hy fun q e=>hg.block q (hy.lt q e).2 fun e'=>by(
 obtain⟨cur,h1⟩:=ZcY hy e
 obtain⟨cur',h2⟩:=ZcY hv e'.symm
 rw[h1] at h2
 injection h2 with h2
 injection h2 with _ h2 _
 exact hE h2)
theorem Zmh (x:Bool):(Value.bool x).oneCell'=true:=rfl
theorem Zmi (w:World)(k:Bool):Rd Value.bool (w.alloc (.cells #[.bool k] 4)) (w.alloc (.cells #[.bool k] 4)).heap.size (some ⟨w.heap.size,0,none⟩) 1 1 [k]:=Rd.new w #[.bool k] 4 1 [k] rfl rfl (by decide)
theorem Zk5 {z:Sen}(h:La.Fit z.lo)(i:Nat):lw z i < 18446744073709551616:=by
 by_cases hi:i < z.lo.length
 ·rw[KA hi];exact h.get i hi
 ·unfold lw
  rw[List.getD_eq_getElem?_getD,List.getElem?_eq_none (by omega)]
  exact(by decide)
theorem Zk6 {z:Sen}(h:La.Fit z.hi)(i:Nat):hg z i < 18446744073709551616:=by
 by_cases hi:i < z.hi.length
 ·rw[Y1 hi];exact h.get i hi
 ·unfold hg
  rw[List.getD_eq_getElem?_getD,List.getElem?_eq_none (by omega)]
  exact(by decide)
structure XB (w:World)(g t:Nat)(B:Option Addr)(m d q:Nat)(A1:Option Addr)(n1 c1:Nat)(A2:Option Addr)(n2 c2:Nat)(A3:Option Addr)(n3 c3:Nat)(A4:Option Addr)(n4 c4:Nat):Prop where
 r:w.heap[g]?=some (.cells #[.int .i64 (t:Int),.slice B m d,.int .i64 (q:Int)] 37 (0,0))
 z:w.heap[g+1]?=some (.cells #[.slice A1 n1 c1,.slice A2 n2 c2,.slice A3 n3 c3,.slice A4 n4 c4] 28 (0,0))
section
variable {w W:World} {g t:Nat} {B:Option Addr} {m d q:Nat} {A1:Option Addr} {n1 c1:Nat} {A2:Option Addr} {n2 c2:Nat} {A3:Option Addr} {n3 c3:Nat} {A4:Option Addr} {n4 c4:Nat}
theorem XB.keep (h:XB w g t B m d q A1 n1 c1 A2 n2 c2 A3 n3 c3 A4 n4 c4)(hb:Below w.heap.size w W):XB W g t B m d q A1 n1 c1 A2 n2 c2 A3 n3 c3 A4 n4 c4:=
 ⟨(hb.block _ (Zh h.r)).trans h.r,(hb.block _ (Zh h.z)).trans h.z⟩
theorem XB.grown (h:XB w g t B m d q A1 n1 c1 A2 n2 c2 A3 n3 c3 A4 n4 c4){base E n sz:Nat}{v:Value}{xs:List Value}(ho:w.ownsRow base E sz v n xs)(hE:E≠37∧E≠28)(hg:w.grownBy W v.ownBlock):XB W g t B m d q A1 n1 c1 A2 n2 c2 A3 n3 c3 A4 n4 c4:=by
 have no: ∀(b F:Nat) (cs:Array Value),w.heap[b]?=some (.cells cs F (0,0))→E≠F→some b≠v.ownBlock:=fun b F cs hb hne e=>by(
 obtain⟨cur,hc⟩:=ZcY ho e.symm
 rw[hb] at hc
 injection hc with hc
 injection hc with _ hc
 exact hne hc.symm)
 exact⟨(hg.block _ (Zh h.r) (no _ _ _ h.r hE.1)).trans h.r,(hg.block _ (Zh h.z) (no _ _ _ h.z hE.2)).trans h.z⟩
end
theorem Zes (t:Nat)(B:Option Addr)(m d q:Nat)(S:Bo.Sr)(z:Sen)(A1:Option Addr)(n1 c1:Nat)(A2:Option Addr)(n2 c2:Nat)(A3:Option Addr)(n3 c3:Nat)(A4:Option Addr)(n4 c4:Nat)(w:World)(hs:Bo.RSrt w.heap.size w t B m d q S)(h:Zx w z A1 n1 c1 A2 n2 c2 A3 n3 c3 A4 n4 c4)(hn:n1≤1000):
  Calls Tryz.prog 64 #[Bo.rsV t B m d q,senV A1 n1 c1 A2 n2 c2 A3 n3 c3 A4 n4 c4] w fun e w'=> ∃A n c A' n' c',e= .returned (.tuple #[.slice A n c,.slice A' n' c'])∧Rd Value.bool w' w'.heap.size A n c (fixF S z)∧Rd La.nm w' w'.heap.size A' n' c' (fvF S z)∧Below w.heap.size w w':=by
 obtain⟨r,hr⟩: ∃r,Zn z=r:=⟨_,rfl⟩
 have HR:=Hd hr
 have HSW:Hid (∀W,Below w.heap.size w W→Zx W z A1 n1 c1 A2 n2 c2 A3 n3 c3 A4 n4 c4):=Hd fun W hW=>h.keep hW
 have HWH:=Hd fun W (hW:Below w.heap.size w W)=>YC A1 n1 c1 A2 n2 c2 A3 n3 c3 A4 n4 c4 z W (h.keep hW) (by omega) r hr
 have HRS:Hid (∀W,Below w.heap.size w W→Bo.RSrt W.heap.size W t B m d q S):=Hd fun W hW=>hs.keep hW
 have HN:=Hd hn
 have HLEN:=Hd h.rp.len
 have HFL:=Hd (Zk5 h.fl)
 have HFH:=Hd (Zk6 h.fh)
 obtain⟨x,hx⟩: ∃x,w.alloc (.cells #[.int .i64 (t:Int),.slice B m d,.int .i64 (q:Int)] 37)=x:=⟨_,rfl⟩
 obtain⟨y,hy⟩: ∃y,x.alloc (.cells #[.slice A1 n1 c1,.slice A2 n2 c2,.slice A3 n3 c3,.slice A4 n4 c4] 28)=y:=⟨_,rfl⟩
 have b0:Below w.heap.size w x:=hx▸bA
 have sx:x.heap.size=w.heap.size+1:=by rw[← hx,World.size_alloc]
 have b1:Below x.heap.size x y:=hy▸bA
 have k0:=hx▸heap_alloc_new w (.cells #[.int .i64 (t:Int),.slice B m d,.int .i64 (q:Int)] 37)
 have hxb:XB y w.heap.size t B m d q A1 n1 c1 A2 n2 c2 A3 n3 c3 A4 n4 c4:=⟨(b1.block _ (Zh k0)).trans k0,by rw[← sx, ← hy];exact heap_alloc_new x _⟩
 have hb:Below w.heap.size w y:=b0.trans (b1.mono b0.size)
 have hz:=ZB.of hxb.z
 have y0:=hz.p0
 have y1:=hz.p1
 have y2:=hz.p2
 have y3:=hz.p3
 have HXB:=Hd hxb
 have HB:=Hd hb
 clear hr hs h hn b0 sx b1 k0 hxb hb hz
 subst hx
 unfold senV at HWH ⊢
 unfold Bo.rsV
 cases r with
 |false=>(
 go_enter Tryz.func64,Tryz.ntmps64
 go_wp2_with fail
 clear hy
 refine(HWH.out _ HB.out).mono ?_
 rintro e w1 ⟨rfl,hv⟩
 have HB1:=Hd (HB.out.trans (hv.mono HB.out.size))
 clear hv HWH y0 y1 y2 y3
 go_wp2_with fail
 go_ret2
 refine⟨none,0,0,none,0,0,rfl,?_,?_,HB1.out⟩
 ·unfold fixF
  rw[HR.out]
  exact Rd.nil _ _
 ·unfold fvF
  rw[HR.out]
  exact Rd.nil _ _)
 |true=>(
 obtain⟨i0,hi0,hz0,hz1,hz2⟩:=info_parts Re.inf4
 obtain⟨i1,hj0,hj1,hj2,hj3⟩:=info_parts La.ZaX
 go_enter Tryz.func64,Tryz.ntmps64
 go_wp2_with fail
 clear hy
 refine(HWH.out _ HB.out).mono ?_
 rintro e w1 ⟨rfl,hv⟩
 have HB1:=Hd (HB.out.trans (hv.mono HB.out.size))
 have HX1:=Hd (HXB.out.keep hv)
 clear hv HWH y0 y1 y2 y3 HB HXB
 go_wp2_with fail
 go_loopw [6,7,8] (fun v6 v7 v8 wr=> ∃(i:Nat) (A:Option Addr) (a c:Nat) (A':Option Addr) (a' c':Nat),v8= .int .i64 (i:Int)∧i≤n1∧v6= .slice A a c∧v7= .slice A' a' c'∧Fresh Value.bool 4 w wr A a c ((List.range i).map (fixB S z))∧Fresh La.nm 60 w wr A' a' c' ((List.range i).map (fvN S z))∧XB wr w.heap.size t B m d q A1 n1 c1 A2 n2 c2 A3 n3 c3 A4 n4 c4) (fun _ _ v8 _=>n1 - (intOf v8).toNat)
 case atStart=>exact⟨0,none,0,0,none,0,0,rfl,Nat.zero_le _,rfl,rfl,⟨World.ownsRow_nil _ _ _ _,HB1.out⟩,⟨World.ownsRow_nil _ _ _ _,HB1.out⟩,HX1.out⟩
 case round=>(
 clear HB1 HX1
 obtain⟨i,A,a,c,A',a',c',rfl,hi,rfl,rfl,hfr,hfv,hxb⟩:=hrel
 have hzb:=ZB.of hxb.z
 have hrb:=RBox.of hxb.r
 by_cases hlt:i < n1
 ·(
 obtain⟨p0,o0,p1,o1,p2,o2,p4,o4,rfl,rfl,rfl,rfl,q2,q3,q4,hL,hsd,hcl⟩:=Zgc (HSW.out wr hfr.bel) HR.out (by omega)
 obtain rfl:n1=n2:=q2.symm
 obtain rfl:n1=n3:=q3.symm
 obtain rfl:n1=n4:=q4.symm
 have hca:=Zen z n1 c1 c2 c3 c4 p0 o0 p1 o1 p2 o2 p4 o4 S t B m d q i wr (HRS.out wr hfr.bel) hcl hL hsd HFL.out HFH.out HN.out hlt
 obtain⟨xb,hxv⟩: ∃x,fixB S z i=x:=⟨_,rfl⟩
 obtain⟨xn,hxn⟩: ∃x,fvN S z i=x:=⟨_,rfl⟩
 rw[hxv,hxn] at hca
 have HC:=Hd hca
 have HXV:=Hd hxv
 have HXN:=Hd hxn
 have hlen:=hfr.len
 have hlen2:=hfv.len
 rw[List.length_map,List.length_range] at hlen hlen2
 obtain⟨ks,hks⟩: ∃ks,(List.range i).map (fixB S z)=ks:=⟨_,rfl⟩
 obtain⟨vs,hvs⟩: ∃ks,(List.range i).map (fvN S z)=ks:=⟨_,rfl⟩
 rw[hks] at hfr
 rw[hvs] at hfv
 have HKS:=Hd hks
 have HVS:=Hd hvs
 have HFR:=Hd hfr
 have HFV:=Hd hfv
 have HXB:=Hd hxb
 have HLT:=Hd hlt
 have HM:=Hd (And.intro hlen hlen2)
 have hin:(i:Int) < (n1:Int):=by omega
 have z0:=hzb.p0
 have z1:=hzb.p1
 have z2:=hzb.p2
 have z3:=hzb.p3
 have s0:=hrb.s0
 have s1:=hrb.s1
 have s2:=hrb.s2
 have hi9:i≤1000:=by have:=HN.out;omega
 clear hlen hlen2 hks hvs hfr hfv hxb hzb hrb hlt hi hcl hsd hL hca hxv hxn
 unfold senV Bo.rsV at HC
 go_wp2_with fail
 refine HC.out.mono ?_
 rintro e w5 ⟨rfl,hv⟩
 have hfr:=Yj HFR.out hv
 have HFV5:=Hd (Yj HFV.out hv)
 have HX5:=Hd (HXB.out.keep hv)
 have q1:=Zmi w5 xb
 clear hv HC z0 z1 z2 z3 s0 s1 s2 HFR HFV HXB
 go_wp2_with (first
  |(at_builtin;refine ZA _ rfl (.tmp 28) (.tmp 30) 71 rfl w.heap.size 4 i0 (.bool false) 1 Tryz.underlying71 hi0 hz0 hz1 hz2 rfl Zmh (.slice A a c) a ks rfl (hfr.own.alloc _) _ _ 1 1 [xb] rfl q1 (by have:=HM.out;unfold maxLen;omega) (by have:=HM.out;omega) (by have:=hfr.bel.size;simp;omega) ?_;intro A2 k2 d2 w6 hk2 own2 hg2 ha2;have hal:Below w5.heap.size w5 (w5.alloc (.cells #[.bool xb] 4)):=bA;have HFV6:Hid (Fresh La.nm 60 w w6 A' a' c' vs):=Hd ⟨ZgI (by decide) (HFV5.out.own.alloc _) (hfr.own.alloc _) hg2,(HFV5.out.bel.alloc HFV5.out.bel.size _).grown hg2 (Nat.le_trans hfr.bel.size (by simp)) (fun j hj=>(hfr.own.lt j hj).1)⟩;have HFR6:Hid (Fresh Value.bool 4 w w6 A2 k2 d2 (ks++ [xb])):=Hd ⟨own2,HFV6.out.bel⟩;have HX6:=Hd ((HX5.out.keep hal).grown (hfr.own.alloc _) ⟨by decide,by decide⟩ hg2);clear own2 hg2 ha2 hfr HFV5 HX5 q1 hal;have hfv:=HFV6.out;have q1:=La.Zdm w6 xn)
  |(at_builtin;refine ZA _ rfl (.tmp 32) (.tmp 34) 22 rfl w.heap.size 60 i1 (.int .u64 0) 8 Tryz.underlying22 hj0 hj1 hj2 hj3 rfl La.ZaW (.slice A' a' c') a' vs rfl (hfv.own.alloc _) _ _ 1 1 [xn] rfl q1 (by have:=HM.out;unfold maxLen;omega) (by have:=HM.out;omega) (by have:=hfv.bel.size;simp;omega) ?_;intro A3 k3 d3 w7 hk3 own3 hg3 ha3))
 go_roundw
 case rel=>(
 have hal:Below w6.heap.size w6 (w6.alloc (.cells #[.int .u64 (xn:Int)] 60)):=bA
 refine⟨i+1,A2,k2,d2,A3,k3,d3,by go_num,HLT.out,rfl,rfl,?_,?_,(HX6.out.keep hal).grown (hfv.own.alloc _) ⟨by decide,by decide⟩ hg3⟩
 ·rw[List.range_succ,List.map_append,HKS.out,List.map_singleton,HXV.out]
  exact⟨ZgI (by decide) (HFR6.out.own.alloc _) (hfv.own.alloc _) hg3,(HFR6.out.bel.alloc HFR6.out.bel.size _).grown hg3 (Nat.le_trans hfv.bel.size (by simp)) (fun j hj=>(hfv.own.lt j hj).1)⟩
 ·rw[List.range_succ,List.map_append,HVS.out,List.map_singleton,HXN.out]
  exact⟨own3,(hfv.bel.alloc hfv.bel.size _).grown hg3 (Nat.le_trans hfv.bel.size (by simp)) (fun j hj=>(hfv.own.lt j hj).1)⟩)
 case measure=>(
 have:=HLT.out
 simp[intOf]
 omega))
 ·(
 obtain rfl:n1=i:=by omega
 have HFR:=Hd hfr
 have HFV:=Hd hfv
 have z0:=hzb.p0
 clear hfr hfv hzb hrb hxb hlt hi
 go_wp2_with fail
 go_ret2
 refine⟨A,a,c,A',a',c',rfl,?_,?_,HFR.out.bel⟩
 ·unfold fixF
  rw[if_pos HR.out,HLEN.out]
  exact HFR.out.rd
 ·unfold fvF
  rw[if_pos HR.out,HLEN.out]
  exact HFV.out.rd)))
end Go.Proofs.YtmejhedegmjboaaGreat.I
