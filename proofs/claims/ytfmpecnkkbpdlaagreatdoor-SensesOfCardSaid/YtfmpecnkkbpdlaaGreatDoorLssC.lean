import Derived.Test.YtfmpecnkkbpdlaaGreatDoorRefPut
set_option maxRecDepth 100000
set_option maxHeartbeats 4000000
namespace Go.Proofs.YtfmpecnkkbpdlaaGreatDoor
open Go.RowKit
def cbd (x:Nat×Nat):Bo.Bd:=⟨false,x.1,false,x.2⟩
theorem ZhR (S:Bo.Sr)(a b:List Nat):Bo.VK S [] ((a.zip b).map cbd)=QO S a b:=by
 unfold Bo.VK QO
 rw[List.all_map]
 rfl
def Zly (P:List (Nat×Nat))(w:World)(v14:Value)(wr:World):Prop:= ∃i:Nat,v14= .int .i64 (i:Int)∧i≤P.length∧Bo.BdAt wr w.heap.size (mkd cbd Bo.Vg P i)∧Below w.heap.size w wr
theorem YZ (v:Value)(A A2:Option Addr)(n c c2:Nat)(S:Bo.Sr)(l m:List Nat)(w:World)(hs:Bo.Y9 w v S)(h:Rd La.nm w w.heap.size A n c l)(h2:Rd La.nm w w.heap.size A2 n c2 m)(hf:La.Fit l)(hf2:La.Fit m)(hn:n≤100000)(r:Bool)(hr:QO S l m=r):
  Calls Tryz.prog 92 #[v,.slice A n c,.slice A2 n c2] w fun e w'=>e= .returned (.bool r)∧Below w.heap.size w w':=by
 obtain⟨i0,hi0,hz0,hz1,hz2⟩:=info_parts Bo.Zc5
 obtain⟨P,hP⟩: ∃P,l.zip m=P:=⟨_,rfl⟩
 have hlen:P.length=n:=by rw[← hP,List.length_zip,h.len,h2.len,Nat.min_self]
 have hmk: ∀W,(Instr.makeSlice 26 (.int .i64 (n:Int)) (.int .i64 (n:Int))).run Tryz.prog W= .ok (.slice (some ⟨W.heap.size,0,none⟩) n n) (W.alloc (.cells ((mkd cbd Bo.Vg P 0).flatMap Bo.bdc).toArray 133)):=by
  intro W
  have:=run_make (P:=Tryz.prog) W 26 133 i0 _ Tryz.underlying26 hi0 hz0 .i64 .i64 n n (by omega) (Int.le_refl _) (by rw[hz2];omega) (by omega)
  rw[this,hz1,Int.toNat_natCast,show(Value.agg #[.bool false,.int .u64 0,.bool false,.int .u64 0]).cells= #[.bool false,.int .u64 0,.bool false,.int .u64 0] from rfl,Bo.Zfp,mkd,hlen]
  rfl
 have hg0:Bo.BdAt (w.alloc (.cells ((mkd cbd Bo.Vg P 0).flatMap Bo.bdc).toArray 133)) w.heap.size (mkd cbd Bo.Vg P 0):=heap_alloc_new w _
 have hb0:Below w.heap.size w (w.alloc (.cells ((mkd cbd Bo.Vg P 0).flatMap Bo.bdc).toArray 133)):=bA
 have hat: ∀i (g:i < P.length) (g1:i < l.length) (g2:i < m.length),P[i]=(l[i],m[i]):=fun i g g1 g2=>by subst hP;simp
 have HAT:=Hd hat
 have HR:=Hd h
 have HR2:=Hd h2
 have HL:=Hd hlen
 have HG:=Hd hg0
 have HL1:=Hd h.len
 have HL2:=Hd h2.len
 have hfit: ∀b∈P.map cbd,b.Fit:=fun b hb=>by
  obtain⟨x,hx,rfl⟩:=List.mem_map.1 hb
  rw[← hP] at hx
  have:=List.of_mem_zip hx
  exact⟨hf _ this.1,hf2 _ this.2⟩
 have HFIT:=Hd hfit
 have HX:Hid (Bo.VK S [] (P.map cbd)=r):=Hd (by rw[← hr, ← hP];exact ZhR S l m)
 have HS:=Hd hs
 have htop:=h.top
 have hcap:=h.cap
 unfold maxLen at htop
 have HN:=Hd hn
 generalize ((mkd cbd Bo.Vg P 0).flatMap Bo.bdc).toArray=cs at*
 clear h h2 hg0 hi0 hz0 hz1 hz2 i0 hlen hat hfit hr hs hP hf hf2 hn
 go_enter Tryz.func92,Tryz.ntmps92
 go_wp2
 clear hmk
 go_loopw [14] (fun v14 wr=>Zly P w v14 wr) (fun v14 _=>n - (intOf v14).toNat)
 case atStart=>exact⟨0,rfl,by omega,HG.out,hb0⟩
 case round=>
  clear HG hb0
  obtain⟨i,rfl,hi,hg,hb⟩:=hrel
  by_cases hlt:i < n
  ·have hip:i < P.length:=by rw[HL.out];exact hlt
   have hi1:i < l.length:=by rw[HL1.out];exact hlt
   have hi2:i < m.length:=by rw[HL2.out];exact hlt
   obtain⟨b,o,rfl,hbb,e0⟩:=(HR.out.at_size lR hb).spot (by omega)
   obtain⟨b',o',rfl,hbb',f0⟩:=(HR2.out.at_size lR hb).spot (by omega)
   replace e0:wr.cell? ⟨b,o+i,none⟩=some (.int .u64 (l[i]:Int)):=e0 i hi1
   replace f0:wr.cell? ⟨b',o'+i,none⟩=some (.int .u64 (m[i]:Int)):=f0 i hi2
   have hit:i < (mkd cbd Bo.Vg P i).length:=by rw[Za2 hi];exact hip
   have hnx:=KL (f:=cbd) (z:=Bo.Vg) hip
   rw[HAT.out i hip hi1 hi2] at hnx
   have hin:(i:Int) < (n:Int):=by omega
   have hdk:decide ((i:Int) < (n:Int))=true:=decide_eq_true hin
   obtain⟨kk,hkk⟩: ∃kk,n=i+1+kk:=⟨n - (i+1),by omega⟩
   have HLT:=Hd hkk
   clear hkk
   have HNX:=Hd hnx
   generalize l[i]=x at*
   generalize m[i]=y at*
   have e1:=Zc e0 (Below.refl _ wr).drew
   have f1:=Zc f0 (Below.refl _ wr).drew
   have hgd:Bo.BdAt wr.drew w.heap.size (mkd cbd Bo.Vg P i):=((Below.refl wr.heap.size wr).drew.block _ (Zd hg)).trans hg
   have hbd:=hb.trans ((Below.refl wr.heap.size wr).drew.mono hb.size)
   clear hnx hbb hbb' hb hg hip hi1 hi2 hlt
   go_wp2_with fail
   clear hdk
   refine wro [0,1,2,3,4,5,6,7,8,9,10,11,12,13,14] [14] 14 (fun w'=>w'.cell? ⟨b,o+i,none⟩=some (.int .u64 (x:Int))∧w'.cell? ⟨b',o'+i,none⟩=some (.int .u64 (y:Int))) (by kernel_rfl) (fun _ _ _ _ _ h=>h) ⟨e1,f1⟩ ?_
   simp only[steps,sE,sD]
   repeat((first|refine Zg rfl ?_|(refine Zf (v:= ?_) rfl rfl ?_ ?_;rotate_left;(focus(rintro w' ⟨x0,x1⟩;go_simp;try with_reducible rfl))));simp only[Act.put,sA,sB,sC])
   clear e0 f0 e1 f1
   generalize wr.drew=wd at*
   obtain⟨ws,hws⟩: ∃ws,ws=(((wd.setCell ⟨w.heap.size,i*4,none⟩ (.bool false)).setCell ⟨w.heap.size,i*4+1,none⟩ (.int .u64 (x:Int))).setCell ⟨w.heap.size,i*4+2,none⟩ (.bool false)).setCell ⟨w.heap.size,i*4+3,none⟩ (.int .u64 (y:Int)):=⟨_,rfl⟩
   have hst:Bo.BdAt ws w.heap.size ((mkd cbd Bo.Vg P i).set i (cbd (x,y))):=hws▸hgd.set hit (cbd (x,y))
   rw[HNX.out] at hst
   have hbs:Below w.heap.size w ws:=hws▸(((hbd.setCell (p:=⟨w.heap.size,i*4,none⟩) lR _).setCell (p:=⟨w.heap.size,i*4+1,none⟩) lR _).setCell (p:=⟨w.heap.size,i*4+2,none⟩) lR _).setCell (p:=⟨w.heap.size,i*4+3,none⟩) lR _
   have HST:=Hd (And.intro hst hbs)
   rw[hws] at HST
   have f0:wd.frozen? ⟨w.heap.size,i*4,none⟩=false:=Zb hgd
   have f1:wd.frozen? ⟨w.heap.size,i*4+1,none⟩=false:=Zb hgd
   have f2:wd.frozen? ⟨w.heap.size,i*4+2,none⟩=false:=Zb hgd
   have f3:wd.frozen? ⟨w.heap.size,i*4+3,none⟩=false:=Zb hgd
   have d0:=hgd.cell hit (i:=0) (by decide)
   have d1:=hgd.cell hit (i:=1) (by decide)
   have d2:=hgd.cell hit (i:=2) (by decide)
   have d3:=hgd.cell hit (i:=3) (by decide)
   clear hws hst hbs
   clear ws
   generalize (mkd cbd Bo.Vg P i)[i]=z at*
   obtain⟨zv,zn,yv,yn⟩:=z
   replace d0:_=some (Value.bool zv):=d0
   replace d1:_=some (Value.int .u64 (zn:Int)):=d1
   replace d2:_=some (Value.bool yv):=d2
   replace d3:_=some (Value.int .u64 (yn:Int)):=d3
   simp only[Nat.add_zero] at d0
   clear hgd hbd hit
   refine Ze rfl rfl (fun K hK=> ?_)
   go_simp
   refine hK.out _ _ (fun h=>absurd rfl h) ?_
   clear hK K
   try simp only[Act.put,sA,sB,sC]
   refine Zi ?_
   clear d0 d1 d2 d3 f0 f1 f2 f3 hin
   have hib:i≤100000:=by have:=HLT.out;have:=HN.out;omega
   go_wp2_with fail
   go_roundw
   case rel=>exact⟨i+1,by have:=HLT.out;go_num,by have:=HLT.out;have:=HL.out;omega,HST.out.1,HST.out.2⟩
   case measure=>
    have:=HLT.out
    simp[intOf]
    omega
  ·obtain rfl:i=n:=by have:=HL.out;omega
   rw[← HL.out,Za3] at hg
   have hrs:=hg.rs (by rw[List.length_map,HL.out];exact HN.out)
   rw[List.length_map,HL.out] at hrs
   have HC:=Hd (Bo.ZaE v none 0 0 [] (some ⟨w.heap.size,0,none⟩) i i (P.map cbd) S wr r (HS.out.keep hb) (Rd.nil _ _) (fun _ h=>by cases h) hrs HFIT.out HX.out)
   clear hg hrs hlt
   go_wp2_with fail
   refine HC.out.mono ?_
   rintro e w1 ⟨rfl,hb1⟩
   go_wp2_with fail
   go_ret
   exact⟨rfl,hb.trans (hb1.mono hb.size)⟩
theorem ZbT (A1:Option Addr)(n1 c1:Nat)(A2:Option Addr)(n2 c2:Nat)(A3:Option Addr)(n3 c3:Nat)(A4:Option Addr)(n4 c4:Nat)(z:Sen)(w:World)(h:Yg w z A1 n1 c1 A2 n2 c2 A3 n3 c3 A4 n4 c4)(r:Bool)(hr:Y0 z=r):
  Calls Tryz.prog 91 #[senV A1 n1 c1 A2 n2 c2 A3 n3 c3 A4 n4 c4] w fun e w'=>e= .returned (.bool r)∧Below w.heap.size w w':=by
 unfold senV
 obtain⟨x,hx⟩: ∃x,w.alloc (.cells #[.slice A1 n1 c1,.slice A2 n2 c2,.slice A3 n3 c3,.slice A4 n4 c4] 43)=x:=⟨_,rfl⟩
 obtain⟨y,hy⟩: ∃y,x.alloc (.cells #[.int .i64 (n1:Int)] 3)=y:=⟨_,rfl⟩
 have b0:Below w.heap.size w x:=hx▸bA
 have sx:x.heap.size=w.heap.size+1:=by rw[← hx,World.size_alloc]
 have b1:Below x.heap.size x y:=hy▸bA
 have k0:y.heap[w.heap.size]?=some (.cells #[.slice A1 n1 c1,.slice A2 n2 c2,.slice A3 n3 c3,.slice A4 n4 c4] 43 (0,0)):=(b1.block _ (by rw[sx];omega)).trans (hx▸heap_alloc_new w _)
 have k1:y.heap[w.heap.size+1]?=some (.cells #[.int .i64 (n1:Int)] 3 (0,0)):=by rw[← sx, ← hy];exact heap_alloc_new x _
 have hb:Below w.heap.size w y:=b0.trans (b1.mono b0.size)
 have hk0x:x.heap[w.heap.size]?=some (.cells #[.slice A1 n1 c1,.slice A2 n2 c2,.slice A3 n3 c3,.slice A4 n4 c4] 43 (0,0)):=hx▸heap_alloc_new w _
 have p0x:=(Za (i:=0) hk0x).trans rfl
 have p0:=(Za (i:=0) k0).trans rfl
 have p1:=(Za (i:=1) k0).trans rfl
 have p2:=(Za (i:=2) k0).trans rfl
 have p3:=(Za (i:=3) k0).trans rfl
 have q0:=(Za (i:=0) k1).trans rfl
 subst hx
 obtain⟨r1,h1⟩: ∃r,((n2:Int)==(n1:Int))=r:=⟨_,rfl⟩
 obtain⟨r2,h2⟩: ∃r,((n3:Int)==(n1:Int))=r:=⟨_,rfl⟩
 obtain⟨r3,h3⟩: ∃r,((n4:Int)==(n1:Int))=r:=⟨_,rfl⟩
 obtain⟨r4,h4⟩: ∃r,z.p.any noSd=r:=⟨_,rfl⟩
 obtain⟨r5,h5⟩: ∃r,z.be.any (othR n1)=r:=⟨_,rfl⟩
 have HX:Hid ((r1 && (r2 && (r3 && (!r4 && !r5))))=r):=Hd (by
  rw[← hr, ← h1, ← h2, ← h3, ← h4, ← h5,int_eq,int_eq,int_eq]
  unfold Y0
  rw[h.rl.len,h.rh.len,h.rb.len,h.rp.len]
  rfl)
 have HC4:Hid (∀W,Below w.heap.size w W→Calls Tryz.prog 164 #[.slice A1 n1 c1,.func (.func 162) #[] #[]] W fun e w'=>e= .returned (.bool r4)∧Below W.heap.size W w'):=Hd fun W hW=>h4▸Zad A1 n1 c1 z.p W (h.keep hW).rp
 have HC5:Hid (∀W,Below y.heap.size y W→Calls Tryz.prog 165 #[.slice A4 n4 c4,.func (.func 163) #[] #[.pointer (some ⟨w.heap.size+1,0,none⟩)]] W fun e w'=>e= .returned (.bool r5)∧Below W.heap.size W w'):=Hd fun W hW=>h5▸Zae A4 n4 c4 (w.heap.size+1) n1 z.be W (h.keep (hb.trans (hW.mono hb.size))).rb (Zc q0 hW)
 have HB:=Hd hb
 have hc4:=HC4.out y hb
 clear b0 b1 sx k0 k1 hk0x hr h h4 h5 hb
 cases r1 with
 |false=>
  go_enter Tryz.func91,Tryz.ntmps91
  go_wp2_with fail
  go_ret
  exact⟨by rw[← HX.out];rfl,HB.out⟩
 |true=>
 cases r2 with
 |false=>
  go_enter Tryz.func91,Tryz.ntmps91
  go_wp2_with fail
  go_ret
  exact⟨by rw[← HX.out];rfl,HB.out⟩
 |true=>
 cases r3 with
 |false=>
  go_enter Tryz.func91,Tryz.ntmps91
  go_wp2_with fail
  go_ret
  exact⟨by rw[← HX.out];rfl,HB.out⟩
 |true=>
 have HC:=Hd hc4
 clear hc4
 go_enter Tryz.func91,Tryz.ntmps91
 go_wp2_with fail
 clear hy
 refine HC.out.mono ?_
 rintro e w1 ⟨rfl,hv⟩
 have p3':=Zc p3 hv
 have HV:=Hd hv
 clear hv p0 p1 p2 p3 q0 p0x h1 h2 h3 HC
 cases r4 with
 |true=>
  go_wp2_with fail
  go_ret
  exact⟨by rw[← HX.out];rfl,HB.out.trans (HV.out.mono HB.out.size)⟩
 |false=>
 go_wp2_with fail
 refine(HC5.out _ HV.out).mono ?_
 rintro e w2 ⟨rfl,hv2⟩
 have HV2:=Hd (HV.out.trans (hv2.mono HV.out.size))
 clear hv2 p3'
 go_wp2_with fail
 go_ret
 refine⟨?_,HB.out.trans (HV2.out.mono HB.out.size)⟩
 rw[← HX.out]
 cases r5 <;> rfl
structure B8 (w:World)(g:Nat)(A1:Option Addr)(n1 c1:Nat)(A2:Option Addr)(n2 c2:Nat)(A3:Option Addr)(n3 c3:Nat)(A4:Option Addr)(n4 c4:Nat)(B1:Option Addr)(m1 d1:Nat)(B2:Option Addr)(m2 d2:Nat)(B3:Option Addr)(m3 d3:Nat)(B4:Option Addr)(m4 d4:Nat):Prop where
 p0:w.cell? ⟨g,0,none⟩=some (.slice A1 n1 c1)
 p1:w.cell? ⟨g,1,none⟩=some (.slice A2 n2 c2)
 p2:w.cell? ⟨g,2,none⟩=some (.slice A3 n3 c3)
 p3:w.cell? ⟨g,3,none⟩=some (.slice A4 n4 c4)
 q0:w.cell? ⟨g+1,0,none⟩=some (.slice B1 m1 d1)
 q1:w.cell? ⟨g+1,1,none⟩=some (.slice B2 m2 d2)
 q2:w.cell? ⟨g+1,2,none⟩=some (.slice B3 m3 d3)
 q3:w.cell? ⟨g+1,3,none⟩=some (.slice B4 m4 d4)
theorem B8.keep {w W:World}{g:Nat}{A1:Option Addr}{n1 c1:Nat}{A2:Option Addr}{n2 c2:Nat}{A3:Option Addr}{n3 c3:Nat}{A4:Option Addr}{n4 c4:Nat}{B1:Option Addr}{m1 d1:Nat}{B2:Option Addr}{m2 d2:Nat}{B3:Option Addr}{m3 d3:Nat}{B4:Option Addr}{m4 d4:Nat}(h:B8 w g A1 n1 c1 A2 n2 c2 A3 n3 c3 A4 n4 c4 B1 m1 d1 B2 m2 d2 B3 m3 d3 B4 m4 d4)(hb:Below w.heap.size w W):B8 W g A1 n1 c1 A2 n2 c2 A3 n3 c3 A4 n4 c4 B1 m1 d1 B2 m2 d2 B3 m3 d3 B4 m4 d4:=
 ⟨Zc h.p0 hb,Zc h.p1 hb,Zc h.p2 hb,Zc h.p3 hb,Zc h.q0 hb,Zc h.q1 hb,Zc h.q2 hb,Zc h.q3 hb⟩
theorem ZhS (v:Value)(S:Bo.Sr)(p q:Q4)(za zb:Sen)(w:World)(hs:Bo.Y9 w v S)(ha:YD w za p)(hb:YD w zb q)(hn:p.n1≤100000)(r:Bool)(hr:ZkQ S za zb=r):
  Calls Tryz.prog 18 #[v,p.v,q.v] w fun e w'=>e= .returned (.bool r)∧Below w.heap.size w w':=by
 obtain⟨A1,n1,c1,A2,n2,c2,A3,n3,c3,A4,n4,c4⟩:=p
 obtain⟨B1,m1,d1,B2,m2,d2,B3,m3,d3,B4,m4,d4⟩:=q
 replace ha:Yg w za A1 n1 c1 A2 n2 c2 A3 n3 c3 A4 n4 c4:=ha
 replace hb:Yg w zb B1 m1 d1 B2 m2 d2 B3 m3 d3 B4 m4 d4:=hb
 replace hn:n1≤100000:=hn
 show Calls Tryz.prog 18 #[v,senV A1 n1 c1 A2 n2 c2 A3 n3 c3 A4 n4 c4,senV B1 m1 d1 B2 m2 d2 B3 m3 d3 B4 m4 d4] w _
 obtain⟨x,hx⟩: ∃x,w.alloc (.cells #[.slice A1 n1 c1,.slice A2 n2 c2,.slice A3 n3 c3,.slice A4 n4 c4] 43)=x:=⟨_,rfl⟩
 obtain⟨y,hy⟩: ∃y,x.alloc (.cells #[.slice B1 m1 d1,.slice B2 m2 d2,.slice B3 m3 d3,.slice B4 m4 d4] 43)=y:=⟨_,rfl⟩
 have b0:Below w.heap.size w x:=hx▸bA
 have sx:x.heap.size=w.heap.size+1:=by rw[← hx,World.size_alloc]
 have b1:Below x.heap.size x y:=hy▸bA
 have k0:y.heap[w.heap.size]?=some (.cells #[.slice A1 n1 c1,.slice A2 n2 c2,.slice A3 n3 c3,.slice A4 n4 c4] 43 (0,0)):=(b1.block _ (by rw[sx];omega)).trans (hx▸heap_alloc_new w _)
 have k1:y.heap[w.heap.size+1]?=some (.cells #[.slice B1 m1 d1,.slice B2 m2 d2,.slice B3 m3 d3,.slice B4 m4 d4] 43 (0,0)):=by rw[← sx, ← hy];exact heap_alloc_new x _
 have hbe:Below w.heap.size w y:=b0.trans (b1.mono b0.size)
 have hz:B8 y w.heap.size A1 n1 c1 A2 n2 c2 A3 n3 c3 A4 n4 c4 B1 m1 d1 B2 m2 d2 B3 m3 d3 B4 m4 d4:=⟨(Za (i:=0) k0).trans rfl,(Za (i:=1) k0).trans rfl,(Za (i:=2) k0).trans rfl,(Za (i:=3) k0).trans rfl,(Za (i:=0) k1).trans rfl,(Za (i:=1) k1).trans rfl,(Za (i:=2) k1).trans rfl,(Za (i:=3) k1).trans rfl⟩
 subst hx
 obtain⟨r1,h1⟩: ∃r,eqF QN za.p zb.p=r:=⟨_,rfl⟩
 obtain⟨r2,h2⟩: ∃r,Y0 za=r:=⟨_,rfl⟩
 obtain⟨r3,h3⟩: ∃r,Y0 zb=r:=⟨_,rfl⟩
 obtain⟨r4,h4⟩: ∃r,QO S za.lo zb.lo=r:=⟨_,rfl⟩
 obtain⟨r5,h5⟩: ∃r,QO S zb.hi za.hi=r:=⟨_,rfl⟩
 obtain⟨r6,h6⟩: ∃r,eqF U5 za.be zb.be=r:=⟨_,rfl⟩
 have HX:Hid ((r1 && (r2 && (r3 && (r4 && (r5 && r6)))))=r):=Hd (by rw[← hr, ← h1, ← h2, ← h3, ← h4, ← h5, ← h6];rfl)
 have HC1:Hid (∀W,Below w.heap.size w W→Calls Tryz.prog 89 #[.slice A1 n1 c1,.slice B1 m1 d1,.func (.func 90) #[] #[]] W fun e w'=>e= .returned (.bool r1)∧Below W.heap.size W w'):=Hd fun W hW=>ZdM A1 B1 n1 c1 m1 d1 za.p zb.p W (ha.keep hW).rp (hb.keep hW).rp r1 h1
 have HC2:Hid (∀W,Below w.heap.size w W→Calls Tryz.prog 91 #[senV A1 n1 c1 A2 n2 c2 A3 n3 c3 A4 n4 c4] W fun e w'=>e= .returned (.bool r2)∧Below W.heap.size W w'):=Hd fun W hW=>ZbT A1 n1 c1 A2 n2 c2 A3 n3 c3 A4 n4 c4 za W (ha.keep hW) r2 h2
 have HC3:Hid (∀W,Below w.heap.size w W→Calls Tryz.prog 91 #[senV B1 m1 d1 B2 m2 d2 B3 m3 d3 B4 m4 d4] W fun e w'=>e= .returned (.bool r3)∧Below W.heap.size W w'):=Hd fun W hW=>ZbT B1 m1 d1 B2 m2 d2 B3 m3 d3 B4 m4 d4 zb W (hb.keep hW) r3 h3
 have hle:r1=true→r2=true→r3=true→n2=m2∧n3=m3∧n2=n1∧n3=n1∧(∀x∈za.be,x.length=n1)∧ ∀x∈zb.be,x.length=n1:=fun g1 g2 g3=>by
  subst g1 g2 g3
  obtain⟨a1,a2,a3,a4,a5⟩:=Zb0.1 h2
  obtain⟨e1,e2,e3,e4,e5⟩:=Zb0.1 h3
  have el:=(YM.1 h1).1
  rw[ha.rp.len] at a1 a2 a5 el
  rw[hb.rp.len] at e1 e2 e5 el
  rw[ha.rl.len] at a1
  rw[ha.rh.len] at a2
  rw[hb.rl.len] at e1
  rw[hb.rh.len] at e2
  refine⟨by omega,by omega,a1,a2,a5,fun x hx=>by rw[e5 x hx,el]⟩
 have HLE:=Hd hle
 have HC4:Hid (n2=m2→n2=n1→ ∀W,Below w.heap.size w W→Calls Tryz.prog 92 #[v,.slice A2 n2 c2,.slice B2 m2 d2] W fun e w'=>e= .returned (.bool r4)∧Below W.heap.size W w'):=Hd fun e e2 W hW=>by
  subst e
  exact YZ v A2 B2 n2 c2 d2 S za.lo zb.lo W (hs.keep hW) (ha.keep hW).rl (hb.keep hW).rl ha.fl hb.fl (by omega) r4 h4
 have HC5:Hid (n3=m3→n3=n1→ ∀W,Below w.heap.size w W→Calls Tryz.prog 92 #[v,.slice B3 m3 d3,.slice A3 n3 c3] W fun e w'=>e= .returned (.bool r5)∧Below W.heap.size W w'):=Hd fun e e2 W hW=>by
  subst e
  exact YZ v B3 A3 n3 d3 c3 S zb.hi za.hi W (hs.keep hW) (hb.keep hW).rh (ha.keep hW).rh hb.fh ha.fh (by omega) r5 h5
 have HC6:Hid ((∀x∈za.be,x.length=n1)→(∀x∈zb.be,x.length=n1)→ ∀W,Below w.heap.size w W→Calls Tryz.prog 93 #[.slice A4 n4 c4,.slice B4 m4 d4,.func (.func 94) #[] #[]] W fun e w'=>e= .returned (.bool r6)∧Below W.heap.size W w'):=Hd fun e1 e2 W hW=>ZdO A4 B4 n4 c4 m4 d4 n1 za.be zb.be W (ha.keep hW).rb (hb.keep hW).rb e1 e2 r6 h6
 have HB:=Hd hbe
 have hp0:=hz.p0
 have hq0:=hz.q0
 have HZ:=Hd hz
 clear b0 b1 sx k0 k1 hr ha hb h1 h2 h3 h4 h5 h6 hbe hle hs hz hn
 unfold senV at HC2 HC3 ⊢
 go_enter Tryz.func18,Tryz.ntmps18
 go_wp2_with fail
 clear hy
 refine(HC1.out _ HB.out).mono ?_
 rintro e w1 ⟨rfl,hv⟩
 have HB1:=Hd (HB.out.trans (hv.mono HB.out.size))
 have HZ1:=Hd (HZ.out.keep hv)
 clear hv HB HZ
 clear hp0 hq0
 cases r1 with
 |false=>
  go_wp2_with fail
  go_ret
  exact⟨by rw[← HX.out];rfl,HB1.out⟩
 |true=>
 have HLE1:=Hd (HLE.out rfl)
 clear HLE
 have t0:=HZ1.out.p0
 have t1:=HZ1.out.p1
 have t2:=HZ1.out.p2
 have t3:=HZ1.out.p3
 go_wp2_with fail
 refine(HC2.out _ HB1.out).mono ?_
 rintro e w2 ⟨rfl,hv⟩
 have HB2:=Hd (HB1.out.trans (hv.mono HB1.out.size))
 have HZ2:=Hd (HZ1.out.keep hv)
 clear hv HB1 HZ1
 clear t0 t1 t2 t3
 cases r2 with
 |false=>
  go_wp2_with fail
  go_ret
  exact⟨by rw[← HX.out];rfl,HB2.out⟩
 |true=>
 have HLE2:=Hd (HLE1.out rfl)
 clear HLE1
 have t0:=HZ2.out.q0
 have t1:=HZ2.out.q1
 have t2:=HZ2.out.q2
 have t3:=HZ2.out.q3
 go_wp2_with fail
 refine(HC3.out _ HB2.out).mono ?_
 rintro e w3 ⟨rfl,hv⟩
 have HB3:=Hd (HB2.out.trans (hv.mono HB2.out.size))
 have HZ3:=Hd (HZ2.out.keep hv)
 clear hv HB2 HZ2
 clear t0 t1 t2 t3
 cases r3 with
 |false=>
  go_wp2_with fail
  go_ret
  exact⟨by rw[← HX.out];rfl,HB3.out⟩
 |true=>
 have t0:=HZ3.out.p1
 have t1:=HZ3.out.q1
 obtain⟨l1,l2,l3,l4,l5,l6⟩:=HLE2.out rfl
 have HD4:=Hd (HC4.out l1 l3)
 have HD5:=Hd (HC5.out l2 l4)
 have HD6:=Hd (HC6.out l5 l6)
 clear l1 l2 l3 l4 l5 l6 HC4 HC5 HC6 HLE2
 go_wp2_with fail
 refine(HD4.out _ HB3.out).mono ?_
 rintro e w4 ⟨rfl,hv⟩
 have HB4:=Hd (HB3.out.trans (hv.mono HB3.out.size))
 have HZ4:=Hd (HZ3.out.keep hv)
 clear hv HB3 HZ3
 clear t0 t1
 cases r4 with
 |false=>
  go_wp2_with fail
  go_ret
  exact⟨by rw[← HX.out];rfl,HB4.out⟩
 |true=>
 have t0:=HZ4.out.q2
 have t1:=HZ4.out.p2
 go_wp2_with fail
 refine(HD5.out _ HB4.out).mono ?_
 rintro e w5 ⟨rfl,hv⟩
 have HB5:=Hd (HB4.out.trans (hv.mono HB4.out.size))
 have HZ5:=Hd (HZ4.out.keep hv)
 clear hv HB4 HZ4
 clear t0 t1
 cases r5 with
 |false=>
  go_wp2_with fail
  go_ret
  exact⟨by rw[← HX.out];rfl,HB5.out⟩
 |true=>
 have t0:=HZ5.out.p3
 have t1:=HZ5.out.q3
 go_wp2_with fail
 refine(HD6.out _ HB5.out).mono ?_
 rintro e w6 ⟨rfl,hv⟩
 have HB6:=Hd (HB5.out.trans (hv.mono HB5.out.size))
 have HZ6:=Hd (HZ5.out.keep hv)
 clear hv HB5 HZ5
 clear t0 t1
 go_wp2_with fail
 go_ret
 exact⟨by rw[← HX.out];cases r6 <;> rfl,HB6.out⟩
end Go.Proofs.YtfmpecnkkbpdlaaGreatDoor
