import Derived.Test.YtmejhedegmjboaaGreatPnJ
set_option maxRecDepth 100000
set_option maxHeartbeats 32000000
namespace Go.Proofs.YtmejhedegmjboaaGreat.I
open Go.RowKit PaC
theorem Zm5 {a1 b1:Bool}{a2 b2:Int}(h:((a1,a2):Tm)≠(b1,b2)):(a1=b1∧a2≠b2)∨(a1=true∧b1=false)∨(a1=false∧b1=true):=by
 by_cases e:a1=b1
 ·exact .inl ⟨e,fun k=>h (by rw[e,k])⟩
 ·(
 cases a1 <;> cases b1
 ·exact absurd rfl e
 ·exact .inr (.inr ⟨rfl,rfl⟩)
 ·exact .inr (.inl ⟨rfl,rfl⟩)
 ·exact absurd rfl e)
theorem Zek (t:Nat)(B:Option Addr)(m d q:Nat)(S:Bo.Sr)(hok:S.Ok)(z:Sen)(A1:Option Addr)(n1 c1:Nat)(A2:Option Addr)(n2 c2:Nat)(A3:Option Addr)(n3 c3:Nat)(A4:Option Addr)(n4 c4:Nat)(A:Option Addr)(n c:Nat)(tl:List Tm)(vars:Int)(w:World)(hs:Bo.RSrt w.heap.size w t B m d q S)(h:Zx w z A1 n1 c1 A2 n2 c2 A3 n3 c3 A4 n4 c4)(hn:n1≤300)(hl:Rs tmc 2 w w.heap.size A n c tl):
  Calls Tryz.prog 15 #[Bo.rsV t B m d q,senV A1 n1 c1 A2 n2 c2 A3 n3 c3 A4 n4 c4,.slice A n c,.int .i64 vars] w fun e w'=> ∃A' N' c',e= .returned (.slice A' N' c')∧w'.ownsRow w.heap.size 69 4 (.slice A' N' c') N' ((bdsAns S z tl vars).flatMap Bo.bdc)∧Below w.heap.size w w':=by
 obtain⟨x,hx⟩: ∃x,w.alloc (.cells #[.int .i64 (t:Int),.slice B m d,.int .i64 (q:Int)] 37)=x:=⟨_,rfl⟩
 obtain⟨y,hy⟩: ∃y,x.alloc (.cells #[.slice A1 n1 c1,.slice A2 n2 c2,.slice A3 n3 c3,.slice A4 n4 c4] 28)=y:=⟨_,rfl⟩
 have b0:Below w.heap.size w x:=hx▸bA
 have sx:x.heap.size=w.heap.size+1:=by rw[← hx,World.size_alloc]
 have b1:Below x.heap.size x y:=hy▸bA
 have k0:=hx▸heap_alloc_new w (.cells #[.int .i64 (t:Int),.slice B m d,.int .i64 (q:Int)] 37)
 have hrb:RBox y w.heap.size t B m d q:=(RBox.of k0).keep b1
 have hz:ZB y (w.heap.size+1) A1 n1 c1 A2 n2 c2 A3 n3 c3 A4 n4 c4:=by rw[← sx, ← hy];exact ZB.of (heap_alloc_new x _)
 have hb:Below w.heap.size w y:=b0.trans (b1.mono b0.size)
 have HB:=Hd hb
 have HRB:=Hd hrb
 have HZ:=Hd hz
 have HN:=Hd hn
 have HOK:=Hd hok
 have HSEN:Hid (∀W,Below w.heap.size w W→Zx W z A1 n1 c1 A2 n2 c2 A3 n3 c3 A4 n4 c4):=Hd fun W hW=>h.keep hW
 have HSRT:Hid (∀W,Below w.heap.size w W→Bo.RSrt W.heap.size W t B m d q S):=Hd fun W hW=>hs.keep hW
 have HTL:Hid (∀W,Below w.heap.size w W→Rs tmc 2 W W.heap.size A n c tl):=Hd fun W hW=>hl.at_size lR hW
 have HAC:=Hd (Zlg t B m d q S z A1 n1 c1 A2 n2 c2 A3 n3 c3 A4 n4 c4 y (hs.keep hb) (h.keep hb) (by omega))
 have HAA:Hid (∀W,Below w.heap.size w W→_):=Hd fun W (hW:Below w.heap.size w W)=>ZfE t B m d q S z A1 n1 c1 A2 n2 c2 A3 n3 c3 A4 n4 c4 W (hs.keep hW) (h.keep hW) (by omega)
 have q0:=hrb.s0
 have q1:=hrb.s1
 have q2:=hrb.s2
 have z0:=hz.p0
 have z1:=hz.p1
 have z2:=hz.p2
 have z3:=hz.p3
 clear b0 b1 sx k0 hrb hz hb h hs hn hok hl
 subst hx
 unfold senV Bo.rsV at HAC HAA ⊢
 go_enter Tryz.func15,Tryz.ntmps15
 go_wp2_with fail
 generalize hwd:World.alloc (World.alloc w _) _=wd'
 obtain rfl:y=wd':=hy.symm.trans hwd
 clear hwd hy
 refine HAC.out.mono ?_
 rintro e w1 ⟨A9,N9,c9,rfl,ho,hv⟩
 have HT9:Hid (Rs tmc 2 w1 w1.heap.size A9 N9 c9 (trmL S z)):=Hd (Rs.of_own ZK (by decide) ho)
 have HB1:=Hd (HB.out.trans (hv.mono HB.out.size))
 have HRB1:=Hd (HRB.out.keep hv)
 have HZ1:=Hd (HZ.out.keep hv)
 clear ho hv q0 q1 q2 z0 z1 z2 z3 HAC
 by_cases hvn:vars=(trmN S z:Int)
 case neg=>(
 have g1:((trmN S z:Int) !=vars)=true:=by simp;omega
 have HA:Hid (bdsAns S z tl vars= []):=Hd (by unfold bdsAns;rw[if_neg fun e=>hvn e.2])
 clear hvn
 go_wp2_with fail
 go_ret
 exact⟨none,0,0,rfl,by rw[HA.out];exact World.ownsRow_nil _ _ _ _,HB1.out⟩)
 subst hvn
 have g1:((trmN S z:Int) !=(trmN S z:Int))=false:=by simp
 by_cases hnn:N9=n
 case neg=>(
 have g2:((N9:Int) !=(n:Int))=true:=by simp;omega
 have HA:Hid (bdsAns S z tl (trmN S z:Int)= []):=Hd (by
 unfold bdsAns
 rw[if_neg]
 intro e
 have h1:=HT9.out.len
 have h2:=(HTL.out w (Below.refl _ _)).len
 rw[e.1] at h2
 omega)
 clear hnn
 go_wp2_with fail
 go_ret
 exact⟨none,0,0,rfl,by rw[HA.out];exact World.ownsRow_nil _ _ _ _,HB1.out⟩)
 subst hnn
 have g2:((N9:Int) !=(N9:Int))=false:=by simp
 have HLL:Hid ((trmL S z).length=N9∧tl.length=N9):=Hd ⟨HT9.out.len,(HTL.out w (Below.refl _ _)).len⟩
 have HN9:Hid (N9≤300):=Hd (by
 have h1:=HT9.out.len
 rw[← VS.1,Yk] at h1
 have h2:=(HSEN.out w (Below.refl _ _)).rp.len
 have h3:=HN.out
 have:lim z≤z.p.length:=by unfold lim;split <;> omega
 omega)
 go_wp2_with fail
 clear g1 g2
 go_loopw [11] (fun v11 wr=> ∃i:Nat,v11= .int .i64 (i:Int)∧i≤N9∧(trmL S z).take i=tl.take i∧Below w1.heap.size w1 wr) (fun v11 _=>N9 - (intOf v11).toNat)
 case atStart=>exact⟨0,rfl,Nat.zero_le _,rfl,Below.refl _ _⟩
 case round=>(
 obtain⟨i,rfl,hi,hall,hb⟩:=hrel
 by_cases hlt:i < N9
 case pos=>(
 have HLT:=Hd hlt
 have hin:(i:Int) < (N9:Int):=by omega
 have hi9:i≤1000:=by have:=HN9.out;omega
 have HBW:=Hd hb
 have hr1:=HT9.out.at_size lR hb
 have hr2:=HTL.out wr (HB1.out.trans (hb.mono HB1.out.size))
 obtain⟨g1,q1,rfl,-,hc1⟩:=hr1.spot (by omega)
 obtain⟨g2,q2,rfl,-,hc2⟩:=hr2.spot (by omega)
 have hi1:i < (trmL S z).length:=by rw[HLL.out.1];exact hlt
 have hi2:i < tl.length:=by rw[HLL.out.2];exact hlt
 have u0:=hc1 i hi1 0 _ rfl
 have u1:=hc1 i hi1 1 _ rfl
 have v0:=hc2 i hi2 0 _ rfl
 have v1:=hc2 i hi2 1 _ rfl
 have HNX:Hid ((trmL S z)[i]=tl[i]→(trmL S z).take (i+1)=tl.take (i+1)):=Hd fun e=>by
  rw[List.take_add_one,List.take_add_one,hall,List.getElem?_eq_getElem hi1,List.getElem?_eq_getElem hi2,e]
 have HNE:Hid ((trmL S z)[i]≠tl[i]→bdsAns S z tl (trmN S z:Int)= []):=Hd fun e=>by(
 unfold bdsAns
 rw[if_neg]
 intro k
 exact e (by simp only[k.1]))
 obtain⟨⟨a1,a2⟩,ha⟩: ∃a,(trmL S z)[i]=a:=⟨_,rfl⟩
 obtain⟨⟨b1,b2⟩,hbb⟩: ∃a,tl[i]=a:=⟨_,rfl⟩
 rw[ha,hbb] at HNX HNE
 rw[ha] at u0 u1
 rw[hbb] at v0 v1
 replace u0:wr.cell? ⟨g1,q1+i*2,none⟩=some (.bool a1):=u0
 replace u1:wr.cell? ⟨g1,q1+i*2+1,none⟩=some (.int .u64 a2):=u1
 replace v0:wr.cell? ⟨g2,q2+i*2,none⟩=some (.bool b1):=v0
 replace v1:wr.cell? ⟨g2,q2+i*2+1,none⟩=some (.int .u64 b2):=v1
 clear hi hall hb hlt hr1 hr2 hc1 hc2 hi1 hi2 ha hbb
 by_cases he:((a1,a2):Tm)=(b1,b2)
 case pos=>(
 obtain⟨rfl,rfl⟩:=Prod.mk.inj he
 have e1:(a1==a1)=true:=by simp
 have e2:(a2==a2)=true:=by simp
 have HNX1:=Hd (HNX.out rfl)
 clear he HNX HNE
 go_wp2_with fail
 refine wro [0,1,2,3,4,5,6,7,8] [] 9 (fun W=>W.cell? ⟨g1,q1+i*2,none⟩=some (.bool a1)∧W.cell? ⟨g1,q1+i*2+1,none⟩=some (.int .u64 a2)∧W.cell? ⟨g2,q2+i*2,none⟩=some (.bool a1)∧W.cell? ⟨g2,q2+i*2+1,none⟩=some (.int .u64 a2)) (by kernel_rfl) (fun _ _ _ _ _ h=>h) ⟨Za u0 (Below.refl _ _).drew,Za u1 (Below.refl _ _).drew,Za v0 (Below.refl _ _).drew,Za v1 (Below.refl _ _).drew⟩ ?_
 simp only[steps,sE,sD]
 repeat((first|refine Zf rfl ?_|(refine Zd (v:= ?_) rfl rfl ?_ ?_;rotate_left;(focus(rintro w' ⟨x0,x1,x2,x3⟩;go_simp;try with_reducible rfl))));simp only[Act.put,sA,sB,sC])
 refine Zg ?_
 have HB5:=Hd (HBW.out.trans ((Below.refl wr.heap.size wr).drew.mono HBW.out.size))
 generalize World.drew _=w5 at*
 clear u0 u1 v0 v1
 go_wp2_with fail
 go_roundw
 case rel=>exact⟨i+1,by go_num,HLT.out,HNX1.out,HB5.out⟩
 case measure=>(
 have:=HLT.out
 simp[intOf]
 omega))
 case neg=>(
 have HA:=Hd (HNE.out he)
 rcases Zm5 he with⟨rfl,hne⟩|⟨rfl,rfl⟩|⟨rfl,rfl⟩
 ·(
 have e1:(a1==a1)=true:=by simp
 have e2:(b2==a2)=false:=by rw[beq_eq_false_iff_ne];exact fun e=>hne e.symm
 clear he HNX HNE hne
 go_wp2_with fail
 refine wro [0,1,2,3,4,5,6,7,8] [] 9 (fun W=>W.cell? ⟨g1,q1+i*2,none⟩=some (.bool a1)∧W.cell? ⟨g1,q1+i*2+1,none⟩=some (.int .u64 a2)∧W.cell? ⟨g2,q2+i*2,none⟩=some (.bool a1)∧W.cell? ⟨g2,q2+i*2+1,none⟩=some (.int .u64 b2)) (by kernel_rfl) (fun _ _ _ _ _ h=>h) ⟨Za u0 (Below.refl _ _).drew,Za u1 (Below.refl _ _).drew,Za v0 (Below.refl _ _).drew,Za v1 (Below.refl _ _).drew⟩ ?_
 simp only[steps,sE,sD]
 repeat((first|refine Zf rfl ?_|(refine Zd (v:= ?_) rfl rfl ?_ ?_;rotate_left;(focus(rintro w' ⟨x0,x1,x2,x3⟩;go_simp;try with_reducible rfl))));simp only[Act.put,sA,sB,sC])
 refine Zg ?_
 have HB5:=Hd (HB1.out.trans (HBW.out.trans ((Below.refl wr.heap.size wr).drew.mono HBW.out.size)|>.mono HB1.out.size))
 generalize World.drew _=w5 at*
 clear u0 u1 v0 v1
 go_wp2_with fail
 go_ret
 exact⟨none,0,0,rfl,by rw[HA.out];exact World.ownsRow_nil _ _ _ _,HB5.out⟩)
 ·(
 clear he HNX HNE
 go_wp2_with fail
 refine wro [0,1,2,3,4,5,6,7,8] [] 9 (fun W=>W.cell? ⟨g1,q1+i*2,none⟩=some (.bool true)∧W.cell? ⟨g1,q1+i*2+1,none⟩=some (.int .u64 a2)∧W.cell? ⟨g2,q2+i*2,none⟩=some (.bool false)∧W.cell? ⟨g2,q2+i*2+1,none⟩=some (.int .u64 b2)) (by kernel_rfl) (fun _ _ _ _ _ h=>h) ⟨Za u0 (Below.refl _ _).drew,Za u1 (Below.refl _ _).drew,Za v0 (Below.refl _ _).drew,Za v1 (Below.refl _ _).drew⟩ ?_
 simp only[steps,sE,sD]
 repeat((first|refine Zf rfl ?_|(refine Zd (v:= ?_) rfl rfl ?_ ?_;rotate_left;(focus(rintro w' ⟨x0,x1,x2,x3⟩;go_simp;try with_reducible rfl))));simp only[Act.put,sA,sB,sC])
 refine Zg ?_
 have HB5:=Hd (HB1.out.trans (HBW.out.trans ((Below.refl wr.heap.size wr).drew.mono HBW.out.size)|>.mono HB1.out.size))
 generalize World.drew _=w5 at*
 clear u0 u1 v0 v1
 go_wp2_with fail
 go_ret
 exact⟨none,0,0,rfl,by rw[HA.out];exact World.ownsRow_nil _ _ _ _,HB5.out⟩)
 ·(
 clear he HNX HNE
 go_wp2_with fail
 refine wro [0,1,2,3,4,5,6,7,8] [] 9 (fun W=>W.cell? ⟨g1,q1+i*2,none⟩=some (.bool false)∧W.cell? ⟨g1,q1+i*2+1,none⟩=some (.int .u64 a2)∧W.cell? ⟨g2,q2+i*2,none⟩=some (.bool true)∧W.cell? ⟨g2,q2+i*2+1,none⟩=some (.int .u64 b2)) (by kernel_rfl) (fun _ _ _ _ _ h=>h) ⟨Za u0 (Below.refl _ _).drew,Za u1 (Below.refl _ _).drew,Za v0 (Below.refl _ _).drew,Za v1 (Below.refl _ _).drew⟩ ?_
 simp only[steps,sE,sD]
 repeat((first|refine Zf rfl ?_|(refine Zd (v:= ?_) rfl rfl ?_ ?_;rotate_left;(focus(rintro w' ⟨x0,x1,x2,x3⟩;go_simp;try with_reducible rfl))));simp only[Act.put,sA,sB,sC])
 refine Zg ?_
 have HB5:=Hd (HB1.out.trans (HBW.out.trans ((Below.refl wr.heap.size wr).drew.mono HBW.out.size)|>.mono HB1.out.size))
 generalize World.drew _=w5 at*
 clear u0 u1 v0 v1
 go_wp2_with fail
 go_ret
 exact⟨none,0,0,rfl,by rw[HA.out];exact World.ownsRow_nil _ _ _ _,HB5.out⟩)))
 case neg=>(
 obtain rfl:N9=i:=by omega
 have HEQ:Hid (trmL S z=tl):=Hd (by
 rw[List.take_of_length_le (by rw[HLL.out.1];omega),List.take_of_length_le (by rw[HLL.out.2];omega)] at hall
 exact hall)
 have HBW:=Hd (HB1.out.trans (hb.mono HB1.out.size))
 have HZW:=Hd (HZ1.out.keep hb)
 have HRW:=Hd (HRB1.out.keep hb)
 have HA:Hid (bdsAns S z tl (trmN S z:Int)=bds S z):=Hd (by unfold bdsAns;rw[if_pos ⟨HEQ.out.symm,rfl⟩])
 have q0:=HRW.out.s0
 have q1:=HRW.out.s1
 have q2:=HRW.out.s2
 have z0:=HZW.out.p0
 have z1:=HZW.out.p1
 have z2:=HZW.out.p2
 have z3:=HZW.out.p3
 clear hlt hi hall hb HT9 HTL HB1 HZ1 HRB1 HLL HEQ HB HZ HRB
 go_wp2_with fail
 refine(HAA.out wr HBW.out).mono ?_
 rintro e w2 ⟨D1,k1,e1,D2,k2,e2,D3,k3,e3,L,NN,cc,rfl,hal,hv⟩
 have HB2:=Hd (HBW.out.trans (hv.mono HBW.out.size))
 have HZ2:=Hd (HZW.out.keep hv)
 have HR2:=Hd (HRW.out.keep hv)
 clear hv q0 q1 q2 z0 z1 z2 z3 HAA
 obtain⟨r,hr⟩: ∃r,Zn z=r:=⟨_,rfl⟩
 have HR0:=Hd hr
 rw[hr] at hal ⊢
 clear hr
 cases r with
 |false=>(
 clear hal
 go_wp2_with fail
 go_ret
 exact⟨none,0,0,rfl,by rw[HA.out,ZhS HR0.out];exact World.ownsRow_nil _ _ _ _,HB2.out⟩)
 |true=>
 have HALL:=Hd (hal rfl)
 have HNV:Hid (NN=trmN S z):=Hd (by rw[← HALL.out.n.len,Vo (Yw HR0.out)];unfold trmN;rw[if_pos HR0.out])
 have HNL:Hid (NN≤n1):=Hd (by
 have h1:=List.length_filter_le (cfg S z).lead (List.range (cfg S z).n)
 rw[List.length_range] at h1
 have h2:(cfg S z).n=n1:=(HSEN.out w (Below.refl _ _)).rp.len
 have h3:(cfg S z).sorted.length=NN:=HALL.out.n.len
 rw[Vo (Yw HR0.out)] at h3
 have h4:(cfg S z).vars≤(cfg S z).n:=h1
 omega)
 have HBDS:Hid (bds S z=bdsF S z NN NN):=Hd (by rw[HNV.out];rfl)
 rw[HBDS.out] at HA
 clear hal
 have q0:=HR2.out.s0
 have q1:=HR2.out.s1
 have q2:=HR2.out.s2
 have z0:=HZ2.out.p0
 have z1:=HZ2.out.p1
 have z2:=HZ2.out.p2
 have z3:=HZ2.out.p3
 have HAL3:Hid (Below w2.heap.size w2 (w2.alloc (.cells #[.int .i64 (t:Int),.slice B m d,.int .i64 (q:Int),.slice A1 n1 c1,.slice A2 n2 c2,.slice A3 n3 c3,.slice A4 n4 c4] 93))):=Hd (bA)
 have HBX:=Hd (heap_alloc_new w2 (.cells #[.int .i64 (t:Int),.slice B m d,.int .i64 (q:Int),.slice A1 n1 c1,.slice A2 n2 c2,.slice A3 n3 c3,.slice A4 n4 c4] 93))
 obtain⟨g5,hg5⟩: ∃b,w2.heap.size=b:=⟨_,rfl⟩
 obtain⟨w7,hw7⟩: ∃x,w2.alloc (.cells #[.int .i64 (t:Int),.slice B m d,.int .i64 (q:Int),.slice A1 n1 c1,.slice A2 n2 c2,.slice A3 n3 c3,.slice A4 n4 c4] 93)=x:=⟨_,rfl⟩
 rw[hw7] at HAL3 HBX
 rw[hg5] at HBX
 go_wp2_with fail
 generalize hwd:World.alloc w2 _=wd'
 obtain rfl:w7=wd':=hw7.symm.trans hwd
 try rw[hg5]
 have HB7:=Hd (HB2.out.trans (HAL3.out.mono HB2.out.size))
 have HZ7:=Hd (HZ2.out.keep HAL3.out)
 have HR7:=Hd (HR2.out.keep HAL3.out)
 have HALL7:=Hd (HALL.out.keep HAL3.out)
 clear hwd hw7 hg5 HAL3 HALL HZ2 HR2 HB2 q0 q1 q2 z0 z1 z2 z3 HBW HZW HRW HBDS
 go_wp2_with fail
 go_loopw [18,19] (fun v18 v19 wr=> ∃(k:Nat) (A5:Option Addr) (N5 c5:Nat),v18= .slice A5 N5 c5∧v19= .int .i64 (k:Int)∧k≤NN∧wr.ownsRow w7.heap.size 69 4 (.slice A5 N5 c5) N5 ((bdsF S z NN k).flatMap Bo.bdc)∧Below w7.heap.size w7 wr) (fun _ v19 _=>NN - (intOf v19).toNat)
 case atStart=>exact⟨0,none,0,0,rfl,rfl,Nat.zero_le _,World.ownsRow_nil _ _ _ _,Below.refl _ _⟩
 case round=>(
 obtain⟨k,A5,N5,c5,rfl,rfl,hk,hown,hb⟩:=hrel
 by_cases hlt:k < NN
 case pos=>(
 as_aux_lemma=>(
 have hw:=HR0.out
 have HLT:=Hd hlt
 have hin:(k:Int) < (NN:Int):=by omega
 have hk9:k≤1000:=by have:=HNL.out;have:=HN.out;omega
 have hwk:IntKind.u64.wrap (k:Int)=(k:Int):=by rw[IntKind.wrap_u64];omega
 have hal:Below wr.heap.size wr (wr.alloc (.cells #[.bool true,.int .u64 (k:Int)] 62)):=bA
 have HQ0:Hid (BzR w7 wr.heap.size k (bdsF S z NN k) A5 N5 c5 (wr.alloc (.cells #[.bool true,.int .u64 (k:Int)] 62))):=Hd ⟨Zi hown hal,heap_alloc_new wr _,fun e=>by have:=(hown.lt _ e).2;omega,hb.trans (hal.mono hb.size)⟩
 have HLEN:Hid ((bdsF S z NN k).length≤91000):=Hd (by
 have h1:=Zau S z NN k
 have h2:k*(NN+2)≤300*302:=Nat.mul_le_mul (by have:=HNL.out;have:=HN.out;omega) (by have:=HNL.out;have:=HN.out;omega)
 omega)
 obtain⟨p0,o0,p1,o1,p2,o2,p4,o4,rfl,rfl,rfl,rfl,g2,g3,g4,hL,-,-⟩:=Zgc (HSEN.out w (Below.refl _ _)) hw (by have:=HNL.out;omega)
 obtain rfl:=g2.symm
 obtain rfl:=g3.symm
 obtain rfl:=g4.symm
 have HL:=Hd hL
 have HCL:Hid (∀W,Below w.heap.size w W→Cl W z n1 p0 o0 p1 o1 p2 o2 p4 o4):=Hd fun W hW=>by(
 obtain⟨p0',o0',p1',o1',p2',o2',p4',o4',a1,a2,a3,a4,-,-,-,-,-,hc⟩:=Zgc (HSEN.out W hW) HR0.out (by have:=HNL.out;have:=HLT.out;omega)
 injection a1 with a1
 injection a1 with a1 a1'
 injection a2 with a2
 injection a2 with a2 a2'
 injection a3 with a3
 injection a3 with a3 a3'
 injection a4 with a4
 injection a4 with a4 a4'
 subst a1 a1' a2 a2' a3 a3' a4 a4'
 exact hc)
 have HFL:=Hd (ZfA (HSEN.out w (Below.refl _ _)))
 have HFH:=Hd (ZfB (HSEN.out w (Below.refl _ _)))
 have HBT:=Hd (show S.bot < 18446744073709551616∧S.top < 18446744073709551616 from⟨HOK.out.fitb,HOK.out.fitt⟩)
 have HVB:=Hd (VB.of HBX.out)
 have HUN:Hid (∀W,Below w.heap.size w W→ ∀(a b:Nat) (x y:Vn),(cfg S z).sorted[a]?=some x→(cfg S z).sorted[b]?=some y→Calls Tryz.prog 41 #[vwV t B m d q n1 c1 c2 c3 c4 p0 o0 p1 o1 p2 o2 p4 o4,.agg #[.int .i64 x.u,.int .i64 x.d,.int .i64 x.b],.agg #[.int .i64 y.u,.int .i64 y.d,.int .i64 y.b]] W fun e w'=>e= .returned (.bool (undB S z a b))∧Below W.heap.size W w'):=Hd fun W hW a b x y ha hb=>by
  rw[← ZhP HR0.out ha hb]
  exact ZgW z t B m d q n1 c1 c2 c3 c4 p0 o0 p1 o1 p2 o2 p4 o4 S x y W (HSRT.out W hW) (HCL.out W hW) HFL.out HFH.out (by have:=HN.out;omega) (by rw[← HL.out];exact Zi8 HR0.out ha (by rw[HL.out];have:=HNL.out;have:=HLT.out;omega)) (by rw[← HL.out];exact in_lt HR0.out hb (by rw[HL.out];have:=HNL.out;have:=HLT.out;omega))
 have HIC:Hid (∀(x:Vn) W,Calls Tryz.prog 37 #[.agg #[.int .i64 x.u,.int .i64 x.d,.int .i64 x.b]] W fun e w'=>e= .returned (.int .i64 x.inZ)∧Below W.heap.size W w'):=Hd fun x W=>Zjn x W
 have HOC:Hid (∀(x:Vn) W,Calls Tryz.prog 39 #[.agg #[.int .i64 x.u,.int .i64 x.d,.int .i64 x.b]] W fun e w'=>e= .returned (.int .i64 x.outZ)∧Below W.heap.size W w'):=Hd fun x W=>ZgA x W
 have HBC:Hid (∀W,Below w.heap.size w W→Calls Tryz.prog 38 #[.agg #[.int .i64 (t:Int),.slice B m d,.int .i64 (q:Int)]] W fun e w'=>e= .returned (.int .u64 (S.bot:Int))∧Below W.heap.size W w'):=Hd fun W hW=>Bo.ZhE t B m d q S W (HSRT.out W hW)
 have HTC:Hid (∀W,Below w.heap.size w W→Calls Tryz.prog 40 #[.agg #[.int .i64 (t:Int),.slice B m d,.int .i64 (q:Int)]] W fun e w'=>e= .returned (.int .u64 (S.top:Int))∧Below W.heap.size W w'):=Hd fun W hW=>Bo.ZhF t B m d q S W (HSRT.out W hW)
 unfold vwV at HUN
 have HNO:Hid (∀W,Below w7.heap.size w7 W→ ∀a (ha:a < NN),∃x:Vn,(cfg S z).sorted[a]?=some x):=Hd fun W hW a ha=>⟨_,List.getElem?_eq_getElem (by rw[HALL7.out.n.len];exact ha)⟩
 obtain⟨b,o,rfl,-,-⟩:=HALL7.out.n.spot (by omega)
 have HND:Hid (∀W,Below w7.heap.size w7 W→ ∀a x,(cfg S z).sorted[a]?=some x→W.cell? ⟨b,o+a*3,none⟩=some (.int .i64 x.u)∧W.cell? ⟨b,o+a*3+1,none⟩=some (.int .i64 x.d)∧W.cell? ⟨b,o+a*3+2,none⟩=some (.int .i64 x.b)):=Hd fun W hW a x hx=>by(
 obtain⟨b',o',e,-,hcl⟩:=(HALL7.out.keep hW).n.spot (by have:=HLT.out;omega)
 injection e with e
 injection e with ea eb
 subst ea eb
 obtain⟨hlen,hx⟩:=List.getElem?_eq_some_iff.1 hx
 have u0:=hcl a hlen 0 _ rfl
 have u1:=hcl a hlen 1 _ rfl
 have u2:=hcl a hlen 2 _ rfl
 rw[hx] at u0 u1 u2
 exact⟨u0,u1,u2⟩)
 obtain⟨x,hx⟩:=HNO.out w7 (Below.refl _ _) k hlt
 have HX:=Hd hx
 have HLN:=Hd (@ZlR S z k x hw hx)
 have HLY:=Hd (@Zkt S z k x hw hx)
 have HHN:=Hd (@Zku S z k x hw hx)
 have HHY:=Hd (@ZhM S z k x hw hx)
 have HLTN:=Hd (@ZhN S z x)
 have HLTA:=Hd (@Zkv S z x)
 have HHTN:=Hd (@Zfz S z x)
 have HHTA:=Hd (@ZhO S z x)
 have HIL:Hid (∀u:Nat,x.inZ=(u:Int)→u < n1):=Hd fun u e=>by
  have:=in_lt hw hx (by rw[hL];have:=HNL.out;omega)
  omega
 have HOL:Hid (∀u:Nat,x.outZ=(u:Int)→u < n1):=Hd fun u e=>by
  have:=Zi8 hw hx (by rw[hL];have:=HNL.out;omega)
  omega
 clear hk hlt hw hown hb hal hL hx
 obtain⟨gi,hgi⟩: ∃b,wr.heap.size=b:=⟨_,rfl⟩
 obtain⟨w8,hw8⟩: ∃w8,wr.alloc (.cells #[.bool true,.int .u64 (k:Int)] 62)=w8:=⟨_,rfl⟩
 rw[hgi,hw8] at HQ0
 obtain⟨u0,u1,u2⟩:=HND.out w8 HQ0.out.b k x HX.out
 generalize lowT S z x=lT at*
 generalize QW S z x=hT at*
 go_upto_region 18 with(fail)
 generalize hwd:World.alloc wr _=wd'
 obtain rfl:w8=wd':=hw8.symm.trans hwd
 try rw[hgi]
 clear hwd hw8 hgi
 go_wp2_with fail
 refine(HIC.out x w8).mono ?_
 rintro e w9 ⟨rfl,hv⟩
 have HQ1:=Hd (HQ0.out.behind hv)
 clear hv u0 u1 u2 HQ0
 obtain⟨iu,hiu⟩: ∃i,x.inZ=i:=⟨_,rfl⟩
 rw[hiu]
 have HIU:=Hd hiu
 clear hiu
 go_upto_region 19 with(fail)
 go_cut [20,96] (fun s20 st wx=>s20= .pointer (some ⟨gi,0,none⟩)∧st= .bool lT∧BzR w7 gi k (bdsF S z NN k) A5 N5 c5 wx)
 case first=>(
 as_aux_lemma=>(
 have HZN:=HZ7.out.keep HQ1.out.b
 have HRN:=HR7.out.keep HQ1.out.b
 have q0:=HRN.s0
 have q1:=HRN.s1
 have q2:=HRN.s2
 have y1:=HZN.p1
 clear HZN HRN
 by_cases h0:0≤iu
 case neg=>(
 have HT:Hid (lT=false):=Hd (HLTN.out _ HIU.out (by omega))
 refine wro [0,1,2,3,4,5,6,7,8,9,10,11] [9] 12 (fun W=>W.cell? ⟨w.heap.size,0,none⟩=some (.int .i64 (t:Int))∧W.cell? ⟨w.heap.size,1,none⟩=some (.slice B m d)∧W.cell? ⟨w.heap.size,2,none⟩=some (.int .i64 (q:Int))) (by kernel_rfl) (fun _ _ _ _ _ h=>h) ⟨Za q0 (Below.refl _ _).drew,Za q1 (Below.refl _ _).drew,Za q2 (Below.refl _ _).drew⟩ ?_
 simp only[steps,sE,sD]
 repeat((first|refine Zf rfl ?_|(refine Zd (v:= ?_) rfl rfl ?_ ?_;rotate_left;(focus(rintro w' ⟨x0,x1,x2⟩;go_simp;try with_reducible rfl))));simp only[Act.put,sA,sB,sC])
 refine Zg ?_
 have HQD:=Hd (HQ1.out.behind (Below.refl w9.heap.size w9).drew)
 generalize World.drew _=wd at*
 go_wp2_with fail
 go_meet
 exact⟨rfl,by rw[HT.out],HQD.out⟩)
 case pos=>(
 obtain⟨u,rfl⟩:=Int.eq_ofNat_of_zero_le h0
 have hun:=HIL.out u HIU.out
 have hunn:(u:Int) < (n1:Int):=by omega
 have hu9:u≤1000:=by have:=HN.out;omega
 have f1:=(HCL.out w9 (HB7.out.trans (HQ1.out.b.mono HB7.out.size))).l u hun
 have HT0:Hid (lT= !decide (lw z u=S.bot)):=Hd (HLTA.out _ HIU.out)
 obtain⟨vu,hvu⟩: ∃x,lw z u=x:=⟨_,rfl⟩
 rw[hvu] at f1 HT0
 clear hun hvu
 refine wro [0,1,2,3,4,5,6,7,8,9,10,11] [9] 12 (fun W=>W.cell? ⟨w.heap.size,0,none⟩=some (.int .i64 (t:Int))∧W.cell? ⟨w.heap.size,1,none⟩=some (.slice B m d)∧W.cell? ⟨w.heap.size,2,none⟩=some (.int .i64 (q:Int))∧W.cell? ⟨w.heap.size+1,1,none⟩=some (.slice (some ⟨p1,o1,none⟩) n1 c2)∧W.cell? ⟨p1,o1+u,none⟩=some (.int .u64 (vu:Int))) (by kernel_rfl) (fun _ _ _ _ _ h=>h) ⟨Za q0 (Below.refl _ _).drew,Za q1 (Below.refl _ _).drew,Za q2 (Below.refl _ _).drew,Za y1 (Below.refl _ _).drew,Za f1 (Below.refl _ _).drew⟩ ?_
 simp only[steps,sE,sD]
 repeat((first|refine Zf rfl ?_|(refine Zd (v:= ?_) rfl rfl ?_ ?_;rotate_left;(focus(rintro w' ⟨x0,x1,x2,x3,x4⟩;go_simp;try with_reducible rfl))));simp only[Act.put,sA,sB,sC])
 have HBD:=Hd ((Below.refl w9.heap.size w9).drew)
 generalize World.drew _=wd at*
 refine Ze rfl rfl (fun K hK=> ?_)
 go_simp
 refine(HBC.out wd (HB7.out.trans ((HQ1.out.b.trans (HBD.out.mono HQ1.out.b.size)).mono HB7.out.size))).mono ?_
 rintro e we ⟨rfl,hv⟩
 have HBE:=Hd (HBD.out.trans (hv.mono HBD.out.size))
 refine hK.out _ _ (fun _=>⟨Za q0 HBE.out,Za q1 HBE.out,Za q2 HBE.out,Za y1 HBE.out,Za f1 HBE.out⟩) ?_
 clear hK K hv
 try simp only[Act.put,sA,sB,sC]
 by_cases hve:vu=S.bot
 ·(
 have g3:((vu:Int) !=(S.bot:Int))=false:=by rw[hve];simp
 have HT:Hid (lT=false):=Hd (HT0.out.trans (by rw[decide_eq_true hve];rfl))
 clear hve
 repeat((first|refine Zf rfl ?_|(refine Zd (v:= ?_) rfl rfl ?_ ?_;rotate_left;(focus(rintro w' ⟨x0,x1,x2,x3,x4⟩;go_simp;try with_reducible rfl))));simp only[Act.put,sA,sB,sC])
 refine Zg ?_
 have HQD:=Hd (HQ1.out.behind HBE.out)
 go_wp2_with fail
 go_meet
 exact⟨rfl,by rw[HT.out],HQD.out⟩)
 ·(
 have g3:((vu:Int) !=(S.bot:Int))=true:=by simp;omega
 have HT:Hid (lT=true):=Hd (HT0.out.trans (by rw[decide_eq_false hve];rfl))
 clear hve
 repeat((first|refine Zf rfl ?_|(refine Zd (v:= ?_) rfl rfl ?_ ?_;rotate_left;(focus(rintro w' ⟨x0,x1,x2,x3,x4⟩;go_simp;try with_reducible rfl))));simp only[Act.put,sA,sB,sC])
 refine Zg ?_
 have HQD:=Hd (HQ1.out.behind HBE.out)
 go_wp2_with fail
 go_meet
 exact⟨rfl,by rw[HT.out],HQD.out⟩))
 ))
 obtain⟨rfl,rfl,hQ⟩:=hcut
 have HQE:=Hd hQ
 obtain⟨wE,rfl⟩: ∃x,x=wc:=⟨_,rfl⟩
 clear hQ
 go_upto_if 96 with(fail)
 go_cut [18,20] (fun s18 s20 wx=> ∃A6 N6 c6,s18= .slice A6 N6 c6∧s20= .pointer (some ⟨gi,0,none⟩)∧BzR w7 gi k (bdsF S z NN k++lowBd S z k) A6 N6 c6 wx)
 case first=>(
 as_aux_lemma=>(
 cases lT with
 |false=>(
 have HE:=Hd (HLN.out rfl)
 go_wp2_with fail
 go_meet
 exact⟨A5,N5,c5,rfl,rfl,by rw[HE.out,List.append_nil];exact HQE.out⟩)
 |true=>(
 obtain⟨u,hiu,hun,hE⟩:=HLY.out rfl
 have HE:=Hd hE
 have hun:u < n1:=by rw[← HL.out];exact hun
 have hunn:(u:Int) < (n1:Int):=by omega
 have hu9:u≤1000:=by have:=HN.out;omega
 obtain rfl:iu=(u:Int):=HIU.out.symm.trans hiu
 have HENR:Hid (∀W,Below w7.heap.size w7 W→W.heap[gi]?=some (.cells #[.bool true,.int .u64 (k:Int)] 62 (0,0))→EnR W (w.heap.size+1) 1 p1 o1 u (lw z u) gi k n1 c2):=Hd fun W hW hg=>⟨(HZ7.out.keep hW).p1,(HCL.out W (HB7.out.trans (hW.mono HB7.out.size))).l u hun,(Zb (i:=0) hg).trans rfl,(Zb (i:=1) hg).trans rfl⟩
 obtain⟨vu,hvv⟩: ∃x,lw z u=x:=⟨_,rfl⟩
 rw[hvv] at HENR HE
 clear hun hE hiu hvv
 go_wp2_with fail
 have her:=HENR.out wE HQE.out.b HQE.out.g
 refine wro [0,1,2,3,4,5,6,7,8,9,10,11] [9,10] 12 (fun W=>EnR W (w.heap.size+1) 1 p1 o1 u vu gi k n1 c2) (by kernel_rfl) (fun _ _ _ _ _ h=>h) ⟨her.a,her.x,her.t0,her.t1⟩ ?_
 simp only[steps,sE,sD]
 clear her
 repeat((first|refine Zf rfl ?_|(refine Zd (v:= ?_) rfl rfl ?_ ?_;rotate_left;(focus(rintro w' ⟨x0,x1,x2,x3⟩;go_simp;try with_reducible rfl))));simp only[Act.put,sA,sB,sC])
 have HRD:=Hd (HQE.out.behind ((Below.refl wE.heap.size wE).drew))
 generalize World.drew _=wd at*
 have HO:=Hd (RI wd ⟨false,vu,true,k⟩)
 have HAL:=Hd (show Below wd.heap.size wd (wd.alloc (.cells #[.bool false,.int .u64 (vu:Int),.bool true,.int .u64 (k:Int)] 69)) from bA)
 have HRA:=Hd (HRD.out.behind HAL.out)
 have hsz2:w7.heap.size≤(wd.alloc (.cells #[.bool false,.int .u64 (vu:Int),.bool true,.int .u64 (k:Int)] 69)).heap.size:=HRA.out.b.size
 have HN1:Hid (N5+1≤100000):=Hd (by
 have h1:=Zl Bo.Zr (by decide) HRD.out.o
 have:=HLEN.out
 have:=VG S z k
 try simp only[List.length_append] at h1
 omega)
 refine Ze rfl rfl (fun K hK=> ?_)
 go_simp
 refine hK.out _ _ (fun _=>HENR.out _ HRA.out.b HRA.out.g) ?_
 clear hK K
 try simp only[Act.put,sA,sB,sC]
 refine Ze rfl rfl (fun K hK=> ?_)
 refine Bo.Z9 Bo.Zr (by decide) Bo.YK Tryz.underlying42 Bo.YL rfl (by decide) (.tmp 97) (.tmp 106) rfl w7.heap.size _ N5 _ rfl HRA.out.o _ _ 1 1 [⟨false,vu,true,k⟩] rfl HO.out HN1.out hsz2 ?_
 intro A6 N6 c6 wn HKK HA'
 have HRN:=Hd (HRA.out.add HA'.out)
 refine hK.out _ _ (fun _=>HENR.out wn HRN.out.b HRN.out.g) ?_
 clear hK K HKK HA' HO HAL HRA hsz2 HRD HN1
 try simp only[Act.put,sA,sB,sC]
 repeat((first|refine Zf rfl ?_|(refine Zd (v:= ?_) rfl rfl ?_ ?_;rotate_left;(focus(rintro w' ⟨x0,x1,x2,x3⟩;go_simp;try with_reducible rfl))));simp only[Act.put,sA,sB,sC])
 refine Zg ?_
 go_wp2_with fail
 go_meet
 exact⟨A6,N6,c6,rfl,rfl,by rw[HE.out];exact HRN.out⟩)
 ))
 obtain⟨A6,N6,c6,rfl,rfl,hQ⟩:=hcut
 have HQ2:=Hd hQ
 obtain⟨wB,rfl⟩: ∃x,x=wc:=⟨_,rfl⟩
 clear hQ HQE
 obtain⟨u0,u1,u2⟩:=HND.out wB HQ2.out.b k x HX.out
 go_wp2_with fail
 refine(HOC.out x wB).mono ?_
 rintro e wC ⟨rfl,hv⟩
 have HQ3:=Hd (HQ2.out.behind hv)
 clear hv u0 u1 u2 HQ2
 obtain⟨iv,hiu⟩: ∃i,x.outZ=i:=⟨_,rfl⟩
 rw[hiu]
 have HIV:=Hd hiu
 clear hiu
 go_upto_region 22 with(fail)
 go_cut [20,124] (fun s20 st wx=>s20= .pointer (some ⟨gi,0,none⟩)∧st= .bool hT∧BzR w7 gi k (bdsF S z NN k++lowBd S z k) A6 N6 c6 wx)
 case first=>(
 as_aux_lemma=>(
 have HZN:=HZ7.out.keep HQ3.out.b
 have HRN:=HR7.out.keep HQ3.out.b
 have q0:=HRN.s0
 have q1:=HRN.s1
 have q2:=HRN.s2
 have y1:=HZN.p2
 clear HZN HRN
 by_cases h0:0≤iv
 case neg=>(
 have HT:Hid (hT=false):=Hd (HHTN.out _ HIV.out (by omega))
 refine wro [0,1,2,3,4,5,6,7,8,9,10,11] [9] 12 (fun W=>W.cell? ⟨w.heap.size,0,none⟩=some (.int .i64 (t:Int))∧W.cell? ⟨w.heap.size,1,none⟩=some (.slice B m d)∧W.cell? ⟨w.heap.size,2,none⟩=some (.int .i64 (q:Int))) (by kernel_rfl) (fun _ _ _ _ _ h=>h) ⟨Za q0 (Below.refl _ _).drew,Za q1 (Below.refl _ _).drew,Za q2 (Below.refl _ _).drew⟩ ?_
 simp only[steps,sE,sD]
 repeat((first|refine Zf rfl ?_|(refine Zd (v:= ?_) rfl rfl ?_ ?_;rotate_left;(focus(rintro w' ⟨x0,x1,x2⟩;go_simp;try with_reducible rfl))));simp only[Act.put,sA,sB,sC])
 refine Zg ?_
 have HQD:=Hd (HQ3.out.behind (Below.refl wC.heap.size wC).drew)
 generalize World.drew _=wd at*
 go_wp2_with fail
 go_meet
 exact⟨rfl,by rw[HT.out],HQD.out⟩)
 case pos=>(
 obtain⟨u,rfl⟩:=Int.eq_ofNat_of_zero_le h0
 have hun:=HOL.out u HIV.out
 have hunn:(u:Int) < (n1:Int):=by omega
 have hu9:u≤1000:=by have:=HN.out;omega
 have f1:=(HCL.out wC (HB7.out.trans (HQ3.out.b.mono HB7.out.size))).h u hun
 have HT0:Hid (hT= !decide (hg z u=S.top)):=Hd (HHTA.out _ HIV.out)
 obtain⟨vu,hvu⟩: ∃x,hg z u=x:=⟨_,rfl⟩
 rw[hvu] at f1 HT0
 clear hun hvu
 refine wro [0,1,2,3,4,5,6,7,8,9,10,11] [9] 12 (fun W=>W.cell? ⟨w.heap.size,0,none⟩=some (.int .i64 (t:Int))∧W.cell? ⟨w.heap.size,1,none⟩=some (.slice B m d)∧W.cell? ⟨w.heap.size,2,none⟩=some (.int .i64 (q:Int))∧W.cell? ⟨w.heap.size+1,2,none⟩=some (.slice (some ⟨p2,o2,none⟩) n1 c3)∧W.cell? ⟨p2,o2+u,none⟩=some (.int .u64 (vu:Int))) (by kernel_rfl) (fun _ _ _ _ _ h=>h) ⟨Za q0 (Below.refl _ _).drew,Za q1 (Below.refl _ _).drew,Za q2 (Below.refl _ _).drew,Za y1 (Below.refl _ _).drew,Za f1 (Below.refl _ _).drew⟩ ?_
 simp only[steps,sE,sD]
 repeat((first|refine Zf rfl ?_|(refine Zd (v:= ?_) rfl rfl ?_ ?_;rotate_left;(focus(rintro w' ⟨x0,x1,x2,x3,x4⟩;go_simp;try with_reducible rfl))));simp only[Act.put,sA,sB,sC])
 have HBD:=Hd ((Below.refl wC.heap.size wC).drew)
 generalize World.drew _=wd at*
 refine Ze rfl rfl (fun K hK=> ?_)
 go_simp
 refine(HTC.out wd (HB7.out.trans ((HQ3.out.b.trans (HBD.out.mono HQ3.out.b.size)).mono HB7.out.size))).mono ?_
 rintro e we ⟨rfl,hv⟩
 have HBE:=Hd (HBD.out.trans (hv.mono HBD.out.size))
 refine hK.out _ _ (fun _=>⟨Za q0 HBE.out,Za q1 HBE.out,Za q2 HBE.out,Za y1 HBE.out,Za f1 HBE.out⟩) ?_
 clear hK K hv
 try simp only[Act.put,sA,sB,sC]
 by_cases hve:vu=S.top
 ·(
 have g3:((vu:Int) !=(S.top:Int))=false:=by rw[hve];simp
 have HT:Hid (hT=false):=Hd (HT0.out.trans (by rw[decide_eq_true hve];rfl))
 clear hve
 repeat((first|refine Zf rfl ?_|(refine Zd (v:= ?_) rfl rfl ?_ ?_;rotate_left;(focus(rintro w' ⟨x0,x1,x2,x3,x4⟩;go_simp;try with_reducible rfl))));simp only[Act.put,sA,sB,sC])
 refine Zg ?_
 have HQD:=Hd (HQ3.out.behind HBE.out)
 go_wp2_with fail
 go_meet
 exact⟨rfl,by rw[HT.out],HQD.out⟩)
 ·(
 have g3:((vu:Int) !=(S.top:Int))=true:=by simp;omega
 have HT:Hid (hT=true):=Hd (HT0.out.trans (by rw[decide_eq_false hve];rfl))
 clear hve
 repeat((first|refine Zf rfl ?_|(refine Zd (v:= ?_) rfl rfl ?_ ?_;rotate_left;(focus(rintro w' ⟨x0,x1,x2,x3,x4⟩;go_simp;try with_reducible rfl))));simp only[Act.put,sA,sB,sC])
 refine Zg ?_
 have HQD:=Hd (HQ3.out.behind HBE.out)
 go_wp2_with fail
 go_meet
 exact⟨rfl,by rw[HT.out],HQD.out⟩))
 ))
 obtain⟨rfl,rfl,hQ⟩:=hcut
 have HQE:=Hd hQ
 obtain⟨wE,rfl⟩: ∃x,x=wc:=⟨_,rfl⟩
 clear hQ
 go_upto_if 124 with(fail)
 go_cut [18,20] (fun s18 s20 wx=> ∃A6 N6 c6,s18= .slice A6 N6 c6∧s20= .pointer (some ⟨gi,0,none⟩)∧BzR w7 gi k (bdsF S z NN k++lowBd S z k++highBd S z k) A6 N6 c6 wx)
 case first=>(
 as_aux_lemma=>(
 cases hT with
 |false=>(
 have HE:=Hd (HHN.out rfl)
 go_wp2_with fail
 go_meet
 exact⟨A6,N6,c6,rfl,rfl,by rw[HE.out,List.append_nil];exact HQE.out⟩)
 |true=>(
 obtain⟨u,hiu,hun,hE⟩:=HHY.out rfl
 have HE:=Hd hE
 have hun:u < n1:=by rw[← HL.out];exact hun
 have hunn:(u:Int) < (n1:Int):=by omega
 have hu9:u≤1000:=by have:=HN.out;omega
 obtain rfl:iv=(u:Int):=HIV.out.symm.trans hiu
 have HENR:Hid (∀W,Below w7.heap.size w7 W→W.heap[gi]?=some (.cells #[.bool true,.int .u64 (k:Int)] 62 (0,0))→EnR W (w.heap.size+1) 2 p2 o2 u (hg z u) gi k n1 c3):=Hd fun W hW hg=>⟨(HZ7.out.keep hW).p2,(HCL.out W (HB7.out.trans (hW.mono HB7.out.size))).h u hun,(Zb (i:=0) hg).trans rfl,(Zb (i:=1) hg).trans rfl⟩
 obtain⟨vu,hvv⟩: ∃x,hg z u=x:=⟨_,rfl⟩
 rw[hvv] at HENR HE
 clear hun hE hiu hvv
 go_wp2_with fail
 have her:=HENR.out wE HQE.out.b HQE.out.g
 refine wro [0,1,2,3,4,5,6,7,8,9,10,11] [9,10] 12 (fun W=>EnR W (w.heap.size+1) 2 p2 o2 u vu gi k n1 c3) (by kernel_rfl) (fun _ _ _ _ _ h=>h) ⟨her.a,her.x,her.t0,her.t1⟩ ?_
 simp only[steps,sE,sD]
 clear her
 repeat((first|refine Zf rfl ?_|(refine Zd (v:= ?_) rfl rfl ?_ ?_;rotate_left;(focus(rintro w' ⟨x0,x1,x2,x3⟩;go_simp;try with_reducible rfl))));simp only[Act.put,sA,sB,sC])
 have HRD:=Hd (HQE.out.behind ((Below.refl wE.heap.size wE).drew))
 generalize World.drew _=wd at*
 have HO:=Hd (RI wd ⟨true,k,false,vu⟩)
 have HAL:=Hd (show Below wd.heap.size wd (wd.alloc (.cells #[.bool true,.int .u64 (k:Int),.bool false,.int .u64 (vu:Int)] 69)) from bA)
 have HRA:=Hd (HRD.out.behind HAL.out)
 have hsz2:w7.heap.size≤(wd.alloc (.cells #[.bool true,.int .u64 (k:Int),.bool false,.int .u64 (vu:Int)] 69)).heap.size:=HRA.out.b.size
 have HN1:Hid (N6+1≤100000):=Hd (by
 have h1:=Zl Bo.Zr (by decide) HRD.out.o
 have:=HLEN.out
 have:=VG S z k
 try simp only[List.length_append] at h1
 omega)
 refine Ze rfl rfl (fun K hK=> ?_)
 go_simp
 refine hK.out _ _ (fun _=>HENR.out _ HRA.out.b HRA.out.g) ?_
 clear hK K
 try simp only[Act.put,sA,sB,sC]
 refine Ze rfl rfl (fun K hK=> ?_)
 refine Bo.Z9 Bo.Zr (by decide) Bo.YK Tryz.underlying42 Bo.YL rfl (by decide) (.tmp 125) (.tmp 134) rfl w7.heap.size _ N6 _ rfl HRA.out.o _ _ 1 1 [⟨true,k,false,vu⟩] rfl HO.out HN1.out hsz2 ?_
 intro A6 N6 c6 wn HKK HA'
 have HRN:=Hd (HRA.out.add HA'.out)
 refine hK.out _ _ (fun _=>HENR.out wn HRN.out.b HRN.out.g) ?_
 clear hK K HKK HA' HO HAL HRA hsz2 HRD HN1
 try simp only[Act.put,sA,sB,sC]
 repeat((first|refine Zf rfl ?_|(refine Zd (v:= ?_) rfl rfl ?_ ?_;rotate_left;(focus(rintro w' ⟨x0,x1,x2,x3⟩;go_simp;try with_reducible rfl))));simp only[Act.put,sA,sB,sC])
 refine Zg ?_
 go_wp2_with fail
 go_meet
 exact⟨A6,N6,c6,rfl,rfl,by rw[HE.out];exact HRN.out⟩)
 ))
 obtain⟨A7,N7,c7,rfl,rfl,hQ⟩:=hcut
 have HQ4:=Hd hQ
 obtain⟨wD,rfl⟩: ∃x,x=wc:=⟨_,rfl⟩
 clear hQ HQE
 go_wp2_with fail
 go_loopw [18,23] (fun v18 v23 wr=> ∃(j:Nat) (A:Option Addr) (N c:Nat),v18= .slice A N c∧v23= .int .i64 (j:Int)∧j≤NN∧BzR w7 gi k (bdsF S z NN k++(lowBd S z k++(highBd S z k++covBd S z NN k j))) A N c wr) (fun _ v23 _=>NN - (intOf v23).toNat)
 case atStart=>exact⟨0,A7,N7,c7,rfl,rfl,Nat.zero_le _,by
  have h:=HQ4.out
  rw[List.append_assoc] at h
  have e0:covBd S z NN k 0= []:=rfl
  rw[e0,List.append_nil]
  exact h⟩
 case round=>(
 as_aux_lemma=>(
 clear HQ4
 obtain⟨j,A,N,c,rfl,rfl,hj,hR⟩:=hrel
 have HRJ:=Hd hR
 by_cases hltj:j < NN
 case pos=>(
 obtain⟨y,hy⟩:=HNO.out w7 (Below.refl _ _) j hltj
 have HY:=Hd hy
 obtain⟨u0,u1,u2⟩:=HND.out wr hR.b k x HX.out
 obtain⟨v0,v1,v2⟩:=HND.out wr hR.b j y hy
 have hz:=HVB.out.keep hR.b
 have HLTJ:=Hd hltj
 have hinj:(j:Int) < (NN:Int):=by omega
 have hj9:j≤1000:=by have:=HNL.out;have:=HN.out;omega
 have hwj:IntKind.u64.wrap (j:Int)=(j:Int):=by rw[IntKind.wrap_u64];omega
 have HBW:=Hd (HB7.out.trans (hR.b.mono HB7.out.size))
 have HN1:Hid (N+1≤100000):=Hd (by
 have h1:=Zl Bo.Zr (by decide) hR.o
 rw[List.length_append,List.length_append,List.length_append] at h1
 have:=HLEN.out
 have:=VG S z k
 have:=YS S z k
 have:=Qx S z NN k j
 have:=HNL.out
 have:=HN.out
 omega)
 have HCOV:Hid (covB S z NN k j=(undB S z k j && !btwB S z NN k j)):=Hd (ZgH S z NN k j)
 obtain⟨r,hr⟩: ∃r,undB S z k j=r:=⟨_,rfl⟩
 rw[hr] at HCOV
 have HR:=Hd hr
 clear hj hR hltj hy hr
 go_wp2_with fail
 refine wro [0,1,2,3,4,5,6,7,8,9,10] [9] 11 (fun W=>VB W g5 t B m d q n1 c1 c2 c3 c4 p0 o0 p1 o1 p2 o2 p4 o4∧W.cell? ⟨b,o+k*3,none⟩=some (.int .i64 x.u)∧W.cell? ⟨b,o+k*3+1,none⟩=some (.int .i64 x.d)∧W.cell? ⟨b,o+k*3+2,none⟩=some (.int .i64 x.b)∧W.cell? ⟨b,o+j*3,none⟩=some (.int .i64 y.u)∧W.cell? ⟨b,o+j*3+1,none⟩=some (.int .i64 y.d)∧W.cell? ⟨b,o+j*3+2,none⟩=some (.int .i64 y.b)) (by kernel_rfl) (fun _ _ _ _ _ h=>h) ⟨hz.keep (Below.refl _ _).drew,Za u0 (Below.refl _ _).drew,Za u1 (Below.refl _ _).drew,Za u2 (Below.refl _ _).drew,Za v0 (Below.refl _ _).drew,Za v1 (Below.refl _ _).drew,Za v2 (Below.refl _ _).drew⟩ ?_
 simp only[steps,sE,sD]
 repeat((first|refine Zf rfl ?_|(refine Zd (v:= ?_) rfl rfl ?_ ?_;rotate_left;(focus(rintro w' ⟨⟨x0,x1,x2,x3,x4,x5,x6⟩,y0,y1,y2,y3,y4,y5⟩;go_simp;try with_reducible rfl))));simp only[Act.put,sA,sB,sC])
 have HBD:=Hd ((Below.refl wr.heap.size wr).drew)
 generalize World.drew _=wd at*
 refine Ze rfl rfl (fun K hK=> ?_)
 go_simp
 refine(HUN.out wd (HBW.out.trans (HBD.out.mono HBW.out.size)) k j x y HX.out HY.out).mono ?_
 rintro e we ⟨rfl,hv⟩
 rw[HR.out]
 have HBE:=Hd (HBD.out.trans (hv.mono HBD.out.size))
 refine hK.out _ _ (fun _=>⟨hz.keep HBE.out,Za u0 HBE.out,Za u1 HBE.out,Za u2 HBE.out,Za v0 HBE.out,Za v1 HBE.out,Za v2 HBE.out⟩) ?_
 clear hK K hv
 try simp only[Act.put,sA,sB,sC]
 cases r with
 |false=>(
 repeat((first|refine Zf rfl ?_|(refine Zd (v:= ?_) rfl rfl ?_ ?_;rotate_left;(focus(rintro w' ⟨⟨x0,x1,x2,x3,x4,x5,x6⟩,y0,y1,y2,y3,y4,y5⟩;go_simp;try with_reducible rfl))));simp only[Act.put,sA,sB,sC])
 refine Zg ?_
 have HNX:=Hd (KO HCOV.out)
 have HRX:=Hd (HRJ.out.behind HBE.out)
 clear hz u0 u1 u2 v0 v1 v2
 go_wp2_with fail
 go_roundw
 case rel=>exact⟨j+1,A,N,c,rfl,by go_num,HLTJ.out,by rw[HNX.out];exact HRX.out⟩
 case measure=>(
 have:=HLTJ.out
 simp[intOf]
 omega))
 |true=>(
 repeat((first|refine Zf rfl ?_|(refine Zd (v:= ?_) rfl rfl ?_ ?_;rotate_left;(focus(rintro w' ⟨⟨x0,x1,x2,x3,x4,x5,x6⟩,y0,y1,y2,y3,y4,y5⟩;go_simp;try with_reducible rfl))));simp only[Act.put,sA,sB,sC])
 refine Zg ?_
 have HRX:=Hd (HRJ.out.behind HBE.out)
 clear hz u0 u1 u2 v0 v1 v2 HRJ
 go_wp2_with fail
 go_loopw [24,25] (fun v24 v25 wr=> ∃mm:Nat,v24= .bool (btwB S z mm k j)∧v25= .int .i64 (mm:Int)∧mm≤NN∧BzR w7 gi k (bdsF S z NN k++(lowBd S z k++(highBd S z k++covBd S z NN k j))) A N c wr) (fun _ v25 _=>NN - (intOf v25).toNat)
 case atStart=>exact⟨0,by rw[ZhQ],rfl,Nat.zero_le _,HRX.out⟩
 case round=>(
 as_aux_lemma=>(
 clear HRX
 obtain⟨mm,rfl,rfl,hm,hR⟩:=hrel
 have HRJ:=Hd hR
 by_cases hltm:mm < NN
 case pos=>(
 obtain⟨s,hs⟩:=HNO.out w7 (Below.refl _ _) mm hltm
 have HS:=Hd hs
 obtain⟨u0,u1,u2⟩:=HND.out wr hR.b k x HX.out
 obtain⟨v0,v1,v2⟩:=HND.out wr hR.b j y HY.out
 obtain⟨s0,s1,s2⟩:=HND.out wr hR.b mm s hs
 have hz:=HVB.out.keep hR.b
 have HLTM:=Hd hltm
 have hinm:(mm:Int) < (NN:Int):=by omega
 have hm9:mm≤1000:=by have:=HNL.out;have:=HN.out;omega
 have HBW:=Hd (HB7.out.trans (hR.b.mono HB7.out.size))
 have HNB0:=Hd (ZhR S z mm k j)
 obtain⟨tb,htb⟩: ∃r,btwB S z mm k j=r:=⟨_,rfl⟩
 rw[htb] at HNB0 ⊢
 obtain⟨ra,hra⟩: ∃r,undB S z k mm=r:=⟨_,rfl⟩
 obtain⟨rb,hrb⟩: ∃r,undB S z mm j=r:=⟨_,rfl⟩
 rw[hra,hrb] at HNB0
 have HRA:=Hd hra
 have HRB':=Hd hrb
 clear hm hR hltm hs hra hrb htb
 cases tb with
 |true=>(
 have HNB:Hid (btwB S z (mm+1) k j=true):=Hd (by rw[HNB0.out];rfl)
 go_wp2_with fail
 refine wro [0,1,2,3,4,5,6,7,8,9,10,11,12,13,14,15,16,17,18,19,20,21,22,23,24,25] [11,22] 26 (fun W=>VB W g5 t B m d q n1 c1 c2 c3 c4 p0 o0 p1 o1 p2 o2 p4 o4∧W.cell? ⟨b,o+k*3,none⟩=some (.int .i64 x.u)∧W.cell? ⟨b,o+k*3+1,none⟩=some (.int .i64 x.d)∧W.cell? ⟨b,o+k*3+2,none⟩=some (.int .i64 x.b)∧W.cell? ⟨b,o+j*3,none⟩=some (.int .i64 y.u)∧W.cell? ⟨b,o+j*3+1,none⟩=some (.int .i64 y.d)∧W.cell? ⟨b,o+j*3+2,none⟩=some (.int .i64 y.b)∧W.cell? ⟨b,o+mm*3,none⟩=some (.int .i64 s.u)∧W.cell? ⟨b,o+mm*3+1,none⟩=some (.int .i64 s.d)∧W.cell? ⟨b,o+mm*3+2,none⟩=some (.int .i64 s.b)) (by kernel_rfl) (fun _ _ _ _ _ h=>h) ⟨hz.keep (Below.refl _ _).drew,Za u0 (Below.refl _ _).drew,Za u1 (Below.refl _ _).drew,Za u2 (Below.refl _ _).drew,Za v0 (Below.refl _ _).drew,Za v1 (Below.refl _ _).drew,Za v2 (Below.refl _ _).drew,Za s0 (Below.refl _ _).drew,Za s1 (Below.refl _ _).drew,Za s2 (Below.refl _ _).drew⟩ ?_
 simp only[steps,sE,sD]
 repeat((first|refine Zf rfl ?_|(refine Zd (v:= ?_) rfl rfl ?_ ?_;rotate_left;(focus(rintro w' ⟨⟨x0,x1,x2,x3,x4,x5,x6⟩,y0,y1,y2,y3,y4,y5,y6,y7,y8⟩;go_simp;try with_reducible rfl))));simp only[Act.put,sA,sB,sC])
 refine Zg ?_
 have HRX:=Hd (HRJ.out.behind (Below.refl wr.heap.size wr).drew)
 generalize World.drew _=wd at*
 clear hz u0 u1 u2 v0 v1 v2 s0 s1 s2 HRJ
 go_wp2_with fail
 go_roundw
 case rel=>exact⟨mm+1,by rw[HNB.out],by go_num,HLTM.out,HRX.out⟩
 case measure=>(
 have:=HLTM.out
 simp[intOf]
 omega))
 |false=>(
 go_wp2_with fail
 refine wro [0,1,2,3,4,5,6,7,8,9,10,11,12,13,14,15,16,17,18,19,20,21,22,23,24,25] [11,22] 26 (fun W=>VB W g5 t B m d q n1 c1 c2 c3 c4 p0 o0 p1 o1 p2 o2 p4 o4∧W.cell? ⟨b,o+k*3,none⟩=some (.int .i64 x.u)∧W.cell? ⟨b,o+k*3+1,none⟩=some (.int .i64 x.d)∧W.cell? ⟨b,o+k*3+2,none⟩=some (.int .i64 x.b)∧W.cell? ⟨b,o+j*3,none⟩=some (.int .i64 y.u)∧W.cell? ⟨b,o+j*3+1,none⟩=some (.int .i64 y.d)∧W.cell? ⟨b,o+j*3+2,none⟩=some (.int .i64 y.b)∧W.cell? ⟨b,o+mm*3,none⟩=some (.int .i64 s.u)∧W.cell? ⟨b,o+mm*3+1,none⟩=some (.int .i64 s.d)∧W.cell? ⟨b,o+mm*3+2,none⟩=some (.int .i64 s.b)) (by kernel_rfl) (fun _ _ _ _ _ h=>h) ⟨hz.keep (Below.refl _ _).drew,Za u0 (Below.refl _ _).drew,Za u1 (Below.refl _ _).drew,Za u2 (Below.refl _ _).drew,Za v0 (Below.refl _ _).drew,Za v1 (Below.refl _ _).drew,Za v2 (Below.refl _ _).drew,Za s0 (Below.refl _ _).drew,Za s1 (Below.refl _ _).drew,Za s2 (Below.refl _ _).drew⟩ ?_
 simp only[steps,sE,sD]
 repeat((first|refine Zf rfl ?_|(refine Zd (v:= ?_) rfl rfl ?_ ?_;rotate_left;(focus(rintro w' ⟨⟨x0,x1,x2,x3,x4,x5,x6⟩,y0,y1,y2,y3,y4,y5,y6,y7,y8⟩;go_simp;try with_reducible rfl))));simp only[Act.put,sA,sB,sC])
 have HBD:=Hd ((Below.refl wr.heap.size wr).drew)
 generalize World.drew _=wd at*
 refine Ze rfl rfl (fun K hK=> ?_)
 go_simp
 refine(HUN.out wd (HBW.out.trans (HBD.out.mono HBW.out.size)) k mm x s HX.out HS.out).mono ?_
 rintro e we ⟨rfl,hv⟩
 rw[HRA.out]
 have HBE:=Hd (HBD.out.trans (hv.mono HBD.out.size))
 refine hK.out _ _ (fun _=>⟨hz.keep HBE.out,Za u0 HBE.out,Za u1 HBE.out,Za u2 HBE.out,Za v0 HBE.out,Za v1 HBE.out,Za v2 HBE.out,Za s0 HBE.out,Za s1 HBE.out,Za s2 HBE.out⟩) ?_
 clear hK K hv
 try simp only[Act.put,sA,sB,sC]
 cases ra with
 |false=>(
 have HNB:Hid (btwB S z (mm+1) k j=false):=Hd (by rw[HNB0.out];rfl)
 repeat((first|refine Zf rfl ?_|(refine Zd (v:= ?_) rfl rfl ?_ ?_;rotate_left;(focus(rintro w' ⟨⟨x0,x1,x2,x3,x4,x5,x6⟩,y0,y1,y2,y3,y4,y5,y6,y7,y8⟩;go_simp;try with_reducible rfl))));simp only[Act.put,sA,sB,sC])
 refine Zg ?_
 have HRX:=Hd (HRJ.out.behind HBE.out)
 clear hz u0 u1 u2 v0 v1 v2 s0 s1 s2 HRJ
 go_wp2_with fail
 go_roundw
 case rel=>exact⟨mm+1,by rw[HNB.out],by go_num,HLTM.out,HRX.out⟩
 case measure=>(
 have:=HLTM.out
 simp[intOf]
 omega))
 |true=>(
 repeat((first|refine Zf rfl ?_|(refine Zd (v:= ?_) rfl rfl ?_ ?_;rotate_left;(focus(rintro w' ⟨⟨x0,x1,x2,x3,x4,x5,x6⟩,y0,y1,y2,y3,y4,y5,y6,y7,y8⟩;go_simp;try with_reducible rfl))));simp only[Act.put,sA,sB,sC])
 refine Ze rfl rfl (fun K hK=> ?_)
 go_simp
 refine(HUN.out we (HBW.out.trans (HBE.out.mono HBW.out.size)) mm j s y HS.out HY.out).mono ?_
 rintro e wg ⟨rfl,hv⟩
 rw[HRB'.out]
 have HBG:=Hd (HBE.out.trans (hv.mono HBE.out.size))
 refine hK.out _ _ (fun _=>⟨hz.keep HBG.out,Za u0 HBG.out,Za u1 HBG.out,Za u2 HBG.out,Za v0 HBG.out,Za v1 HBG.out,Za v2 HBG.out,Za s0 HBG.out,Za s1 HBG.out,Za s2 HBG.out⟩) ?_
 clear hK K hv
 try simp only[Act.put,sA,sB,sC]
 have HNB:Hid (btwB S z (mm+1) k j=rb):=Hd (by rw[HNB0.out];cases rb <;> rfl)
 repeat((first|refine Zf rfl ?_|(refine Zd (v:= ?_) rfl rfl ?_ ?_;rotate_left;(focus(rintro w' ⟨⟨x0,x1,x2,x3,x4,x5,x6⟩,y0,y1,y2,y3,y4,y5,y6,y7,y8⟩;go_simp;try with_reducible rfl))));simp only[Act.put,sA,sB,sC])
 refine Zg ?_
 have HRX:=Hd (HRJ.out.behind HBG.out)
 clear hz u0 u1 u2 v0 v1 v2 s0 s1 s2 HRJ
 go_wp2_with fail
 go_roundw
 case rel=>exact⟨mm+1,by rw[HNB.out],by go_num,HLTM.out,HRX.out⟩
 case measure=>(
 have:=HLTM.out
 simp[intOf]
 omega))))
 case neg=>(
 obtain rfl:NN=mm:=by omega
 obtain⟨yb,hyb⟩: ∃r,btwB S z NN k j=r:=⟨_,rfl⟩
 rw[hyb] at HCOV ⊢
 clear hm hltm hyb hR
 cases yb with
 |true=>(
 have HNX:=Hd (KO HCOV.out)
 have HRX:=HRJ
 go_wp2_with fail
 go_roundw
 case rel=>exact⟨j+1,A,N,c,rfl,by go_num,HLTJ.out,by rw[HNX.out];exact HRX.out⟩
 case measure=>(
 have:=HLTJ.out
 simp[intOf]
 omega))
 |false=>(
 have HNX:=Hd (Zbx HCOV.out)
 have t0:=(Zb (i:=0) HRJ.out.g).trans rfl
 have t1:=(Zb (i:=1) HRJ.out.g).trans rfl
 have HO:=Hd (RI wr ⟨true,k,true,j⟩)
 have HAL:=Hd (show Below wr.heap.size wr (wr.alloc (.cells #[.bool true,.int .u64 (k:Int),.bool true,.int .u64 (j:Int)] 69)) from bA)
 have HRA:=Hd (HRJ.out.behind HAL.out)
 have hsz2:w7.heap.size≤(wr.alloc (.cells #[.bool true,.int .u64 (k:Int),.bool true,.int .u64 (j:Int)] 69)).heap.size:=HRA.out.b.size
 go_wp2_with (at_builtin;refine Zk Bo.Zr (by decide) Bo.YK Tryz.underlying42 Bo.YL rfl (by decide) rfl (.tmp 186) (.tmp 192) rfl w7.heap.size _ N _ rfl HRA.out.o _ _ 1 1 [⟨true,k,true,j⟩] rfl HO.out HN1.out hsz2 ?_;intro A' k' c' w' HK HAA)
 go_roundw
 case rel=>exact⟨j+1,A',k',c',rfl,by go_num,HLTJ.out,by
   have h:=HRA.out.add HAA.out
   rw[List.append_assoc,List.append_assoc,List.append_assoc] at h
   rw[HNX.out]
   exact h⟩
 case measure=>(
 have:=HLTJ.out
 simp[intOf]
 omega)))
 ))))
 case neg=>(
 obtain rfl:NN=j:=by omega
 have HOO:Hid (wr.ownsRow w7.heap.size 69 4 (.slice A N c) N ((bdsF S z NN (k+1)).flatMap Bo.bdc)):=Hd (by rw[Qw];exact hR.o)
 have HBB:=Hd hR.b
 clear hj hR hltj HRJ
 go_wp2_with fail
 go_roundw
 case rel=>exact⟨k+1,A,N,c,rfl,by go_num,HLT.out,HOO.out,HBB.out⟩
 case measure=>(
 have:=HLT.out
 simp[intOf]
 omega))
 ))
 ))
 case neg=>(
 obtain rfl:NN=k:=by omega
 have HO:Hid (wr.ownsRow w.heap.size 69 4 (.slice A5 N5 c5) N5 ((bdsAns S z tl (trmN S z:Int)).flatMap Bo.bdc)):=Hd (by rw[HA.out];exact Va hown HB7.out.size)
 have HBF:=Hd (HB7.out.trans (hb.mono HB7.out.size))
 clear hlt hk hown hb
 go_wp2_with fail
 go_ret
 exact⟨A5,N5,c5,rfl,HO.out,HBF.out⟩))))
end Go.Proofs.YtmejhedegmjboaaGreat.I
