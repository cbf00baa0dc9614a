import Derived.Test.YtmejhedegmjboaaGreatLiv
import Derived.Test.YtmejhedegmjboaaGreatPaZ
import Derived.Test.YtmejhedegmjboaaGreatPnI
set_option maxRecDepth 100000
set_option maxHeartbeats 4000000
namespace Go.Proofs.YtmejhedegmjboaaGreat
namespace I
open Go.RowKit PaC
theorem Zgk (A B:Option Addr)(n c n2 c2:Nat)(l l2:List Tm)(w:World)(h:Rs tmc 2 w w.heap.size A n c l)(h2:Rs tmc 2 w w.heap.size B n2 c2 l2)(hn:n≤60000)(res:Bool)(hres:decide (l=l2)=res):
  Calls Tryz.prog 23 #[.slice A n c,.slice B n2 c2] w fun e w'=>e= .returned (.bool res)∧Below w.heap.size w w':=by
 have HL:=Hd h.len
 have HL2:=Hd h2.len
 by_cases hne:n=n2
 case neg=>(
 have g1:((n:Int) !=(n2:Int))=true:=by simp;omega
 obtain rfl:false=res:=by(
 rw[← hres]
 symm
 apply decide_eq_false
 intro e
 have:=HL.out
 have:=HL2.out
 subst e
 omega)
 clear h h2 hn hres hne
 go_enter Tryz.func23,Tryz.ntmps23
 go_wp2
 go_ret
 exact⟨rfl,Below.refl _ _⟩)
 subst hne
 have g1:((n:Int) !=(n:Int))=false:=by simp
 have HH:=Hd h
 have HH2:=Hd h2
 have HN:=Hd hn
 have HR:=Hd hres
 clear h h2 hn hres
 go_enter Tryz.func23,Tryz.ntmps23
 go_wp2
 clear g1
 go_loopw [5] (fun v13 wr=> ∃i:Nat,v13= .int .i64 (i:Int)∧i≤n∧(∀j (q:j < i) (q1:j < l.length) (q2:j < l2.length),l[j]=l2[j])∧Below w.heap.size w wr) (fun v13 _=>n - (intOf v13).toNat)
 case atStart=>exact⟨0,rfl,Nat.zero_le _,fun j q=>absurd q (Nat.not_lt_zero j),Below.refl _ _⟩
 case round=>(
 obtain⟨i,rfl,hi,hall,hb⟩:=hrel
 by_cases hlt:i < n
 ·(
 have hil:i < l.length:=by have:=HL.out;omega
 have hil2:i < l2.length:=by have:=HL2.out;omega
 obtain⟨b1,o1,rfl,-,u0,u1⟩:=Ue (HH.out.at_size lR hb) hil
 obtain⟨b2,o2,rfl,-,v0,v1⟩:=Ue (HH2.out.at_size lR hb) hil2
 have HIL:=Hd (And.intro hil hil2)
 obtain⟨t1,e1⟩: ∃t,l[i]=t:=⟨_,rfl⟩
 obtain⟨t2,e2⟩: ∃t,l2[i]=t:=⟨_,rfl⟩
 rw[e1] at u0 u1
 rw[e2] at v0 v1
 have HE:Hid (l[i]=t1∧l2[i]=t2):=Hd ⟨e1,e2⟩
 have HALL:=Hd hall
 have HLT:=Hd hlt
 have HB:=Hd hb
 have hin:(i:Int) < (n:Int):=by omega
 have hi9:i≤60000:=by have:=HN.out;omega
 have HNO:Hid (t1≠t2→res=false):=Hd fun e=>by(
 rw[← HR.out]
 apply decide_eq_false
 intro e'
 subst e'
 exact e (HE.out.1.symm.trans HE.out.2))
 have HYES:Hid (t1=t2→ ∀j (q:j < i+1) (q1:j < l.length) (q2:j < l2.length),l[j]=l2[j]):=Hd fun e j q q1 q2=>by(
 by_cases e':j=i
 ·subst e'
  rw[HE.out.1,HE.out.2,e]
 ·exact HALL.out j (by omega) q1 q2)
 clear hi hall hlt e1 e2 hb
 obtain⟨a,x⟩:=t1
 obtain⟨b,y⟩:=t2
 simp only at u0 u1 v0 v1
 rcases Zdr (a,x) (b,y) with e|⟨e,e'⟩|⟨e,e'⟩|⟨e,e'⟩
 ·(
 simp only[Prod.mk.injEq] at e
 obtain⟨rfl,rfl⟩:=e
 have HN:=Hd (HYES.out rfl)
 have gx:(x==x)=true:=by simp
 have ga:(a==a)=true:=by simp
 go_wp2_with fail
 refine wro [0,1,2,3,4,5,6,7,8] [] 9 (fun W=>W.cell? ⟨b1,o1+i*2,none⟩=some (.bool a)∧W.cell? ⟨b1,o1+i*2+1,none⟩=some (.int .u64 x)∧W.cell? ⟨b2,o2+i*2,none⟩=some (.bool a)∧W.cell? ⟨b2,o2+i*2+1,none⟩=some (.int .u64 x)) (by kernel_rfl) (fun _ _ _ _ _ h=>h) ⟨u0,u1,v0,v1⟩ ?_
 simp only[steps,sE,sD]
 repeat((first|refine Zf rfl ?_|(refine Zd (v:= ?_) rfl rfl ?_ ?_;rotate_left;(focus(rintro w' ⟨x0,x1,x2,x3⟩;go_simp;try with_reducible rfl))));simp only[Act.put,sA,sB,sC])
 have HBD:=Hd (HB.out.trans ((Below.refl wr.heap.size wr).drew.mono HB.out.size))
 clear u0 u1 v0 v1 HB
 generalize World.drew _=wd at*
 refine Zg ?_
 go_wp2_with fail
 go_roundw
 case rel=>exact⟨i+1,by go_num,HLT.out,HN.out,HBD.out⟩
 case measure=>(
 have:=HLT.out
 simp[intOf]
 omega))
 ·(
 simp only at e e'
 subst e e'
 obtain rfl:false=res:=(HNO.out (by simp)).symm
 go_wp2_with fail
 refine wro [0,1,2,3,4,5,6,7,8] [] 9 (fun W=>W.cell? ⟨b1,o1+i*2,none⟩=some (.bool true)∧W.cell? ⟨b1,o1+i*2+1,none⟩=some (.int .u64 x)∧W.cell? ⟨b2,o2+i*2,none⟩=some (.bool false)∧W.cell? ⟨b2,o2+i*2+1,none⟩=some (.int .u64 y)) (by kernel_rfl) (fun _ _ _ _ _ h=>h) ⟨u0,u1,v0,v1⟩ ?_
 simp only[steps,sE,sD]
 repeat((first|refine Zf rfl ?_|(refine Zd (v:= ?_) rfl rfl ?_ ?_;rotate_left;(focus(rintro w' ⟨x0,x1,x2,x3⟩;go_simp;try with_reducible rfl))));simp only[Act.put,sA,sB,sC])
 have HBD:=Hd (HB.out.trans ((Below.refl wr.heap.size wr).drew.mono HB.out.size))
 clear u0 u1 v0 v1 HB
 generalize World.drew _=wd at*
 refine Zg ?_
 go_wp2_with fail
 go_ret
 exact⟨rfl,HBD.out⟩)
 ·(
 simp only at e e'
 subst e e'
 obtain rfl:false=res:=(HNO.out (by simp)).symm
 go_wp2_with fail
 refine wro [0,1,2,3,4,5,6,7,8] [] 9 (fun W=>W.cell? ⟨b1,o1+i*2,none⟩=some (.bool false)∧W.cell? ⟨b1,o1+i*2+1,none⟩=some (.int .u64 x)∧W.cell? ⟨b2,o2+i*2,none⟩=some (.bool true)∧W.cell? ⟨b2,o2+i*2+1,none⟩=some (.int .u64 y)) (by kernel_rfl) (fun _ _ _ _ _ h=>h) ⟨u0,u1,v0,v1⟩ ?_
 simp only[steps,sE,sD]
 repeat((first|refine Zf rfl ?_|(refine Zd (v:= ?_) rfl rfl ?_ ?_;rotate_left;(focus(rintro w' ⟨x0,x1,x2,x3⟩;go_simp;try with_reducible rfl))));simp only[Act.put,sA,sB,sC])
 have HBD:=Hd (HB.out.trans ((Below.refl wr.heap.size wr).drew.mono HB.out.size))
 clear u0 u1 v0 v1 HB
 generalize World.drew _=wd at*
 refine Zg ?_
 go_wp2_with fail
 go_ret
 exact⟨rfl,HBD.out⟩)
 ·(
 simp only at e e'
 subst e
 obtain rfl:false=res:=(HNO.out (by simp[e'])).symm
 have gx:(x==y)=false:=by simpa using e'
 have ga:(a==a)=true:=by simp
 clear e'
 go_wp2_with fail
 refine wro [0,1,2,3,4,5,6,7,8] [] 9 (fun W=>W.cell? ⟨b1,o1+i*2,none⟩=some (.bool a)∧W.cell? ⟨b1,o1+i*2+1,none⟩=some (.int .u64 x)∧W.cell? ⟨b2,o2+i*2,none⟩=some (.bool a)∧W.cell? ⟨b2,o2+i*2+1,none⟩=some (.int .u64 y)) (by kernel_rfl) (fun _ _ _ _ _ h=>h) ⟨u0,u1,v0,v1⟩ ?_
 simp only[steps,sE,sD]
 repeat((first|refine Zf rfl ?_|(refine Zd (v:= ?_) rfl rfl ?_ ?_;rotate_left;(focus(rintro w' ⟨x0,x1,x2,x3⟩;go_simp;try with_reducible rfl))));simp only[Act.put,sA,sB,sC])
 have HBD:=Hd (HB.out.trans ((Below.refl wr.heap.size wr).drew.mono HB.out.size))
 clear u0 u1 v0 v1 HB
 generalize World.drew _=wd at*
 refine Zg ?_
 go_wp2_with fail
 go_ret
 exact⟨rfl,HBD.out⟩))
 ·(
 obtain rfl:n=i:=by omega
 obtain rfl:true=res:=by(
 rw[← HR.out]
 symm
 apply decide_eq_true
 exact List.ext_getElem (by have:=HL.out;have:=HL2.out;omega) fun j q1 q2=>hall j (by have:=HL.out;omega) q1 q2)
 have HB:=Hd hb
 clear hi hall hlt hb
 go_wp2_with fail
 go_ret
 exact⟨rfl,HB.out⟩))
end I
open Go.RowKit PaC
theorem cfgL:I.cfg lS zL=⟨zL.p.length,fun i=>if i < 4 then i else I.first zL i,I.fixB lS zL,I.sd zL,I.soB zL,I.siB zL,I.mayB lS zL⟩:=by
 have e:I.first zL=fun i=>if i < 4 then i else I.first zL i:=by(
 funext i
 split
 ·next h=>exact Zin h
 ·rfl)
 unfold I.cfg
 rw[← e]
theorem Zl8:I.trmL lS zL= [(false,0),(false,0),(true,0),(true,0)]:=by
 unfold I.trmL I.trm
 rw[cfgL]
 decide+kernel
theorem Zjk:I.trmN lS zL=1:=by
 unfold I.trmN
 rw[cfgL]
 decide+kernel
theorem Zna:I.bds lS zL= []:=by
 refine List.eq_nil_of_length_eq_zero ?_
 unfold I.bds
 rw[Zjk]
 unfold I.bdsF I.bdsV I.lowBd I.highBd I.covBd I.covB I.undB
 rw[cfgL]
 decide+kernel
end Go.Proofs.YtmejhedegmjboaaGreat
namespace Go.Proofs.YtmejhedegmjboaaGreat
open Go.RowKit PaC
theorem Zey (w:World):Rs tmc 2 ((w.alloc (.cells #[.bool true,.int .u64 0] 62)).alloc (.cells #[.bool false,.int .u64 0,.bool false,.int .u64 0,.bool true,.int .u64 0,.bool true,.int .u64 0] 62)) ((w.alloc (.cells #[.bool true,.int .u64 0] 62)).alloc (.cells #[.bool false,.int .u64 0,.bool false,.int .u64 0,.bool true,.int .u64 0,.bool true,.int .u64 0] 62)).heap.size (some ⟨w.heap.size+1,0,none⟩) 4 4 [(false,0),(false,0),(true,0),(true,0)]:=by
 have h:=heap_alloc_new (w.alloc (.cells #[.bool true,.int .u64 0] 62)) (.cells #[.bool false,.int .u64 0,.bool false,.int .u64 0,.bool true,.int .u64 0,.bool true,.int .u64 0] 62)
 rw[World.size_alloc] at h
 exact Rs.of_blk ZK h ⟨[],rfl⟩ rfl lR (by unfold maxLen;omega)
theorem Yz (w:World):Calls Tryz.prog 9 #[] w fun e w'=>e= .returned (.bool true)∧Below w.heap.size w w':=by
 go_enter Tryz.func9,Tryz.ntmps9
 go_wp2_with fail
 refine(Zgj w).mono ?_
 rintro e w1 ⟨g0,rfl,hr,hb1⟩
 have HB1:=Hd hb1
 have hcall:=Zdf (some ⟨g0,0,none⟩) 2 2 1 [3,2] w1 hr (by intro x hx;simp only[List.mem_cons,List.not_mem_nil,or_false] at hx;omega)
 clear hr hb1
 have HC:=Hd hcall
 clear hcall
 go_wp2_with fail
 refine HC.out.mono ?_
 rintro e w2 ⟨a,b,rfl,hbo,hv⟩
 have HB2:=Hd (HB1.out.trans (hv.mono HB1.out.size))
 have HBO:=Hd hbo
 clear hbo hv HC HB1
 go_wp2_with fail
 refine(Zel w2).mono ?_
 rintro e w3 ⟨gs,rfl,hs,hv⟩
 have HB3:=Hd (HB2.out.trans (hv.mono HB2.out.size))
 have HBO3:=Hd (HBO.out.keep hv)
 have HC:=Hd (Zgx sE2 _ _ _ _ _ _ _ _ _ a b lS xS _ hs HBO3.out (Qr _) (ZkJ _))
 clear hv HBO HB2 hs
 unfold schV at HC ⊢
 go_wp2_with fail
 refine HC.out.mono ?_
 rintro e w4 ⟨x1,p1,q1,rfl,hof,hv⟩
 obtain⟨hx1,hp1⟩:=Zm7 hof Zm6 rfl rfl rfl rfl
 obtain⟨A1,n1,c1,A2,n2,c2,A3,n3,c3,A4,n4,c4⟩:=p1
 obtain⟨B1,m1,d1,B2,m2,d2,B3,m3,d3,B4,m4,d4⟩:=q1
 replace hp1:Zx w4 z2 A1 n1 c1 A2 n2 c2 A3 n3 c3 A4 n4 c4:=hp1
 simp only[Q4.v,senV]
 have HB4:=Hd (HB3.out.trans (hv.mono HB3.out.size))
 have HBO4:=Hd (HBO3.out.keep hv)
 have HP1:=Hd hp1.toI
 clear hof hp1 hv HC HBO3 HB3
 subst hx1
 have h8:=B8.new w4 A1 n1 c1 A2 n2 c2 A3 n3 c3 A4 n4 c4 B1 m1 d1 B2 m2 d2 B3 m3 d3 B4 m4 d4
 have hal:=Zbv w4 (.cells #[.slice A1 n1 c1,.slice A2 n2 c2,.slice A3 n3 c3,.slice A4 n4 c4] 28) (.cells #[.slice B1 m1 d1,.slice B2 m2 d2,.slice B3 m3 d3,.slice B4 m4 d4] 28)
 have HBA:=Hd (HB4.out.trans (hal.mono HB4.out.size))
 have HBOA:=Hd (HBO4.out.keep hal)
 have HPA:=Hd (HP1.out.keep hal)
 have H8:=Hd h8
 have t0:=h8.p0
 have t1:=h8.p1
 have t2:=h8.p2
 have t3:=h8.p3
 clear h8 hal HB4 HBO4 HP1
 go_wp2_with fail
 generalize hwa:(w4.alloc (.cells #[.slice A1 n1 c1,.slice A2 n2 c2,.slice A3 n3 c3,.slice A4 n4 c4] 28)).alloc (.cells #[.slice B1 m1 d1,.slice B2 m2 d2,.slice B3 m3 d3,.slice B4 m4 d4] 28)=wa at*
 clear hwa
 generalize w4.heap.size=g3 at*
 have hn1:n1=4:=by rw[← HPA.out.rp.len,Zjj]
 have HOF:=Hd (I.Qi (.iface 74 (.pointer a)) lS zL A1 n1 c1 A2 n2 c2 A3 n3 c3 A4 n4 c4 wa HBOA.out.sl.into HPA.out (by omega))
 clear hn1
 unfold senV at HOF
 refine HOF.out.mono ?_
 rintro e w5 ⟨F1,k3,f3,rfl,ho,hv⟩
 rw[Zjk]
 have hrs:=Rs.of_own ZK (by decide) ho
 rw[Zl8] at hrs
 have HRT:=Hd hrs
 have hk3:k3=4:=hrs.len.symm
 subst hk3
 have HB5:=Hd (HBA.out.trans (hv.mono HBA.out.size))
 have HP5:=Hd (HPA.out.keep hv)
 have H85:=Hd (H8.out.keep hv)
 have HBO5:=Hd (HBOA.out.keep hv)
 have hal:=Zbv w5 (.cells #[.bool true,.int .u64 0] 62) (.cells #[.bool false,.int .u64 0,.bool false,.int .u64 0,.bool true,.int .u64 0,.bool true,.int .u64 0] 62)
 have HAL:=Hd hal
 have HFR:=Hd (Zey w5)
 have hz8:=(heap_alloc_new w5 (.cells #[.bool true,.int .u64 0] 62))
 have HBW:=Hd (show w5.heap.size < (w5.alloc (.cells #[.bool true,.int .u64 0] 62)).heap.size by rw[World.size_alloc];omega)
 have h8:=H85.out
 have t0:=h8.p0
 have t1:=h8.p1
 have t2:=h8.p2
 have t3:=h8.p3
 clear hrs ho hv HOF HBA HPA H8 HBOA h8 hal hz8
 go_wp2_with fail
 generalize (w5.alloc (.cells #[.bool true,.int .u64 0] 62)).alloc (.cells #[.bool false,.int .u64 0,.bool false,.int .u64 0,.bool true,.int .u64 0,.bool true,.int .u64 0] 62)=w6 at*
 have HST:=Hd (I.Zgk F1 (some ⟨w5.heap.size+1,0,none⟩) 4 f3 4 4 _ _ w6 (HRT.out.at_size lR HAL.out) HFR.out (by decide) true (by decide))
 refine HST.out.mono ?_
 rintro e w7 ⟨rfl,hv⟩
 have hv7:=HAL.out.trans (hv.mono HAL.out.size)
 have HB7:=Hd (HB5.out.trans (hv7.mono HB5.out.size))
 have h8:=H85.out.keep hv7
 have t0:=h8.p0
 have t1:=h8.p1
 have t2:=h8.p2
 have t3:=h8.p3
 have hn1:n1=4:=by rw[← HP5.out.rp.len,Zjj]
 have HPB:=Hd (I.UJ (.iface 74 (.pointer a)) lS (Qr _) zL A1 n1 c1 A2 n2 c2 A3 n3 c3 A4 n4 c4 F1 4 f3 _ 1 w7 (HBO5.out.keep hv7).sl.into (HP5.out.keep hv7) (by omega) (HRT.out.at_size lR hv7))
 unfold senV at HPB
 clear hv hv7 h8 hn1 HST HAL HFR HRT HBO5 HP5 H85 HB5 HBW
 go_wp2_with fail
 refine HPB.out.mono ?_
 rintro e w8 ⟨A9,N9,c9,rfl,ho,hv⟩
 have hbd:I.bdsAns lS zL [(false,0),(false,0),(true,0),(true,0)] 1= []:=by(
 unfold I.bdsAns
 rw[Zna]
 split <;> rfl)
 rw[hbd] at ho
 have hN:N9=0:=(Rs.of_own Bo.Zr (by decide) ho).len.symm
 subst hN
 have HB8:=Hd (HB7.out.trans (hv.mono HB7.out.size))
 clear hbd ho hv HPB t0 t1 t2 t3
 go_wp2_with fail
 go_ret
 exact⟨rfl,HB8.out⟩
end Go.Proofs.YtmejhedegmjboaaGreat
namespace Go.Proofs.YtmejhedegmjboaaGreat.I
open Go.RowKit
theorem Zg3 (A B:Option Addr)(n c c2:Nat)(l:List Bo.Bd)(w:World)(h:Rs Bo.bdc 4 w w.heap.size A n c l)(h2:Rs Bo.bdc 4 w w.heap.size B n c2 l):
  Calls Tryz.prog 13 #[.slice A n c,.slice B n c2] w fun e w'=>e= .returned (.bool true)∧Below w.heap.size w w':=by
 have HL:=Hd h.len
 have g1:((n:Int) !=(n:Int))=false:=by simp
 have HH:=Hd h
 have HH2:=Hd h2
 have HN:=Hd (show n≤maxLen from Nat.le_trans h.cap h.top)
 clear h h2
 go_enter Tryz.func13,Tryz.ntmps13
 go_wp2
 clear g1
 go_loopw [5] (fun v5 wr=> ∃i:Nat,v5= .int .i64 (i:Int)∧i≤n∧Below w.heap.size w wr) (fun v5 _=>n - (intOf v5).toNat)
 case atStart=>exact⟨0,rfl,Nat.zero_le _,Below.refl _ _⟩
 case round=>(
 obtain⟨i,rfl,hi,hb⟩:=hrel
 have hn:=HN.out
 unfold maxLen at hn
 by_cases hlt:i < n
 ·(
 have hil:i < l.length:=by have:=HL.out;omega
 obtain⟨b1,o1,rfl,-,u0,u1,u2,u3⟩:=Bo.Ky (HH.out.at_size lR hb) hil
 obtain⟨b2,o2,rfl,-,v0,v1,v2,v3⟩:=Bo.Ky (HH2.out.at_size lR hb) hil
 have HLT:=Hd hlt
 have HB:=Hd hb
 have hin:(i:Int) < (n:Int):=by omega
 clear hi hlt hb
 generalize l[i]=t at*
 obtain⟨a,x,b,y⟩:=t
 simp only at u0 u1 u2 u3 v0 v1 v2 v3
 have ga:(a==a)=true:=by simp
 have gb:(b==b)=true:=by simp
 have gx:((x:Int)==(x:Int))=true:=by simp
 have gy:((y:Int)==(y:Int))=true:=by simp
 go_wp2_with fail
 refine wro [0,1,2,3,4,5,6,7,8] [] 9 (fun W=>(W.cell? ⟨b1,o1+i*4,none⟩=some (.bool a)∧W.cell? ⟨b1,o1+i*4+1,none⟩=some (.int .u64 (x:Int))∧W.cell? ⟨b1,o1+i*4+2,none⟩=some (.bool b)∧W.cell? ⟨b1,o1+i*4+3,none⟩=some (.int .u64 (y:Int)))∧W.cell? ⟨b2,o2+i*4,none⟩=some (.bool a)∧W.cell? ⟨b2,o2+i*4+1,none⟩=some (.int .u64 (x:Int))∧W.cell? ⟨b2,o2+i*4+2,none⟩=some (.bool b)∧W.cell? ⟨b2,o2+i*4+3,none⟩=some (.int .u64 (y:Int))) (by kernel_rfl) (fun _ _ _ _ _ h=>h) ⟨⟨u0,u1,u2,u3⟩,v0,v1,v2,v3⟩ ?_
 simp only[steps,sE,sD]
 repeat((first|refine Zf rfl ?_|(refine Zd (v:= ?_) rfl rfl ?_ ?_;rotate_left;(focus(rintro w' ⟨⟨x0,x1,x2,x3⟩,x4,x5,x6,x7⟩;go_simp;try with_reducible rfl))));simp only[Act.put,sA,sB,sC])
 have HBD:=Hd (HB.out.trans ((Below.refl wr.heap.size wr).drew.mono HB.out.size))
 clear u0 u1 u2 u3 v0 v1 v2 v3 HB
 generalize World.drew _=wd at*
 refine Zg ?_
 go_wp2_with fail
 go_roundw
 case rel=>exact⟨i+1,by go_num,HLT.out,HBD.out⟩
 case measure=>(
 have:=HLT.out
 simp[intOf]
 omega))
 ·(
 obtain rfl:n=i:=by omega
 have HB:=Hd hb
 clear hb hlt hi
 go_wp2_with fail
 go_ret
 exact⟨rfl,HB.out⟩))
end Go.Proofs.YtmejhedegmjboaaGreat.I
namespace Go.Proofs.YtmejhedegmjboaaGreat.I
open Go.RowKit PaC PaM
theorem Zai {S:Bo.Sr}{z:Sen}{v:Nat}{x:Vn}(hw:Zn z=true)(h:(cfg S z).sorted[v]?=some x):((cfg S z).inn v=none∧x.inZ < 0)∨ ∃i y:Nat,(cfg S z).inn v=some i∧x.inZ=(y:Int)∧y < z.p.length∧Z5 (lw z) (bb z) i y:=by
 rcases ZlV (Yw hw) h with h|⟨i,y,e1,e2,hc,hs,ho⟩
 ·exact .inl h
 ·obtain⟨a1,a2,a3,-⟩:=ZeN e1
  exact .inr ⟨i,y,e1,e2,hc.1,Zhc (Yw hw) (Zdl hw) a1 hc.1 a2 hc.2.2 a3 hs ((Qn hc).trans ho).symm⟩
theorem KJ {S:Bo.Sr}{z:Sen}{v:Nat}{x:Vn}(hw:Zn z=true)(h:(cfg S z).sorted[v]?=some x):((cfg S z).out v=none∧x.outZ < 0)∨ ∃i y:Nat,(cfg S z).out v=some i∧x.outZ=(y:Int)∧y < z.p.length∧ZQ (hg z) (bb z) i y:=by
 rcases ZkB (Yw hw) h with h|⟨i,y,e1,e2,hc,hs,ho⟩
 ·exact .inl h
 ·obtain⟨a1,a2,a3,-⟩:=ZeO e1
  exact .inr ⟨i,y,e1,e2,hc.1,ZeM (Yw hw) (Zdl hw) a1 hc.1 a2 hc.2.2 a3 hs ((Qn hc).trans ho).symm⟩
theorem in_lt {S:Bo.Sr}{z:Sen}{v:Nat}{x:Vn}(hw:Zn z=true)(h:(cfg S z).sorted[v]?=some x)(h0:0 < z.p.length):x.inZ < (z.p.length:Int):=by
 rcases Zai hw h with⟨-,h⟩|⟨i,y,-,e,hy,-⟩
 ·omega
 ·omega
theorem Zi8 {S:Bo.Sr}{z:Sen}{v:Nat}{x:Vn}(hw:Zn z=true)(h:(cfg S z).sorted[v]?=some x)(h0:0 < z.p.length):x.outZ < (z.p.length:Int):=by
 rcases KJ hw h with⟨-,h⟩|⟨i,y,-,e,hy,-⟩
 ·omega
 ·omega
def lowT (S:Bo.Sr)(z:Sen)(x:Vn):Bool:=decide (0≤x.inZ) && !decide (lw z x.inZ.toNat=S.bot)
def QW (S:Bo.Sr)(z:Sen)(x:Vn):Bool:=decide (0≤x.outZ) && !decide (hg z x.outZ.toNat=S.top)
theorem ZlR {S:Bo.Sr}{z:Sen}{v:Nat}{x:Vn}(hw:Zn z=true)(h:(cfg S z).sorted[v]?=some x)(hT:lowT S z x=false):lowBd S z v= []:=by
 unfold lowBd
 rcases Zai hw h with⟨e,-⟩|⟨i,y,e,e2,hy,hs⟩
 ·rw[e]
 ·(
 rw[e]
 simp only
 unfold lowT at hT
 rw[e2] at hT
 have h0:(0:Int)≤(y:Int):=by omega
 have hT:lw z y=S.bot:=by simpa [h0] using hT
 rw[if_pos (hs.2.trans hT)])
theorem Zkt {S:Bo.Sr}{z:Sen}{v:Nat}{x:Vn}(hw:Zn z=true)(h:(cfg S z).sorted[v]?=some x)(hT:lowT S z x=true): ∃u:Nat,x.inZ=(u:Int)∧u < z.p.length∧lowBd S z v= [⟨false,lw z u,true,v⟩]:=by
 unfold lowBd
 rcases Zai hw h with⟨e,e2⟩|⟨i,y,e,e2,hy,hs⟩
 ·unfold lowT at hT
  have: ¬0≤x.inZ:=by omega
  simp[this] at hT
 ·(
 rw[e]
 simp only
 unfold lowT at hT
 rw[e2] at hT
 have h0:(0:Int)≤(y:Int):=by omega
 have hT: ¬lw z y=S.bot:=by simpa [h0] using hT
 refine⟨y,e2,hy,?_⟩
 rw[if_neg fun k=>hT (hs.2.symm.trans k),hs.2])
theorem Zku {S:Bo.Sr}{z:Sen}{v:Nat}{x:Vn}(hw:Zn z=true)(h:(cfg S z).sorted[v]?=some x)(hT:QW S z x=false):highBd S z v= []:=by
 unfold highBd
 rcases KJ hw h with⟨e,-⟩|⟨i,y,e,e2,hy,hs⟩
 ·rw[e]
 ·(
 rw[e]
 simp only
 unfold QW at hT
 rw[e2] at hT
 have h0:(0:Int)≤(y:Int):=by omega
 have hT:hg z y=S.top:=by simpa [h0] using hT
 rw[if_pos (hs.2.trans hT)])
theorem ZhM {S:Bo.Sr}{z:Sen}{v:Nat}{x:Vn}(hw:Zn z=true)(h:(cfg S z).sorted[v]?=some x)(hT:QW S z x=true): ∃u:Nat,x.outZ=(u:Int)∧u < z.p.length∧highBd S z v= [⟨true,v,false,hg z u⟩]:=by
 unfold highBd
 rcases KJ hw h with⟨e,e2⟩|⟨i,y,e,e2,hy,hs⟩
 ·unfold QW at hT
  have: ¬0≤x.outZ:=by omega
  simp[this] at hT
 ·(
 rw[e]
 simp only
 unfold QW at hT
 rw[e2] at hT
 have h0:(0:Int)≤(y:Int):=by omega
 have hT: ¬hg z y=S.top:=by simpa [h0] using hT
 refine⟨y,e2,hy,?_⟩
 rw[if_neg fun k=>hT (hs.2.symm.trans k),hs.2])
theorem ZhN {S:Bo.Sr}{z:Sen}{x:Vn}(i:Int)(e:x.inZ=i)(h: ¬0≤i):lowT S z x=false:=by
 unfold lowT
 rw[e,decide_eq_false h]
 rfl
theorem Zkv {S:Bo.Sr}{z:Sen}{x:Vn}(u:Nat)(e:x.inZ=(u:Int)):lowT S z x= !decide (lw z u=S.bot):=by
 unfold lowT
 rw[e,decide_eq_true (Int.natCast_nonneg u),Int.toNat_natCast,Bool.true_and]
theorem Zfz {S:Bo.Sr}{z:Sen}{x:Vn}(i:Int)(e:x.outZ=i)(h: ¬0≤i):QW S z x=false:=by
 unfold QW
 rw[e,decide_eq_false h]
 rfl
theorem ZhO {S:Bo.Sr}{z:Sen}{x:Vn}(u:Nat)(e:x.outZ=(u:Int)):QW S z x= !decide (hg z u=S.top):=by
 unfold QW
 rw[e,decide_eq_true (Int.natCast_nonneg u),Int.toNat_natCast,Bool.true_and]
theorem ZhP {S:Bo.Sr}{z:Sen}{v w:Nat}{x y:Vn}(hw:Zn z=true)(h:(cfg S z).sorted[v]?=some x)(g:(cfg S z).sorted[w]?=some y):undN S z x y=undB S z v w:=by
 unfold undN undB
 have e0:decide (x=y)=decide (v=w):=by
  rw[Bool.eq_iff_iff,decide_eq_true_eq,decide_eq_true_eq]
  exact ZfQ (Yw hw) h g
 rw[e0]
 congr 1
 rcases KJ hw h with⟨e,e2⟩|⟨i,a,e,e2,ha,hs⟩
 ·rw[e,decide_eq_false (by omega)]
  rfl
 ·(
 rcases Zai hw g with⟨k,k2⟩|⟨j,b,k,k2,hb,ht⟩
 ·rw[e,k,decide_eq_false (p:=0≤y.inZ) (by omega),Bool.false_and,Bool.and_false]
 ·rw[e,k,e2,k2,decide_eq_true (Int.natCast_nonneg a),decide_eq_true (Int.natCast_nonneg b),Int.toNat_natCast,Int.toNat_natCast,Bool.true_and,Bool.true_and]
  simp only
  rw[hs.2,ht.2,hs.1 j,ht.1 a])
theorem ZhQ (S:Bo.Sr)(z:Sen)(v w:Nat):btwB S z 0 v w=false:=rfl
theorem ZhR (S:Bo.Sr)(z:Sen)(m v w:Nat):btwB S z (m+1) v w=(btwB S z m v w||(undB S z v m && undB S z m w)):=by
 unfold btwB
 rw[List.range_succ,List.any_append]
 simp
theorem ZhS {S:Bo.Sr}{z:Sen}(h:Zn z=false):bds S z= []:=by
 unfold bds trmN
 rw[h]
 rfl
end Go.Proofs.YtmejhedegmjboaaGreat.I
