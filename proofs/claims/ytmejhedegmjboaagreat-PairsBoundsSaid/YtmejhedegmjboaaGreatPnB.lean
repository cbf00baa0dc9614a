import Derived.Test.YtmejhedegmjboaaGreatPnA
import Derived.Test.YtmejhedegmjboaaGreatRfC
import Derived.Test.YtmejhedegmjboaaGreatTd2
set_option maxRecDepth 100000
set_option maxHeartbeats 4000000
namespace Go.Proofs.YtmejhedegmjboaaGreat.I
open Go.RowKit PaC
def vwV (t:Nat)(B:Option Addr)(m d q n c1 c2 c3 c4 p0 o0 p1 o1 p2 o2 p4 o4:Nat):Value:= .agg #[.int .i64 (t:Int),.slice B m d,.int .i64 (q:Int),.slice (some ⟨p0,o0,none⟩) n c1,.slice (some ⟨p1,o1,none⟩) n c2,.slice (some ⟨p2,o2,none⟩) n c3,.slice (some ⟨p4,o4,none⟩) n c4]
structure VB (w:World)(g:Nat)(t:Nat)(B:Option Addr)(m d q n c1 c2 c3 c4 p0 o0 p1 o1 p2 o2 p4 o4:Nat):Prop where
 s0:w.cell? ⟨g,0,none⟩=some (.int .i64 (t:Int))
 s1:w.cell? ⟨g,1,none⟩=some (.slice B m d)
 s2:w.cell? ⟨g,2,none⟩=some (.int .i64 (q:Int))
 z0:w.cell? ⟨g,3,none⟩=some (.slice (some ⟨p0,o0,none⟩) n c1)
 z1:w.cell? ⟨g,4,none⟩=some (.slice (some ⟨p1,o1,none⟩) n c2)
 z2:w.cell? ⟨g,5,none⟩=some (.slice (some ⟨p2,o2,none⟩) n c3)
 z3:w.cell? ⟨g,6,none⟩=some (.slice (some ⟨p4,o4,none⟩) n c4)
theorem VB.keep {w W:World}{g:Nat}{t:Nat}{B:Option Addr}{m d q n c1 c2 c3 c4 p0 o0 p1 o1 p2 o2 p4 o4:Nat}(h:VB w g t B m d q n c1 c2 c3 c4 p0 o0 p1 o1 p2 o2 p4 o4)(hb:Below w.heap.size w W):VB W g t B m d q n c1 c2 c3 c4 p0 o0 p1 o1 p2 o2 p4 o4:=
 ⟨Za h.s0 hb,Za h.s1 hb,Za h.s2 hb,Za h.z0 hb,Za h.z1 hb,Za h.z2 hb,Za h.z3 hb⟩
theorem VB.of {w:World}{g:Nat}{t:Nat}{B:Option Addr}{m d q n c1 c2 c3 c4 p0 o0 p1 o1 p2 o2 p4 o4:Nat}(h:w.heap[g]?=some (.cells #[.int .i64 (t:Int),.slice B m d,.int .i64 (q:Int),.slice (some ⟨p0,o0,none⟩) n c1,.slice (some ⟨p1,o1,none⟩) n c2,.slice (some ⟨p2,o2,none⟩) n c3,.slice (some ⟨p4,o4,none⟩) n c4] 93 (0,0))):VB w g t B m d q n c1 c2 c3 c4 p0 o0 p1 o1 p2 o2 p4 o4:=
 ⟨(Zb (i:=0) h).trans rfl,(Zb (i:=1) h).trans rfl,(Zb (i:=2) h).trans rfl,(Zb (i:=3) h).trans rfl,(Zb (i:=4) h).trans rfl,(Zb (i:=5) h).trans rfl,(Zb (i:=6) h).trans rfl⟩
theorem Zhs {z:Sen}{a b j:Nat}(hj:j < z.p.length)(h:bb z a j≠bb z b j):soB z a b=false:=by
 cases e:soB z a b with
 |false=>rfl
 |true=>exact absurd ((VJ.1 e).2 j hj) h
theorem Zht {z:Sen}{a b j:Nat}(hj:j < z.p.length)(h:bb z j a≠bb z j b):siB z a b=false:=by
 cases e:siB z a b with
 |false=>rfl
 |true=>exact absurd ((VK.1 e).2 j hj) h
theorem Zly {z:Sen}{a b:Nat}(h: ∀j < z.p.length,bb z a j=bb z b j):soB z a b=decide (hg z a=hg z b):=by
 rw[Bool.eq_iff_iff,VJ,decide_eq_true_eq]
 exact⟨fun e=>e.1,fun e=>⟨e,h⟩⟩
theorem Zlz {z:Sen}{a b:Nat}(h: ∀j < z.p.length,bb z j a=bb z j b):siB z a b=decide (lw z a=lw z b):=by
 rw[Bool.eq_iff_iff,VK,decide_eq_true_eq]
 exact⟨fun e=>e.1,fun e=>⟨e,h⟩⟩
theorem ZdT (z:Sen)(t:Nat)(B:Option Addr)(m d q n c1 c2 c3 c4 p0 o0 p1 o1 p2 o2 p4 o4:Nat)(a b:Nat)(w:World)(h:Cl w z n p0 o0 p1 o1 p2 o2 p4 o4)(hL:z.p.length=n)(hn:n≤1000)(ha:a < n)(hb:b < n):
  Calls Tryz.prog 108 #[vwV t B m d q n c1 c2 c3 c4 p0 o0 p1 o1 p2 o2 p4 o4,.int .i64 (a:Int),.int .i64 (b:Int)] w fun e w'=>e= .returned (.bool (siB z a b))∧Below w.heap.size w w':=by
 have hz:=VB.of (heap_alloc_new w (.cells #[.int .i64 (t:Int),.slice B m d,.int .i64 (q:Int),.slice (some ⟨p0,o0,none⟩) n c1,.slice (some ⟨p1,o1,none⟩) n c2,.slice (some ⟨p2,o2,none⟩) n c3,.slice (some ⟨p4,o4,none⟩) n c4] 93))
 have hal:Below w.heap.size w (w.alloc (.cells #[.int .i64 (t:Int),.slice B m d,.int .i64 (q:Int),.slice (some ⟨p0,o0,none⟩) n c1,.slice (some ⟨p1,o1,none⟩) n c2,.slice (some ⟨p2,o2,none⟩) n c3,.slice (some ⟨p4,o4,none⟩) n c4] 93)):=bA
 have HC:=Hd (h.keep hal)
 have HL:=Hd hL
 have HA:=Hd ha
 have HB':=Hd hb
 have HN:=Hd hn
 have HB:=Hd hal
 have HZ:=Hd hz
 have han:(a:Int) < (n:Int):=by omega
 have hbn:(b:Int) < (n:Int):=by omega
 have ha9:a≤1000:=by omega
 have hb9:b≤1000:=by omega
 clear hal h hL hn ha hb hz
 unfold vwV
 go_enter Tryz.func108,Tryz.ntmps108
 go_wp2_with fail
 generalize w.alloc (.cells #[.int .i64 (t:Int),.slice B m d,.int .i64 (q:Int),.slice (some ⟨p0,o0,none⟩) n c1,.slice (some ⟨p1,o1,none⟩) n c2,.slice (some ⟨p2,o2,none⟩) n c3,.slice (some ⟨p4,o4,none⟩) n c4] 93)=wa at*
 obtain⟨wo,rfl⟩: ∃wo,wo=wa:=⟨_,rfl⟩
 go_loopw [7] (fun vm wr=> ∃j:Nat,vm= .int .i64 (j:Int)∧j≤n∧(∀k < j,bb z k a=bb z k b)∧Below wo.heap.size wo wr) (fun vm _=>n - (intOf vm).toNat)
 case atStart=>exact⟨0,rfl,Nat.zero_le _,(fun k hk=>absurd hk (Nat.not_lt_zero k)),Below.refl _ _⟩
 case round=>(
 obtain⟨j,rfl,hj,hall,hbr⟩:=hrel
 have HALL:=Hd hall
 have HBR:=Hd hbr
 have hz:=HZ.out.keep hbr
 have hcl:=HC.out.keep hbr
 have z0:=hz.z0
 clear hall hbr
 by_cases hlt:j < n
 ·(
 have HLT:=Hd hlt
 have hjn:(j:Int) < (n:Int):=by omega
 have hj9:j≤1000:=by have:=HN.out;omega
 obtain⟨g,e,y,r1,hr⟩:=hcl.b j hlt
 have b1:=hr a HA.out
 have b2:=hr b HB'.out
 clear hr
 clear hcl hlt hj
 obtain⟨xa,hxa⟩: ∃x,bb z j a=x:=⟨_,rfl⟩
 obtain⟨xb,hxb⟩: ∃x,bb z j b=x:=⟨_,rfl⟩
 rw[hxa] at b1
 rw[hxb] at b2
 have Hxa:=Hd hxa
 have Hxb:=Hd hxb
 clear hxa hxb
 go_wp2_with fail
 clear z0
 by_cases hab:xa=xb
 case neg=>(
 have HAB:=Hd hab
 clear hab
 cases xa <;> cases xb <;> first|exact absurd rfl HAB.out|skip
 all_goals(
 refine wro [0,1,2,3,4,5,6,7,8,9,10,11,12,13,14,15,16,17,18] [] 19 (fun W=>VB W w.heap.size t B m d q n c1 c2 c3 c4 p0 o0 p1 o1 p2 o2 p4 o4∧W.cell? ⟨p4,o4+j,none⟩=some (.slice (some ⟨g,e,none⟩) n y)∧W.cell? ⟨g,e+a,none⟩=some (.bool _)∧W.cell? ⟨g,e+b,none⟩=some (.bool _)) (by kernel_rfl) (fun _ _ _ _ _ h=>h) ⟨hz.keep (Below.refl _ _).drew,Za r1 (Below.refl _ _).drew,Za b1 (Below.refl _ _).drew,Za b2 (Below.refl _ _).drew⟩ ?_
 simp only[steps,sE,sD]
 repeat((first|refine Zf rfl ?_|(refine Zd (v:= ?_) rfl rfl ?_ ?_;rotate_left;(focus(rintro w' ⟨⟨x0,x1,x2,x3,x4,x5,x6⟩,y0,y1,y2⟩;go_simp;try with_reducible rfl))));simp only[Act.put,sA,sB,sC])
 refine Zg ?_
 have HB4:=Hd (HB.out.trans ((HBR.out.trans ((Below.refl wr.heap.size wr).drew.mono HBR.out.size)).mono HB.out.size))
 generalize World.drew _=we at*
 go_wp2_with fail
 go_ret
 exact⟨by rw[Zht (j:=j) (by rw[HL.out];exact HLT.out) (by rw[Hxa.out,Hxb.out];decide)];rfl,HB4.out⟩))
 have HEQ:Hid (bb z j a=bb z j b):=Hd (by rw[Hxa.out,Hxb.out];exact hab)
 subst hab
 cases xa
 all_goals(
 refine wro [0,1,2,3,4,5,6,7,8,9,10,11,12,13,14,15,16,17,18] [] 19 (fun W=>VB W w.heap.size t B m d q n c1 c2 c3 c4 p0 o0 p1 o1 p2 o2 p4 o4∧W.cell? ⟨p4,o4+j,none⟩=some (.slice (some ⟨g,e,none⟩) n y)∧W.cell? ⟨g,e+a,none⟩=some (.bool _)∧W.cell? ⟨g,e+b,none⟩=some (.bool _)) (by kernel_rfl) (fun _ _ _ _ _ h=>h) ⟨hz.keep (Below.refl _ _).drew,Za r1 (Below.refl _ _).drew,Za b1 (Below.refl _ _).drew,Za b2 (Below.refl _ _).drew⟩ ?_
 simp only[steps,sE,sD]
 repeat((first|refine Zf rfl ?_|(refine Zd (v:= ?_) rfl rfl ?_ ?_;rotate_left;(focus(rintro w' ⟨⟨x0,x1,x2,x3,x4,x5,x6⟩,y0,y1,y2⟩;go_simp;try with_reducible rfl))));simp only[Act.put,sA,sB,sC])
 refine Zg ?_
 have HBR2:=Hd (HBR.out.trans ((Below.refl wr.heap.size wr).drew.mono HBR.out.size))
 clear r1 b1 b2 hz HBR
 generalize World.drew _=we at*
 go_wp2_with fail
 go_roundw
 case rel=>exact⟨j+1,by go_num,HLT.out,(fun k hk=>by
  by_cases ek:k=j
  ·subst ek;exact HEQ.out
  ·exact HALL.out k (by omega)),HBR2.out⟩
 case measure=>
  have:=HLT.out
  simp[intOf]
  omega))
 ·(
 obtain rfl:n=j:=by omega
 have f1:=hcl.l a HA.out
 have f2:=hcl.l b HB'.out
 have HEND:=Hd (Zlz (z:=z) (a:=a) (b:=b) fun k hk=>HALL.out k (by rw[← HL.out];exact hk))
 obtain⟨u,hu⟩: ∃x,lw z a=x:=⟨_,rfl⟩
 obtain⟨v,hv⟩: ∃x,lw z b=x:=⟨_,rfl⟩
 rw[hu] at f1
 rw[hv] at f2
 have HU:=Hd hu
 have HV:=Hd hv
 clear hu hv hlt hcl hj
 go_wp2_with fail
 clear z0
 by_cases huv:u=v
 case neg=>(
 have hne:((u:Int)==(v:Int))=false:=by rw[beq_eq_false_iff_ne];omega
 refine wro [0,1,2,3,4,5,6,7,8,9,10,11,12,13] [] 14 (fun W=>VB W w.heap.size t B m d q n c1 c2 c3 c4 p0 o0 p1 o1 p2 o2 p4 o4∧W.cell? ⟨p1,o1+a,none⟩=some (.int .u64 (u:Int))∧W.cell? ⟨p1,o1+b,none⟩=some (.int .u64 (v:Int))) (by kernel_rfl) (fun _ _ _ _ _ h=>h) ⟨hz.keep (Below.refl _ _).drew,Za f1 (Below.refl _ _).drew,Za f2 (Below.refl _ _).drew⟩ ?_
 simp only[steps,sE,sD]
 repeat((first|refine Zf rfl ?_|(refine Zd (v:= ?_) rfl rfl ?_ ?_;rotate_left;(focus(rintro w' ⟨⟨x0,x1,x2,x3,x4,x5,x6⟩,y0,y1⟩;go_simp;try with_reducible rfl))));simp only[Act.put,sA,sB,sC])
 refine Zg ?_
 have HB4:=Hd (HB.out.trans ((HBR.out.trans ((Below.refl wr.heap.size wr).drew.mono HBR.out.size)).mono HB.out.size))
 generalize World.drew _=we at*
 go_wp2_with fail
 go_ret
 exact⟨by rw[HEND.out,HU.out,HV.out,decide_eq_false huv];rfl,HB4.out⟩)
 have hne:((u:Int)==(v:Int))=true:=by rw[beq_iff_eq];omega
 refine wro [0,1,2,3,4,5,6,7,8,9,10,11,12,13] [] 14 (fun W=>VB W w.heap.size t B m d q n c1 c2 c3 c4 p0 o0 p1 o1 p2 o2 p4 o4∧W.cell? ⟨p1,o1+a,none⟩=some (.int .u64 (u:Int))∧W.cell? ⟨p1,o1+b,none⟩=some (.int .u64 (v:Int))) (by kernel_rfl) (fun _ _ _ _ _ h=>h) ⟨hz.keep (Below.refl _ _).drew,Za f1 (Below.refl _ _).drew,Za f2 (Below.refl _ _).drew⟩ ?_
 simp only[steps,sE,sD]
 repeat((first|refine Zf rfl ?_|(refine Zd (v:= ?_) rfl rfl ?_ ?_;rotate_left;(focus(rintro w' ⟨⟨x0,x1,x2,x3,x4,x5,x6⟩,y0,y1⟩;go_simp;try with_reducible rfl))));simp only[Act.put,sA,sB,sC])
 refine Zg ?_
 have HB4:=Hd (HB.out.trans ((HBR.out.trans ((Below.refl wr.heap.size wr).drew.mono HBR.out.size)).mono HB.out.size))
 generalize World.drew _=we at*
 go_wp2_with fail
 go_ret
 exact⟨by rw[HEND.out,HU.out,HV.out,decide_eq_true huv];rfl,HB4.out⟩))
theorem ZbU (z:Sen)(t:Nat)(B:Option Addr)(m d q n c1 c2 c3 c4 p0 o0 p1 o1 p2 o2 p4 o4:Nat)(a b:Nat)(w:World)(h:Cl w z n p0 o0 p1 o1 p2 o2 p4 o4)(hL:z.p.length=n)(hn:n≤1000)(ha:a < n)(hb:b < n):
  Calls Tryz.prog 109 #[vwV t B m d q n c1 c2 c3 c4 p0 o0 p1 o1 p2 o2 p4 o4,.int .i64 (a:Int),.int .i64 (b:Int)] w fun e w'=>e= .returned (.bool (soB z a b))∧Below w.heap.size w w':=by
 have hz:=VB.of (heap_alloc_new w (.cells #[.int .i64 (t:Int),.slice B m d,.int .i64 (q:Int),.slice (some ⟨p0,o0,none⟩) n c1,.slice (some ⟨p1,o1,none⟩) n c2,.slice (some ⟨p2,o2,none⟩) n c3,.slice (some ⟨p4,o4,none⟩) n c4] 93))
 have hal:Below w.heap.size w (w.alloc (.cells #[.int .i64 (t:Int),.slice B m d,.int .i64 (q:Int),.slice (some ⟨p0,o0,none⟩) n c1,.slice (some ⟨p1,o1,none⟩) n c2,.slice (some ⟨p2,o2,none⟩) n c3,.slice (some ⟨p4,o4,none⟩) n c4] 93)):=bA
 have HC:=Hd (h.keep hal)
 have HL:=Hd hL
 have HA:=Hd ha
 have HB':=Hd hb
 have HN:=Hd hn
 have HB:=Hd hal
 have HZ:=Hd hz
 have han:(a:Int) < (n:Int):=by omega
 have hbn:(b:Int) < (n:Int):=by omega
 have ha9:a≤1000:=by omega
 have hb9:b≤1000:=by omega
 clear hal h hL hn ha hb hz
 unfold vwV
 go_enter Tryz.func109,Tryz.ntmps109
 go_wp2_with fail
 generalize w.alloc (.cells #[.int .i64 (t:Int),.slice B m d,.int .i64 (q:Int),.slice (some ⟨p0,o0,none⟩) n c1,.slice (some ⟨p1,o1,none⟩) n c2,.slice (some ⟨p2,o2,none⟩) n c3,.slice (some ⟨p4,o4,none⟩) n c4] 93)=wa at*
 obtain⟨wo,rfl⟩: ∃wo,wo=wa:=⟨_,rfl⟩
 go_loopw [7] (fun vm wr=> ∃j:Nat,vm= .int .i64 (j:Int)∧j≤n∧(∀k < j,bb z a k=bb z b k)∧Below wo.heap.size wo wr) (fun vm _=>n - (intOf vm).toNat)
 case atStart=>exact⟨0,rfl,Nat.zero_le _,(fun k hk=>absurd hk (Nat.not_lt_zero k)),Below.refl _ _⟩
 case round=>(
 obtain⟨j,rfl,hj,hall,hbr⟩:=hrel
 have HALL:=Hd hall
 have HBR:=Hd hbr
 have hz:=HZ.out.keep hbr
 have hcl:=HC.out.keep hbr
 have z0:=hz.z0
 clear hall hbr
 by_cases hlt:j < n
 ·(
 have HLT:=Hd hlt
 have hjn:(j:Int) < (n:Int):=by omega
 have hj9:j≤1000:=by have:=HN.out;omega
 obtain⟨g,e,y,r1,hr⟩:=hcl.b a HA.out
 obtain⟨g',e',y',r2,hr'⟩:=hcl.b b HB'.out
 have b1:=hr j hlt
 have b2:=hr' j hlt
 clear hr hr'
 clear hcl hlt hj
 obtain⟨xa,hxa⟩: ∃x,bb z a j=x:=⟨_,rfl⟩
 obtain⟨xb,hxb⟩: ∃x,bb z b j=x:=⟨_,rfl⟩
 rw[hxa] at b1
 rw[hxb] at b2
 have Hxa:=Hd hxa
 have Hxb:=Hd hxb
 clear hxa hxb
 go_wp2_with fail
 clear z0
 by_cases hab:xa=xb
 case neg=>(
 have HAB:=Hd hab
 clear hab
 cases xa <;> cases xb <;> first|exact absurd rfl HAB.out|skip
 all_goals(
 refine wro [0,1,2,3,4,5,6,7,8,9,10,11,12,13,14,15,16,17,18] [] 19 (fun W=>VB W w.heap.size t B m d q n c1 c2 c3 c4 p0 o0 p1 o1 p2 o2 p4 o4∧W.cell? ⟨p4,o4+a,none⟩=some (.slice (some ⟨g,e,none⟩) n y)∧W.cell? ⟨p4,o4+b,none⟩=some (.slice (some ⟨g',e',none⟩) n y')∧W.cell? ⟨g,e+j,none⟩=some (.bool _)∧W.cell? ⟨g',e'+j,none⟩=some (.bool _)) (by kernel_rfl) (fun _ _ _ _ _ h=>h) ⟨hz.keep (Below.refl _ _).drew,Za r1 (Below.refl _ _).drew,Za r2 (Below.refl _ _).drew,Za b1 (Below.refl _ _).drew,Za b2 (Below.refl _ _).drew⟩ ?_
 simp only[steps,sE,sD]
 repeat((first|refine Zf rfl ?_|(refine Zd (v:= ?_) rfl rfl ?_ ?_;rotate_left;(focus(rintro w' ⟨⟨x0,x1,x2,x3,x4,x5,x6⟩,y0,y1,y2,y3⟩;go_simp;try with_reducible rfl))));simp only[Act.put,sA,sB,sC])
 refine Zg ?_
 have HB4:=Hd (HB.out.trans ((HBR.out.trans ((Below.refl wr.heap.size wr).drew.mono HBR.out.size)).mono HB.out.size))
 generalize World.drew _=we at*
 go_wp2_with fail
 go_ret
 exact⟨by rw[Zhs (j:=j) (by rw[HL.out];exact HLT.out) (by rw[Hxa.out,Hxb.out];decide)];rfl,HB4.out⟩))
 have HEQ:Hid (bb z a j=bb z b j):=Hd (by rw[Hxa.out,Hxb.out];exact hab)
 subst hab
 cases xa
 all_goals(
 refine wro [0,1,2,3,4,5,6,7,8,9,10,11,12,13,14,15,16,17,18] [] 19 (fun W=>VB W w.heap.size t B m d q n c1 c2 c3 c4 p0 o0 p1 o1 p2 o2 p4 o4∧W.cell? ⟨p4,o4+a,none⟩=some (.slice (some ⟨g,e,none⟩) n y)∧W.cell? ⟨p4,o4+b,none⟩=some (.slice (some ⟨g',e',none⟩) n y')∧W.cell? ⟨g,e+j,none⟩=some (.bool _)∧W.cell? ⟨g',e'+j,none⟩=some (.bool _)) (by kernel_rfl) (fun _ _ _ _ _ h=>h) ⟨hz.keep (Below.refl _ _).drew,Za r1 (Below.refl _ _).drew,Za r2 (Below.refl _ _).drew,Za b1 (Below.refl _ _).drew,Za b2 (Below.refl _ _).drew⟩ ?_
 simp only[steps,sE,sD]
 repeat((first|refine Zf rfl ?_|(refine Zd (v:= ?_) rfl rfl ?_ ?_;rotate_left;(focus(rintro w' ⟨⟨x0,x1,x2,x3,x4,x5,x6⟩,y0,y1,y2,y3⟩;go_simp;try with_reducible rfl))));simp only[Act.put,sA,sB,sC])
 refine Zg ?_
 have HBR2:=Hd (HBR.out.trans ((Below.refl wr.heap.size wr).drew.mono HBR.out.size))
 clear r1 r2 b1 b2 hz HBR
 generalize World.drew _=we at*
 go_wp2_with fail
 go_roundw
 case rel=>exact⟨j+1,by go_num,HLT.out,(fun k hk=>by
  by_cases ek:k=j
  ·subst ek;exact HEQ.out
  ·exact HALL.out k (by omega)),HBR2.out⟩
 case measure=>
  have:=HLT.out
  simp[intOf]
  omega))
 ·(
 obtain rfl:n=j:=by omega
 have f1:=hcl.h a HA.out
 have f2:=hcl.h b HB'.out
 have HEND:=Hd (Zly (z:=z) (a:=a) (b:=b) fun k hk=>HALL.out k (by rw[← HL.out];exact hk))
 obtain⟨u,hu⟩: ∃x,hg z a=x:=⟨_,rfl⟩
 obtain⟨v,hv⟩: ∃x,hg z b=x:=⟨_,rfl⟩
 rw[hu] at f1
 rw[hv] at f2
 have HU:=Hd hu
 have HV:=Hd hv
 clear hu hv hlt hcl hj
 go_wp2_with fail
 clear z0
 by_cases huv:u=v
 case neg=>(
 have hne:((u:Int)==(v:Int))=false:=by rw[beq_eq_false_iff_ne];omega
 refine wro [0,1,2,3,4,5,6,7,8,9,10,11,12,13] [] 14 (fun W=>VB W w.heap.size t B m d q n c1 c2 c3 c4 p0 o0 p1 o1 p2 o2 p4 o4∧W.cell? ⟨p2,o2+a,none⟩=some (.int .u64 (u:Int))∧W.cell? ⟨p2,o2+b,none⟩=some (.int .u64 (v:Int))) (by kernel_rfl) (fun _ _ _ _ _ h=>h) ⟨hz.keep (Below.refl _ _).drew,Za f1 (Below.refl _ _).drew,Za f2 (Below.refl _ _).drew⟩ ?_
 simp only[steps,sE,sD]
 repeat((first|refine Zf rfl ?_|(refine Zd (v:= ?_) rfl rfl ?_ ?_;rotate_left;(focus(rintro w' ⟨⟨x0,x1,x2,x3,x4,x5,x6⟩,y0,y1⟩;go_simp;try with_reducible rfl))));simp only[Act.put,sA,sB,sC])
 refine Zg ?_
 have HB4:=Hd (HB.out.trans ((HBR.out.trans ((Below.refl wr.heap.size wr).drew.mono HBR.out.size)).mono HB.out.size))
 generalize World.drew _=we at*
 go_wp2_with fail
 go_ret
 exact⟨by rw[HEND.out,HU.out,HV.out,decide_eq_false huv];rfl,HB4.out⟩)
 have hne:((u:Int)==(v:Int))=true:=by rw[beq_iff_eq];omega
 refine wro [0,1,2,3,4,5,6,7,8,9,10,11,12,13] [] 14 (fun W=>VB W w.heap.size t B m d q n c1 c2 c3 c4 p0 o0 p1 o1 p2 o2 p4 o4∧W.cell? ⟨p2,o2+a,none⟩=some (.int .u64 (u:Int))∧W.cell? ⟨p2,o2+b,none⟩=some (.int .u64 (v:Int))) (by kernel_rfl) (fun _ _ _ _ _ h=>h) ⟨hz.keep (Below.refl _ _).drew,Za f1 (Below.refl _ _).drew,Za f2 (Below.refl _ _).drew⟩ ?_
 simp only[steps,sE,sD]
 repeat((first|refine Zf rfl ?_|(refine Zd (v:= ?_) rfl rfl ?_ ?_;rotate_left;(focus(rintro w' ⟨⟨x0,x1,x2,x3,x4,x5,x6⟩,y0,y1⟩;go_simp;try with_reducible rfl))));simp only[Act.put,sA,sB,sC])
 refine Zg ?_
 have HB4:=Hd (HB.out.trans ((HBR.out.trans ((Below.refl wr.heap.size wr).drew.mono HBR.out.size)).mono HB.out.size))
 generalize World.drew _=we at*
 go_wp2_with fail
 go_ret
 exact⟨by rw[HEND.out,HU.out,HV.out,decide_eq_true huv];rfl,HB4.out⟩))
end Go.Proofs.YtmejhedegmjboaaGreat.I
