import Derived.Test.YtmejhedegmjboaaGreatRfC
set_option maxRecDepth 100000
set_option maxHeartbeats 8000000
namespace Go.Proofs.YtmejhedegmjboaaGreat.I
open Go.RowKit
theorem Zgo (z:Sen)(n c1 c2 c3 c4 p0 o0 p1 o1 p2 o2 p4 o4:Nat)(i k:Nat)(w:World)(h:Cl w z n p0 o0 p1 o1 p2 o2 p4 o4)(hL:z.p.length=n)(hsd: ∀i,sd z i≤2)(hn:n≤1000)(hi:i < n)(hk:k < n):
  Calls Tryz.prog 106 #[senV (some ⟨p0,o0,none⟩) n c1 (some ⟨p1,o1,none⟩) n c2 (some ⟨p2,o2,none⟩) n c3 (some ⟨p4,o4,none⟩) n c4,.int .i64 (i:Int),.int .i64 (k:Int)] w fun e w'=>(∃r:Bool,e= .returned (.bool r)∧(r=true↔AlD z i k))∧Below w.heap.size w w':=by
 have hz:=ZB.of (heap_alloc_new w (.cells #[.slice (some ⟨p0,o0,none⟩) n c1,.slice (some ⟨p1,o1,none⟩) n c2,.slice (some ⟨p2,o2,none⟩) n c3,.slice (some ⟨p4,o4,none⟩) n c4] 28))
 have hb:Below w.heap.size w (w.alloc (.cells #[.slice (some ⟨p0,o0,none⟩) n c1,.slice (some ⟨p1,o1,none⟩) n c2,.slice (some ⟨p2,o2,none⟩) n c3,.slice (some ⟨p4,o4,none⟩) n c4] 28)):=bA
 have hcl:=h.keep hb
 have HL:=Hd hL
 have HI:=Hd hi
 have HK:=Hd hk
 have HN:=Hd hn
 have hs2:=hsd i
 have e1:=hcl.s i hi
 have e2:=hcl.s k hk
 obtain⟨s,hs⟩: ∃x,sd z i=x:=⟨_,rfl⟩
 obtain⟨t,ht⟩: ∃x,sd z k=x:=⟨_,rfl⟩
 rw[hs] at e1 hs2
 rw[ht] at e2
 have HS:=Hd hs
 have HT:=Hd ht
 have HB:=Hd hb
 have HC:=Hd hcl
 have hin:(i:Int) < (n:Int):=by omega
 have hkn:(k:Int) < (n:Int):=by omega
 have hi9:i≤1000:=by omega
 have hk9:k≤1000:=by omega
 clear hs ht hb hcl h hL hsd hn hi hk
 unfold senV
 go_enter Tryz.func106,Tryz.ntmps106
 go_wp2_with fail
 generalize w.alloc (.cells #[.slice (some ⟨p0,o0,none⟩) n c1,.slice (some ⟨p1,o1,none⟩) n c2,.slice (some ⟨p2,o2,none⟩) n c3,.slice (some ⟨p4,o4,none⟩) n c4] 28)=wa at*
 by_cases hst:s=t
 case neg=>(
 have hne:((s:Int) !=(t:Int))=true:=by rw[bne_iff_ne];omega
 refine wro [0,1,2,3,4,5,6,7,8,9,10,11,12] [] 13 (fun W=>ZB W w.heap.size (some ⟨p0,o0,none⟩) n c1 (some ⟨p1,o1,none⟩) n c2 (some ⟨p2,o2,none⟩) n c3 (some ⟨p4,o4,none⟩) n c4∧W.cell? ⟨p0,o0+i*5+2,none⟩=some (.int .u8 (s:Int))∧W.cell? ⟨p0,o0+k*5+2,none⟩=some (.int .u8 (t:Int))) (by kernel_rfl) (fun _ _ _ _ _ h=>h) ⟨hz.keep (Below.refl _ _).drew,Za e1 (Below.refl _ _).drew,Za e2 (Below.refl _ _).drew⟩ ?_
 simp only[steps,sE,sD]
 repeat((first|refine Zf rfl ?_|(refine Zd (v:= ?_) rfl rfl ?_ ?_;rotate_left;(focus(rintro w' ⟨⟨x0,x1,x2,x3⟩,y0,y1⟩;go_simp;try with_reducible rfl))));simp only[Act.put,sA,sB,sC])
 refine Zg ?_
 have HB2:=Hd (HB.out.trans ((Below.refl wa.heap.size wa).drew.mono HB.out.size))
 generalize World.drew _=we at*
 go_wp2_with fail
 go_ret
 exact⟨⟨false,rfl,fun h=>absurd h (by decide),fun h=>absurd h (Zif (by rw[HS.out,HT.out];exact hst))⟩,HB2.out⟩)
 have hne:((s:Int) !=(t:Int))=false:=by rw[hst];simp
 have HST:Hid (sd z i=sd z k):=Hd (by rw[HS.out,HT.out];exact hst)
 clear hst
 refine wro [0,1,2,3,4,5,6,7,8,9,10,11,12] [] 13 (fun W=>ZB W w.heap.size (some ⟨p0,o0,none⟩) n c1 (some ⟨p1,o1,none⟩) n c2 (some ⟨p2,o2,none⟩) n c3 (some ⟨p4,o4,none⟩) n c4∧W.cell? ⟨p0,o0+i*5+2,none⟩=some (.int .u8 (s:Int))∧W.cell? ⟨p0,o0+k*5+2,none⟩=some (.int .u8 (t:Int))) (by kernel_rfl) (fun _ _ _ _ _ h=>h) ⟨hz.keep (Below.refl _ _).drew,Za e1 (Below.refl _ _).drew,Za e2 (Below.refl _ _).drew⟩ ?_
 simp only[steps,sE,sD]
 repeat((first|refine Zf rfl ?_|(refine Zd (v:= ?_) rfl rfl ?_ ?_;rotate_left;(focus(rintro w' ⟨⟨x0,x1,x2,x3⟩,y0,y1⟩;go_simp;try with_reducible rfl))));simp only[Act.put,sA,sB,sC])
 refine Zg ?_
 have hd1:Below wa.heap.size wa wa.drew:=(Below.refl _ _).drew
 have HB2:=Hd (HB.out.trans (hd1.mono HB.out.size))
 have hcl:=HC.out.keep hd1
 replace hz:=hz.keep hd1
 replace e1:=Za e1 hd1
 clear hd1 hne e2 HC HB HT
 generalize World.drew _=wb at*
 have HZ:=Hd hz
 have HC:=Hd hcl
 have z0:=hz.p0
 clear hz hcl
 rcases ZaC hs2 with hs3|hs3|hs3
 ·(
 obtain⟨hx,h0⟩:=hs3
 have HX:Hid (sd z i=0):=Hd (HS.out.trans hx)
 clear hx hs2
 have hz:=HZ.out
 have f1:=HC.out.l i HI.out
 have f2:=HC.out.l k HK.out
 obtain⟨u,hu⟩: ∃x,lw z i=x:=⟨_,rfl⟩
 obtain⟨v,hv⟩: ∃x,lw z k=x:=⟨_,rfl⟩
 rw[hu] at f1
 rw[hv] at f2
 have HU:=Hd hu
 have HV:=Hd hv
 clear hu hv
 go_wp2_with fail
 clear z0 e1
 by_cases huv:u=v
 case neg=>(
 have hne:((u:Int) !=(v:Int))=true:=by rw[bne_iff_ne];omega
 refine wro [0,1,2,3,4,5,6,7,8,9,10] [] 11 (fun W=>ZB W w.heap.size (some ⟨p0,o0,none⟩) n c1 (some ⟨p1,o1,none⟩) n c2 (some ⟨p2,o2,none⟩) n c3 (some ⟨p4,o4,none⟩) n c4∧W.cell? ⟨p1,o1+i,none⟩=some (.int .u64 (u:Int))∧W.cell? ⟨p1,o1+k,none⟩=some (.int .u64 (v:Int))) (by kernel_rfl) (fun _ _ _ _ _ h=>h) ⟨hz.keep (Below.refl _ _).drew,Za f1 (Below.refl _ _).drew,Za f2 (Below.refl _ _).drew⟩ ?_
 simp only[steps,sE,sD]
 repeat((first|refine Zf rfl ?_|(refine Zd (v:= ?_) rfl rfl ?_ ?_;rotate_left;(focus(rintro w' ⟨⟨x0,x1,x2,x3⟩,y0,y1⟩;go_simp;try with_reducible rfl))));simp only[Act.put,sA,sB,sC])
 refine Zg ?_
 have HB3:=Hd (HB2.out.trans ((Below.refl wb.heap.size wb).drew.mono HB2.out.size))
 generalize World.drew _=we at*
 go_wp2_with fail
 go_ret
 exact⟨⟨false,rfl,fun h=>absurd h (by decide),fun h=>absurd h (ZkN (by rw[HX.out];decide) (by rw[HU.out,HV.out];exact huv))⟩,HB3.out⟩)
 have hne:((u:Int) !=(v:Int))=false:=by rw[huv];simp
 have HUV:Hid (lw z i=lw z k):=Hd (by rw[HU.out,HV.out];exact huv)
 clear huv HU HV
 refine wro [0,1,2,3,4,5,6,7,8,9,10] [] 11 (fun W=>ZB W w.heap.size (some ⟨p0,o0,none⟩) n c1 (some ⟨p1,o1,none⟩) n c2 (some ⟨p2,o2,none⟩) n c3 (some ⟨p4,o4,none⟩) n c4∧W.cell? ⟨p1,o1+i,none⟩=some (.int .u64 (u:Int))∧W.cell? ⟨p1,o1+k,none⟩=some (.int .u64 (v:Int))) (by kernel_rfl) (fun _ _ _ _ _ h=>h) ⟨hz.keep (Below.refl _ _).drew,Za f1 (Below.refl _ _).drew,Za f2 (Below.refl _ _).drew⟩ ?_
 simp only[steps,sE,sD]
 repeat((first|refine Zf rfl ?_|(refine Zd (v:= ?_) rfl rfl ?_ ?_;rotate_left;(focus(rintro w' ⟨⟨x0,x1,x2,x3⟩,y0,y1⟩;go_simp;try with_reducible rfl))));simp only[Act.put,sA,sB,sC])
 refine Zg ?_
 have hd1:Below wb.heap.size wb wb.drew:=(Below.refl _ _).drew
 have HB3:=Hd (HB2.out.trans (hd1.mono HB2.out.size))
 have HZ3:=Hd (HZ.out.keep hd1)
 have HC3:=Hd (HC.out.keep hd1)
 clear hd1 hne f1 f2 hz HB2 HZ HC
 generalize World.drew _=wc at*
 obtain⟨wo,rfl⟩: ∃wo,wo=wc:=⟨_,rfl⟩
 go_wp2_with fail
 go_loopw [7] (fun vm wr=> ∃m:Nat,vm= .int .i64 (m:Int)∧m≤n∧(∀j < m,bb z j i=bb z j k)∧Below wo.heap.size wo wr) (fun vm _=>n - (intOf vm).toNat)
 case atStart=>exact⟨0,rfl,Nat.zero_le _,(fun j hj=>absurd hj (Nat.not_lt_zero j)),Below.refl _ _⟩
 case round=>(
 obtain⟨m,rfl,hm,hall,hbr⟩:=hrel
 have HALL:=Hd hall
 have HBR:=Hd hbr
 have hz:=HZ3.out.keep hbr
 have hcl:=HC3.out.keep hbr
 have z0:=hz.p0
 clear hall hbr
 by_cases hlt:m < n
 ·(
 have HLT:=Hd hlt
 have hmn:(m:Int) < (n:Int):=by omega
 have hm9:m≤1000:=by have:=HN.out;omega
 obtain⟨g,q,y,r1,hr⟩:=hcl.b m hlt
 have b1:=hr i HI.out
 have b2:=hr k HK.out
 clear hr hcl hlt hm
 obtain⟨xa,hxa⟩: ∃x,bb z m i=x:=⟨_,rfl⟩
 rw[hxa] at b1
 have Hxa:=Hd hxa
 clear hxa
 obtain⟨xb,hxb⟩: ∃x,bb z m k=x:=⟨_,rfl⟩
 rw[hxb] at b2
 have Hxb:=Hd hxb
 clear hxb
 go_wp2_with fail
 clear z0
 by_cases hab:xa=xb
 case neg=>(
 have hne:(xa !=xb)=true:=by rw[bne_iff_ne];exact hab
 have HAB:=Hd hab
 clear hab
 cases xa <;> cases xb <;> first|exact absurd rfl HAB.out|skip
 all_goals(
 clear hne
 refine wro [0,1,2,3,4,5,6,7,8,9,10,11,12,13,14,15,16] [] 17 (fun W=>ZB W w.heap.size (some ⟨p0,o0,none⟩) n c1 (some ⟨p1,o1,none⟩) n c2 (some ⟨p2,o2,none⟩) n c3 (some ⟨p4,o4,none⟩) n c4∧W.cell? ⟨p4,o4+m,none⟩=some (.slice (some ⟨g,q,none⟩) n y)∧W.cell? ⟨g,q+i,none⟩=some (.bool _)∧W.cell? ⟨g,q+k,none⟩=some (.bool _)) (by kernel_rfl) (fun _ _ _ _ _ h=>h) ⟨hz.keep (Below.refl _ _).drew,Za r1 (Below.refl _ _).drew,Za b1 (Below.refl _ _).drew,Za b2 (Below.refl _ _).drew⟩ ?_
 simp only[steps,sE,sD]
 repeat((first|refine Zf rfl ?_|(refine Zd (v:= ?_) rfl rfl ?_ ?_;rotate_left;(focus(rintro w' ⟨⟨x0,x1,x2,x3⟩,y0,y1,y2⟩;go_simp;try with_reducible rfl))));simp only[Act.put,sA,sB,sC])
 refine Zg ?_
 have HB4:=Hd (HB3.out.trans ((HBR.out.trans ((Below.refl wr.heap.size wr).drew.mono HBR.out.size)).mono HB3.out.size))
 generalize World.drew _=we at*
 go_wp2_with fail
 go_ret
 exact⟨⟨false,rfl,fun h=>absurd h (by decide),fun h=>absurd h (Zgd (m:=m) (by rw[HX.out];decide) (by have:=HL.out;have:=HLT.out;omega) (by rw[Hxa.out,Hxb.out];decide))⟩,HB4.out⟩))
 have HEQ:Hid (bb z m i=bb z m k):=Hd (by rw[Hxa.out,Hxb.out];exact hab)
 subst hab
 cases xa
 all_goals(
 refine wro [0,1,2,3,4,5,6,7,8,9,10,11,12,13,14,15,16] [] 17 (fun W=>ZB W w.heap.size (some ⟨p0,o0,none⟩) n c1 (some ⟨p1,o1,none⟩) n c2 (some ⟨p2,o2,none⟩) n c3 (some ⟨p4,o4,none⟩) n c4∧W.cell? ⟨p4,o4+m,none⟩=some (.slice (some ⟨g,q,none⟩) n y)∧W.cell? ⟨g,q+i,none⟩=some (.bool _)∧W.cell? ⟨g,q+k,none⟩=some (.bool _)) (by kernel_rfl) (fun _ _ _ _ _ h=>h) ⟨hz.keep (Below.refl _ _).drew,Za r1 (Below.refl _ _).drew,Za b1 (Below.refl _ _).drew,Za b2 (Below.refl _ _).drew⟩ ?_
 simp only[steps,sE,sD]
 repeat((first|refine Zf rfl ?_|(refine Zd (v:= ?_) rfl rfl ?_ ?_;rotate_left;(focus(rintro w' ⟨⟨x0,x1,x2,x3⟩,y0,y1,y2⟩;go_simp;try with_reducible rfl))));simp only[Act.put,sA,sB,sC])
 refine Zg ?_
 have HBR2:=Hd (HBR.out.trans ((Below.refl wr.heap.size wr).drew.mono HBR.out.size))
 clear r1 b1 b2 hz HBR
 generalize World.drew _=we at*
 go_wp2_with fail
 go_roundw
 case rel=>exact⟨m+1,by go_num,HLT.out,(fun j hj=>by
  by_cases ej:j=m
  ·subst ej;exact HEQ.out
  ·exact HALL.out j (by omega)),HBR2.out⟩
 case measure=>
  have:=HLT.out
  simp[intOf]
  omega))
 ·obtain rfl:n=m:=by omega
  go_wp2_with fail
  go_ret
  exact⟨⟨true,rfl,fun _=>Zl5 HX.out HST.out HUV.out (fun m hm=>HALL.out m (by rw[← HL.out];exact hm)),fun _=>rfl⟩,HB3.out.trans (HBR.out.mono HB3.out.size)⟩))
 ·(
 obtain⟨hx,h0,h1⟩:=hs3
 have HX:Hid (sd z i=1):=Hd (HS.out.trans hx)
 clear hx hs2
 have hz:=HZ.out
 have f1:=HC.out.h i HI.out
 have f2:=HC.out.h k HK.out
 obtain⟨u,hu⟩: ∃x,hg z i=x:=⟨_,rfl⟩
 obtain⟨v,hv⟩: ∃x,hg z k=x:=⟨_,rfl⟩
 rw[hu] at f1
 rw[hv] at f2
 have HU:=Hd hu
 have HV:=Hd hv
 clear hu hv
 go_wp2_with fail
 clear z0 e1
 by_cases huv:u=v
 case neg=>(
 have hne:((u:Int) !=(v:Int))=true:=by rw[bne_iff_ne];omega
 refine wro [0,1,2,3,4,5,6,7,8,9,10] [] 11 (fun W=>ZB W w.heap.size (some ⟨p0,o0,none⟩) n c1 (some ⟨p1,o1,none⟩) n c2 (some ⟨p2,o2,none⟩) n c3 (some ⟨p4,o4,none⟩) n c4∧W.cell? ⟨p2,o2+i,none⟩=some (.int .u64 (u:Int))∧W.cell? ⟨p2,o2+k,none⟩=some (.int .u64 (v:Int))) (by kernel_rfl) (fun _ _ _ _ _ h=>h) ⟨hz.keep (Below.refl _ _).drew,Za f1 (Below.refl _ _).drew,Za f2 (Below.refl _ _).drew⟩ ?_
 simp only[steps,sE,sD]
 repeat((first|refine Zf rfl ?_|(refine Zd (v:= ?_) rfl rfl ?_ ?_;rotate_left;(focus(rintro w' ⟨⟨x0,x1,x2,x3⟩,y0,y1⟩;go_simp;try with_reducible rfl))));simp only[Act.put,sA,sB,sC])
 refine Zg ?_
 have HB3:=Hd (HB2.out.trans ((Below.refl wb.heap.size wb).drew.mono HB2.out.size))
 generalize World.drew _=we at*
 go_wp2_with fail
 go_ret
 exact⟨⟨false,rfl,fun h=>absurd h (by decide),fun h=>absurd h (ZkO (by rw[HX.out];decide) (by rw[HU.out,HV.out];exact huv))⟩,HB3.out⟩)
 have hne:((u:Int) !=(v:Int))=false:=by rw[huv];simp
 have HUV:Hid (hg z i=hg z k):=Hd (by rw[HU.out,HV.out];exact huv)
 clear huv HU HV
 refine wro [0,1,2,3,4,5,6,7,8,9,10] [] 11 (fun W=>ZB W w.heap.size (some ⟨p0,o0,none⟩) n c1 (some ⟨p1,o1,none⟩) n c2 (some ⟨p2,o2,none⟩) n c3 (some ⟨p4,o4,none⟩) n c4∧W.cell? ⟨p2,o2+i,none⟩=some (.int .u64 (u:Int))∧W.cell? ⟨p2,o2+k,none⟩=some (.int .u64 (v:Int))) (by kernel_rfl) (fun _ _ _ _ _ h=>h) ⟨hz.keep (Below.refl _ _).drew,Za f1 (Below.refl _ _).drew,Za f2 (Below.refl _ _).drew⟩ ?_
 simp only[steps,sE,sD]
 repeat((first|refine Zf rfl ?_|(refine Zd (v:= ?_) rfl rfl ?_ ?_;rotate_left;(focus(rintro w' ⟨⟨x0,x1,x2,x3⟩,y0,y1⟩;go_simp;try with_reducible rfl))));simp only[Act.put,sA,sB,sC])
 refine Zg ?_
 have hd1:Below wb.heap.size wb wb.drew:=(Below.refl _ _).drew
 have HB3:=Hd (HB2.out.trans (hd1.mono HB2.out.size))
 have HZ3:=Hd (HZ.out.keep hd1)
 have HC3:=Hd (HC.out.keep hd1)
 clear hd1 hne f1 f2 hz HB2 HZ HC
 generalize World.drew _=wc at*
 obtain⟨wo,rfl⟩: ∃wo,wo=wc:=⟨_,rfl⟩
 go_wp2_with fail
 go_loopw [8] (fun vm wr=> ∃m:Nat,vm= .int .i64 (m:Int)∧m≤n∧(∀j < m,bb z i j=bb z k j)∧Below wo.heap.size wo wr) (fun vm _=>n - (intOf vm).toNat)
 case atStart=>exact⟨0,rfl,Nat.zero_le _,(fun j hj=>absurd hj (Nat.not_lt_zero j)),Below.refl _ _⟩
 case round=>(
 obtain⟨m,rfl,hm,hall,hbr⟩:=hrel
 have HALL:=Hd hall
 have HBR:=Hd hbr
 have hz:=HZ3.out.keep hbr
 have hcl:=HC3.out.keep hbr
 have z0:=hz.p0
 clear hall hbr
 by_cases hlt:m < n
 ·(
 have HLT:=Hd hlt
 have hmn:(m:Int) < (n:Int):=by omega
 have hm9:m≤1000:=by have:=HN.out;omega
 obtain⟨g,q,y,r1,hr⟩:=hcl.b i HI.out
 obtain⟨g',q',y',r2,hr'⟩:=hcl.b k HK.out
 have b1:=hr m hlt
 have b2:=hr' m hlt
 clear hr hcl hlt hm hr'
 obtain⟨xa,hxa⟩: ∃x,bb z i m=x:=⟨_,rfl⟩
 rw[hxa] at b1
 have Hxa:=Hd hxa
 clear hxa
 obtain⟨xb,hxb⟩: ∃x,bb z k m=x:=⟨_,rfl⟩
 rw[hxb] at b2
 have Hxb:=Hd hxb
 clear hxb
 go_wp2_with fail
 clear z0
 by_cases hab:xa=xb
 case neg=>(
 have hne:(xa !=xb)=true:=by rw[bne_iff_ne];exact hab
 have HAB:=Hd hab
 clear hab
 cases xa <;> cases xb <;> first|exact absurd rfl HAB.out|skip
 all_goals(
 clear hne
 refine wro [0,1,2,3,4,5,6,7,8,9,10,11,12,13,14,15,16] [] 17 (fun W=>ZB W w.heap.size (some ⟨p0,o0,none⟩) n c1 (some ⟨p1,o1,none⟩) n c2 (some ⟨p2,o2,none⟩) n c3 (some ⟨p4,o4,none⟩) n c4∧W.cell? ⟨p4,o4+i,none⟩=some (.slice (some ⟨g,q,none⟩) n y)∧W.cell? ⟨p4,o4+k,none⟩=some (.slice (some ⟨g',q',none⟩) n y')∧W.cell? ⟨g,q+m,none⟩=some (.bool _)∧W.cell? ⟨g',q'+m,none⟩=some (.bool _)) (by kernel_rfl) (fun _ _ _ _ _ h=>h) ⟨hz.keep (Below.refl _ _).drew,Za r1 (Below.refl _ _).drew,Za r2 (Below.refl _ _).drew,Za b1 (Below.refl _ _).drew,Za b2 (Below.refl _ _).drew⟩ ?_
 simp only[steps,sE,sD]
 repeat((first|refine Zf rfl ?_|(refine Zd (v:= ?_) rfl rfl ?_ ?_;rotate_left;(focus(rintro w' ⟨⟨x0,x1,x2,x3⟩,y0,y1,y2,y3⟩;go_simp;try with_reducible rfl))));simp only[Act.put,sA,sB,sC])
 refine Zg ?_
 have HB4:=Hd (HB3.out.trans ((HBR.out.trans ((Below.refl wr.heap.size wr).drew.mono HBR.out.size)).mono HB3.out.size))
 generalize World.drew _=we at*
 go_wp2_with fail
 go_ret
 exact⟨⟨false,rfl,fun h=>absurd h (by decide),fun h=>absurd h (Zge (m:=m) (by rw[HX.out];decide) (by have:=HL.out;have:=HLT.out;omega) (by rw[Hxa.out,Hxb.out];decide))⟩,HB4.out⟩))
 have HEQ:Hid (bb z i m=bb z k m):=Hd (by rw[Hxa.out,Hxb.out];exact hab)
 subst hab
 cases xa
 all_goals(
 refine wro [0,1,2,3,4,5,6,7,8,9,10,11,12,13,14,15,16] [] 17 (fun W=>ZB W w.heap.size (some ⟨p0,o0,none⟩) n c1 (some ⟨p1,o1,none⟩) n c2 (some ⟨p2,o2,none⟩) n c3 (some ⟨p4,o4,none⟩) n c4∧W.cell? ⟨p4,o4+i,none⟩=some (.slice (some ⟨g,q,none⟩) n y)∧W.cell? ⟨p4,o4+k,none⟩=some (.slice (some ⟨g',q',none⟩) n y')∧W.cell? ⟨g,q+m,none⟩=some (.bool _)∧W.cell? ⟨g',q'+m,none⟩=some (.bool _)) (by kernel_rfl) (fun _ _ _ _ _ h=>h) ⟨hz.keep (Below.refl _ _).drew,Za r1 (Below.refl _ _).drew,Za r2 (Below.refl _ _).drew,Za b1 (Below.refl _ _).drew,Za b2 (Below.refl _ _).drew⟩ ?_
 simp only[steps,sE,sD]
 repeat((first|refine Zf rfl ?_|(refine Zd (v:= ?_) rfl rfl ?_ ?_;rotate_left;(focus(rintro w' ⟨⟨x0,x1,x2,x3⟩,y0,y1,y2,y3⟩;go_simp;try with_reducible rfl))));simp only[Act.put,sA,sB,sC])
 refine Zg ?_
 have HBR2:=Hd (HBR.out.trans ((Below.refl wr.heap.size wr).drew.mono HBR.out.size))
 clear r1 r2 b1 b2 hz HBR
 generalize World.drew _=we at*
 go_wp2_with fail
 go_roundw
 case rel=>exact⟨m+1,by go_num,HLT.out,(fun j hj=>by
  by_cases ej:j=m
  ·subst ej;exact HEQ.out
  ·exact HALL.out j (by omega)),HBR2.out⟩
 case measure=>
  have:=HLT.out
  simp[intOf]
  omega))
 ·obtain rfl:n=m:=by omega
  go_wp2_with fail
  go_ret
  exact⟨⟨true,rfl,fun _=>Zig HX.out HST.out HUV.out (fun m hm=>HALL.out m (by rw[← HL.out];exact hm)),fun _=>rfl⟩,HB3.out.trans (HBR.out.mono HB3.out.size)⟩))
 ·(
 obtain⟨hx,h0,h1,h2⟩:=hs3
 have HX:Hid (sd z i=2):=Hd (HS.out.trans hx)
 clear hx hs2
 by_cases hik:i=k
 case pos=>(
 obtain rfl:i=k:=hik
 have hik':((i:Int)==(i:Int))=true:=by simp
 go_wp2_with fail
 go_ret
 exact⟨.inr ⟨rfl,.inl rfl⟩,HB2.out⟩)
 have hik':((i:Int)==(k:Int))=false:=by rw[beq_eq_false_iff_ne];omega
 have HNE:=Hd hik
 clear hik
 go_wp2_with fail
 clear z0 e1 hik' h0 h1 h2
 have HB3:=HB2
 have HZ3:=HZ
 have HC3:=HC
 clear HB2 HZ HC
 obtain⟨wo,rfl⟩: ∃wo,wo=wb:=⟨_,rfl⟩
 go_loopw [9] (fun vm wr=> ∃m:Nat,vm= .int .i64 (m:Int)∧m≤n∧(∀j < m,(bb z j i=bb z j k∧bb z i j=bb z k j))∧Below wo.heap.size wo wr) (fun vm _=>n - (intOf vm).toNat)
 case atStart=>exact⟨0,rfl,Nat.zero_le _,(fun j hj=>absurd hj (Nat.not_lt_zero j)),Below.refl _ _⟩
 case round=>(
 obtain⟨m,rfl,hm,hall,hbr⟩:=hrel
 have HALL:=Hd hall
 have HBR:=Hd hbr
 have hz:=HZ3.out.keep hbr
 have hcl:=HC3.out.keep hbr
 have z0:=hz.p0
 clear hall hbr
 by_cases hlt:m < n
 ·(
 have HLT:=Hd hlt
 have hmn:(m:Int) < (n:Int):=by omega
 have hm9:m≤1000:=by have:=HN.out;omega
 obtain⟨g,q,y,r1,hr⟩:=hcl.b i HI.out
 obtain⟨g',q',y',r2,hr'⟩:=hcl.b k HK.out
 obtain⟨d,t',y2,r3,hr3⟩:=hcl.b m hlt
 have b1:=hr3 i HI.out
 have b2:=hr3 k HK.out
 have b3:=hr m hlt
 have b4:=hr' m hlt
 clear hr3
 clear hr hcl hlt hm hr'
 obtain⟨xa,hxa⟩: ∃x,bb z m i=x:=⟨_,rfl⟩
 rw[hxa] at b1
 have Hxa:=Hd hxa
 clear hxa
 obtain⟨xb,hxb⟩: ∃x,bb z m k=x:=⟨_,rfl⟩
 rw[hxb] at b2
 have Hxb:=Hd hxb
 clear hxb
 obtain⟨xc,hxc⟩: ∃x,bb z i m=x:=⟨_,rfl⟩
 rw[hxc] at b3
 have Hxc:=Hd hxc
 clear hxc
 obtain⟨xd,hxd⟩: ∃x,bb z k m=x:=⟨_,rfl⟩
 rw[hxd] at b4
 have Hxd:=Hd hxd
 clear hxd
 go_wp2_with fail
 clear z0
 by_cases hab:xa=xb
 case neg=>(
 have HAB:=Hd hab
 clear hab
 cases xa <;> cases xb <;> first|exact absurd rfl HAB.out|skip
 all_goals(
 refine wro [0,1,2,3,4,5,6,7,8,9,10,11,12,13,14,15,16,17,18,19,20,21,22,23,24,25,26,27,28,29,30,31,32,33,34,35] [] 36 (fun W=>ZB W w.heap.size (some ⟨p0,o0,none⟩) n c1 (some ⟨p1,o1,none⟩) n c2 (some ⟨p2,o2,none⟩) n c3 (some ⟨p4,o4,none⟩) n c4∧W.cell? ⟨p4,o4+i,none⟩=some (.slice (some ⟨g,q,none⟩) n y)∧W.cell? ⟨p4,o4+k,none⟩=some (.slice (some ⟨g',q',none⟩) n y')∧W.cell? ⟨p4,o4+m,none⟩=some (.slice (some ⟨d,t',none⟩) n y2)∧W.cell? ⟨d,t'+i,none⟩=some (.bool _)∧W.cell? ⟨d,t'+k,none⟩=some (.bool _)∧W.cell? ⟨g,q+m,none⟩=some (.bool _)∧W.cell? ⟨g',q'+m,none⟩=some (.bool _)) (by kernel_rfl) (fun _ _ _ _ _ h=>h) ⟨hz.keep (Below.refl _ _).drew,Za r1 (Below.refl _ _).drew,Za r2 (Below.refl _ _).drew,Za r3 (Below.refl _ _).drew,Za b1 (Below.refl _ _).drew,Za b2 (Below.refl _ _).drew,Za b3 (Below.refl _ _).drew,Za b4 (Below.refl _ _).drew⟩ ?_
 simp only[steps,sE,sD]
 repeat((first|refine Zf rfl ?_|(refine Zd (v:= ?_) rfl rfl ?_ ?_;rotate_left;(focus(rintro w' ⟨⟨x0,x1,x2,x3⟩,y0,y1,y2,y3,y4,y5,y6⟩;go_simp;try with_reducible rfl))));simp only[Act.put,sA,sB,sC])
 refine Zg ?_
 have HB4:=Hd (HB3.out.trans ((HBR.out.trans ((Below.refl wr.heap.size wr).drew.mono HBR.out.size)).mono HB3.out.size))
 generalize World.drew _=we at*
 go_wp2_with fail
 go_ret
 exact⟨⟨false,rfl,fun h=>absurd h (by decide),fun h=>absurd h (Zgd (m:=m) (by rw[HX.out];decide) (by have:=HL.out;have:=HLT.out;omega) (by rw[Hxa.out,Hxb.out];decide))⟩,HB4.out⟩))
 by_cases hcd:xc=xd
 case neg=>(
 have HAB:=Hd hcd
 subst hab
 clear hcd
 cases xa <;> cases xc <;> cases xd <;> first|exact absurd rfl HAB.out|skip
 all_goals(
 refine wro [0,1,2,3,4,5,6,7,8,9,10,11,12,13,14,15,16,17,18,19,20,21,22,23,24,25,26,27,28,29,30,31,32,33,34,35] [] 36 (fun W=>ZB W w.heap.size (some ⟨p0,o0,none⟩) n c1 (some ⟨p1,o1,none⟩) n c2 (some ⟨p2,o2,none⟩) n c3 (some ⟨p4,o4,none⟩) n c4∧W.cell? ⟨p4,o4+i,none⟩=some (.slice (some ⟨g,q,none⟩) n y)∧W.cell? ⟨p4,o4+k,none⟩=some (.slice (some ⟨g',q',none⟩) n y')∧W.cell? ⟨p4,o4+m,none⟩=some (.slice (some ⟨d,t',none⟩) n y2)∧W.cell? ⟨d,t'+i,none⟩=some (.bool _)∧W.cell? ⟨d,t'+k,none⟩=some (.bool _)∧W.cell? ⟨g,q+m,none⟩=some (.bool _)∧W.cell? ⟨g',q'+m,none⟩=some (.bool _)) (by kernel_rfl) (fun _ _ _ _ _ h=>h) ⟨hz.keep (Below.refl _ _).drew,Za r1 (Below.refl _ _).drew,Za r2 (Below.refl _ _).drew,Za r3 (Below.refl _ _).drew,Za b1 (Below.refl _ _).drew,Za b2 (Below.refl _ _).drew,Za b3 (Below.refl _ _).drew,Za b4 (Below.refl _ _).drew⟩ ?_
 simp only[steps,sE,sD]
 repeat((first|refine Zf rfl ?_|(refine Zd (v:= ?_) rfl rfl ?_ ?_;rotate_left;(focus(rintro w' ⟨⟨x0,x1,x2,x3⟩,y0,y1,y2,y3,y4,y5,y6⟩;go_simp;try with_reducible rfl))));simp only[Act.put,sA,sB,sC])
 refine Zg ?_
 have HB4:=Hd (HB3.out.trans ((HBR.out.trans ((Below.refl wr.heap.size wr).drew.mono HBR.out.size)).mono HB3.out.size))
 generalize World.drew _=we at*
 go_wp2_with fail
 go_ret
 exact⟨⟨false,rfl,fun h=>absurd h (by decide),fun h=>absurd h (Zge (m:=m) (by rw[HX.out];decide) (by have:=HL.out;have:=HLT.out;omega) (by rw[Hxc.out,Hxd.out];decide))⟩,HB4.out⟩))
 have HEQ:Hid ((bb z m i=bb z m k∧bb z i m=bb z k m)):=Hd ⟨by rw[Hxa.out,Hxb.out];exact hab,by rw[Hxc.out,Hxd.out];exact hcd⟩
 subst hab
 subst hcd
 cases xa <;> cases xc
 all_goals(
 refine wro [0,1,2,3,4,5,6,7,8,9,10,11,12,13,14,15,16,17,18,19,20,21,22,23,24,25,26,27,28,29,30,31,32,33,34,35] [] 36 (fun W=>ZB W w.heap.size (some ⟨p0,o0,none⟩) n c1 (some ⟨p1,o1,none⟩) n c2 (some ⟨p2,o2,none⟩) n c3 (some ⟨p4,o4,none⟩) n c4∧W.cell? ⟨p4,o4+i,none⟩=some (.slice (some ⟨g,q,none⟩) n y)∧W.cell? ⟨p4,o4+k,none⟩=some (.slice (some ⟨g',q',none⟩) n y')∧W.cell? ⟨p4,o4+m,none⟩=some (.slice (some ⟨d,t',none⟩) n y2)∧W.cell? ⟨d,t'+i,none⟩=some (.bool _)∧W.cell? ⟨d,t'+k,none⟩=some (.bool _)∧W.cell? ⟨g,q+m,none⟩=some (.bool _)∧W.cell? ⟨g',q'+m,none⟩=some (.bool _)) (by kernel_rfl) (fun _ _ _ _ _ h=>h) ⟨hz.keep (Below.refl _ _).drew,Za r1 (Below.refl _ _).drew,Za r2 (Below.refl _ _).drew,Za r3 (Below.refl _ _).drew,Za b1 (Below.refl _ _).drew,Za b2 (Below.refl _ _).drew,Za b3 (Below.refl _ _).drew,Za b4 (Below.refl _ _).drew⟩ ?_
 simp only[steps,sE,sD]
 repeat((first|refine Zf rfl ?_|(refine Zd (v:= ?_) rfl rfl ?_ ?_;rotate_left;(focus(rintro w' ⟨⟨x0,x1,x2,x3⟩,y0,y1,y2,y3,y4,y5,y6⟩;go_simp;try with_reducible rfl))));simp only[Act.put,sA,sB,sC])
 refine Zg ?_
 have HBR2:=Hd (HBR.out.trans ((Below.refl wr.heap.size wr).drew.mono HBR.out.size))
 clear r1 r2 r3 b1 b2 b3 b4 hz HBR
 generalize World.drew _=we at*
 go_wp2_with fail
 go_roundw
 case rel=>exact⟨m+1,by go_num,HLT.out,(fun j hj=>by
  by_cases ej:j=m
  ·subst ej;exact HEQ.out
  ·exact HALL.out j (by omega)),HBR2.out⟩
 case measure=>
  have:=HLT.out
  simp[intOf]
  omega))
 ·(
 obtain rfl:n=m:=by omega
 have l1:=hcl.l i HI.out
 have l2:=hcl.l k HK.out
 have l3:=hcl.h i HI.out
 have l4:=hcl.h k HK.out
 obtain⟨g,q,y,r1,hr⟩:=hcl.b i HI.out
 obtain⟨g',q',y',r2,hr'⟩:=hcl.b k HK.out
 have b1:=hr k HK.out
 have b2:=hr' i HI.out
 clear hr hr' hcl hlt hm
 obtain⟨u,hu⟩: ∃x,lw z i=x:=⟨_,rfl⟩
 rw[hu] at l1
 have Hu:=Hd hu
 clear hu
 obtain⟨v,hv⟩: ∃x,lw z k=x:=⟨_,rfl⟩
 rw[hv] at l2
 have Hv:=Hd hv
 clear hv
 obtain⟨u2,hu2⟩: ∃x,hg z i=x:=⟨_,rfl⟩
 rw[hu2] at l3
 have Hu2:=Hd hu2
 clear hu2
 obtain⟨v2,hv2⟩: ∃x,hg z k=x:=⟨_,rfl⟩
 rw[hv2] at l4
 have Hv2:=Hd hv2
 clear hv2
 obtain⟨xa,hxa⟩: ∃x,bb z i k=x:=⟨_,rfl⟩
 rw[hxa] at b1
 have Hxa:=Hd hxa
 clear hxa
 obtain⟨xb,hxb⟩: ∃x,bb z k i=x:=⟨_,rfl⟩
 rw[hxb] at b2
 have Hxb:=Hd hxb
 clear hxb
 go_wp2_with fail
 clear z0
 by_cases huv:u=v
 case neg=>(
 have hq1:((u:Int)==(v:Int))=false:=by rw[beq_eq_false_iff_ne];omega
 refine wro [0,1,2,3,4,5,6,7,8,9,10,11,12,13,14,15,16,17,18,19,20,21,22,23,24,25,26,27,28,29,30,31,32,33,34,35,36,37,38,39,40,41,42,43,44] [] 45 (fun W=>ZB W w.heap.size (some ⟨p0,o0,none⟩) n c1 (some ⟨p1,o1,none⟩) n c2 (some ⟨p2,o2,none⟩) n c3 (some ⟨p4,o4,none⟩) n c4∧W.cell? ⟨p1,o1+i,none⟩=some (.int .u64 (u:Int))∧W.cell? ⟨p1,o1+k,none⟩=some (.int .u64 (v:Int))∧W.cell? ⟨p2,o2+i,none⟩=some (.int .u64 (u2:Int))∧W.cell? ⟨p2,o2+k,none⟩=some (.int .u64 (v2:Int))∧W.cell? ⟨p4,o4+i,none⟩=some (.slice (some ⟨g,q,none⟩) n y)∧W.cell? ⟨p4,o4+k,none⟩=some (.slice (some ⟨g',q',none⟩) n y')∧W.cell? ⟨g,q+k,none⟩=some (.bool _)∧W.cell? ⟨g',q'+i,none⟩=some (.bool _)) (by kernel_rfl) (fun _ _ _ _ _ h=>h) ⟨hz.keep (Below.refl _ _).drew,Za l1 (Below.refl _ _).drew,Za l2 (Below.refl _ _).drew,Za l3 (Below.refl _ _).drew,Za l4 (Below.refl _ _).drew,Za r1 (Below.refl _ _).drew,Za r2 (Below.refl _ _).drew,Za b1 (Below.refl _ _).drew,Za b2 (Below.refl _ _).drew⟩ ?_
 simp only[steps,sE,sD]
 repeat((first|refine Zf rfl ?_|(refine Zd (v:= ?_) rfl rfl ?_ ?_;rotate_left;(focus(rintro w' ⟨⟨x0,x1,x2,x3⟩,y0,y1,y2,y3,y4,y5,y6,y7⟩;go_simp;try with_reducible rfl))));simp only[Act.put,sA,sB,sC])
 refine Zg ?_
 have HB4:=Hd (HB3.out.trans ((HBR.out.trans ((Below.refl wr.heap.size wr).drew.mono HBR.out.size)).mono HB3.out.size))
 generalize World.drew _=we at*
 go_wp2_with fail
 go_ret
 exact⟨⟨_,rfl,Zas HX.out HST.out HNE.out (by rw[HL.out];exact HI.out) (by rw[HL.out];exact HK.out) (fun m hm=>HALL.out m (by rw[← HL.out];exact hm)) (by rw[Hu.out,Hv.out,Hu2.out,Hv2.out,Hxa.out,Hxb.out,decide_eq_false huv,Bool.false_and])⟩,HB4.out⟩)
 have hq1:((u:Int)==(v:Int))=true:=by rw[beq_iff_eq];omega
 by_cases huv2:u2=v2
 case neg=>(
 have hq2:((u2:Int)==(v2:Int))=false:=by rw[beq_eq_false_iff_ne];omega
 refine wro [0,1,2,3,4,5,6,7,8,9,10,11,12,13,14,15,16,17,18,19,20,21,22,23,24,25,26,27,28,29,30,31,32,33,34,35,36,37,38,39,40,41,42,43,44] [] 45 (fun W=>ZB W w.heap.size (some ⟨p0,o0,none⟩) n c1 (some ⟨p1,o1,none⟩) n c2 (some ⟨p2,o2,none⟩) n c3 (some ⟨p4,o4,none⟩) n c4∧W.cell? ⟨p1,o1+i,none⟩=some (.int .u64 (u:Int))∧W.cell? ⟨p1,o1+k,none⟩=some (.int .u64 (v:Int))∧W.cell? ⟨p2,o2+i,none⟩=some (.int .u64 (u2:Int))∧W.cell? ⟨p2,o2+k,none⟩=some (.int .u64 (v2:Int))∧W.cell? ⟨p4,o4+i,none⟩=some (.slice (some ⟨g,q,none⟩) n y)∧W.cell? ⟨p4,o4+k,none⟩=some (.slice (some ⟨g',q',none⟩) n y')∧W.cell? ⟨g,q+k,none⟩=some (.bool _)∧W.cell? ⟨g',q'+i,none⟩=some (.bool _)) (by kernel_rfl) (fun _ _ _ _ _ h=>h) ⟨hz.keep (Below.refl _ _).drew,Za l1 (Below.refl _ _).drew,Za l2 (Below.refl _ _).drew,Za l3 (Below.refl _ _).drew,Za l4 (Below.refl _ _).drew,Za r1 (Below.refl _ _).drew,Za r2 (Below.refl _ _).drew,Za b1 (Below.refl _ _).drew,Za b2 (Below.refl _ _).drew⟩ ?_
 simp only[steps,sE,sD]
 repeat((first|refine Zf rfl ?_|(refine Zd (v:= ?_) rfl rfl ?_ ?_;rotate_left;(focus(rintro w' ⟨⟨x0,x1,x2,x3⟩,y0,y1,y2,y3,y4,y5,y6,y7⟩;go_simp;try with_reducible rfl))));simp only[Act.put,sA,sB,sC])
 refine Zg ?_
 have HB4:=Hd (HB3.out.trans ((HBR.out.trans ((Below.refl wr.heap.size wr).drew.mono HBR.out.size)).mono HB3.out.size))
 generalize World.drew _=we at*
 go_wp2_with fail
 go_ret
 exact⟨⟨_,rfl,Zas HX.out HST.out HNE.out (by rw[HL.out];exact HI.out) (by rw[HL.out];exact HK.out) (fun m hm=>HALL.out m (by rw[← HL.out];exact hm)) (by rw[Hu.out,Hv.out,Hu2.out,Hv2.out,Hxa.out,Hxb.out,decide_eq_false huv2,Bool.false_and,Bool.and_false])⟩,HB4.out⟩)
 have hq2:((u2:Int)==(v2:Int))=true:=by rw[beq_iff_eq];omega
 cases xa
 all_goals(
 refine wro [0,1,2,3,4,5,6,7,8,9,10,11,12,13,14,15,16,17,18,19,20,21,22,23,24,25,26,27,28,29,30,31,32,33,34,35,36,37,38,39,40,41,42,43,44] [] 45 (fun W=>ZB W w.heap.size (some ⟨p0,o0,none⟩) n c1 (some ⟨p1,o1,none⟩) n c2 (some ⟨p2,o2,none⟩) n c3 (some ⟨p4,o4,none⟩) n c4∧W.cell? ⟨p1,o1+i,none⟩=some (.int .u64 (u:Int))∧W.cell? ⟨p1,o1+k,none⟩=some (.int .u64 (v:Int))∧W.cell? ⟨p2,o2+i,none⟩=some (.int .u64 (u2:Int))∧W.cell? ⟨p2,o2+k,none⟩=some (.int .u64 (v2:Int))∧W.cell? ⟨p4,o4+i,none⟩=some (.slice (some ⟨g,q,none⟩) n y)∧W.cell? ⟨p4,o4+k,none⟩=some (.slice (some ⟨g',q',none⟩) n y')∧W.cell? ⟨g,q+k,none⟩=some (.bool _)∧W.cell? ⟨g',q'+i,none⟩=some (.bool _)) (by kernel_rfl) (fun _ _ _ _ _ h=>h) ⟨hz.keep (Below.refl _ _).drew,Za l1 (Below.refl _ _).drew,Za l2 (Below.refl _ _).drew,Za l3 (Below.refl _ _).drew,Za l4 (Below.refl _ _).drew,Za r1 (Below.refl _ _).drew,Za r2 (Below.refl _ _).drew,Za b1 (Below.refl _ _).drew,Za b2 (Below.refl _ _).drew⟩ ?_
 simp only[steps,sE,sD]
 repeat((first|refine Zf rfl ?_|(refine Zd (v:= ?_) rfl rfl ?_ ?_;rotate_left;(focus(rintro w' ⟨⟨x0,x1,x2,x3⟩,y0,y1,y2,y3,y4,y5,y6,y7⟩;go_simp;try with_reducible rfl))));simp only[Act.put,sA,sB,sC])
 refine Zg ?_
 have HB4:=Hd (HB3.out.trans ((HBR.out.trans ((Below.refl wr.heap.size wr).drew.mono HBR.out.size)).mono HB3.out.size))
 generalize World.drew _=we at*
 go_wp2_with fail
 go_ret
 exact⟨⟨_,rfl,Zas HX.out HST.out HNE.out (by rw[HL.out];exact HI.out) (by rw[HL.out];exact HK.out) (fun m hm=>HALL.out m (by rw[← HL.out];exact hm)) (by rw[Hu.out,Hv.out,Hu2.out,Hv2.out,Hxa.out,Hxb.out,decide_eq_true huv,decide_eq_true huv2,Bool.true_and,Bool.true_and];simp)⟩,HB4.out⟩))))
end Go.Proofs.YtmejhedegmjboaaGreat.I
