import Derived.Test.YtmejhedegmjboaaGreatDocD
import Derived.Test.YtmejhedegmjboaaGreatRfC
import Derived.Test.YtmejhedegmjboaaGreatRfL
set_option maxRecDepth 100000
set_option maxHeartbeats 8000000
namespace Go.Proofs.YtmejhedegmjboaaGreat
open Go.RowKit
structure RBox (w:World)(g t:Nat)(A:Option Addr)(n c m:Nat):Prop where
 s0:w.cell? ⟨g,0,none⟩=some (.int .i64 (t:Int))
 s1:w.cell? ⟨g,1,none⟩=some (.slice A n c)
 s2:w.cell? ⟨g,2,none⟩=some (.int .i64 (m:Int))
theorem RBox.keep {w W:World}{g t:Nat}{A:Option Addr}{n c m:Nat}(h:RBox w g t A n c m)(hb:Below w.heap.size w W):RBox W g t A n c m:=⟨Za h.s0 hb,Za h.s1 hb,Za h.s2 hb⟩
theorem RBox.of {w:World}{g t:Nat}{A:Option Addr}{n c m:Nat}(h:w.heap[g]?=some (.cells #[.int .i64 (t:Int),.slice A n c,.int .i64 (m:Int)] 37 (0,0))):RBox w g t A n c m:=
 ⟨(Zb (i:=0) h).trans rfl,(Zb (i:=1) h).trans rfl,(Zb (i:=2) h).trans rfl⟩
end Go.Proofs.YtmejhedegmjboaaGreat
namespace Go.Proofs.YtmejhedegmjboaaGreat.I
open Go.RowKit
def fvN (S:Bo.Sr)(z:Sen)(i:Nat):Nat:=if fixB S z i=true then valF z i else 0
theorem Zgy {S:Bo.Sr}{z:Sen}{i:Nat}(h:fixB S z i=false):fvN S z i=0:=by
 unfold fvN
 rw[h]
 rfl
theorem Zch {S:Bo.Sr}{z:Sen}{i:Nat}(h:fixB S z i=true):fvN S z i=valF z i:=by
 unfold fvN
 rw[if_pos h]
theorem Zen (z:Sen)(n c1 c2 c3 c4 p0 o0 p1 o1 p2 o2 p4 o4:Nat)(S:Bo.Sr)(t:Nat)(B:Option Addr)(m d q:Nat)(i:Nat)(w:World)(hs:Bo.RSrt w.heap.size w t B m d q S)(h:Cl w z n p0 o0 p1 o1 p2 o2 p4 o4)(hL:z.p.length=n)(hsd: ∀i,sd z i≤2)(hfl: ∀i,lw z i < 18446744073709551616)(hfh: ∀i,hg z i < 18446744073709551616)(hn:n≤1000)(hi:i < n):
  Calls Tryz.prog 107 #[Bo.rsV t B m d q,senV (some ⟨p0,o0,none⟩) n c1 (some ⟨p1,o1,none⟩) n c2 (some ⟨p2,o2,none⟩) n c3 (some ⟨p4,o4,none⟩) n c4,.int .i64 (i:Int)] w fun e w'=>e= .returned (.tuple #[.bool (fixB S z i),.int .u64 (fvN S z i:Int)])∧Below w.heap.size w w':=by
 have HRB:Hid (∀W,Below w.heap.size w W→ ∀x y:Nat,x < 18446744073709551616→y < 18446744073709551616→Calls Tryz.prog 69 #[Bo.rsV t B m d q,.int .u64 (x:Int),.int .u64 (y:Int)] W fun e w'=>e= .returned (.bool (S.below x y))∧Below W.heap.size W w'):=Hd fun W hW x y hx hy=>Bo.VY t B m d q S x y W (hs.keep hW) hx hy
 obtain⟨x,hx⟩: ∃x,w.alloc (.cells #[.int .i64 (t:Int),.slice B m d,.int .i64 (q:Int)] 37)=x:=⟨_,rfl⟩
 obtain⟨y,hy⟩: ∃y,x.alloc (.cells #[.slice (some ⟨p0,o0,none⟩) n c1,.slice (some ⟨p1,o1,none⟩) n c2,.slice (some ⟨p2,o2,none⟩) n c3,.slice (some ⟨p4,o4,none⟩) n c4] 28)=y:=⟨_,rfl⟩
 have b0:Below w.heap.size w x:=hx▸bA
 have sx:x.heap.size=w.heap.size+1:=by rw[← hx,World.size_alloc]
 have b1:Below x.heap.size x y:=hy▸bA
 have k0:=hx▸heap_alloc_new w (.cells #[.int .i64 (t:Int),.slice B m d,.int .i64 (q:Int)] 37)
 have hrb:RBox y w.heap.size t B m d q:=(RBox.of k0).keep b1
 have hz:ZB y (w.heap.size+1) (some ⟨p0,o0,none⟩) n c1 (some ⟨p1,o1,none⟩) n c2 (some ⟨p2,o2,none⟩) n c3 (some ⟨p4,o4,none⟩) n c4:=by rw[← sx, ← hy];exact ZB.of (heap_alloc_new x _)
 have hb:Below w.heap.size w y:=b0.trans (b1.mono b0.size)
 have hcl:=h.keep hb
 have hs2:=hsd i
 have e1:=hcl.s i hi
 obtain⟨s,hs⟩: ∃x,sd z i=x:=⟨_,rfl⟩
 rw[hs] at e1 hs2
 have HS:=Hd hs
 have HL:=Hd hL
 have HI:=Hd hi
 have HN:=Hd hn
 have HB:=Hd hb
 have HC:=Hd hcl
 have HZ:=Hd hz
 have HQ:=Hd hrb
 have HFL:=Hd hfl
 have HFH:=Hd hfh
 have z0:=hz.p0
 have hin:(i:Int) < (n:Int):=by omega
 have hi9:i≤1000:=by omega
 clear hs hb hcl h hL hsd hn hi b0 b1 sx k0 hz hrb hfl hfh
 unfold senV Bo.rsV
 unfold Bo.rsV at HRB
 rcases ZaC hs2 with hs3|hs3|hs3
 ·(
 obtain⟨hx0,h0⟩:=hs3
 have HX:Hid (sd z i=0):=Hd (HS.out.trans hx0)
 clear hx0 hs2
 subst hx
 go_enter Tryz.func107,Tryz.ntmps107
 go_wp2_with fail
 clear hy
 clear z0 e1
 obtain⟨wo,rfl⟩: ∃wo,wo=y:=⟨_,rfl⟩
 go_loopw [8] (fun vk wq=> ∃k:Nat,vk= .int .i64 (k:Int)∧k≤n∧(∀j < k,(!bb z j i||S.below (hg z j) (lw z i))=true)∧Below wo.heap.size wo wq) (fun vk _=>n - (intOf vk).toNat)
 case atStart=>exact⟨0,rfl,Nat.zero_le _,(fun j hj=>absurd hj (Nat.not_lt_zero j)),Below.refl _ _⟩
 case round=>(
 obtain⟨k,rfl,hk,hall,hbr⟩:=hrel
 have HALL:=Hd hall
 have HBR:=Hd hbr
 have hz:=HZ.out.keep hbr
 have hrb:=HQ.out.keep hbr
 have hcl:=HC.out.keep hbr
 have z0:=hz.p0
 clear hall hbr
 by_cases hlt:k < n
 ·(
 have HLT:=Hd hlt
 have hkn:(k:Int) < (n:Int):=by omega
 have hk9:k≤1000:=by have:=HN.out;omega
 obtain⟨g,e,y2,r1,hr⟩:=hcl.b k hlt
 have b1:=hr i HI.out
 have f1:=hcl.h k hlt
 have f2:=hcl.l i HI.out
 clear hr hcl hlt hk
 obtain⟨xa,hxa⟩: ∃x,bb z k i=x:=⟨_,rfl⟩
 rw[hxa] at b1
 have Hxa:=Hd hxa
 clear hxa
 obtain⟨u,hu⟩: ∃x,hg z k=x:=⟨_,rfl⟩
 rw[hu] at f1
 have Hu:=Hd hu
 clear hu
 obtain⟨v,hv⟩: ∃x,lw z i=x:=⟨_,rfl⟩
 rw[hv] at f2
 have Hv:=Hd hv
 clear hv
 have HUF:Hid (u < 18446744073709551616∧v < 18446744073709551616):=Hd ⟨by rw[← Hu.out];exact HFH.out _,by rw[← Hv.out];exact HFL.out _⟩
 go_wp2_with fail
 clear z0
 cases xa with
 |false=>(
 refine wro [0,1,2,3,4,5,6,7,8,9,10,11,12,13,14,15,16,17,18,19,20,21,22] [20] 23 (fun W=>ZB W (w.heap.size+1) (some ⟨p0,o0,none⟩) n c1 (some ⟨p1,o1,none⟩) n c2 (some ⟨p2,o2,none⟩) n c3 (some ⟨p4,o4,none⟩) n c4∧RBox W w.heap.size t B m d q∧W.cell? ⟨p4,o4+k,none⟩=some (.slice (some ⟨g,e,none⟩) n y2)∧W.cell? ⟨g,e+i,none⟩=some (.bool false)∧W.cell? ⟨p2,o2+k,none⟩=some (.int .u64 (u:Int))∧W.cell? ⟨p1,o1+i,none⟩=some (.int .u64 (v:Int))) (by kernel_rfl) (fun _ _ _ _ _ h=>h) ⟨hz.keep (Below.refl _ _).drew,hrb.keep (Below.refl _ _).drew,Za r1 (Below.refl _ _).drew,Za b1 (Below.refl _ _).drew,Za f1 (Below.refl _ _).drew,Za f2 (Below.refl _ _).drew⟩ ?_
 simp only[steps,sE,sD]
 repeat((first|refine Zf rfl ?_|(refine Zd (v:= ?_) rfl rfl ?_ ?_;rotate_left;(focus(rintro w' ⟨⟨x0,x1,x2,x3⟩,⟨s0,s1,s2⟩,y0,y1,y2,y3⟩;go_simp;try with_reducible rfl))));simp only[Act.put,sA,sB,sC])
 have HBR2:=Hd (HBR.out.trans ((Below.refl wr.heap.size wr).drew.mono HBR.out.size))
 refine Zg ?_
 clear r1 b1 f1 f2 hz hrb HBR
 generalize World.drew _=we at*
 go_wp2_with fail
 go_roundw
 case rel=>exact⟨k+1,by go_num,HLT.out,(fun j hj=>by
  by_cases ej:j=k
  ·subst ej;rw[Hxa.out];rfl
  ·exact HALL.out j (by omega)),HBR2.out⟩
 case measure=>(
 have:=HLT.out
 simp[intOf]
 omega))
 |true=>(
 refine wro [0,1,2,3,4,5,6,7,8,9,10,11,12,13,14,15,16,17,18,19,20,21,22] [20] 23 (fun W=>ZB W (w.heap.size+1) (some ⟨p0,o0,none⟩) n c1 (some ⟨p1,o1,none⟩) n c2 (some ⟨p2,o2,none⟩) n c3 (some ⟨p4,o4,none⟩) n c4∧RBox W w.heap.size t B m d q∧W.cell? ⟨p4,o4+k,none⟩=some (.slice (some ⟨g,e,none⟩) n y2)∧W.cell? ⟨g,e+i,none⟩=some (.bool true)∧W.cell? ⟨p2,o2+k,none⟩=some (.int .u64 (u:Int))∧W.cell? ⟨p1,o1+i,none⟩=some (.int .u64 (v:Int))) (by kernel_rfl) (fun _ _ _ _ _ h=>h) ⟨hz.keep (Below.refl _ _).drew,hrb.keep (Below.refl _ _).drew,Za r1 (Below.refl _ _).drew,Za b1 (Below.refl _ _).drew,Za f1 (Below.refl _ _).drew,Za f2 (Below.refl _ _).drew⟩ ?_
 simp only[steps,sE,sD]
 repeat((first|refine Zf rfl ?_|(refine Zd (v:= ?_) rfl rfl ?_ ?_;rotate_left;(focus(rintro w' ⟨⟨x0,x1,x2,x3⟩,⟨s0,s1,s2⟩,y0,y1,y2,y3⟩;go_simp;try with_reducible rfl))));simp only[Act.put,sA,sB,sC])
 have hd1:Below wr.heap.size wr wr.drew:=(Below.refl _ _).drew
 have HBR2:=Hd (HBR.out.trans (hd1.mono HBR.out.size))
 have HF:Hid (∀W,Below wr.heap.size wr W→(ZB W (w.heap.size+1) (some ⟨p0,o0,none⟩) n c1 (some ⟨p1,o1,none⟩) n c2 (some ⟨p2,o2,none⟩) n c3 (some ⟨p4,o4,none⟩) n c4∧RBox W w.heap.size t B m d q∧W.cell? ⟨p4,o4+k,none⟩=some (.slice (some ⟨g,e,none⟩) n y2)∧W.cell? ⟨g,e+i,none⟩=some (.bool true)∧W.cell? ⟨p2,o2+k,none⟩=some (.int .u64 (u:Int))∧W.cell? ⟨p1,o1+i,none⟩=some (.int .u64 (v:Int)))):=Hd fun W hW=>⟨hz.keep hW,hrb.keep hW,Za r1 hW,Za b1 hW,Za f1 hW,Za f2 hW⟩
 refine Ze rfl rfl (fun K hK=> ?_)
 go_simp
 have hcal:=HRB.out _ (HB.out.trans (HBR2.out.mono HB.out.size)) u v HUF.out.1 HUF.out.2
 obtain⟨rs,hrs⟩: ∃x,S.below u v=x:=⟨_,rfl⟩
 rw[hrs] at hcal
 have HRS:=Hd hrs
 refine hcal.mono ?_
 rintro e w5 ⟨rfl,hv5⟩
 have HB5:=Hd (HBR2.out.trans (hv5.mono HBR2.out.size))
 have hf5:=HF.out _ (hd1.trans (hv5.mono hd1.size))
 refine hK.out _ _ (fun _=>hf5) ?_
 clear hK K hcal hrs hf5 hv5 hd1 r1 b1 f1 f2 hz hrb HBR HBR2 HF
 try simp only[Act.put,sA,sB,sC]
 cases rs with
 |true=>(
 repeat((first|refine Zf rfl ?_|(refine Zd (v:= ?_) rfl rfl ?_ ?_;rotate_left;(focus(rintro w' ⟨⟨x0,x1,x2,x3⟩,⟨s0,s1,s2⟩,y0,y1,y2,y3⟩;go_simp;try with_reducible rfl))));simp only[Act.put,sA,sB,sC])
 refine Zg ?_
 go_wp2_with fail
 go_roundw
 case rel=>exact⟨k+1,by go_num,HLT.out,(fun j hj=>by
  by_cases ej:j=k
  ·subst ej;rw[Hu.out,Hv.out,HRS.out,Bool.or_true]
  ·exact HALL.out j (by omega)),HB5.out⟩
 case measure=>(
 have:=HLT.out
 simp[intOf]
 omega))
 |false=>(
 repeat((first|refine Zf rfl ?_|(refine Zd (v:= ?_) rfl rfl ?_ ?_;rotate_left;(focus(rintro w' ⟨⟨x0,x1,x2,x3⟩,⟨s0,s1,s2⟩,y0,y1,y2,y3⟩;go_simp;try with_reducible rfl))));simp only[Act.put,sA,sB,sC])
 refine Zg ?_
 have HNO:Hid (fixB S z i=false):=Hd (Zci (j:=k) HX.out (by rw[HL.out];exact HLT.out) (by rw[Hxa.out,Hu.out,Hv.out,HRS.out];rfl))
 go_wp2_with fail
 go_ret2
 exact⟨by rw[HNO.out,Zgy HNO.out];rfl,HB.out.trans (HB5.out.mono HB.out.size)⟩)))
 ·(
 obtain rfl:n=k:=by omega
 have HYES:Hid (fixB S z i=true):=Hd (ZaA HX.out (by rw[HL.out];exact HALL.out))
 have f1:=hcl.l i HI.out
 clear hcl hlt hk
 obtain⟨u,hu⟩: ∃x,lw z i=x:=⟨_,rfl⟩
 rw[hu] at f1
 have Hu:=Hd hu
 clear hu
 go_wp2_with fail
 clear z0
 refine wro [0,1,2,3,4,5,6] [] 7 (fun W=>ZB W (w.heap.size+1) (some ⟨p0,o0,none⟩) n c1 (some ⟨p1,o1,none⟩) n c2 (some ⟨p2,o2,none⟩) n c3 (some ⟨p4,o4,none⟩) n c4∧W.cell? ⟨p1,o1+i,none⟩=some (.int .u64 (u:Int))) (by kernel_rfl) (fun _ _ _ _ _ h=>h) ⟨hz.keep (Below.refl _ _).drew,Za f1 (Below.refl _ _).drew⟩ ?_
 simp only[steps,sE,sD]
 repeat((first|refine Zf rfl ?_|(refine Zd (v:= ?_) rfl rfl ?_ ?_;rotate_left;(focus(rintro w' ⟨⟨x0,x1,x2,x3⟩,y0⟩;go_simp;try with_reducible rfl))));simp only[Act.put,sA,sB,sC])
 refine Zg ?_
 have HB5:=Hd (HBR.out.trans ((Below.refl wr.heap.size wr).drew.mono HBR.out.size))
 clear hz hrb f1
 generalize World.drew _=we at*
 go_wp2_with fail
 go_ret2
 exact⟨by rw[HYES.out,Zch HYES.out,RS (by rw[HX.out];decide),Hu.out];rfl,HB.out.trans (HB5.out.mono HB.out.size)⟩)))
 ·(
 obtain⟨hx0,h0,h1⟩:=hs3
 have HX:Hid (sd z i=1):=Hd (HS.out.trans hx0)
 clear hx0 hs2
 subst hx
 go_enter Tryz.func107,Tryz.ntmps107
 go_wp2_with fail
 clear hy
 clear z0 e1
 obtain⟨wo,rfl⟩: ∃wo,wo=y:=⟨_,rfl⟩
 go_loopw [9] (fun vk wq=> ∃k:Nat,vk= .int .i64 (k:Int)∧k≤n∧(∀j < k,(!bb z i j||S.below (hg z i) (lw z j))=true)∧Below wo.heap.size wo wq) (fun vk _=>n - (intOf vk).toNat)
 case atStart=>exact⟨0,rfl,Nat.zero_le _,(fun j hj=>absurd hj (Nat.not_lt_zero j)),Below.refl _ _⟩
 case round=>(
 obtain⟨k,rfl,hk,hall,hbr⟩:=hrel
 have HALL:=Hd hall
 have HBR:=Hd hbr
 have hz:=HZ.out.keep hbr
 have hrb:=HQ.out.keep hbr
 have hcl:=HC.out.keep hbr
 have z0:=hz.p0
 clear hall hbr
 by_cases hlt:k < n
 ·(
 have HLT:=Hd hlt
 have hkn:(k:Int) < (n:Int):=by omega
 have hk9:k≤1000:=by have:=HN.out;omega
 obtain⟨g,e,y2,r1,hr⟩:=hcl.b i HI.out
 have b1:=hr k hlt
 have f1:=hcl.h i HI.out
 have f2:=hcl.l k hlt
 clear hr hcl hlt hk
 obtain⟨xa,hxa⟩: ∃x,bb z i k=x:=⟨_,rfl⟩
 rw[hxa] at b1
 have Hxa:=Hd hxa
 clear hxa
 obtain⟨u,hu⟩: ∃x,hg z i=x:=⟨_,rfl⟩
 rw[hu] at f1
 have Hu:=Hd hu
 clear hu
 obtain⟨v,hv⟩: ∃x,lw z k=x:=⟨_,rfl⟩
 rw[hv] at f2
 have Hv:=Hd hv
 clear hv
 have HUF:Hid (u < 18446744073709551616∧v < 18446744073709551616):=Hd ⟨by rw[← Hu.out];exact HFH.out _,by rw[← Hv.out];exact HFL.out _⟩
 go_wp2_with fail
 clear z0
 cases xa with
 |false=>(
 refine wro [0,1,2,3,4,5,6,7,8,9,10,11,12,13,14,15,16,17,18,19,20,21,22] [20] 23 (fun W=>ZB W (w.heap.size+1) (some ⟨p0,o0,none⟩) n c1 (some ⟨p1,o1,none⟩) n c2 (some ⟨p2,o2,none⟩) n c3 (some ⟨p4,o4,none⟩) n c4∧RBox W w.heap.size t B m d q∧W.cell? ⟨p4,o4+i,none⟩=some (.slice (some ⟨g,e,none⟩) n y2)∧W.cell? ⟨g,e+k,none⟩=some (.bool false)∧W.cell? ⟨p2,o2+i,none⟩=some (.int .u64 (u:Int))∧W.cell? ⟨p1,o1+k,none⟩=some (.int .u64 (v:Int))) (by kernel_rfl) (fun _ _ _ _ _ h=>h) ⟨hz.keep (Below.refl _ _).drew,hrb.keep (Below.refl _ _).drew,Za r1 (Below.refl _ _).drew,Za b1 (Below.refl _ _).drew,Za f1 (Below.refl _ _).drew,Za f2 (Below.refl _ _).drew⟩ ?_
 simp only[steps,sE,sD]
 repeat((first|refine Zf rfl ?_|(refine Zd (v:= ?_) rfl rfl ?_ ?_;rotate_left;(focus(rintro w' ⟨⟨x0,x1,x2,x3⟩,⟨s0,s1,s2⟩,y0,y1,y2,y3⟩;go_simp;try with_reducible rfl))));simp only[Act.put,sA,sB,sC])
 have HBR2:=Hd (HBR.out.trans ((Below.refl wr.heap.size wr).drew.mono HBR.out.size))
 refine Zg ?_
 clear r1 b1 f1 f2 hz hrb HBR
 generalize World.drew _=we at*
 go_wp2_with fail
 go_roundw
 case rel=>exact⟨k+1,by go_num,HLT.out,(fun j hj=>by
  by_cases ej:j=k
  ·subst ej;rw[Hxa.out];rfl
  ·exact HALL.out j (by omega)),HBR2.out⟩
 case measure=>(
 have:=HLT.out
 simp[intOf]
 omega))
 |true=>(
 refine wro [0,1,2,3,4,5,6,7,8,9,10,11,12,13,14,15,16,17,18,19,20,21,22] [20] 23 (fun W=>ZB W (w.heap.size+1) (some ⟨p0,o0,none⟩) n c1 (some ⟨p1,o1,none⟩) n c2 (some ⟨p2,o2,none⟩) n c3 (some ⟨p4,o4,none⟩) n c4∧RBox W w.heap.size t B m d q∧W.cell? ⟨p4,o4+i,none⟩=some (.slice (some ⟨g,e,none⟩) n y2)∧W.cell? ⟨g,e+k,none⟩=some (.bool true)∧W.cell? ⟨p2,o2+i,none⟩=some (.int .u64 (u:Int))∧W.cell? ⟨p1,o1+k,none⟩=some (.int .u64 (v:Int))) (by kernel_rfl) (fun _ _ _ _ _ h=>h) ⟨hz.keep (Below.refl _ _).drew,hrb.keep (Below.refl _ _).drew,Za r1 (Below.refl _ _).drew,Za b1 (Below.refl _ _).drew,Za f1 (Below.refl _ _).drew,Za f2 (Below.refl _ _).drew⟩ ?_
 simp only[steps,sE,sD]
 repeat((first|refine Zf rfl ?_|(refine Zd (v:= ?_) rfl rfl ?_ ?_;rotate_left;(focus(rintro w' ⟨⟨x0,x1,x2,x3⟩,⟨s0,s1,s2⟩,y0,y1,y2,y3⟩;go_simp;try with_reducible rfl))));simp only[Act.put,sA,sB,sC])
 have hd1:Below wr.heap.size wr wr.drew:=(Below.refl _ _).drew
 have HBR2:=Hd (HBR.out.trans (hd1.mono HBR.out.size))
 have HF:Hid (∀W,Below wr.heap.size wr W→(ZB W (w.heap.size+1) (some ⟨p0,o0,none⟩) n c1 (some ⟨p1,o1,none⟩) n c2 (some ⟨p2,o2,none⟩) n c3 (some ⟨p4,o4,none⟩) n c4∧RBox W w.heap.size t B m d q∧W.cell? ⟨p4,o4+i,none⟩=some (.slice (some ⟨g,e,none⟩) n y2)∧W.cell? ⟨g,e+k,none⟩=some (.bool true)∧W.cell? ⟨p2,o2+i,none⟩=some (.int .u64 (u:Int))∧W.cell? ⟨p1,o1+k,none⟩=some (.int .u64 (v:Int)))):=Hd fun W hW=>⟨hz.keep hW,hrb.keep hW,Za r1 hW,Za b1 hW,Za f1 hW,Za f2 hW⟩
 refine Ze rfl rfl (fun K hK=> ?_)
 go_simp
 have hcal:=HRB.out _ (HB.out.trans (HBR2.out.mono HB.out.size)) u v HUF.out.1 HUF.out.2
 obtain⟨rs,hrs⟩: ∃x,S.below u v=x:=⟨_,rfl⟩
 rw[hrs] at hcal
 have HRS:=Hd hrs
 refine hcal.mono ?_
 rintro e w5 ⟨rfl,hv5⟩
 have HB5:=Hd (HBR2.out.trans (hv5.mono HBR2.out.size))
 have hf5:=HF.out _ (hd1.trans (hv5.mono hd1.size))
 refine hK.out _ _ (fun _=>hf5) ?_
 clear hK K hcal hrs hf5 hv5 hd1 r1 b1 f1 f2 hz hrb HBR HBR2 HF
 try simp only[Act.put,sA,sB,sC]
 cases rs with
 |true=>(
 repeat((first|refine Zf rfl ?_|(refine Zd (v:= ?_) rfl rfl ?_ ?_;rotate_left;(focus(rintro w' ⟨⟨x0,x1,x2,x3⟩,⟨s0,s1,s2⟩,y0,y1,y2,y3⟩;go_simp;try with_reducible rfl))));simp only[Act.put,sA,sB,sC])
 refine Zg ?_
 go_wp2_with fail
 go_roundw
 case rel=>exact⟨k+1,by go_num,HLT.out,(fun j hj=>by
  by_cases ej:j=k
  ·subst ej;rw[Hu.out,Hv.out,HRS.out,Bool.or_true]
  ·exact HALL.out j (by omega)),HB5.out⟩
 case measure=>(
 have:=HLT.out
 simp[intOf]
 omega))
 |false=>(
 repeat((first|refine Zf rfl ?_|(refine Zd (v:= ?_) rfl rfl ?_ ?_;rotate_left;(focus(rintro w' ⟨⟨x0,x1,x2,x3⟩,⟨s0,s1,s2⟩,y0,y1,y2,y3⟩;go_simp;try with_reducible rfl))));simp only[Act.put,sA,sB,sC])
 refine Zg ?_
 have HNO:Hid (fixB S z i=false):=Hd (Zcj (j:=k) HX.out (by rw[HL.out];exact HLT.out) (by rw[Hxa.out,Hu.out,Hv.out,HRS.out];rfl))
 go_wp2_with fail
 go_ret2
 exact⟨by rw[HNO.out,Zgy HNO.out];rfl,HB.out.trans (HB5.out.mono HB.out.size)⟩)))
 ·(
 obtain rfl:n=k:=by omega
 have HYES:Hid (fixB S z i=true):=Hd (ZaB HX.out (by rw[HL.out];exact HALL.out))
 have f1:=hcl.h i HI.out
 clear hcl hlt hk
 obtain⟨u,hu⟩: ∃x,hg z i=x:=⟨_,rfl⟩
 rw[hu] at f1
 have Hu:=Hd hu
 clear hu
 go_wp2_with fail
 clear z0
 refine wro [0,1,2,3,4,5,6] [] 7 (fun W=>ZB W (w.heap.size+1) (some ⟨p0,o0,none⟩) n c1 (some ⟨p1,o1,none⟩) n c2 (some ⟨p2,o2,none⟩) n c3 (some ⟨p4,o4,none⟩) n c4∧W.cell? ⟨p2,o2+i,none⟩=some (.int .u64 (u:Int))) (by kernel_rfl) (fun _ _ _ _ _ h=>h) ⟨hz.keep (Below.refl _ _).drew,Za f1 (Below.refl _ _).drew⟩ ?_
 simp only[steps,sE,sD]
 repeat((first|refine Zf rfl ?_|(refine Zd (v:= ?_) rfl rfl ?_ ?_;rotate_left;(focus(rintro w' ⟨⟨x0,x1,x2,x3⟩,y0⟩;go_simp;try with_reducible rfl))));simp only[Act.put,sA,sB,sC])
 refine Zg ?_
 have HB5:=Hd (HBR.out.trans ((Below.refl wr.heap.size wr).drew.mono HBR.out.size))
 clear hz hrb f1
 generalize World.drew _=we at*
 go_wp2_with fail
 go_ret2
 exact⟨by rw[HYES.out,Zch HYES.out,Zk0 HX.out,Hu.out];rfl,HB.out.trans (HB5.out.mono HB.out.size)⟩)))
 ·(
 obtain⟨hx0,h0,h1,h2⟩:=hs3
 have HX:Hid (sd z i=2):=Hd (HS.out.trans hx0)
 clear hx0 hs2
 subst hx
 go_enter Tryz.func107,Tryz.ntmps107
 go_wp2_with fail
 clear hy
 clear z0 e1
 have hz:=HZ.out
 have f1:=HC.out.l i HI.out
 have f2:=HC.out.h i HI.out
 obtain⟨u,hu⟩: ∃x,lw z i=x:=⟨_,rfl⟩
 obtain⟨v,hv⟩: ∃x,hg z i=x:=⟨_,rfl⟩
 rw[hu] at f1
 rw[hv] at f2
 have Hu:=Hd hu
 have Hv:=Hd hv
 clear hu hv
 by_cases huv:u=v
 case neg=>(
 have hne:((u:Int) !=(v:Int))=true:=by rw[bne_iff_ne];omega
 have HNO:Hid (fixB S z i=false):=Hd (by rw[YV HX.out,Hu.out,Hv.out];exact decide_eq_false fun e=>huv e.symm)
 refine wro [0,1,2,3,4,5,6,7,8,9,10] [] 11 (fun W=>ZB W (w.heap.size+1) (some ⟨p0,o0,none⟩) n c1 (some ⟨p1,o1,none⟩) n c2 (some ⟨p2,o2,none⟩) n c3 (some ⟨p4,o4,none⟩) n c4∧W.cell? ⟨p1,o1+i,none⟩=some (.int .u64 (u:Int))∧W.cell? ⟨p2,o2+i,none⟩=some (.int .u64 (v:Int))) (by kernel_rfl) (fun _ _ _ _ _ h=>h) ⟨hz.keep (Below.refl _ _).drew,Za f1 (Below.refl _ _).drew,Za f2 (Below.refl _ _).drew⟩ ?_
 simp only[steps,sE,sD]
 repeat((first|refine Zf rfl ?_|(refine Zd (v:= ?_) rfl rfl ?_ ?_;rotate_left;(focus(rintro w' ⟨⟨x0,x1,x2,x3⟩,y0,y1⟩;go_simp;try with_reducible rfl))));simp only[Act.put,sA,sB,sC])
 refine Zg ?_
 have HB5:=Hd (HB.out.trans ((Below.refl y.heap.size y).drew.mono HB.out.size))
 clear hz f1 f2
 generalize World.drew _=we at*
 go_wp2_with fail
 go_ret2
 exact⟨by rw[HNO.out,Zgy HNO.out];rfl,HB5.out⟩)
 have hne:((u:Int) !=(v:Int))=false:=by rw[huv];simp
 have HYES:Hid (fixB S z i=true):=Hd (by rw[YV HX.out,Hu.out,Hv.out];exact decide_eq_true huv.symm)
 clear huv
 refine wro [0,1,2,3,4,5,6,7,8,9,10] [] 11 (fun W=>ZB W (w.heap.size+1) (some ⟨p0,o0,none⟩) n c1 (some ⟨p1,o1,none⟩) n c2 (some ⟨p2,o2,none⟩) n c3 (some ⟨p4,o4,none⟩) n c4∧W.cell? ⟨p1,o1+i,none⟩=some (.int .u64 (u:Int))∧W.cell? ⟨p2,o2+i,none⟩=some (.int .u64 (v:Int))) (by kernel_rfl) (fun _ _ _ _ _ h=>h) ⟨hz.keep (Below.refl _ _).drew,Za f1 (Below.refl _ _).drew,Za f2 (Below.refl _ _).drew⟩ ?_
 simp only[steps,sE,sD]
 repeat((first|refine Zf rfl ?_|(refine Zd (v:= ?_) rfl rfl ?_ ?_;rotate_left;(focus(rintro w' ⟨⟨x0,x1,x2,x3⟩,y0,y1⟩;go_simp;try with_reducible rfl))));simp only[Act.put,sA,sB,sC])
 refine Zg ?_
 have hd1:Below y.heap.size y y.drew:=(Below.refl _ _).drew
 have HB5:=Hd (HB.out.trans (hd1.mono HB.out.size))
 replace hz:=hz.keep hd1
 replace f1:=Za f1 hd1
 clear f2 hd1 hne HZ HC HQ
 generalize World.drew _=we at*
 go_wp2_with fail
 refine wro [0,1,2,3,4,5,6] [] 7 (fun W=>ZB W (w.heap.size+1) (some ⟨p0,o0,none⟩) n c1 (some ⟨p1,o1,none⟩) n c2 (some ⟨p2,o2,none⟩) n c3 (some ⟨p4,o4,none⟩) n c4∧W.cell? ⟨p1,o1+i,none⟩=some (.int .u64 (u:Int))) (by kernel_rfl) (fun _ _ _ _ _ h=>h) ⟨hz.keep (Below.refl _ _).drew,Za f1 (Below.refl _ _).drew⟩ ?_
 simp only[steps,sE,sD]
 repeat((first|refine Zf rfl ?_|(refine Zd (v:= ?_) rfl rfl ?_ ?_;rotate_left;(focus(rintro w' ⟨⟨x0,x1,x2,x3⟩,y0⟩;go_simp;try with_reducible rfl))));simp only[Act.put,sA,sB,sC])
 refine Zg ?_
 have HB6:=Hd (HB5.out.trans ((Below.refl we.heap.size we).drew.mono HB5.out.size))
 clear hz f1
 generalize World.drew _=wf at*
 go_wp2_with fail
 go_ret2
 exact⟨by rw[HYES.out,Zch HYES.out,RS (by rw[HX.out];decide),Hu.out];rfl,HB6.out⟩)
end Go.Proofs.YtmejhedegmjboaaGreat.I
