import Derived.Test.YtmejhedegmjboaaGreatBoRefS
import Derived.Test.YtmejhedegmjboaaGreatPnB
set_option maxRecDepth 100000
set_option maxHeartbeats 16000000
namespace Go.Proofs.YtmejhedegmjboaaGreat.I
open Go.RowKit PaC
structure PB (w:World)(g:Nat)(t:Nat)(B:Option Addr)(m d q n c1 c2 c3 c4 p0 o0 p1 o1 p2 o2 p4 o4:Nat):Prop where
 v:VB w g t B m d q n c1 c2 c3 c4 p0 o0 p1 o1 p2 o2 p4 o4
 z:ZB w (g+1) (some ⟨p0,o0,none⟩) n c1 (some ⟨p1,o1,none⟩) n c2 (some ⟨p2,o2,none⟩) n c3 (some ⟨p4,o4,none⟩) n c4
theorem PB.keep {w W:World}{g:Nat}{t:Nat}{B:Option Addr}{m d q n c1 c2 c3 c4 p0 o0 p1 o1 p2 o2 p4 o4:Nat}(h:PB w g t B m d q n c1 c2 c3 c4 p0 o0 p1 o1 p2 o2 p4 o4)(hb:Below w.heap.size w W):PB W g t B m d q n c1 c2 c3 c4 p0 o0 p1 o1 p2 o2 p4 o4:=⟨h.v.keep hb,h.z.keep hb⟩
theorem ZgF {S:Bo.Sr}{z:Sen}{i j:Nat}(h:bb z i j=false):Kz S z i j=false:=by
 unfold Kz
 rw[h]
 rfl
theorem ZgG {S:Bo.Sr}{z:Sen}{i j:Nat}(h:S.below (lw z j) (hg z i)=false):Kz S z i j=false:=by
 unfold Kz
 rw[h,Bool.false_and,Bool.and_false]
def okKM (S:Bo.Sr)(z:Sen)(i j k e:Nat):Bool:= !bb z i e||(bb z k e && (S.below (lw z j) (lw z e) && S.below (hg z k) (hg z i)))
theorem QH {S:Bo.Sr}{z:Sen}{i j k e:Nat}(hk:k < z.p.length)(he:e < z.p.length)(hb:bb z k j=true)(h:okKM S z i j k e=false):Kz S z i j=false:=by
 cases hp:Kz S z i j with
 |false=>rfl
 |true=>(
 unfold Kz at hp
 rw[Bool.and_eq_true,Bool.and_eq_true,Uk] at hp
 have:=hp.2.2 k hk
 rw[hb,Bool.not_true,Bool.false_or,Uk] at this
 have:=this e he
 unfold okKM at h
 rw[h] at this
 cases this)
theorem Zk3 {S:Bo.Sr}{z:Sen}{i j:Nat}(h1:bb z i j=true)(h2:S.below (lw z j) (hg z i)=true)(h3: ∀k < z.p.length,bb z k j=true→ ∀e < z.p.length,okKM S z i j k e=true):Kz S z i j=true:=by
 unfold Kz
 rw[h1,h2,Bool.true_and,Bool.true_and,Uk]
 intro k hk
 cases hb:bb z k j with
 |false=>rfl
 |true=>
  rw[Bool.not_true,Bool.false_or,Uk]
  exact h3 k hk hb
theorem ZiA (z:Sen)(t:Nat)(B:Option Addr)(m d q n c1 c2 c3 c4 p0 o0 p1 o1 p2 o2 p4 o4:Nat)(S:Bo.Sr)(i j:Nat)(w:World)(hs:Bo.RSrt w.heap.size w t B m d q S)(h:Cl w z n p0 o0 p1 o1 p2 o2 p4 o4)(hL:z.p.length=n)(hfl: ∀i,lw z i < 18446744073709551616)(hfh: ∀i,hg z i < 18446744073709551616)(hn:n≤1000)(hi:i < n)(hj:j < n):
  Calls Tryz.prog 110 #[vwV t B m d q n c1 c2 c3 c4 p0 o0 p1 o1 p2 o2 p4 o4,.int .i64 (i:Int),.int .i64 (j:Int)] w fun e w'=>e= .returned (.bool (Kz S z i j))∧Below w.heap.size w w':=by
 have HRB:Hid (∀W,Below w.heap.size w W→ ∀x y:Nat,x < 18446744073709551616→y < 18446744073709551616→Calls Tryz.prog 69 #[.agg #[.int .i64 (t:Int),.slice B m d,.int .i64 (q:Int)],.int .u64 (x:Int),.int .u64 (y:Int)] W fun e w'=>e= .returned (.bool (S.below x y))∧Below W.heap.size W w'):=Hd fun W hW x y hx hy=>Bo.VY t B m d q S x y W (hs.keep hW) hx hy
 obtain⟨x,hx⟩: ∃x,w.alloc (.cells #[.int .i64 (t:Int),.slice B m d,.int .i64 (q:Int),.slice (some ⟨p0,o0,none⟩) n c1,.slice (some ⟨p1,o1,none⟩) n c2,.slice (some ⟨p2,o2,none⟩) n c3,.slice (some ⟨p4,o4,none⟩) n c4] 93)=x:=⟨_,rfl⟩
 obtain⟨y,hy⟩: ∃y,x.alloc (.cells #[.slice (some ⟨p0,o0,none⟩) n c1,.slice (some ⟨p1,o1,none⟩) n c2,.slice (some ⟨p2,o2,none⟩) n c3,.slice (some ⟨p4,o4,none⟩) n c4] 28)=y:=⟨_,rfl⟩
 have b0:Below w.heap.size w x:=hx▸bA
 have sx:x.heap.size=w.heap.size+1:=by rw[← hx,World.size_alloc]
 have b1:Below x.heap.size x y:=hy▸bA
 have hv0:VB x w.heap.size t B m d q n c1 c2 c3 c4 p0 o0 p1 o1 p2 o2 p4 o4:=hx▸VB.of (heap_alloc_new w _)
 have hz0:ZB y (w.heap.size+1) (some ⟨p0,o0,none⟩) n c1 (some ⟨p1,o1,none⟩) n c2 (some ⟨p2,o2,none⟩) n c3 (some ⟨p4,o4,none⟩) n c4:=by rw[← sx, ← hy];exact ZB.of (heap_alloc_new x _)
 have hb:Below w.heap.size w y:=b0.trans (b1.mono b0.size)
 have hz:PB y w.heap.size t B m d q n c1 c2 c3 c4 p0 o0 p1 o1 p2 o2 p4 o4:=⟨hv0.keep b1,hz0⟩
 have hcl:=h.keep hb
 obtain⟨g,e,y',r1,hr⟩:=hcl.b i hi
 have a1:=hr j hj
 have f1:=hcl.l j hj
 have f2:=hcl.h i hi
 obtain⟨xa,hxa⟩: ∃x,bb z i j=x:=⟨_,rfl⟩
 rw[hxa] at a1
 obtain⟨u,hu⟩: ∃x,lw z j=x:=⟨_,rfl⟩
 rw[hu] at f1
 obtain⟨v,hv⟩: ∃x,hg z i=x:=⟨_,rfl⟩
 rw[hv] at f2
 have HXA:=Hd hxa
 have HU:=Hd hu
 have HV:=Hd hv
 have HUL:Hid (u < 18446744073709551616):=Hd (hu▸hfl j)
 have HVL:Hid (v < 18446744073709551616):=Hd (hv▸hfh i)
 have HL:=Hd hL
 have HI:=Hd hi
 have HJ:=Hd hj
 have HN:=Hd hn
 have HB:=Hd hb
 have HC:=Hd hcl
 have HZ:=Hd hz
 have HFL:=Hd hfl
 have HFH:=Hd hfh
 have HBR:Hid (Below y.heap.size y y):=Hd (Below.refl _ _)
 have v0:=hv0.s0
 have v3:=hv0.z0
 have v4:=hv0.z1
 have v5:=hv0.z2
 have v6:=hv0.z3
 have hin:(i:Int) < (n:Int):=by omega
 have hjn:(j:Int) < (n:Int):=by omega
 have hi9:i≤1000:=by omega
 have hj9:j≤1000:=by omega
 clear hb hcl h hL hn hi hj b0 b1 sx hv0 hz0 hfl hfh hxa hu hv hr hs
 unfold vwV
 subst hx
 go_enter Tryz.func110,Tryz.ntmps110
 go_wp2_with fail
 generalize hwd:World.alloc (World.alloc w _) _=wd'
 obtain rfl:y=wd':=hy.symm.trans hwd
 clear hwd hy v0 v3 v4 v5 v6
 cases xa with
 |false=>(
 refine wro [0,1,2,3,4,5,6,7,8,9,10,11,12,13,14,15,16,17,18,19,20,21,22,23,24] [22] 25 (fun W=>PB W w.heap.size t B m d q n c1 c2 c3 c4 p0 o0 p1 o1 p2 o2 p4 o4∧W.cell? ⟨p4,o4+i,none⟩=some (.slice (some ⟨g,e,none⟩) n y')∧W.cell? ⟨g,e+j,none⟩=some (.bool _)∧W.cell? ⟨p1,o1+j,none⟩=some (.int .u64 (u:Int))∧W.cell? ⟨p2,o2+i,none⟩=some (.int .u64 (v:Int))) (by kernel_rfl) (fun _ _ _ _ _ h=>h) ⟨hz.keep (Below.refl _ _).drew,Za r1 (Below.refl _ _).drew,Za a1 (Below.refl _ _).drew,Za f1 (Below.refl _ _).drew,Za f2 (Below.refl _ _).drew⟩ ?_
 simp only[steps,sE,sD]
 repeat((first|refine Zf rfl ?_|(refine Zd (v:= ?_) rfl rfl ?_ ?_;rotate_left;(focus(rintro w' ⟨⟨⟨x0,x1,x2,x3,x4,x5,x6⟩,⟨x7,x8,x9,x10⟩⟩,y0,y1,y2,y3⟩;go_simp;try with_reducible rfl))));simp only[Act.put,sA,sB,sC])
 refine Zg ?_
 have HB4:=Hd (HB.out.trans ((Below.refl y.heap.size y).drew.mono HB.out.size))
 generalize World.drew _=we at*
 go_wp2_with fail
 go_ret
 exact⟨by rw[ZgF HXA.out];rfl,HB4.out⟩)
 |true=>(
 refine wro [0,1,2,3,4,5,6,7,8,9,10,11,12,13,14,15,16,17,18,19,20,21,22,23,24] [22] 25 (fun W=>PB W w.heap.size t B m d q n c1 c2 c3 c4 p0 o0 p1 o1 p2 o2 p4 o4∧W.cell? ⟨p4,o4+i,none⟩=some (.slice (some ⟨g,e,none⟩) n y')∧W.cell? ⟨g,e+j,none⟩=some (.bool _)∧W.cell? ⟨p1,o1+j,none⟩=some (.int .u64 (u:Int))∧W.cell? ⟨p2,o2+i,none⟩=some (.int .u64 (v:Int))) (by kernel_rfl) (fun _ _ _ _ _ h=>h) ⟨hz.keep (Below.refl _ _).drew,Za r1 (Below.refl _ _).drew,Za a1 (Below.refl _ _).drew,Za f1 (Below.refl _ _).drew,Za f2 (Below.refl _ _).drew⟩ ?_
 simp only[steps,sE,sD]
 repeat((first|refine Zf rfl ?_|(refine Zd (v:= ?_) rfl rfl ?_ ?_;rotate_left;(focus(rintro w' ⟨⟨⟨x0,x1,x2,x3,x4,x5,x6⟩,⟨x7,x8,x9,x10⟩⟩,y0,y1,y2,y3⟩;go_simp;try with_reducible rfl))));simp only[Act.put,sA,sB,sC])
 have HBD:=Hd ((Below.refl y.heap.size y).drew)
 generalize World.drew _=wd at*
 refine Ze rfl rfl (fun K hK=> ?_)
 go_simp
 refine(HRB.out wd (HB.out.trans ((HBR.out.trans (HBD.out.mono HBR.out.size)).mono HB.out.size)) u v HUL.out HVL.out).mono ?_
 rintro e w4 ⟨rfl,hv⟩
 have HB4:=Hd (HBD.out.trans (hv.mono HBD.out.size))
 refine hK.out _ _ (fun _=>⟨hz.keep HB4.out,Za r1 HB4.out,Za a1 HB4.out,Za f1 HB4.out,Za f2 HB4.out⟩) ?_
 clear hK K hv
 try simp only[Act.put,sA,sB,sC]
 obtain⟨cb,hcb⟩: ∃x,S.below u v=x:=⟨_,rfl⟩
 rw[hcb]
 have HCB:=Hd hcb
 clear hcb
 cases cb with
 |false=>(
 repeat((first|refine Zf rfl ?_|(refine Zd (v:= ?_) rfl rfl ?_ ?_;rotate_left;(focus(rintro w' ⟨⟨⟨x0,x1,x2,x3,x4,x5,x6⟩,⟨x7,x8,x9,x10⟩⟩,y0,y1,y2,y3⟩;go_simp;try with_reducible rfl))));simp only[Act.put,sA,sB,sC])
 refine Zg ?_
 go_wp2_with fail
 go_ret
 exact⟨by rw[ZgG (by rw[HU.out,HV.out];exact HCB.out)];rfl,HB.out.trans (HB4.out.mono HB.out.size)⟩)
 |true=>(
 repeat((first|refine Zf rfl ?_|(refine Zd (v:= ?_) rfl rfl ?_ ?_;rotate_left;(focus(rintro w' ⟨⟨⟨x0,x1,x2,x3,x4,x5,x6⟩,⟨x7,x8,x9,x10⟩⟩,y0,y1,y2,y3⟩;go_simp;try with_reducible rfl))));simp only[Act.put,sA,sB,sC])
 refine Zg ?_
 have HZ4:=Hd (HZ.out.keep HB4.out)
 have HC4:=Hd (HC.out.keep HB4.out)
 have HBW:=Hd (HB.out.trans (HB4.out.mono HB.out.size))
 have z0:=HZ4.out.z.p0
 clear r1 a1 f1 f2 hz HZ HC HBR HBD
 go_wp2_with fail
 clear z0
 obtain⟨wo,rfl⟩: ∃wo,wo=w4:=⟨_,rfl⟩
 go_loopw [8] (fun vk wr=> ∃k:Nat,vk= .int .i64 (k:Int)∧k≤n∧(∀x < k,bb z x j=true→ ∀e < z.p.length,okKM S z i j x e=true)∧Below wo.heap.size wo wr) (fun vk _=>n - (intOf vk).toNat)
 case atStart=>exact⟨0,rfl,Nat.zero_le _,(fun x hx=>absurd hx (Nat.not_lt_zero x)),Below.refl _ _⟩
 case round=>(
 obtain⟨k,rfl,hk,hall,hbr⟩:=hrel
 have HALL:=Hd hall
 have HBK:=Hd hbr
 have hz:=HZ4.out.keep hbr
 have hcl:=HC4.out.keep hbr
 have z0:=hz.z.p0
 have z3:=hz.z.p3
 clear hall hbr
 by_cases hlt:k < n
 ·(
 have HLT:=Hd hlt
 have hkn:(k:Int) < (n:Int):=by omega
 have hk9:k≤1000:=by have:=HN.out;omega
 obtain⟨g2,e2,y2,r1,hr⟩:=hcl.b k hlt
 have a1:=hr j HJ.out
 obtain⟨xb,hxb⟩: ∃x,bb z k j=x:=⟨_,rfl⟩
 rw[hxb] at a1
 have HXB:=Hd hxb
 clear hxb hlt hk hcl hr hz
 cases xb with
 |false=>(
 go_wp2_with fail
 go_roundw
 case rel=>exact⟨k+1,by go_num,HLT.out,(fun x hx hb=>by
  by_cases ex:x=k
  ·subst ex;rw[HXB.out] at hb;cases hb
  ·exact HALL.out x (by omega) hb),HBK.out⟩
 case measure=>(
 have:=HLT.out
 simp[intOf]
 omega))
 |true=>(
 go_wp2_with fail
 clear r1 a1 z0 z3
 obtain⟨wp,rfl⟩: ∃wp,wp=wr:=⟨_,rfl⟩
 go_loopw [9] (fun ve wr=> ∃e:Nat,ve= .int .i64 (e:Int)∧e≤n∧(∀x < e,okKM S z i j k x=true)∧Below wp.heap.size wp wr) (fun ve _=>n - (intOf ve).toNat)
 case atStart=>exact⟨0,rfl,Nat.zero_le _,(fun x hx=>absurd hx (Nat.not_lt_zero x)),Below.refl _ _⟩
 case round=>(
 obtain⟨e,rfl,he,hale,hbe⟩:=hrel
 have HALE:=Hd hale
 have HBE:=Hd hbe
 have HBKE:=Hd (HBK.out.trans (hbe.mono HBK.out.size))
 have hz:=HZ4.out.keep HBKE.out
 have hcl:=HC4.out.keep HBKE.out
 have z0:=hz.z.p0
 clear hale hbe
 by_cases hlt:e < n
 ·(
 have HLE:=Hd hlt
 have hen:(e:Int) < (n:Int):=by omega
 have he9:e≤1000:=by have:=HN.out;omega
 obtain⟨g1,e1,y1,r1,hr⟩:=hcl.b i HI.out
 have a1:=hr e hlt
 clear hr
 obtain⟨g3,e3,y3,r2,hr⟩:=hcl.b k HLT.out
 have a2:=hr e hlt
 have f1:=hcl.l j HJ.out
 have f2:=hcl.l e hlt
 have f3:=hcl.h k HLT.out
 have f4:=hcl.h i HI.out
 rw[HU.out] at f1
 rw[HV.out] at f4
 obtain⟨xa,hxa⟩: ∃x,bb z i e=x:=⟨_,rfl⟩
 rw[hxa] at a1
 obtain⟨xb,hxb⟩: ∃x,bb z k e=x:=⟨_,rfl⟩
 rw[hxb] at a2
 obtain⟨l,hl⟩: ∃x,lw z e=x:=⟨_,rfl⟩
 rw[hl] at f2
 obtain⟨c,hc⟩: ∃x,hg z k=x:=⟨_,rfl⟩
 rw[hc] at f3
 have HXE:=Hd hxa
 have HXF:=Hd hxb
 have HLL:=Hd hl
 have HCC:=Hd hc
 have HLLL:Hid (l < 18446744073709551616):=Hd (hl▸HFL.out e)
 have HCCL:Hid (c < 18446744073709551616):=Hd (hc▸HFH.out k)
 have HBR:Hid (Below wo.heap.size wo wr):=HBKE
 clear hxa hxb hl hc hlt he hcl hr
 go_wp2_with fail
 clear z0
 cases xa with
 |false=>(
 refine wro [0,1,2,3,4,5,6,7,8,9,10,11,12,13,14,15,16,17,18,19,20,21,22,23,24,25,26,27,28,29,30,31,32,33,34,35,36,37,38,39,40,41,42,43,44,45,46,47,48,49,50] [31,47] 51 (fun W=>PB W w.heap.size t B m d q n c1 c2 c3 c4 p0 o0 p1 o1 p2 o2 p4 o4∧W.cell? ⟨p4,o4+i,none⟩=some (.slice (some ⟨g1,e1,none⟩) n y1)∧W.cell? ⟨p4,o4+k,none⟩=some (.slice (some ⟨g3,e3,none⟩) n y3)∧W.cell? ⟨g1,e1+e,none⟩=some (.bool _)∧W.cell? ⟨g3,e3+e,none⟩=some (.bool _)∧W.cell? ⟨p1,o1+j,none⟩=some (.int .u64 (u:Int))∧W.cell? ⟨p1,o1+e,none⟩=some (.int .u64 (l:Int))∧W.cell? ⟨p2,o2+k,none⟩=some (.int .u64 (c:Int))∧W.cell? ⟨p2,o2+i,none⟩=some (.int .u64 (v:Int))) (by kernel_rfl) (fun _ _ _ _ _ h=>h) ⟨hz.keep (Below.refl _ _).drew,Za r1 (Below.refl _ _).drew,Za r2 (Below.refl _ _).drew,Za a1 (Below.refl _ _).drew,Za a2 (Below.refl _ _).drew,Za f1 (Below.refl _ _).drew,Za f2 (Below.refl _ _).drew,Za f3 (Below.refl _ _).drew,Za f4 (Below.refl _ _).drew⟩ ?_
 simp only[steps,sE,sD]
 repeat((first|refine Zf rfl ?_|(refine Zd (v:= ?_) rfl rfl ?_ ?_;rotate_left;(focus(rintro w' ⟨⟨⟨x0,x1,x2,x3,x4,x5,x6⟩,⟨x7,x8,x9,x10⟩⟩,y0,y1,y2,y3,y4,y5,y6,y7⟩;go_simp;try with_reducible rfl))));simp only[Act.put,sA,sB,sC])
 refine Zg ?_
 have HBE2:=Hd (HBE.out.trans ((Below.refl wr.heap.size wr).drew.mono HBE.out.size))
 clear r1 r2 a1 a2 f1 f2 f3 f4 hz
 go_wp2_with fail
 go_roundw
 case rel=>exact⟨e+1,by go_num,HLE.out,(fun x hx=>by
  by_cases ex:x=e
  ·subst ex;unfold okKM;rw[HXE.out];rfl
  ·exact HALE.out x (by omega)),HBE2.out⟩
 case measure=>(
 have:=HLE.out
 simp[intOf]
 omega))
 |true=>(
 cases xb with
 |false=>(
 refine wro [0,1,2,3,4,5,6,7,8,9,10,11,12,13,14,15,16,17,18,19,20,21,22,23,24,25,26,27,28,29,30,31,32,33,34,35,36,37,38,39,40,41,42,43,44,45,46,47,48,49,50] [31,47] 51 (fun W=>PB W w.heap.size t B m d q n c1 c2 c3 c4 p0 o0 p1 o1 p2 o2 p4 o4∧W.cell? ⟨p4,o4+i,none⟩=some (.slice (some ⟨g1,e1,none⟩) n y1)∧W.cell? ⟨p4,o4+k,none⟩=some (.slice (some ⟨g3,e3,none⟩) n y3)∧W.cell? ⟨g1,e1+e,none⟩=some (.bool _)∧W.cell? ⟨g3,e3+e,none⟩=some (.bool _)∧W.cell? ⟨p1,o1+j,none⟩=some (.int .u64 (u:Int))∧W.cell? ⟨p1,o1+e,none⟩=some (.int .u64 (l:Int))∧W.cell? ⟨p2,o2+k,none⟩=some (.int .u64 (c:Int))∧W.cell? ⟨p2,o2+i,none⟩=some (.int .u64 (v:Int))) (by kernel_rfl) (fun _ _ _ _ _ h=>h) ⟨hz.keep (Below.refl _ _).drew,Za r1 (Below.refl _ _).drew,Za r2 (Below.refl _ _).drew,Za a1 (Below.refl _ _).drew,Za a2 (Below.refl _ _).drew,Za f1 (Below.refl _ _).drew,Za f2 (Below.refl _ _).drew,Za f3 (Below.refl _ _).drew,Za f4 (Below.refl _ _).drew⟩ ?_
 simp only[steps,sE,sD]
 repeat((first|refine Zf rfl ?_|(refine Zd (v:= ?_) rfl rfl ?_ ?_;rotate_left;(focus(rintro w' ⟨⟨⟨x0,x1,x2,x3,x4,x5,x6⟩,⟨x7,x8,x9,x10⟩⟩,y0,y1,y2,y3,y4,y5,y6,y7⟩;go_simp;try with_reducible rfl))));simp only[Act.put,sA,sB,sC])
 refine Zg ?_
 have HB9:=Hd (HBW.out.trans ((HBK.out.trans ((HBE.out.trans ((Below.refl wr.heap.size wr).drew.mono HBE.out.size)).mono HBK.out.size)).mono HBW.out.size))
 go_wp2_with fail
 go_ret
 exact⟨by rw[QH (k:=k) (e:=e) (by rw[HL.out];exact HLT.out) (by rw[HL.out];exact HLE.out) HXB.out (by unfold okKM;rw[HXE.out,HXF.out];rfl)];rfl,HB9.out⟩)
 |true=>(
 refine wro [0,1,2,3,4,5,6,7,8,9,10,11,12,13,14,15,16,17,18,19,20,21,22,23,24,25,26,27,28,29,30,31,32,33,34,35,36,37,38,39,40,41,42,43,44,45,46,47,48,49,50] [31,47] 51 (fun W=>PB W w.heap.size t B m d q n c1 c2 c3 c4 p0 o0 p1 o1 p2 o2 p4 o4∧W.cell? ⟨p4,o4+i,none⟩=some (.slice (some ⟨g1,e1,none⟩) n y1)∧W.cell? ⟨p4,o4+k,none⟩=some (.slice (some ⟨g3,e3,none⟩) n y3)∧W.cell? ⟨g1,e1+e,none⟩=some (.bool _)∧W.cell? ⟨g3,e3+e,none⟩=some (.bool _)∧W.cell? ⟨p1,o1+j,none⟩=some (.int .u64 (u:Int))∧W.cell? ⟨p1,o1+e,none⟩=some (.int .u64 (l:Int))∧W.cell? ⟨p2,o2+k,none⟩=some (.int .u64 (c:Int))∧W.cell? ⟨p2,o2+i,none⟩=some (.int .u64 (v:Int))) (by kernel_rfl) (fun _ _ _ _ _ h=>h) ⟨hz.keep (Below.refl _ _).drew,Za r1 (Below.refl _ _).drew,Za r2 (Below.refl _ _).drew,Za a1 (Below.refl _ _).drew,Za a2 (Below.refl _ _).drew,Za f1 (Below.refl _ _).drew,Za f2 (Below.refl _ _).drew,Za f3 (Below.refl _ _).drew,Za f4 (Below.refl _ _).drew⟩ ?_
 simp only[steps,sE,sD]
 repeat((first|refine Zf rfl ?_|(refine Zd (v:= ?_) rfl rfl ?_ ?_;rotate_left;(focus(rintro w' ⟨⟨⟨x0,x1,x2,x3,x4,x5,x6⟩,⟨x7,x8,x9,x10⟩⟩,y0,y1,y2,y3,y4,y5,y6,y7⟩;go_simp;try with_reducible rfl))));simp only[Act.put,sA,sB,sC])
 have HBD:=Hd ((Below.refl wr.heap.size wr).drew)
 generalize World.drew _=wd at*
 refine Ze rfl rfl (fun K hK=> ?_)
 go_simp
 refine(HRB.out wd (HBW.out.trans ((HBR.out.trans (HBD.out.mono HBR.out.size)).mono HBW.out.size)) u l HUL.out HLLL.out).mono ?_
 rintro e w5 ⟨rfl,hv⟩
 have HB5:=Hd (HBD.out.trans (hv.mono HBD.out.size))
 refine hK.out _ _ (fun _=>⟨hz.keep HB5.out,Za r1 HB5.out,Za r2 HB5.out,Za a1 HB5.out,Za a2 HB5.out,Za f1 HB5.out,Za f2 HB5.out,Za f3 HB5.out,Za f4 HB5.out⟩) ?_
 clear hK K hv
 try simp only[Act.put,sA,sB,sC]
 obtain⟨cb,hcb⟩: ∃x,S.below u l=x:=⟨_,rfl⟩
 rw[hcb]
 have HC1:=Hd hcb
 clear hcb
 cases cb with
 |false=>(
 repeat((first|refine Zf rfl ?_|(refine Zd (v:= ?_) rfl rfl ?_ ?_;rotate_left;(focus(rintro w' ⟨⟨⟨x0,x1,x2,x3,x4,x5,x6⟩,⟨x7,x8,x9,x10⟩⟩,y0,y1,y2,y3,y4,y5,y6,y7⟩;go_simp;try with_reducible rfl))));simp only[Act.put,sA,sB,sC])
 refine Zg ?_
 have HB9:=Hd (HBW.out.trans ((HBK.out.trans ((HBE.out.trans (HB5.out.mono HBE.out.size)).mono HBK.out.size)).mono HBW.out.size))
 go_wp2_with fail
 go_ret
 exact⟨by rw[QH (k:=k) (e:=e) (by rw[HL.out];exact HLT.out) (by rw[HL.out];exact HLE.out) HXB.out (by unfold okKM;rw[HXE.out,HXF.out,HU.out,HLL.out,HC1.out];rfl)];rfl,HB9.out⟩)
 |true=>(
 repeat((first|refine Zf rfl ?_|(refine Zd (v:= ?_) rfl rfl ?_ ?_;rotate_left;(focus(rintro w' ⟨⟨⟨x0,x1,x2,x3,x4,x5,x6⟩,⟨x7,x8,x9,x10⟩⟩,y0,y1,y2,y3,y4,y5,y6,y7⟩;go_simp;try with_reducible rfl))));simp only[Act.put,sA,sB,sC])
 refine Ze rfl rfl (fun K hK=> ?_)
 go_simp
 refine(HRB.out w5 (HBW.out.trans ((HBR.out.trans (HB5.out.mono HBR.out.size)).mono HBW.out.size)) c v HCCL.out HVL.out).mono ?_
 rintro e w6 ⟨rfl,hv⟩
 have HB6:=Hd (HB5.out.trans (hv.mono HB5.out.size))
 refine hK.out _ _ (fun _=>⟨hz.keep HB6.out,Za r1 HB6.out,Za r2 HB6.out,Za a1 HB6.out,Za a2 HB6.out,Za f1 HB6.out,Za f2 HB6.out,Za f3 HB6.out,Za f4 HB6.out⟩) ?_
 clear hK K hv
 try simp only[Act.put,sA,sB,sC]
 obtain⟨cc,hcc⟩: ∃x,S.below c v=x:=⟨_,rfl⟩
 rw[hcc]
 have HC2:=Hd hcc
 clear hcc
 cases cc with
 |false=>(
 repeat((first|refine Zf rfl ?_|(refine Zd (v:= ?_) rfl rfl ?_ ?_;rotate_left;(focus(rintro w' ⟨⟨⟨x0,x1,x2,x3,x4,x5,x6⟩,⟨x7,x8,x9,x10⟩⟩,y0,y1,y2,y3,y4,y5,y6,y7⟩;go_simp;try with_reducible rfl))));simp only[Act.put,sA,sB,sC])
 refine Zg ?_
 have HB9:=Hd (HBW.out.trans ((HBK.out.trans ((HBE.out.trans (HB6.out.mono HBE.out.size)).mono HBK.out.size)).mono HBW.out.size))
 go_wp2_with fail
 go_ret
 exact⟨by rw[QH (k:=k) (e:=e) (by rw[HL.out];exact HLT.out) (by rw[HL.out];exact HLE.out) HXB.out (by unfold okKM;rw[HXE.out,HXF.out,HU.out,HLL.out,HC1.out,HCC.out,HV.out,HC2.out];rfl)];rfl,HB9.out⟩)
 |true=>(
 repeat((first|refine Zf rfl ?_|(refine Zd (v:= ?_) rfl rfl ?_ ?_;rotate_left;(focus(rintro w' ⟨⟨⟨x0,x1,x2,x3,x4,x5,x6⟩,⟨x7,x8,x9,x10⟩⟩,y0,y1,y2,y3,y4,y5,y6,y7⟩;go_simp;try with_reducible rfl))));simp only[Act.put,sA,sB,sC])
 refine Zg ?_
 have HBE2:=Hd (HBE.out.trans (HB6.out.mono HBE.out.size))
 clear r1 r2 a1 a2 f1 f2 f3 f4 hz
 go_wp2_with fail
 go_roundw
 case rel=>exact⟨e+1,by go_num,HLE.out,(fun x hx=>by
  by_cases ex:x=e
  ·subst ex;unfold okKM;rw[HXE.out,HXF.out,HU.out,HLL.out,HC1.out,HCC.out,HV.out,HC2.out];rfl
  ·exact HALE.out x (by omega)),HBE2.out⟩
 case measure=>(
 have:=HLE.out
 simp[intOf]
 omega))))))
 ·(
 obtain rfl:n=e:=by omega
 go_wp2_with fail
 go_roundw
 case rel=>exact⟨k+1,by go_num,HLT.out,(fun x hx hb e he=>by
  by_cases ex:x=k
  ·subst ex;exact HALE.out e (by rw[← HL.out];exact he)
  ·exact HALL.out x (by omega) hb e he),HBKE.out⟩
 case measure=>(
 have:=HLT.out
 simp[intOf]
 omega)))))
 ·(
 obtain rfl:n=k:=by omega
 clear z3 hcl hz
 go_wp2_with fail
 go_ret
 exact⟨by rw[Zk3 HXA.out (by rw[HU.out,HV.out];exact HCB.out) (fun x hx hb e he=>HALL.out x (by rw[← HL.out];exact hx) hb e he)];rfl,HBW.out.trans (HBK.out.mono HBW.out.size)⟩))))
end Go.Proofs.YtmejhedegmjboaaGreat.I
