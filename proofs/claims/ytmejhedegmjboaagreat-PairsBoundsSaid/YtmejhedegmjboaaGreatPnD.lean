import Derived.Test.YtmejhedegmjboaaGreatPnC
set_option maxRecDepth 100000
set_option maxHeartbeats 16000000
namespace Go.Proofs.YtmejhedegmjboaaGreat.I
open Go.RowKit PaC
structure UB (w:World)(g:Nat)(t:Nat)(B:Option Addr)(m d q n c1 c2 c3 c4 p0 o0 p1 o1 p2 o2 p4 o4:Nat)(au ad ab bu bd bc:Int):Prop where
 v:VB w g t B m d q n c1 c2 c3 c4 p0 o0 p1 o1 p2 o2 p4 o4
 a0:w.cell? ⟨g+1,0,none⟩=some (.int .i64 au)
 a1:w.cell? ⟨g+1,1,none⟩=some (.int .i64 ad)
 a2:w.cell? ⟨g+1,2,none⟩=some (.int .i64 ab)
 b0:w.cell? ⟨g+2,0,none⟩=some (.int .i64 bu)
 b1:w.cell? ⟨g+2,1,none⟩=some (.int .i64 bd)
 b2:w.cell? ⟨g+2,2,none⟩=some (.int .i64 bc)
theorem UB.keep {w W:World}{g:Nat}{t:Nat}{B:Option Addr}{m d q n c1 c2 c3 c4 p0 o0 p1 o1 p2 o2 p4 o4:Nat}{au ad ab bu bd bc:Int}(h:UB w g t B m d q n c1 c2 c3 c4 p0 o0 p1 o1 p2 o2 p4 o4 au ad ab bu bd bc)(hb:Below w.heap.size w W):UB W g t B m d q n c1 c2 c3 c4 p0 o0 p1 o1 p2 o2 p4 o4 au ad ab bu bd bc:=
 ⟨h.v.keep hb,Za h.a0 hb,Za h.a1 hb,Za h.a2 hb,Za h.b0 hb,Za h.b1 hb,Za h.b2 hb⟩
def undN (S:Bo.Sr)(z:Sen)(a b:Vn):Bool:= !decide (a=b) && (decide (0≤a.outZ) && (decide (0≤b.inZ) && (bb z a.outZ.toNat b.inZ.toNat && !S.below (hg z a.outZ.toNat) (lw z b.inZ.toNat))))
theorem ZiM {S:Bo.Sr}{z:Sen}{a b:Vn}(h:a=b):undN S z a b=false:=by
 unfold undN
 rw[decide_eq_true h]
 rfl
theorem Zle {S:Bo.Sr}{z:Sen}{a b:Vn}(h: ¬0≤a.outZ):undN S z a b=false:=by
 unfold undN
 rw[decide_eq_false h]
 simp
theorem Zmr {S:Bo.Sr}{z:Sen}{a b:Vn}(h: ¬0≤b.inZ):undN S z a b=false:=by
 unfold undN
 rw[decide_eq_false h]
 simp
theorem Zms {S:Bo.Sr}{z:Sen}{a b:Vn}(hne:a≠b){i j:Nat}(h1:a.outZ=(i:Int))(h2:b.inZ=(j:Int)):undN S z a b=(bb z i j && !S.below (hg z i) (lw z j)):=by
 unfold undN
 rw[h1,h2,decide_eq_false hne,decide_eq_true (Int.natCast_nonneg i),decide_eq_true (Int.natCast_nonneg j),Int.toNat_natCast,Int.toNat_natCast]
 simp
theorem ZiN {au ad ab bu bd bc:Int}(h:(⟨au,ad,ab⟩:Vn)≠⟨bu,bd,bc⟩):au≠bu∨(au=bu∧ad≠bd)∨(au=bu∧ad=bd∧ab≠bc):=by
 by_cases h1:au=bu
 ·(
 by_cases h2:ad=bd
 ·by_cases h3:ab=bc
  ·exact absurd (by rw[h1,h2,h3]) h
  ·exact .inr (.inr ⟨h1,h2,h3⟩)
 ·exact .inr (.inl ⟨h1,h2⟩))
 ·exact .inl h1
theorem ZgW (z:Sen)(t:Nat)(B:Option Addr)(m d q n c1 c2 c3 c4 p0 o0 p1 o1 p2 o2 p4 o4:Nat)(S:Bo.Sr)(a b:Vn)(w:World)(hs:Bo.RSrt w.heap.size w t B m d q S)(h:Cl w z n p0 o0 p1 o1 p2 o2 p4 o4)(hfl: ∀i,lw z i < 18446744073709551616)(hfh: ∀i,hg z i < 18446744073709551616)(hn:n≤1000)(ha:a.outZ < n)(hb:b.inZ < n):
  Calls Tryz.prog 41 #[vwV t B m d q n c1 c2 c3 c4 p0 o0 p1 o1 p2 o2 p4 o4,ndV a,ndV b] w fun e w'=>e= .returned (.bool (undN S z a b))∧Below w.heap.size w w':=by
 have HRB:Hid (∀W,Below w.heap.size w W→ ∀x y:Nat,x < 18446744073709551616→y < 18446744073709551616→Calls Tryz.prog 69 #[.agg #[.int .i64 (t:Int),.slice B m d,.int .i64 (q:Int)],.int .u64 (x:Int),.int .u64 (y:Int)] W fun e w'=>e= .returned (.bool (S.below x y))∧Below W.heap.size W w'):=Hd fun W hW x y hx hy=>Bo.VY t B m d q S x y W (hs.keep hW) hx hy
 have HOC:Hid (∀W,Calls Tryz.prog 39 #[ndV a] W fun e w'=>e= .returned (.int .i64 a.outZ)∧Below W.heap.size W w'):=Hd fun W=>ZgA a W
 have HIC:Hid (∀W,Calls Tryz.prog 37 #[ndV b] W fun e w'=>e= .returned (.int .i64 b.inZ)∧Below W.heap.size W w'):=Hd fun W=>Zjn b W
 have HUS:=Hd (@ZiM S z a b)
 have HUO:=Hd (@Zle S z a b)
 have HUI:=Hd (@Zmr S z a b)
 have HUB:=Hd (@Zms S z a b)
 obtain⟨o,ho⟩: ∃o,a.outZ=o:=⟨_,rfl⟩
 obtain⟨i,hi⟩: ∃i,b.inZ=i:=⟨_,rfl⟩
 rw[ho] at HOC HUO ha
 rw[hi] at HIC HUI hb
 have HO:=Hd ho
 have HI:=Hd hi
 clear ho hi
 obtain⟨r,hr⟩: ∃r,undN S z a b=r:=⟨_,rfl⟩
 rw[hr] at HUS HUO HUI HUB ⊢
 clear hr
 rw[HO.out,HI.out] at HUB
 clear HO HI
 obtain⟨au,ad,ab⟩:=a
 obtain⟨bu,bd,bc⟩:=b
 unfold ndV at HOC HIC ⊢
 simp only at HOC HIC HUS HUB ⊢
 obtain⟨x,hx⟩: ∃x,w.alloc (.cells #[.int .i64 (t:Int),.slice B m d,.int .i64 (q:Int),.slice (some ⟨p0,o0,none⟩) n c1,.slice (some ⟨p1,o1,none⟩) n c2,.slice (some ⟨p2,o2,none⟩) n c3,.slice (some ⟨p4,o4,none⟩) n c4] 93)=x:=⟨_,rfl⟩
 obtain⟨y,hy⟩: ∃y,x.alloc (.cells #[.int .i64 au,.int .i64 ad,.int .i64 ab] 95)=y:=⟨_,rfl⟩
 obtain⟨v,hv⟩: ∃v,y.alloc (.cells #[.int .i64 bu,.int .i64 bd,.int .i64 bc] 95)=v:=⟨_,rfl⟩
 have c0:Below w.heap.size w x:=hx▸bA
 have sx:x.heap.size=w.heap.size+1:=by rw[← hx,World.size_alloc]
 have c1':Below x.heap.size x y:=hy▸bA
 have sy:y.heap.size=w.heap.size+2:=by rw[← hy,World.size_alloc,sx]
 have c2':Below y.heap.size y v:=hv▸bA
 have hv0:VB x w.heap.size t B m d q n c1 c2 c3 c4 p0 o0 p1 o1 p2 o2 p4 o4:=hx▸VB.of (heap_alloc_new w _)
 have ka:y.heap[w.heap.size+1]?=some (.cells #[.int .i64 au,.int .i64 ad,.int .i64 ab] 95 (0,0)):=by rw[← sx, ← hy];exact heap_alloc_new x _
 have kb:v.heap[w.heap.size+2]?=some (.cells #[.int .i64 bu,.int .i64 bd,.int .i64 bc] 95 (0,0)):=by rw[← sy, ← hv];exact heap_alloc_new y _
 have ka':=(c2'.block _ (by rw[sy];omega)).trans ka
 have hz:UB v w.heap.size t B m d q n c1 c2 c3 c4 p0 o0 p1 o1 p2 o2 p4 o4 au ad ab bu bd bc:=⟨(hv0.keep c1').keep c2',(Zb (i:=0) ka').trans rfl,(Zb (i:=1) ka').trans rfl,(Zb (i:=2) ka').trans rfl,(Zb (i:=0) kb).trans rfl,(Zb (i:=1) kb).trans rfl,(Zb (i:=2) kb).trans rfl⟩
 have hbl:Below w.heap.size w v:=c0.trans ((c1'.trans (c2'.mono c1'.size)).mono c0.size)
 have HB:=Hd hbl
 have HC:=Hd (h.keep hbl)
 have HZ:=Hd hz
 have HN:=Hd hn
 have HFL:=Hd hfl
 have HFH:=Hd hfh
 have HA:=Hd ha
 have HBI:=Hd hb
 have y0:=hz.a0
 have y1:=hz.a1
 have y2:=hz.a2
 clear hs h hfl hfh hn ha hb c0 c1' c2' sx hv0 ka ka' kb hz hbl
 unfold vwV
 subst hx hy
 go_enter Tryz.func41,Tryz.ntmps41
 go_wp2_with fail
 generalize hwd:World.alloc (World.alloc (World.alloc w _) _) _=wd'
 obtain rfl:v=wd':=hv.symm.trans hwd
 clear hwd hv y0 y1 y2 sy
 refine(HOC.out v).mono ?_
 rintro e w1 ⟨rfl,hv⟩
 have HV1:=Hd hv
 have hz:=HZ.out.keep hv
 have y0:=hz.b0
 have y1:=hz.b1
 have y2:=hz.b2
 clear hv hz HOC
 go_wp2_with fail
 clear y0 y1 y2
 refine(HIC.out w1).mono ?_
 rintro e w2 ⟨rfl,hv⟩
 have HV2:=Hd (HV1.out.trans (hv.mono HV1.out.size))
 have hz:=HZ.out.keep HV2.out
 have HB2:=Hd (HB.out.trans (HV2.out.mono HB.out.size))
 clear hv HIC HV1
 go_wp2_with fail
 have gu:(au==au)=true:=by simp
 have gd:(ad==ad)=true:=by simp
 have gb:(ab==ab)=true:=by simp
 by_cases hab:(⟨au,ad,ab⟩:Vn)=⟨bu,bd,bc⟩
 ·(
 have HR:=Hd (HUS.out hab)
 injection hab with e1 e2 e3
 subst e1 e2 e3
 clear HUS HUO HUI HUB
 refine wro [0,1,2,3,4,5,6,7,8,9,10,11,12,13,14,15,16,17,18,19,20,21,22,23,24,25,26,27,28,29,30,31,32,33,34,35,36,37,38,39,40] [37] 41 (fun W=>UB W w.heap.size t B m d q n c1 c2 c3 c4 p0 o0 p1 o1 p2 o2 p4 o4 au ad ab au ad ab) (by kernel_rfl) (fun _ _ _ _ _ h=>h) (hz.keep (Below.refl _ _).drew) ?_
 simp only[steps,sE,sD]
 repeat((first|refine Zf rfl ?_|(refine Zd (v:= ?_) rfl rfl ?_ ?_;rotate_left;(focus(rintro w' ⟨⟨x0,x1,x2,x3,x4,x5,x6⟩,x7,x8,x9,x10,x11,x12⟩;go_simp;try with_reducible rfl))));simp only[Act.put,sA,sB,sC])
 refine Zg ?_
 have HB4:=Hd (HB2.out.trans ((Below.refl w2.heap.size w2).drew.mono HB2.out.size))
 generalize World.drew _=we at*
 go_wp2_with fail
 go_ret
 exact⟨by rw[HR.out];rfl,HB4.out⟩)
 have HNE:=Hd hab
 have hc:=ZiN hab
 clear hab
 rcases hc with hc|⟨rfl,hc⟩|⟨rfl,rfl,hc⟩
 ·(
 have gx:(au==bu)=false:=by simpa using hc
 clear hc
 by_cases h0:0≤o
 case neg=>(
 have HR:=Hd (HUO.out (by omega))
 refine wro [0,1,2,3,4,5,6,7,8,9,10,11,12,13,14,15,16,17,18,19,20,21,22,23,24,25,26,27,28,29,30,31,32,33,34,35,36,37,38,39,40] [37] 41 (fun W=>UB W w.heap.size t B m d q n c1 c2 c3 c4 p0 o0 p1 o1 p2 o2 p4 o4 au ad ab bu bd bc) (by kernel_rfl) (fun _ _ _ _ _ h=>h) (hz.keep (Below.refl _ _).drew) ?_
 simp only[steps,sE,sD]
 repeat((first|refine Zf rfl ?_|(refine Zd (v:= ?_) rfl rfl ?_ ?_;rotate_left;(focus(rintro w' ⟨⟨x0,x1,x2,x3,x4,x5,x6⟩,x7,x8,x9,x10,x11,x12⟩;go_simp;try with_reducible rfl))));simp only[Act.put,sA,sB,sC])
 refine Zg ?_
 have HB4:=Hd (HB2.out.trans ((Below.refl w2.heap.size w2).drew.mono HB2.out.size))
 generalize World.drew _=we at*
 go_wp2_with fail
 go_ret
 exact⟨by rw[HR.out];rfl,HB4.out⟩)
 by_cases h1:0≤i
 case neg=>(
 have HR:=Hd (HUI.out (by omega))
 refine wro [0,1,2,3,4,5,6,7,8,9,10,11,12,13,14,15,16,17,18,19,20,21,22,23,24,25,26,27,28,29,30,31,32,33,34,35,36,37,38,39,40] [37] 41 (fun W=>UB W w.heap.size t B m d q n c1 c2 c3 c4 p0 o0 p1 o1 p2 o2 p4 o4 au ad ab bu bd bc) (by kernel_rfl) (fun _ _ _ _ _ h=>h) (hz.keep (Below.refl _ _).drew) ?_
 simp only[steps,sE,sD]
 repeat((first|refine Zf rfl ?_|(refine Zd (v:= ?_) rfl rfl ?_ ?_;rotate_left;(focus(rintro w' ⟨⟨x0,x1,x2,x3,x4,x5,x6⟩,x7,x8,x9,x10,x11,x12⟩;go_simp;try with_reducible rfl))));simp only[Act.put,sA,sB,sC])
 refine Zg ?_
 have HB4:=Hd (HB2.out.trans ((Below.refl w2.heap.size w2).drew.mono HB2.out.size))
 generalize World.drew _=we at*
 go_wp2_with fail
 go_ret
 exact⟨by rw[HR.out];rfl,HB4.out⟩)
 obtain⟨k,rfl⟩:=Int.eq_ofNat_of_zero_le h0
 obtain⟨j,rfl⟩:=Int.eq_ofNat_of_zero_le h1
 have hk:k < n:=by have:=HA.out;omega
 have hj:j < n:=by have:=HBI.out;omega
 have hkn:(k:Int) < (n:Int):=by omega
 have hjn:(j:Int) < (n:Int):=by omega
 have hk9:k≤1000:=by have:=HN.out;omega
 have hj9:j≤1000:=by have:=HN.out;omega
 have HR:=Hd (HUB.out HNE.out rfl rfl)
 have hcl:=HC.out.keep HV2.out
 obtain⟨g,e,y',r1,hr⟩:=hcl.b k hk
 have a1:=hr j hj
 have f1:=hcl.l j hj
 have f2:=hcl.h k hk
 obtain⟨xa,hxa⟩: ∃x,bb z k j=x:=⟨_,rfl⟩
 rw[hxa] at a1
 obtain⟨u,hu⟩: ∃x,lw z j=x:=⟨_,rfl⟩
 rw[hu] at f1
 obtain⟨v',hv⟩: ∃x,hg z k=x:=⟨_,rfl⟩
 rw[hv] at f2
 have HXA:=Hd hxa
 have HU:=Hd hu
 have HV:=Hd hv
 have HUL:Hid (u < 18446744073709551616):=Hd (hu▸HFL.out j)
 have HVL:Hid (v' < 18446744073709551616):=Hd (hv▸HFH.out k)
 clear hxa hu hv hr hcl hk hj
 cases xa with
 |false=>(
 replace HR:Hid (r=false):=Hd (HR.out.trans (by rw[HXA.out];rfl))
 refine wro [0,1,2,3,4,5,6,7,8,9,10,11,12,13,14,15,16,17,18,19,20,21,22,23,24,25,26,27,28,29,30,31,32,33,34,35,36,37,38,39,40] [37] 41 (fun W=>UB W w.heap.size t B m d q n c1 c2 c3 c4 p0 o0 p1 o1 p2 o2 p4 o4 au ad ab bu bd bc∧W.cell? ⟨p4,o4+k,none⟩=some (.slice (some ⟨g,e,none⟩) n y')∧W.cell? ⟨g,e+j,none⟩=some (.bool _)∧W.cell? ⟨p1,o1+j,none⟩=some (.int .u64 (u:Int))∧W.cell? ⟨p2,o2+k,none⟩=some (.int .u64 (v':Int))) (by kernel_rfl) (fun _ _ _ _ _ h=>h) ⟨hz.keep (Below.refl _ _).drew,Za r1 (Below.refl _ _).drew,Za a1 (Below.refl _ _).drew,Za f1 (Below.refl _ _).drew,Za f2 (Below.refl _ _).drew⟩ ?_
 simp only[steps,sE,sD]
 repeat((first|refine Zf rfl ?_|(refine Zd (v:= ?_) rfl rfl ?_ ?_;rotate_left;(focus(rintro w' ⟨⟨⟨x0,x1,x2,x3,x4,x5,x6⟩,x7,x8,x9,x10,x11,x12⟩,y0,y1,y2,y3⟩;go_simp;try with_reducible rfl))));simp only[Act.put,sA,sB,sC])
 refine Zg ?_
 have HB4:=Hd (HB2.out.trans ((Below.refl w2.heap.size w2).drew.mono HB2.out.size))
 generalize World.drew _=we at*
 go_wp2_with fail
 go_ret
 exact⟨by rw[HR.out];rfl,HB4.out⟩)
 |true=>(
 obtain⟨cb,hcb⟩: ∃x,S.below v' u=x:=⟨_,rfl⟩
 replace HR:Hid (r= !cb):=Hd (HR.out.trans (by rw[HXA.out,HU.out,HV.out,hcb];rfl))
 have HCB:=Hd hcb
 clear hcb
 refine wro [0,1,2,3,4,5,6,7,8,9,10,11,12,13,14,15,16,17,18,19,20,21,22,23,24,25,26,27,28,29,30,31,32,33,34,35,36,37,38,39,40] [37] 41 (fun W=>UB W w.heap.size t B m d q n c1 c2 c3 c4 p0 o0 p1 o1 p2 o2 p4 o4 au ad ab bu bd bc∧W.cell? ⟨p4,o4+k,none⟩=some (.slice (some ⟨g,e,none⟩) n y')∧W.cell? ⟨g,e+j,none⟩=some (.bool _)∧W.cell? ⟨p1,o1+j,none⟩=some (.int .u64 (u:Int))∧W.cell? ⟨p2,o2+k,none⟩=some (.int .u64 (v':Int))) (by kernel_rfl) (fun _ _ _ _ _ h=>h) ⟨hz.keep (Below.refl _ _).drew,Za r1 (Below.refl _ _).drew,Za a1 (Below.refl _ _).drew,Za f1 (Below.refl _ _).drew,Za f2 (Below.refl _ _).drew⟩ ?_
 simp only[steps,sE,sD]
 repeat((first|refine Zf rfl ?_|(refine Zd (v:= ?_) rfl rfl ?_ ?_;rotate_left;(focus(rintro w' ⟨⟨⟨x0,x1,x2,x3,x4,x5,x6⟩,x7,x8,x9,x10,x11,x12⟩,y0,y1,y2,y3⟩;go_simp;try with_reducible rfl))));simp only[Act.put,sA,sB,sC])
 have HBD:=Hd ((Below.refl w2.heap.size w2).drew)
 generalize World.drew _=wd at*
 refine Ze rfl rfl (fun K hK=> ?_)
 go_simp
 refine(HRB.out wd (HB2.out.trans (HBD.out.mono HB2.out.size)) v' u HVL.out HUL.out).mono ?_
 rintro e w4 ⟨rfl,hv⟩
 rw[HCB.out]
 have HB4:=Hd (HBD.out.trans (hv.mono HBD.out.size))
 refine hK.out _ _ (fun _=>⟨hz.keep HB4.out,Za r1 HB4.out,Za a1 HB4.out,Za f1 HB4.out,Za f2 HB4.out⟩) ?_
 clear hK K hv
 try simp only[Act.put,sA,sB,sC]
 cases cb
 all_goals(
 repeat((first|refine Zf rfl ?_|(refine Zd (v:= ?_) rfl rfl ?_ ?_;rotate_left;(focus(rintro w' ⟨⟨⟨x0,x1,x2,x3,x4,x5,x6⟩,x7,x8,x9,x10,x11,x12⟩,y0,y1,y2,y3⟩;go_simp;try with_reducible rfl))));simp only[Act.put,sA,sB,sC])
 refine Zg ?_
 have HB5:=Hd (HB2.out.trans (HB4.out.mono HB2.out.size))
 go_wp2_with fail
 go_ret
 exact⟨by rw[HR.out];rfl,HB5.out⟩)))
 ·(
 have gx:(ad==bd)=false:=by simpa using hc
 clear hc
 by_cases h0:0≤o
 case neg=>(
 have HR:=Hd (HUO.out (by omega))
 refine wro [0,1,2,3,4,5,6,7,8,9,10,11,12,13,14,15,16,17,18,19,20,21,22,23,24,25,26,27,28,29,30,31,32,33,34,35,36,37,38,39,40] [37] 41 (fun W=>UB W w.heap.size t B m d q n c1 c2 c3 c4 p0 o0 p1 o1 p2 o2 p4 o4 au ad ab au bd bc) (by kernel_rfl) (fun _ _ _ _ _ h=>h) (hz.keep (Below.refl _ _).drew) ?_
 simp only[steps,sE,sD]
 repeat((first|refine Zf rfl ?_|(refine Zd (v:= ?_) rfl rfl ?_ ?_;rotate_left;(focus(rintro w' ⟨⟨x0,x1,x2,x3,x4,x5,x6⟩,x7,x8,x9,x10,x11,x12⟩;go_simp;try with_reducible rfl))));simp only[Act.put,sA,sB,sC])
 refine Zg ?_
 have HB4:=Hd (HB2.out.trans ((Below.refl w2.heap.size w2).drew.mono HB2.out.size))
 generalize World.drew _=we at*
 go_wp2_with fail
 go_ret
 exact⟨by rw[HR.out];rfl,HB4.out⟩)
 by_cases h1:0≤i
 case neg=>(
 have HR:=Hd (HUI.out (by omega))
 refine wro [0,1,2,3,4,5,6,7,8,9,10,11,12,13,14,15,16,17,18,19,20,21,22,23,24,25,26,27,28,29,30,31,32,33,34,35,36,37,38,39,40] [37] 41 (fun W=>UB W w.heap.size t B m d q n c1 c2 c3 c4 p0 o0 p1 o1 p2 o2 p4 o4 au ad ab au bd bc) (by kernel_rfl) (fun _ _ _ _ _ h=>h) (hz.keep (Below.refl _ _).drew) ?_
 simp only[steps,sE,sD]
 repeat((first|refine Zf rfl ?_|(refine Zd (v:= ?_) rfl rfl ?_ ?_;rotate_left;(focus(rintro w' ⟨⟨x0,x1,x2,x3,x4,x5,x6⟩,x7,x8,x9,x10,x11,x12⟩;go_simp;try with_reducible rfl))));simp only[Act.put,sA,sB,sC])
 refine Zg ?_
 have HB4:=Hd (HB2.out.trans ((Below.refl w2.heap.size w2).drew.mono HB2.out.size))
 generalize World.drew _=we at*
 go_wp2_with fail
 go_ret
 exact⟨by rw[HR.out];rfl,HB4.out⟩)
 obtain⟨k,rfl⟩:=Int.eq_ofNat_of_zero_le h0
 obtain⟨j,rfl⟩:=Int.eq_ofNat_of_zero_le h1
 have hk:k < n:=by have:=HA.out;omega
 have hj:j < n:=by have:=HBI.out;omega
 have hkn:(k:Int) < (n:Int):=by omega
 have hjn:(j:Int) < (n:Int):=by omega
 have hk9:k≤1000:=by have:=HN.out;omega
 have hj9:j≤1000:=by have:=HN.out;omega
 have HR:=Hd (HUB.out HNE.out rfl rfl)
 have hcl:=HC.out.keep HV2.out
 obtain⟨g,e,y',r1,hr⟩:=hcl.b k hk
 have a1:=hr j hj
 have f1:=hcl.l j hj
 have f2:=hcl.h k hk
 obtain⟨xa,hxa⟩: ∃x,bb z k j=x:=⟨_,rfl⟩
 rw[hxa] at a1
 obtain⟨u,hu⟩: ∃x,lw z j=x:=⟨_,rfl⟩
 rw[hu] at f1
 obtain⟨v',hv⟩: ∃x,hg z k=x:=⟨_,rfl⟩
 rw[hv] at f2
 have HXA:=Hd hxa
 have HU:=Hd hu
 have HV:=Hd hv
 have HUL:Hid (u < 18446744073709551616):=Hd (hu▸HFL.out j)
 have HVL:Hid (v' < 18446744073709551616):=Hd (hv▸HFH.out k)
 clear hxa hu hv hr hcl hk hj
 cases xa with
 |false=>(
 replace HR:Hid (r=false):=Hd (HR.out.trans (by rw[HXA.out];rfl))
 refine wro [0,1,2,3,4,5,6,7,8,9,10,11,12,13,14,15,16,17,18,19,20,21,22,23,24,25,26,27,28,29,30,31,32,33,34,35,36,37,38,39,40] [37] 41 (fun W=>UB W w.heap.size t B m d q n c1 c2 c3 c4 p0 o0 p1 o1 p2 o2 p4 o4 au ad ab au bd bc∧W.cell? ⟨p4,o4+k,none⟩=some (.slice (some ⟨g,e,none⟩) n y')∧W.cell? ⟨g,e+j,none⟩=some (.bool _)∧W.cell? ⟨p1,o1+j,none⟩=some (.int .u64 (u:Int))∧W.cell? ⟨p2,o2+k,none⟩=some (.int .u64 (v':Int))) (by kernel_rfl) (fun _ _ _ _ _ h=>h) ⟨hz.keep (Below.refl _ _).drew,Za r1 (Below.refl _ _).drew,Za a1 (Below.refl _ _).drew,Za f1 (Below.refl _ _).drew,Za f2 (Below.refl _ _).drew⟩ ?_
 simp only[steps,sE,sD]
 repeat((first|refine Zf rfl ?_|(refine Zd (v:= ?_) rfl rfl ?_ ?_;rotate_left;(focus(rintro w' ⟨⟨⟨x0,x1,x2,x3,x4,x5,x6⟩,x7,x8,x9,x10,x11,x12⟩,y0,y1,y2,y3⟩;go_simp;try with_reducible rfl))));simp only[Act.put,sA,sB,sC])
 refine Zg ?_
 have HB4:=Hd (HB2.out.trans ((Below.refl w2.heap.size w2).drew.mono HB2.out.size))
 generalize World.drew _=we at*
 go_wp2_with fail
 go_ret
 exact⟨by rw[HR.out];rfl,HB4.out⟩)
 |true=>(
 obtain⟨cb,hcb⟩: ∃x,S.below v' u=x:=⟨_,rfl⟩
 replace HR:Hid (r= !cb):=Hd (HR.out.trans (by rw[HXA.out,HU.out,HV.out,hcb];rfl))
 have HCB:=Hd hcb
 clear hcb
 refine wro [0,1,2,3,4,5,6,7,8,9,10,11,12,13,14,15,16,17,18,19,20,21,22,23,24,25,26,27,28,29,30,31,32,33,34,35,36,37,38,39,40] [37] 41 (fun W=>UB W w.heap.size t B m d q n c1 c2 c3 c4 p0 o0 p1 o1 p2 o2 p4 o4 au ad ab au bd bc∧W.cell? ⟨p4,o4+k,none⟩=some (.slice (some ⟨g,e,none⟩) n y')∧W.cell? ⟨g,e+j,none⟩=some (.bool _)∧W.cell? ⟨p1,o1+j,none⟩=some (.int .u64 (u:Int))∧W.cell? ⟨p2,o2+k,none⟩=some (.int .u64 (v':Int))) (by kernel_rfl) (fun _ _ _ _ _ h=>h) ⟨hz.keep (Below.refl _ _).drew,Za r1 (Below.refl _ _).drew,Za a1 (Below.refl _ _).drew,Za f1 (Below.refl _ _).drew,Za f2 (Below.refl _ _).drew⟩ ?_
 simp only[steps,sE,sD]
 repeat((first|refine Zf rfl ?_|(refine Zd (v:= ?_) rfl rfl ?_ ?_;rotate_left;(focus(rintro w' ⟨⟨⟨x0,x1,x2,x3,x4,x5,x6⟩,x7,x8,x9,x10,x11,x12⟩,y0,y1,y2,y3⟩;go_simp;try with_reducible rfl))));simp only[Act.put,sA,sB,sC])
 have HBD:=Hd ((Below.refl w2.heap.size w2).drew)
 generalize World.drew _=wd at*
 refine Ze rfl rfl (fun K hK=> ?_)
 go_simp
 refine(HRB.out wd (HB2.out.trans (HBD.out.mono HB2.out.size)) v' u HVL.out HUL.out).mono ?_
 rintro e w4 ⟨rfl,hv⟩
 rw[HCB.out]
 have HB4:=Hd (HBD.out.trans (hv.mono HBD.out.size))
 refine hK.out _ _ (fun _=>⟨hz.keep HB4.out,Za r1 HB4.out,Za a1 HB4.out,Za f1 HB4.out,Za f2 HB4.out⟩) ?_
 clear hK K hv
 try simp only[Act.put,sA,sB,sC]
 cases cb
 all_goals(
 repeat((first|refine Zf rfl ?_|(refine Zd (v:= ?_) rfl rfl ?_ ?_;rotate_left;(focus(rintro w' ⟨⟨⟨x0,x1,x2,x3,x4,x5,x6⟩,x7,x8,x9,x10,x11,x12⟩,y0,y1,y2,y3⟩;go_simp;try with_reducible rfl))));simp only[Act.put,sA,sB,sC])
 refine Zg ?_
 have HB5:=Hd (HB2.out.trans (HB4.out.mono HB2.out.size))
 go_wp2_with fail
 go_ret
 exact⟨by rw[HR.out];rfl,HB5.out⟩)))
 ·(
 have gx:(ab==bc)=false:=by simpa using hc
 clear hc
 by_cases h0:0≤o
 case neg=>(
 have HR:=Hd (HUO.out (by omega))
 refine wro [0,1,2,3,4,5,6,7,8,9,10,11,12,13,14,15,16,17,18,19,20,21,22,23,24,25,26,27,28,29,30,31,32,33,34,35,36,37,38,39,40] [37] 41 (fun W=>UB W w.heap.size t B m d q n c1 c2 c3 c4 p0 o0 p1 o1 p2 o2 p4 o4 au ad ab au ad bc) (by kernel_rfl) (fun _ _ _ _ _ h=>h) (hz.keep (Below.refl _ _).drew) ?_
 simp only[steps,sE,sD]
 repeat((first|refine Zf rfl ?_|(refine Zd (v:= ?_) rfl rfl ?_ ?_;rotate_left;(focus(rintro w' ⟨⟨x0,x1,x2,x3,x4,x5,x6⟩,x7,x8,x9,x10,x11,x12⟩;go_simp;try with_reducible rfl))));simp only[Act.put,sA,sB,sC])
 refine Zg ?_
 have HB4:=Hd (HB2.out.trans ((Below.refl w2.heap.size w2).drew.mono HB2.out.size))
 generalize World.drew _=we at*
 go_wp2_with fail
 go_ret
 exact⟨by rw[HR.out];rfl,HB4.out⟩)
 by_cases h1:0≤i
 case neg=>(
 have HR:=Hd (HUI.out (by omega))
 refine wro [0,1,2,3,4,5,6,7,8,9,10,11,12,13,14,15,16,17,18,19,20,21,22,23,24,25,26,27,28,29,30,31,32,33,34,35,36,37,38,39,40] [37] 41 (fun W=>UB W w.heap.size t B m d q n c1 c2 c3 c4 p0 o0 p1 o1 p2 o2 p4 o4 au ad ab au ad bc) (by kernel_rfl) (fun _ _ _ _ _ h=>h) (hz.keep (Below.refl _ _).drew) ?_
 simp only[steps,sE,sD]
 repeat((first|refine Zf rfl ?_|(refine Zd (v:= ?_) rfl rfl ?_ ?_;rotate_left;(focus(rintro w' ⟨⟨x0,x1,x2,x3,x4,x5,x6⟩,x7,x8,x9,x10,x11,x12⟩;go_simp;try with_reducible rfl))));simp only[Act.put,sA,sB,sC])
 refine Zg ?_
 have HB4:=Hd (HB2.out.trans ((Below.refl w2.heap.size w2).drew.mono HB2.out.size))
 generalize World.drew _=we at*
 go_wp2_with fail
 go_ret
 exact⟨by rw[HR.out];rfl,HB4.out⟩)
 obtain⟨k,rfl⟩:=Int.eq_ofNat_of_zero_le h0
 obtain⟨j,rfl⟩:=Int.eq_ofNat_of_zero_le h1
 have hk:k < n:=by have:=HA.out;omega
 have hj:j < n:=by have:=HBI.out;omega
 have hkn:(k:Int) < (n:Int):=by omega
 have hjn:(j:Int) < (n:Int):=by omega
 have hk9:k≤1000:=by have:=HN.out;omega
 have hj9:j≤1000:=by have:=HN.out;omega
 have HR:=Hd (HUB.out HNE.out rfl rfl)
 have hcl:=HC.out.keep HV2.out
 obtain⟨g,e,y',r1,hr⟩:=hcl.b k hk
 have a1:=hr j hj
 have f1:=hcl.l j hj
 have f2:=hcl.h k hk
 obtain⟨xa,hxa⟩: ∃x,bb z k j=x:=⟨_,rfl⟩
 rw[hxa] at a1
 obtain⟨u,hu⟩: ∃x,lw z j=x:=⟨_,rfl⟩
 rw[hu] at f1
 obtain⟨v',hv⟩: ∃x,hg z k=x:=⟨_,rfl⟩
 rw[hv] at f2
 have HXA:=Hd hxa
 have HU:=Hd hu
 have HV:=Hd hv
 have HUL:Hid (u < 18446744073709551616):=Hd (hu▸HFL.out j)
 have HVL:Hid (v' < 18446744073709551616):=Hd (hv▸HFH.out k)
 clear hxa hu hv hr hcl hk hj
 cases xa with
 |false=>(
 replace HR:Hid (r=false):=Hd (HR.out.trans (by rw[HXA.out];rfl))
 refine wro [0,1,2,3,4,5,6,7,8,9,10,11,12,13,14,15,16,17,18,19,20,21,22,23,24,25,26,27,28,29,30,31,32,33,34,35,36,37,38,39,40] [37] 41 (fun W=>UB W w.heap.size t B m d q n c1 c2 c3 c4 p0 o0 p1 o1 p2 o2 p4 o4 au ad ab au ad bc∧W.cell? ⟨p4,o4+k,none⟩=some (.slice (some ⟨g,e,none⟩) n y')∧W.cell? ⟨g,e+j,none⟩=some (.bool _)∧W.cell? ⟨p1,o1+j,none⟩=some (.int .u64 (u:Int))∧W.cell? ⟨p2,o2+k,none⟩=some (.int .u64 (v':Int))) (by kernel_rfl) (fun _ _ _ _ _ h=>h) ⟨hz.keep (Below.refl _ _).drew,Za r1 (Below.refl _ _).drew,Za a1 (Below.refl _ _).drew,Za f1 (Below.refl _ _).drew,Za f2 (Below.refl _ _).drew⟩ ?_
 simp only[steps,sE,sD]
 repeat((first|refine Zf rfl ?_|(refine Zd (v:= ?_) rfl rfl ?_ ?_;rotate_left;(focus(rintro w' ⟨⟨⟨x0,x1,x2,x3,x4,x5,x6⟩,x7,x8,x9,x10,x11,x12⟩,y0,y1,y2,y3⟩;go_simp;try with_reducible rfl))));simp only[Act.put,sA,sB,sC])
 refine Zg ?_
 have HB4:=Hd (HB2.out.trans ((Below.refl w2.heap.size w2).drew.mono HB2.out.size))
 generalize World.drew _=we at*
 go_wp2_with fail
 go_ret
 exact⟨by rw[HR.out];rfl,HB4.out⟩)
 |true=>(
 obtain⟨cb,hcb⟩: ∃x,S.below v' u=x:=⟨_,rfl⟩
 replace HR:Hid (r= !cb):=Hd (HR.out.trans (by rw[HXA.out,HU.out,HV.out,hcb];rfl))
 have HCB:=Hd hcb
 clear hcb
 refine wro [0,1,2,3,4,5,6,7,8,9,10,11,12,13,14,15,16,17,18,19,20,21,22,23,24,25,26,27,28,29,30,31,32,33,34,35,36,37,38,39,40] [37] 41 (fun W=>UB W w.heap.size t B m d q n c1 c2 c3 c4 p0 o0 p1 o1 p2 o2 p4 o4 au ad ab au ad bc∧W.cell? ⟨p4,o4+k,none⟩=some (.slice (some ⟨g,e,none⟩) n y')∧W.cell? ⟨g,e+j,none⟩=some (.bool _)∧W.cell? ⟨p1,o1+j,none⟩=some (.int .u64 (u:Int))∧W.cell? ⟨p2,o2+k,none⟩=some (.int .u64 (v':Int))) (by kernel_rfl) (fun _ _ _ _ _ h=>h) ⟨hz.keep (Below.refl _ _).drew,Za r1 (Below.refl _ _).drew,Za a1 (Below.refl _ _).drew,Za f1 (Below.refl _ _).drew,Za f2 (Below.refl _ _).drew⟩ ?_
 simp only[steps,sE,sD]
 repeat((first|refine Zf rfl ?_|(refine Zd (v:= ?_) rfl rfl ?_ ?_;rotate_left;(focus(rintro w' ⟨⟨⟨x0,x1,x2,x3,x4,x5,x6⟩,x7,x8,x9,x10,x11,x12⟩,y0,y1,y2,y3⟩;go_simp;try with_reducible rfl))));simp only[Act.put,sA,sB,sC])
 have HBD:=Hd ((Below.refl w2.heap.size w2).drew)
 generalize World.drew _=wd at*
 refine Ze rfl rfl (fun K hK=> ?_)
 go_simp
 refine(HRB.out wd (HB2.out.trans (HBD.out.mono HB2.out.size)) v' u HVL.out HUL.out).mono ?_
 rintro e w4 ⟨rfl,hv⟩
 rw[HCB.out]
 have HB4:=Hd (HBD.out.trans (hv.mono HBD.out.size))
 refine hK.out _ _ (fun _=>⟨hz.keep HB4.out,Za r1 HB4.out,Za a1 HB4.out,Za f1 HB4.out,Za f2 HB4.out⟩) ?_
 clear hK K hv
 try simp only[Act.put,sA,sB,sC]
 cases cb
 all_goals(
 repeat((first|refine Zf rfl ?_|(refine Zd (v:= ?_) rfl rfl ?_ ?_;rotate_left;(focus(rintro w' ⟨⟨⟨x0,x1,x2,x3,x4,x5,x6⟩,x7,x8,x9,x10,x11,x12⟩,y0,y1,y2,y3⟩;go_simp;try with_reducible rfl))));simp only[Act.put,sA,sB,sC])
 refine Zg ?_
 have HB5:=Hd (HB2.out.trans (HB4.out.mono HB2.out.size))
 go_wp2_with fail
 go_ret
 exact⟨by rw[HR.out];rfl,HB5.out⟩)))
end Go.Proofs.YtmejhedegmjboaaGreat.I
