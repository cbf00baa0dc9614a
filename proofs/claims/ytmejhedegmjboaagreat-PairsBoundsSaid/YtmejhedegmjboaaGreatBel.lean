import Derived.StillTailTactics
import Derived.Test.YtmejhedegmjboaaGreatLists
set_option maxRecDepth 100000
set_option maxHeartbeats 4000000
namespace Go.Proofs.YtmejhedegmjboaaGreat
open Go.RowKit
def alwT (S:Bo.Sr)(lo hi:List Nat)(rc:Nat→Nat→Bool)(av:Bool)(an:Nat)(bv:Bool)(bn:Nat):Bool:=(av && (bv && rc an bn))||S.below (Bo.vl hi av an) (Bo.vl lo bv bn)
structure Bx (w:World)(g:Nat)(v:Value)(A1:Option Addr)(n1 c1:Nat)(A2:Option Addr)(n2 c2:Nat)(A3:Option Addr)(n3 c3:Nat)(av:Bool)(an:Nat)(bv:Bool)(bn:Nat):Prop where
 s0:w.cell? ⟨g,0,none⟩=some v
 s1:w.cell? ⟨g,1,none⟩=some (.slice A1 n1 c1)
 s2:w.cell? ⟨g,2,none⟩=some (.slice A2 n2 c2)
 s3:w.cell? ⟨g,3,none⟩=some (.slice A3 n3 c3)
 a0:w.cell? ⟨g+1,0,none⟩=some (.bool av)
 a1:w.cell? ⟨g+1,1,none⟩=some (.int .u64 (an:Int))
 b0:w.cell? ⟨g+1+1,0,none⟩=some (.bool bv)
 b1:w.cell? ⟨g+1+1,1,none⟩=some (.int .u64 (bn:Int))
theorem Bx.keep {w W:World}{g:Nat}{v:Value}{A1:Option Addr}{n1 c1:Nat}{A2:Option Addr}{n2 c2:Nat}{A3:Option Addr}{n3 c3:Nat}{av:Bool}{an:Nat}{bv:Bool}{bn:Nat}(h:Bx w g v A1 n1 c1 A2 n2 c2 A3 n3 c3 av an bv bn)(hb:Below w.heap.size w W):Bx W g v A1 n1 c1 A2 n2 c2 A3 n3 c3 av an bv bn:=
 ⟨Za h.s0 hb,Za h.s1 hb,Za h.s2 hb,Za h.s3 hb,Za h.a0 hb,Za h.a1 hb,Za h.b0 hb,Za h.b1 hb⟩
theorem Bx.new (w:World)(v:Value)(A1:Option Addr)(n1 c1:Nat)(A2:Option Addr)(n2 c2:Nat)(A3:Option Addr)(n3 c3:Nat)(av:Bool)(an:Nat)(bv:Bool)(bn:Nat):
  Bx (((w.alloc (.cells #[v,.slice A1 n1 c1,.slice A2 n2 c2,.slice A3 n3 c3] 100)).alloc (.cells #[.bool av,.int .u64 (an:Int)] 62)).alloc (.cells #[.bool bv,.int .u64 (bn:Int)] 62)) w.heap.size v A1 n1 c1 A2 n2 c2 A3 n3 c3 av an bv bn:=by
 obtain⟨x,hx⟩: ∃x,w.alloc (.cells #[v,.slice A1 n1 c1,.slice A2 n2 c2,.slice A3 n3 c3] 100)=x:=⟨_,rfl⟩
 obtain⟨y,hy⟩: ∃y,x.alloc (.cells #[.bool av,.int .u64 (an:Int)] 62)=y:=⟨_,rfl⟩
 have h0:x.heap[w.heap.size]?=some (.cells #[v,.slice A1 n1 c1,.slice A2 n2 c2,.slice A3 n3 c3] 100 (0,0)):=by rw[← hx];exact heap_alloc_new w _
 have sx:x.heap.size=w.heap.size+1:=by rw[← hx,World.size_alloc]
 have h1:y.heap[w.heap.size+1]?=some (.cells #[.bool av,.int .u64 (an:Int)] 62 (0,0)):=by rw[← hy, ← sx];exact heap_alloc_new x _
 have sy:y.heap.size=w.heap.size+1+1:=by rw[← hy,World.size_alloc,sx]
 rw[hx,hy]
 have b1:Below x.heap.size x y:=hy▸bA
 have b2:Below y.heap.size y (y.alloc (.cells #[.bool bv,.int .u64 (bn:Int)] 62)):=bA
 have h2:=heap_alloc_new y (.cells #[.bool bv,.int .u64 (bn:Int)] 62)
 rw[sy] at h2
 have g0:=(b2.block _ (by rw[sy];omega)).trans ((b1.block _ (by rw[sx];omega)).trans h0)
 have g1:=(b2.block _ (by rw[sy];omega)).trans h1
 exact⟨(Zb (i:=0) g0).trans rfl,(Zb (i:=1) g0).trans rfl,(Zb (i:=2) g0).trans rfl,(Zb (i:=3) g0).trans rfl,(Zb (i:=0) g1).trans rfl,(Zb (i:=1) g1).trans rfl,(Zb (i:=0) h2).trans rfl,(Zb (i:=1) h2).trans rfl⟩
theorem ZaO (av:Bool)(an:Nat)(bv:Bool)(bn:Nat)(S:Bo.Sr)(q:Nat)(lo hi:List Nat)(rc:Nat→Nat→Bool)(v:Value)(A1:Option Addr)(n1 c1:Nat)(A2:Option Addr)(n2 c2:Nat)(A3:Option Addr)(n3 c3:Nat)(w:World)(h:Ut w S q lo hi rc v A1 n1 c1 A2 n2 c2 A3 n3 c3)(ha:okT q av an)(hb:okT q bv bn)(fa:an < 18446744073709551616)(fb:bn < 18446744073709551616)(x:Bool)(hx:alwT S lo hi rc av an bv bn=x):
  Calls Tryz.prog 79 #[slvV v A1 n1 c1 A2 n2 c2 A3 n3 c3,Bo.tmv av an,Bo.tmv bv bn] w fun e w'=>e= .returned (.bool x)∧Below w.heap.size w w':=by
 have hal:Below w.heap.size w (((w.alloc (.cells #[v,.slice A1 n1 c1,.slice A2 n2 c2,.slice A3 n3 c3] 100)).alloc (.cells #[.bool av,.int .u64 (an:Int)] 62)).alloc (.cells #[.bool bv,.int .u64 (bn:Int)] 62)):=((bA).alloc (by simp) _).alloc (by simp;omega) _
 have hz:=Bx.new w v A1 n1 c1 A2 n2 c2 A3 n3 c3 av an bv bn
 obtain⟨xa,hxa⟩: ∃y,Bo.vl hi av an=y:=⟨_,rfl⟩
 obtain⟨xb,hxb⟩: ∃y,Bo.vl lo bv bn=y:=⟨_,rfl⟩
 have hfa:xa < 18446744073709551616:=hxa▸Bo.Zby h.hf fa
 have hfb:xb < 18446744073709551616:=hxb▸Bo.Zby h.lf fb
 have HG:Hid (∀W,Below w.heap.size w W→Calls Tryz.prog 82 #[slvV v A1 n1 c1 A2 n2 c2 A3 n3 c3,Bo.tmv av an] W fun e w'=>e= .returned (.int .u64 (xa:Int))∧Below W.heap.size W w'):=Hd fun W hW=>Y9 av an S q lo hi rc v A1 n1 c1 A2 n2 c2 A3 n3 c3 W (h.keep hW) ha xa hxa
 have HL:Hid (∀W,Below w.heap.size w W→Calls Tryz.prog 81 #[slvV v A1 n1 c1 A2 n2 c2 A3 n3 c3,Bo.tmv bv bn] W fun e w'=>e= .returned (.int .u64 (xb:Int))∧Below W.heap.size W w'):=Hd fun W hW=>Zbj bv bn S q lo hi rc v A1 n1 c1 A2 n2 c2 A3 n3 c3 W (h.keep hW) hb xb hxb
 unfold alwT at hx
 rw[hxa,hxb] at hx
 have hrow:av=true→bv=true→ ∃b o b' o' c',A3=some ⟨b,o,none⟩∧b < w.heap.size∧w.cell? ⟨b,o+an,none⟩=some (.slice (some ⟨b',o',none⟩) q c')∧b' < w.heap.size∧w.cell? ⟨b',o'+bn,none⟩=some (.bool (rc an bn)):=fun e1 e2=>by(
 have l1:an < (sqL q rc).length:=by rw[ZfF];exact ha e1
 have l2:bn < (sqL q rc)[an].length:=by rw[YO];simpa using hb e2
 obtain⟨b,o,b',o',c',k1,k2,k3,k4,k5⟩:=h.rrc.at' l1 l2
 refine⟨b,o,b',o',c',k1,k2,?_,k4,?_⟩
 ·rw[k3,YO];simp
 ·rw[k5];simp only[YO];simp)
 have HN3:Hid (n3=q):=Hd (by rw[← h.rrc.len,ZfF])
 have hs:=h.s
 have HX:=Hd hx
 have HFA:=Hd hfa
 have HFB:=Hd hfb
 have HA:=Hd ha
 have HBB:=Hd hb
 have HR:=Hd hrow
 clear hx hxa hxb hfa hfb ha hb hrow h fa fb
 unfold slvV at HG HL ⊢
 unfold Bo.tmv at HG HL ⊢
 have HB:=Hd hal
 clear hal
 rcases hs with⟨p,rfl,hs⟩|⟨p,rfl,hs⟩
 ·(
 have HS:=Hd hs
 clear hs
 go_enter Tryz.func79,Tryz.ntmps79
 go_wp2_with fail
 generalize hwa:((w.alloc (.cells #[.iface 74 (.pointer p),.slice A1 n1 c1,.slice A2 n2 c2,.slice A3 n3 c3] 100)).alloc (.cells #[.bool av,.int .u64 (an:Int)] 62)).alloc (.cells #[.bool bv,.int .u64 (bn:Int)] 62)=wa at*
 clear hwa
 generalize w.heap.size=g at hz ⊢
 cases av with
 |false=>(
 clear HA HBB HR
 refine wro [0,1,2,3,4,5,6,7,8,9,10,11,12,13,14,15,16,17,18,19,20,21,22,24,25,27,28,23,26,29,30,31] [23,26,29] 32 (fun w'=>Bx w' g _ A1 n1 c1 A2 n2 c2 A3 n3 c3 false an bv bn) (by kernel_rfl) (fun _ _ _ _ _ h=>h) (hz.keep (Below.refl _ wa).drew) ?_
 simp only[steps,sE,sD]
 repeat((first|refine Zf rfl ?_|(refine Zd (v:= ?_) rfl rfl ?_ ?_;rotate_left;(focus(rintro w' ⟨x0,x1,x2,x3,x4,x5,x6,x7⟩;go_simp;try with_reducible rfl))));simp only[Act.put,sA,sB,sC])
 have hz1:=hz.keep (Below.refl _ wa).drew
 have HB1:=Hd HB.out.drew
 clear HB hz
 generalize wa.drew=w1 at*
 refine Ze rfl rfl (fun K hK=> ?_)
 go_simp
 refine(HG.out _ HB1.out).mono ?_
 rintro e w2 ⟨rfl,hv⟩
 have hz2:=hz1.keep hv
 have HB2:=Hd (HB1.out.trans (hv.mono HB1.out.size))
 clear hv HB1 hz1
 refine hK.out _ _ (fun _=>hz2) ?_
 clear hK K
 try simp only[Act.put,sA,sB,sC]
 repeat((first|refine Zf rfl ?_|(refine Zd (v:= ?_) rfl rfl ?_ ?_;rotate_left;(focus(rintro w' ⟨x0,x1,x2,x3,x4,x5,x6,x7⟩;go_simp;try with_reducible rfl))));simp only[Act.put,sA,sB,sC])
 refine Ze rfl rfl (fun K hK=> ?_)
 go_simp
 refine(HL.out _ HB2.out).mono ?_
 rintro e w3 ⟨rfl,hv⟩
 have hz3:=hz2.keep hv
 have HB3:=Hd (HB2.out.trans (hv.mono HB2.out.size))
 clear hv HB2 hz2
 refine hK.out _ _ (fun _=>hz3) ?_
 clear hK K
 try simp only[Act.put,sA,sB,sC]
 repeat((first|refine Zf rfl ?_|(refine Zd (v:= ?_) rfl rfl ?_ ?_;rotate_left;(focus(rintro w' ⟨x0,x1,x2,x3,x4,x5,x6,x7⟩;go_simp;try with_reducible rfl))));simp only[Act.put,sA,sB,sC])
 refine Ze rfl rfl (fun K hK=> ?_)
 go_simp
 go_invoke
 go_simp
 refine(HS.out.below _ HB3.out xa xb HFA.out HFB.out).mono ?_
 rintro e w4 ⟨rfl,hv⟩
 have hz4:=hz3.keep hv
 have HB4:=Hd (HB3.out.trans (hv.mono HB3.out.size))
 clear hv HB3 hz3
 refine hK.out _ _ (fun _=>hz4) ?_
 clear hK K
 try simp only[Act.put,sA,sB,sC]
 repeat((first|refine Zf rfl ?_|(refine Zd (v:= ?_) rfl rfl ?_ ?_;rotate_left;(focus(rintro w' ⟨x0,x1,x2,x3,x4,x5,x6,x7⟩;go_simp;try with_reducible rfl))));simp only[Act.put,sA,sB,sC])
 refine Zg ?_
 go_wp2_with fail
 go_ret
 exact⟨by rw[← HX.out];rfl,HB4.out⟩)
 |true=>(
 cases bv with
 |false=>(
 clear HA HBB HR
 refine wro [0,1,2,3,4,5,6,7,8,9,10,11,12,13,14,15,16,17,18,19,20,21,22,24,25,27,28,23,26,29,30,31] [23,26,29] 32 (fun w'=>Bx w' g _ A1 n1 c1 A2 n2 c2 A3 n3 c3 true an false bn) (by kernel_rfl) (fun _ _ _ _ _ h=>h) (hz.keep (Below.refl _ wa).drew) ?_
 simp only[steps,sE,sD]
 repeat((first|refine Zf rfl ?_|(refine Zd (v:= ?_) rfl rfl ?_ ?_;rotate_left;(focus(rintro w' ⟨x0,x1,x2,x3,x4,x5,x6,x7⟩;go_simp;try with_reducible rfl))));simp only[Act.put,sA,sB,sC])
 have hz1:=hz.keep (Below.refl _ wa).drew
 have HB1:=Hd HB.out.drew
 clear HB hz
 generalize wa.drew=w1 at*
 refine Ze rfl rfl (fun K hK=> ?_)
 go_simp
 refine(HG.out _ HB1.out).mono ?_
 rintro e w2 ⟨rfl,hv⟩
 have hz2:=hz1.keep hv
 have HB2:=Hd (HB1.out.trans (hv.mono HB1.out.size))
 clear hv HB1 hz1
 refine hK.out _ _ (fun _=>hz2) ?_
 clear hK K
 try simp only[Act.put,sA,sB,sC]
 repeat((first|refine Zf rfl ?_|(refine Zd (v:= ?_) rfl rfl ?_ ?_;rotate_left;(focus(rintro w' ⟨x0,x1,x2,x3,x4,x5,x6,x7⟩;go_simp;try with_reducible rfl))));simp only[Act.put,sA,sB,sC])
 refine Ze rfl rfl (fun K hK=> ?_)
 go_simp
 refine(HL.out _ HB2.out).mono ?_
 rintro e w3 ⟨rfl,hv⟩
 have hz3:=hz2.keep hv
 have HB3:=Hd (HB2.out.trans (hv.mono HB2.out.size))
 clear hv HB2 hz2
 refine hK.out _ _ (fun _=>hz3) ?_
 clear hK K
 try simp only[Act.put,sA,sB,sC]
 repeat((first|refine Zf rfl ?_|(refine Zd (v:= ?_) rfl rfl ?_ ?_;rotate_left;(focus(rintro w' ⟨x0,x1,x2,x3,x4,x5,x6,x7⟩;go_simp;try with_reducible rfl))));simp only[Act.put,sA,sB,sC])
 refine Ze rfl rfl (fun K hK=> ?_)
 go_simp
 go_invoke
 go_simp
 refine(HS.out.below _ HB3.out xa xb HFA.out HFB.out).mono ?_
 rintro e w4 ⟨rfl,hv⟩
 have hz4:=hz3.keep hv
 have HB4:=Hd (HB3.out.trans (hv.mono HB3.out.size))
 clear hv HB3 hz3
 refine hK.out _ _ (fun _=>hz4) ?_
 clear hK K
 try simp only[Act.put,sA,sB,sC]
 repeat((first|refine Zf rfl ?_|(refine Zd (v:= ?_) rfl rfl ?_ ?_;rotate_left;(focus(rintro w' ⟨x0,x1,x2,x3,x4,x5,x6,x7⟩;go_simp;try with_reducible rfl))));simp only[Act.put,sA,sB,sC])
 refine Zg ?_
 go_wp2_with fail
 go_ret
 exact⟨by rw[← HX.out];rfl,HB4.out⟩)
 |true=>(
 obtain⟨kb,ko,kb',ko',kc,rfl,hkb,k1,hkb',k2⟩:=HR.out rfl rfl
 have han:(an:Int) < (n3:Int):=by have:=HA.out rfl;have:=HN3.out;omega
 have hbn:(bn:Int) < (q:Int):=by have:=HBB.out rfl;omega
 replace k1:=Za k1 HB.out
 replace k2:=Za k2 HB.out
 clear HA HBB HR hkb hkb'
 generalize rc an bn=r at*
 cases r with
 |true=>(
 refine wro [0,1,2,3,4,5,6,7,8,9,10,11,12,13,14,15,16,17,18,19,20,21,22,24,25,27,28,23,26,29,30,31] [23,26,29] 32 (fun w'=>Bx w' g _ A1 n1 c1 A2 n2 c2 (some ⟨kb,ko,none⟩) n3 c3 true an true bn∧w'.cell? ⟨kb,ko+an,none⟩=some (.slice (some ⟨kb',ko',none⟩) q kc)∧w'.cell? ⟨kb',ko'+bn,none⟩=some (.bool true)) (by kernel_rfl) (fun _ _ _ _ _ h=>h) (⟨hz.keep (Below.refl _ wa).drew,k1,k2⟩) ?_
 simp only[steps,sE,sD]
 repeat((first|refine Zf rfl ?_|(refine Zd (v:= ?_) rfl rfl ?_ ?_;rotate_left;(focus(rintro w' ⟨⟨x0,x1,x2,x3,x4,x5,x6,x7⟩,y0,y1⟩;go_simp;try with_reducible rfl))));simp only[Act.put,sA,sB,sC])
 have hz1:=hz.keep (Below.refl _ wa).drew
 replace k1:=Za k1 (Below.refl _ wa).drew
 replace k2:=Za k2 (Below.refl _ wa).drew
 have HB1:=Hd HB.out.drew
 clear HB hz
 generalize wa.drew=w1 at*
 refine Zg ?_
 go_wp2_with fail
 go_ret
 exact⟨by rw[← HX.out];rfl,HB1.out⟩)
 |false=>(
 refine wro [0,1,2,3,4,5,6,7,8,9,10,11,12,13,14,15,16,17,18,19,20,21,22,24,25,27,28,23,26,29,30,31] [23,26,29] 32 (fun w'=>Bx w' g _ A1 n1 c1 A2 n2 c2 (some ⟨kb,ko,none⟩) n3 c3 true an true bn∧w'.cell? ⟨kb,ko+an,none⟩=some (.slice (some ⟨kb',ko',none⟩) q kc)∧w'.cell? ⟨kb',ko'+bn,none⟩=some (.bool false)) (by kernel_rfl) (fun _ _ _ _ _ h=>h) (⟨hz.keep (Below.refl _ wa).drew,k1,k2⟩) ?_
 simp only[steps,sE,sD]
 repeat((first|refine Zf rfl ?_|(refine Zd (v:= ?_) rfl rfl ?_ ?_;rotate_left;(focus(rintro w' ⟨⟨x0,x1,x2,x3,x4,x5,x6,x7⟩,y0,y1⟩;go_simp;try with_reducible rfl))));simp only[Act.put,sA,sB,sC])
 have hz1:=hz.keep (Below.refl _ wa).drew
 replace k1:=Za k1 (Below.refl _ wa).drew
 replace k2:=Za k2 (Below.refl _ wa).drew
 have HB1:=Hd HB.out.drew
 clear HB hz
 generalize wa.drew=w1 at*
 refine Ze rfl rfl (fun K hK=> ?_)
 go_simp
 refine(HG.out _ HB1.out).mono ?_
 rintro e w2 ⟨rfl,hv⟩
 have hz2:=hz1.keep hv
 replace k1:=Za k1 hv
 replace k2:=Za k2 hv
 have HB2:=Hd (HB1.out.trans (hv.mono HB1.out.size))
 clear hv HB1 hz1
 refine hK.out _ _ (fun _=>⟨hz2,k1,k2⟩) ?_
 clear hK K
 try simp only[Act.put,sA,sB,sC]
 repeat((first|refine Zf rfl ?_|(refine Zd (v:= ?_) rfl rfl ?_ ?_;rotate_left;(focus(rintro w' ⟨⟨x0,x1,x2,x3,x4,x5,x6,x7⟩,y0,y1⟩;go_simp;try with_reducible rfl))));simp only[Act.put,sA,sB,sC])
 refine Ze rfl rfl (fun K hK=> ?_)
 go_simp
 refine(HL.out _ HB2.out).mono ?_
 rintro e w3 ⟨rfl,hv⟩
 have hz3:=hz2.keep hv
 replace k1:=Za k1 hv
 replace k2:=Za k2 hv
 have HB3:=Hd (HB2.out.trans (hv.mono HB2.out.size))
 clear hv HB2 hz2
 refine hK.out _ _ (fun _=>⟨hz3,k1,k2⟩) ?_
 clear hK K
 try simp only[Act.put,sA,sB,sC]
 repeat((first|refine Zf rfl ?_|(refine Zd (v:= ?_) rfl rfl ?_ ?_;rotate_left;(focus(rintro w' ⟨⟨x0,x1,x2,x3,x4,x5,x6,x7⟩,y0,y1⟩;go_simp;try with_reducible rfl))));simp only[Act.put,sA,sB,sC])
 refine Ze rfl rfl (fun K hK=> ?_)
 go_simp
 go_invoke
 go_simp
 refine(HS.out.below _ HB3.out xa xb HFA.out HFB.out).mono ?_
 rintro e w4 ⟨rfl,hv⟩
 have hz4:=hz3.keep hv
 replace k1:=Za k1 hv
 replace k2:=Za k2 hv
 have HB4:=Hd (HB3.out.trans (hv.mono HB3.out.size))
 clear hv HB3 hz3
 refine hK.out _ _ (fun _=>⟨hz4,k1,k2⟩) ?_
 clear hK K
 try simp only[Act.put,sA,sB,sC]
 repeat((first|refine Zf rfl ?_|(refine Zd (v:= ?_) rfl rfl ?_ ?_;rotate_left;(focus(rintro w' ⟨⟨x0,x1,x2,x3,x4,x5,x6,x7⟩,y0,y1⟩;go_simp;try with_reducible rfl))));simp only[Act.put,sA,sB,sC])
 refine Zg ?_
 go_wp2_with fail
 go_ret
 exact⟨by rw[← HX.out];rfl,HB4.out⟩))))
 ·(
 have HS:=Hd hs
 clear hs
 go_enter Tryz.func79,Tryz.ntmps79
 go_wp2_with fail
 generalize hwa:((w.alloc (.cells #[.iface 77 (.pointer p),.slice A1 n1 c1,.slice A2 n2 c2,.slice A3 n3 c3] 100)).alloc (.cells #[.bool av,.int .u64 (an:Int)] 62)).alloc (.cells #[.bool bv,.int .u64 (bn:Int)] 62)=wa at*
 clear hwa
 generalize w.heap.size=g at hz ⊢
 cases av with
 |false=>(
 clear HA HBB HR
 refine wro [0,1,2,3,4,5,6,7,8,9,10,11,12,13,14,15,16,17,18,19,20,21,22,24,25,27,28,23,26,29,30,31] [23,26,29] 32 (fun w'=>Bx w' g _ A1 n1 c1 A2 n2 c2 A3 n3 c3 false an bv bn) (by kernel_rfl) (fun _ _ _ _ _ h=>h) (hz.keep (Below.refl _ wa).drew) ?_
 simp only[steps,sE,sD]
 repeat((first|refine Zf rfl ?_|(refine Zd (v:= ?_) rfl rfl ?_ ?_;rotate_left;(focus(rintro w' ⟨x0,x1,x2,x3,x4,x5,x6,x7⟩;go_simp;try with_reducible rfl))));simp only[Act.put,sA,sB,sC])
 have hz1:=hz.keep (Below.refl _ wa).drew
 have HB1:=Hd HB.out.drew
 clear HB hz
 generalize wa.drew=w1 at*
 refine Ze rfl rfl (fun K hK=> ?_)
 go_simp
 refine(HG.out _ HB1.out).mono ?_
 rintro e w2 ⟨rfl,hv⟩
 have hz2:=hz1.keep hv
 have HB2:=Hd (HB1.out.trans (hv.mono HB1.out.size))
 clear hv HB1 hz1
 refine hK.out _ _ (fun _=>hz2) ?_
 clear hK K
 try simp only[Act.put,sA,sB,sC]
 repeat((first|refine Zf rfl ?_|(refine Zd (v:= ?_) rfl rfl ?_ ?_;rotate_left;(focus(rintro w' ⟨x0,x1,x2,x3,x4,x5,x6,x7⟩;go_simp;try with_reducible rfl))));simp only[Act.put,sA,sB,sC])
 refine Ze rfl rfl (fun K hK=> ?_)
 go_simp
 refine(HL.out _ HB2.out).mono ?_
 rintro e w3 ⟨rfl,hv⟩
 have hz3:=hz2.keep hv
 have HB3:=Hd (HB2.out.trans (hv.mono HB2.out.size))
 clear hv HB2 hz2
 refine hK.out _ _ (fun _=>hz3) ?_
 clear hK K
 try simp only[Act.put,sA,sB,sC]
 repeat((first|refine Zf rfl ?_|(refine Zd (v:= ?_) rfl rfl ?_ ?_;rotate_left;(focus(rintro w' ⟨x0,x1,x2,x3,x4,x5,x6,x7⟩;go_simp;try with_reducible rfl))));simp only[Act.put,sA,sB,sC])
 refine Ze rfl rfl (fun K hK=> ?_)
 go_simp
 go_invoke
 go_simp
 refine(HS.out.below _ HB3.out xa xb HFA.out HFB.out).mono ?_
 rintro e w4 ⟨rfl,hv⟩
 have hz4:=hz3.keep hv
 have HB4:=Hd (HB3.out.trans (hv.mono HB3.out.size))
 clear hv HB3 hz3
 refine hK.out _ _ (fun _=>hz4) ?_
 clear hK K
 try simp only[Act.put,sA,sB,sC]
 repeat((first|refine Zf rfl ?_|(refine Zd (v:= ?_) rfl rfl ?_ ?_;rotate_left;(focus(rintro w' ⟨x0,x1,x2,x3,x4,x5,x6,x7⟩;go_simp;try with_reducible rfl))));simp only[Act.put,sA,sB,sC])
 refine Zg ?_
 go_wp2_with fail
 go_ret
 exact⟨by rw[← HX.out];rfl,HB4.out⟩)
 |true=>(
 cases bv with
 |false=>(
 clear HA HBB HR
 refine wro [0,1,2,3,4,5,6,7,8,9,10,11,12,13,14,15,16,17,18,19,20,21,22,24,25,27,28,23,26,29,30,31] [23,26,29] 32 (fun w'=>Bx w' g _ A1 n1 c1 A2 n2 c2 A3 n3 c3 true an false bn) (by kernel_rfl) (fun _ _ _ _ _ h=>h) (hz.keep (Below.refl _ wa).drew) ?_
 simp only[steps,sE,sD]
 repeat((first|refine Zf rfl ?_|(refine Zd (v:= ?_) rfl rfl ?_ ?_;rotate_left;(focus(rintro w' ⟨x0,x1,x2,x3,x4,x5,x6,x7⟩;go_simp;try with_reducible rfl))));simp only[Act.put,sA,sB,sC])
 have hz1:=hz.keep (Below.refl _ wa).drew
 have HB1:=Hd HB.out.drew
 clear HB hz
 generalize wa.drew=w1 at*
 refine Ze rfl rfl (fun K hK=> ?_)
 go_simp
 refine(HG.out _ HB1.out).mono ?_
 rintro e w2 ⟨rfl,hv⟩
 have hz2:=hz1.keep hv
 have HB2:=Hd (HB1.out.trans (hv.mono HB1.out.size))
 clear hv HB1 hz1
 refine hK.out _ _ (fun _=>hz2) ?_
 clear hK K
 try simp only[Act.put,sA,sB,sC]
 repeat((first|refine Zf rfl ?_|(refine Zd (v:= ?_) rfl rfl ?_ ?_;rotate_left;(focus(rintro w' ⟨x0,x1,x2,x3,x4,x5,x6,x7⟩;go_simp;try with_reducible rfl))));simp only[Act.put,sA,sB,sC])
 refine Ze rfl rfl (fun K hK=> ?_)
 go_simp
 refine(HL.out _ HB2.out).mono ?_
 rintro e w3 ⟨rfl,hv⟩
 have hz3:=hz2.keep hv
 have HB3:=Hd (HB2.out.trans (hv.mono HB2.out.size))
 clear hv HB2 hz2
 refine hK.out _ _ (fun _=>hz3) ?_
 clear hK K
 try simp only[Act.put,sA,sB,sC]
 repeat((first|refine Zf rfl ?_|(refine Zd (v:= ?_) rfl rfl ?_ ?_;rotate_left;(focus(rintro w' ⟨x0,x1,x2,x3,x4,x5,x6,x7⟩;go_simp;try with_reducible rfl))));simp only[Act.put,sA,sB,sC])
 refine Ze rfl rfl (fun K hK=> ?_)
 go_simp
 go_invoke
 go_simp
 refine(HS.out.below _ HB3.out xa xb HFA.out HFB.out).mono ?_
 rintro e w4 ⟨rfl,hv⟩
 have hz4:=hz3.keep hv
 have HB4:=Hd (HB3.out.trans (hv.mono HB3.out.size))
 clear hv HB3 hz3
 refine hK.out _ _ (fun _=>hz4) ?_
 clear hK K
 try simp only[Act.put,sA,sB,sC]
 repeat((first|refine Zf rfl ?_|(refine Zd (v:= ?_) rfl rfl ?_ ?_;rotate_left;(focus(rintro w' ⟨x0,x1,x2,x3,x4,x5,x6,x7⟩;go_simp;try with_reducible rfl))));simp only[Act.put,sA,sB,sC])
 refine Zg ?_
 go_wp2_with fail
 go_ret
 exact⟨by rw[← HX.out];rfl,HB4.out⟩)
 |true=>(
 obtain⟨kb,ko,kb',ko',kc,rfl,hkb,k1,hkb',k2⟩:=HR.out rfl rfl
 have han:(an:Int) < (n3:Int):=by have:=HA.out rfl;have:=HN3.out;omega
 have hbn:(bn:Int) < (q:Int):=by have:=HBB.out rfl;omega
 replace k1:=Za k1 HB.out
 replace k2:=Za k2 HB.out
 clear HA HBB HR hkb hkb'
 generalize rc an bn=r at*
 cases r with
 |true=>(
 refine wro [0,1,2,3,4,5,6,7,8,9,10,11,12,13,14,15,16,17,18,19,20,21,22,24,25,27,28,23,26,29,30,31] [23,26,29] 32 (fun w'=>Bx w' g _ A1 n1 c1 A2 n2 c2 (some ⟨kb,ko,none⟩) n3 c3 true an true bn∧w'.cell? ⟨kb,ko+an,none⟩=some (.slice (some ⟨kb',ko',none⟩) q kc)∧w'.cell? ⟨kb',ko'+bn,none⟩=some (.bool true)) (by kernel_rfl) (fun _ _ _ _ _ h=>h) (⟨hz.keep (Below.refl _ wa).drew,k1,k2⟩) ?_
 simp only[steps,sE,sD]
 repeat((first|refine Zf rfl ?_|(refine Zd (v:= ?_) rfl rfl ?_ ?_;rotate_left;(focus(rintro w' ⟨⟨x0,x1,x2,x3,x4,x5,x6,x7⟩,y0,y1⟩;go_simp;try with_reducible rfl))));simp only[Act.put,sA,sB,sC])
 have hz1:=hz.keep (Below.refl _ wa).drew
 replace k1:=Za k1 (Below.refl _ wa).drew
 replace k2:=Za k2 (Below.refl _ wa).drew
 have HB1:=Hd HB.out.drew
 clear HB hz
 generalize wa.drew=w1 at*
 refine Zg ?_
 go_wp2_with fail
 go_ret
 exact⟨by rw[← HX.out];rfl,HB1.out⟩)
 |false=>(
 refine wro [0,1,2,3,4,5,6,7,8,9,10,11,12,13,14,15,16,17,18,19,20,21,22,24,25,27,28,23,26,29,30,31] [23,26,29] 32 (fun w'=>Bx w' g _ A1 n1 c1 A2 n2 c2 (some ⟨kb,ko,none⟩) n3 c3 true an true bn∧w'.cell? ⟨kb,ko+an,none⟩=some (.slice (some ⟨kb',ko',none⟩) q kc)∧w'.cell? ⟨kb',ko'+bn,none⟩=some (.bool false)) (by kernel_rfl) (fun _ _ _ _ _ h=>h) (⟨hz.keep (Below.refl _ wa).drew,k1,k2⟩) ?_
 simp only[steps,sE,sD]
 repeat((first|refine Zf rfl ?_|(refine Zd (v:= ?_) rfl rfl ?_ ?_;rotate_left;(focus(rintro w' ⟨⟨x0,x1,x2,x3,x4,x5,x6,x7⟩,y0,y1⟩;go_simp;try with_reducible rfl))));simp only[Act.put,sA,sB,sC])
 have hz1:=hz.keep (Below.refl _ wa).drew
 replace k1:=Za k1 (Below.refl _ wa).drew
 replace k2:=Za k2 (Below.refl _ wa).drew
 have HB1:=Hd HB.out.drew
 clear HB hz
 generalize wa.drew=w1 at*
 refine Ze rfl rfl (fun K hK=> ?_)
 go_simp
 refine(HG.out _ HB1.out).mono ?_
 rintro e w2 ⟨rfl,hv⟩
 have hz2:=hz1.keep hv
 replace k1:=Za k1 hv
 replace k2:=Za k2 hv
 have HB2:=Hd (HB1.out.trans (hv.mono HB1.out.size))
 clear hv HB1 hz1
 refine hK.out _ _ (fun _=>⟨hz2,k1,k2⟩) ?_
 clear hK K
 try simp only[Act.put,sA,sB,sC]
 repeat((first|refine Zf rfl ?_|(refine Zd (v:= ?_) rfl rfl ?_ ?_;rotate_left;(focus(rintro w' ⟨⟨x0,x1,x2,x3,x4,x5,x6,x7⟩,y0,y1⟩;go_simp;try with_reducible rfl))));simp only[Act.put,sA,sB,sC])
 refine Ze rfl rfl (fun K hK=> ?_)
 go_simp
 refine(HL.out _ HB2.out).mono ?_
 rintro e w3 ⟨rfl,hv⟩
 have hz3:=hz2.keep hv
 replace k1:=Za k1 hv
 replace k2:=Za k2 hv
 have HB3:=Hd (HB2.out.trans (hv.mono HB2.out.size))
 clear hv HB2 hz2
 refine hK.out _ _ (fun _=>⟨hz3,k1,k2⟩) ?_
 clear hK K
 try simp only[Act.put,sA,sB,sC]
 repeat((first|refine Zf rfl ?_|(refine Zd (v:= ?_) rfl rfl ?_ ?_;rotate_left;(focus(rintro w' ⟨⟨x0,x1,x2,x3,x4,x5,x6,x7⟩,y0,y1⟩;go_simp;try with_reducible rfl))));simp only[Act.put,sA,sB,sC])
 refine Ze rfl rfl (fun K hK=> ?_)
 go_simp
 go_invoke
 go_simp
 refine(HS.out.below _ HB3.out xa xb HFA.out HFB.out).mono ?_
 rintro e w4 ⟨rfl,hv⟩
 have hz4:=hz3.keep hv
 replace k1:=Za k1 hv
 replace k2:=Za k2 hv
 have HB4:=Hd (HB3.out.trans (hv.mono HB3.out.size))
 clear hv HB3 hz3
 refine hK.out _ _ (fun _=>⟨hz4,k1,k2⟩) ?_
 clear hK K
 try simp only[Act.put,sA,sB,sC]
 repeat((first|refine Zf rfl ?_|(refine Zd (v:= ?_) rfl rfl ?_ ?_;rotate_left;(focus(rintro w' ⟨⟨x0,x1,x2,x3,x4,x5,x6,x7⟩,y0,y1⟩;go_simp;try with_reducible rfl))));simp only[Act.put,sA,sB,sC])
 refine Zg ?_
 go_wp2_with fail
 go_ret
 exact⟨by rw[← HX.out];rfl,HB4.out⟩))))
end Go.Proofs.YtmejhedegmjboaaGreat
