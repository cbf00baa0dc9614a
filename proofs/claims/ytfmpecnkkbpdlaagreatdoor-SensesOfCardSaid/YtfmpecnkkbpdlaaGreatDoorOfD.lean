import Derived.Test.YtfmpecnkkbpdlaaGreatDoorDsC
import Derived.Test.YtfmpecnkkbpdlaaGreatDoorRefC
import Derived.Test.YtfmpecnkkbpdlaaGreatDoorRefPut
import Derived.Test.YtfmpecnkkbpdlaaGreatDoorSnE
set_option maxRecDepth 100000
set_option maxHeartbeats 8000000
namespace Go.Proofs.YtfmpecnkkbpdlaaGreatDoor
open Go.RowKit
theorem Zh4: ∀(l:List Nd) (k:Nat) (ss:List Nat),(∀y∈ss,y≤2)→ ∀p∈lab k l ss,p.s≤2
 | [],_,_,_,p,h=>by simp[lab] at h
 |_::_,_,[],_,p,h=>by simp[lab] at h
 |x::l,k,s::ss,hs,p,h=>by
  have h0:=hs s List.mem_cons_self
  simp only[lab,List.mem_append] at h
  rcases h with h|h
  ·unfold labS at h
   split at h
   ·simp only[List.mem_cons,List.not_mem_nil,or_false] at h
    rcases h with rfl|rfl
    ·exact h0
    ·exact ZeO s
   ·simp only[List.mem_cons,List.not_mem_nil,or_false] at h
    subst h
    exact h0
  ·exact Zh4 l (k+1) ss (fun y hy=>hs y (List.mem_cons_of_mem _ hy)) p h
theorem ZiF (l:List Nd): ∀p∈labB l,p.s≤2:=by
 unfold labB
 split
 ·exact Zh4 l 0 _ (ZeQ l [0] (by simp))
 ·simp
theorem Zh5: ∀(l:List Nd) (k:Nat) (ss:List Nat),(∀y∈ss,y≤2)→ ∀p∈eff k l ss,p.s≤2
 | [],_,_,_,p,h=>by simp[eff] at h
 |_::_,_,[],_,p,h=>by simp[eff] at h
 |x::l,k,s::ss,hs,p,h=>by
  have h0:=hs s List.mem_cons_self
  simp only[eff,List.mem_append] at h
  rcases h with h|h
  ·unfold effS at h
   split at h
   ·simp only[List.mem_cons,List.not_mem_nil,or_false] at h
    subst h
    exact h0
   ·cases h
  ·exact Zh5 l (k+1) ss (fun y hy=>hs y (List.mem_cons_of_mem _ hy)) p h
theorem ZiG (l:List Nd): ∀p∈effB l,p.s≤2:=by
 unfold effB
 split
 ·exact Zh5 l 0 _ (ZeQ l [0] (by simp))
 ·simp
theorem Zh6 {S:Bo.Sr}{lv:Int}{l:List Sp}{q:Nat}(hk:lv=(q:Int))(h: ∀p∈l,may1 S lv p=true): ∀p∈l,okT q p.v p.z.toNat:=fun p hp hv=>by
 have:=h p hp
 unfold may1 Bo.mayT at this
 rw[hk,Int.toNat_natCast,hv] at this
 exact of_decide_eq_true this
def dsC (t:Nat)(A:Option Addr)(n c m:Nat)(A1:Option Addr)(n1 c1:Nat)(A2:Option Addr)(n2 c2:Nat)(A3:Option Addr)(n3 c3:Nat):Array Value:= #[.int .i64 (t:Int),.slice A n c,.int .i64 (m:Int),.slice A1 n1 c1,.slice A2 n2 c2,.slice A3 n3 c3]
theorem Zj1 {S X:Bo.Sr}{s:Sch}{xl xe:Int}{P Q:Prop}(hl:(xl=10∧VA S s.lv s.l)∨(xl=0∧P))(he:(xe=10∧VA X s.ev s.e)∨(xe=0∧Q)):(xl=10∧VA S s.lv s.l)∨(xl=0∧xe=10∧VA X s.ev s.e)∨(xl=0∧xe=0∧P∧Q):=by
 rcases hl with h|⟨h1,h2⟩
 ·exact .inl h
 ·rcases he with⟨h3,h4⟩|⟨h3,h4⟩
  ·exact .inr (.inl ⟨h1,h3,h4⟩)
  ·exact .inr (.inr ⟨h1,h3,h2,h4⟩)
theorem Zey (s:Sch)(A:Option Addr)(n c:Nat)(A1:Option Addr)(n1 c1:Nat)(A2:Option Addr)(n2 c2:Nat)(t1:Nat)(D1:Option Addr)(m1 k1 u1 t2:Nat)(D2:Option Addr)(m2 k2 u2:Nat)(S X:Bo.Sr)(w:World)(h:Uo w s A n c A1 n1 c1 A2 n2 c2)(hS:Bo.RSrt w.heap.size w t1 D1 m1 k1 u1 S)(hX:Bo.RSrt w.heap.size w t2 D2 m2 k2 u2 X)(okS:S.Ok)(okX:X.Ok):
  Calls Tryz.prog 10 #[schV s A n c A1 n1 c1 A2 n2 c2,Bo.rsV t1 D1 m1 k1 u1,Bo.rsV t2 D2 m2 k2 u2] w fun e w'=> ∃x p q,e= .returned (.tuple #[Q4.v p,Q4.v q,.int .i64 x])∧OfIs S X s w' x p q∧Below w.heap.size w w':=by
 have HSA:=Hd h
 have HS:=Hd hS
 have HX:=Hd hX
 have HOS:=Hd okS
 have HOX:=Hd okX
 obtain⟨ec,hec⟩: ∃ec,s.check S X=ec:=⟨_,rfl⟩
 have HEC:=Hd hec
 obtain⟨wa,hwa⟩: ∃wa,w.alloc (.cells #[.int .i64 s.lv,.int .i64 s.ev,.slice A n c,.slice A1 n1 c1,.slice A2 n2 c2] 28)=wa:=⟨_,rfl⟩
 obtain⟨wb,hwb⟩: ∃wb,wa.alloc (.cells #[.int .i64 (t1:Int),.slice D1 m1 k1,.int .i64 (u1:Int)] 36)=wb:=⟨_,rfl⟩
 obtain⟨wc,hwc⟩: ∃wc,wb.alloc (.cells #[.int .i64 (t2:Int),.slice D2 m2 k2,.int .i64 (u2:Int)] 36)=wc:=⟨_,rfl⟩
 obtain⟨wd,hwd⟩: ∃wd,wc.alloc (.cells #[.slice none 0 0,.slice none 0 0,.slice none 0 0,.slice none 0 0] 43)=wd:=⟨_,rfl⟩
 obtain⟨u,hu⟩: ∃u,wd.alloc (.cells #[.slice none 0 0,.slice none 0 0,.slice none 0 0,.slice none 0 0] 43)=u:=⟨_,rfl⟩
 have sa:wa.heap.size=w.heap.size+1:=by rw[← hwa,World.size_alloc]
 have sb:wb.heap.size=w.heap.size+1+1:=by rw[← hwb,World.size_alloc,sa]
 have sc:wc.heap.size=w.heap.size+1+1+1:=by rw[← hwc,World.size_alloc,sb]
 have sd:wd.heap.size=w.heap.size+1+1+1+1:=by rw[← hwd,World.size_alloc,sc]
 have su:u.heap.size=w.heap.size+1+1+1+1+1:=by rw[← hu,World.size_alloc,sd]
 have ba:Below w.heap.size w wa:=hwa▸bA
 have bb:Below wa.heap.size wa wb:=hwb▸bA
 have bc:Below wb.heap.size wb wc:=hwc▸bA
 have bd:Below wc.heap.size wc wd:=hwd▸bA
 have bu:Below wd.heap.size wd u:=hu▸bA
 have bcu:Below wc.heap.size wc u:=bd.trans (bu.mono bd.size)
 have bbu:Below wb.heap.size wb u:=bc.trans (bcu.mono bc.size)
 have bau:Below wa.heap.size wa u:=bb.trans (bbu.mono bb.size)
 have hb:Below w.heap.size w u:=ba.trans (bau.mono ba.size)
 have hz:Box u w.heap.size s.lv s.ev A n c A1 n1 c1 A2 n2 c2:=(hwa▸Box.new w s.lv s.ev A n c A1 n1 c1 A2 n2 c2:Box wa w.heap.size s.lv s.ev A n c A1 n1 c1 A2 n2 c2).keep bau
 have hy:RBox u (w.heap.size+1) t1 D1 m1 k1 u1:=(sa▸(hwb▸RBox.new wa t1 D1 m1 k1 u1:RBox wb wa.heap.size t1 D1 m1 k1 u1):RBox wb (w.heap.size+1) t1 D1 m1 k1 u1).keep bbu
 have hx:RBox u (w.heap.size+1+1) t2 D2 m2 k2 u2:=(sb▸(hwc▸RBox.new wb t2 D2 m2 k2 u2:RBox wc wb.heap.size t2 D2 m2 k2 u2):RBox wc (w.heap.size+1+1) t2 D2 m2 k2 u2).keep bcu
 have k1':u.heap[w.heap.size+1+1+1]?=some (.cells #[.slice none 0 0,.slice none 0 0,.slice none 0 0,.slice none 0 0] 43 (0,0)):=(bu.block _ (by rw[sd];omega)).trans (by rw[← sc, ← hwd];exact heap_alloc_new wc _)
 have k2':u.heap[w.heap.size+1+1+1+1]?=some (.cells #[.slice none 0 0,.slice none 0 0,.slice none 0 0,.slice none 0 0] 43 (0,0)):=by rw[← sd, ← hu];exact heap_alloc_new wd _
 have hcall:=Qr s A n c A1 n1 c1 A2 n2 c2 t1 D1 m1 k1 u1 t2 D2 m2 k2 u2 S X u (h.keep hb) (hS.keep hb) (hX.keep hb) ec hec
 have HB:=Hd hb
 have HZ:=Hd hz
 have HY:=Hd hy
 have HXB:=Hd hx
 have HK1:=Hd k1'
 have HK2:=Hd k2'
 have HSU:=Hd su
 unfold schV Bo.rsV at hcall ⊢
 have HCALL:=Hd hcall
 have z0:=hz.z0
 have z1:=hz.z1
 have z2:=hz.z2
 have z3:=hz.z3
 have z4:=hz.z4
 have y0:=hy.s0
 have y1:=hy.s1
 have y2:=hy.s2
 have x0:=hx.s0
 have x1:=hx.s1
 have x2:=hx.s2
 clear h hS hX okS okX hec sa sb sc sd su ba bb bc bd bu bcu bbu bau hb hz hy hx k1' k2' hcall
 subst hwa hwb hwc hwd
 go_enter Tryz.func10,Tryz.ntmps10
 go_wp2_with fail
 clear hu
 refine HCALL.out.mono ?_
 rintro e w1 ⟨rfl,hv⟩
 clear HCALL z0 z1 z2 z3 z4 y0 y1 y2 x0 x1 x2
 have HV1:=Hd hv
 have HB1:=Hd (HB.out.trans (hv.mono HB.out.size))
 clear hv
 by_cases h0:ec=0
 case neg=>
  have hne:(ec !=0)=true:=by simpa using h0
  have HH:=Hd h0
  have k1':=(HV1.out.block _ (Zd HK1.out)).trans HK1.out
  have k2':=(HV1.out.block _ (Zd HK2.out)).trans HK2.out
  clear h0
  have p0:=(Za (i:=0) k1').trans rfl
  have p1:=(Za (i:=1) k1').trans rfl
  have p2:=(Za (i:=2) k1').trans rfl
  have p3:=(Za (i:=3) k1').trans rfl
  have q0:=(Za (i:=0) k2').trans rfl
  have q1:=(Za (i:=1) k2').trans rfl
  have q2:=(Za (i:=2) k2').trans rfl
  have q3:=(Za (i:=3) k2').trans rfl
  have fp0:w1.frozen? ⟨w.heap.size+1+1+1,0,none⟩=false:=Zb k1'
  have fp1:w1.frozen? ⟨w.heap.size+1+1+1,1,none⟩=false:=Zb k1'
  have fp2:w1.frozen? ⟨w.heap.size+1+1+1,2,none⟩=false:=Zb k1'
  have fp3:w1.frozen? ⟨w.heap.size+1+1+1,3,none⟩=false:=Zb k1'
  have fq0:w1.frozen? ⟨w.heap.size+1+1+1+1,0,none⟩=false:=Zb k2'
  have fq1:w1.frozen? ⟨w.heap.size+1+1+1+1,1,none⟩=false:=Zb k2'
  have fq2:w1.frozen? ⟨w.heap.size+1+1+1+1,2,none⟩=false:=Zb k2'
  have fq3:w1.frozen? ⟨w.heap.size+1+1+1+1,3,none⟩=false:=Zb k2'
  have HKK:=Hd (And.intro k1' k2')
  clear k1' k2'
  go_wp2_with fail
  refine bodyPost_ret (v:= .tuple #[Q4.v Q4.nil,Q4.v Q4.nil,.int .i64 (ec)]) ?_ rfl ⟨ec,Q4.nil,Q4.nil,rfl,.inl ⟨HH.out,rfl,rfl,.inl HEC.out⟩,?_⟩
  ·exact Vd (P:=Tryz.prog) rfl _ _ (w.heap.size+1+1+1) (w.heap.size+1+1+1+1) 43 _ _ (0,0) (0,0) _ rfl ((Zl (by omega) _ _ _ _).trans (ZC HKK.out.1 _ _ _ _)) rfl (ZC ((Zl (by omega) _ _ _ _).trans HKK.out.2) _ _ _ _) Tryz.underlying43 rfl rfl rfl _ rfl
  ·exact Zr (Zr HB1.out (by omega) _ _ _ _) (by omega) _ _ _ _
 subst h0
 obtain⟨-,hcl,hce,hml,hme⟩:=Sch.check_is.1 HEC.out
 have HML:=Hd hml
 have HME:=Hd hme
 have HCE:=Hd hce
 have hcall:=ZfT t1 D1 m1 k1 u1 s.lv A1 n1 c1 s.l S w1 HOS.out (HS.out.keep HB1.out) (HSA.out.keep HB1.out).l HSA.out.lf hcl
 unfold Bo.rsV at hcall
 have HCALL:=Hd hcall
 have hy:=HY.out.keep HV1.out
 have hz:=HZ.out.keep HV1.out
 have y0:=hy.s0
 have y1:=hy.s1
 have y2:=hy.s2
 have z0:=hz.z0
 have z3:=hz.z3
 clear hcl hce hml hme hcall hy hz
 go_wp2_with fail
 refine HCALL.out.mono ?_
 rintro e w2 ⟨T1,E1,a1,b1,v1,F1,a2,b2,F2,a3,b3,F3,a4,b4,xl,rfl,hv,hrl⟩
 have HV2:=Hd (HV1.out.trans (hv.mono HV1.out.size))
 have HB2:=Hd (HB1.out.trans (hv.mono HB1.out.size))
 have HRL:=Hd hrl
 clear y0 y1 y2 z0 z3 hv hrl HCALL HB1 HV1
 obtain⟨w3,hw3⟩: ∃w3,w2.alloc (.cells (dsC T1 E1 a1 b1 v1 F1 a2 b2 F2 a3 b3 F3 a4 b4) 101)=w3:=⟨_,rfl⟩
 have hv3:Below w2.heap.size w2 w3:=hw3▸bA
 have HG1:Hid (w3.heap[w2.heap.size]?=some (.cells (dsC T1 E1 a1 b1 v1 F1 a2 b2 F2 a3 b3 F3 a4 b4) 101 (0,0))):=Hd (hw3▸heap_alloc_new w2 _)
 have HV3:=Hd (HV2.out.trans (hv3.mono HV2.out.size))
 have HB3:=Hd (HB2.out.trans (hv3.mono HB2.out.size))
 have HV23:=Hd hv3
 have HSZ2:Hid (u.heap.size≤w2.heap.size):=Hd HV2.out.size
 have hcall:=ZfT t2 D2 m2 k2 u2 s.ev A2 n2 c2 s.e X w3 HOX.out (HX.out.keep HB3.out) (HSA.out.keep HB3.out).e HSA.out.ef HCE.out
 unfold Bo.rsV at hcall
 have HCALL:=Hd hcall
 have hy:=HXB.out.keep HV3.out
 have hz:=HZ.out.keep HV3.out
 have y0:=hy.s0
 have y1:=hy.s1
 have y2:=hy.s2
 have z1:=hz.z1
 have z4:=hz.z4
 clear hv3 hcall hy hz HV2 HB2 HCE
 unfold dsC at hw3
 unfold dsV
 go_wp2_with fail
 try rw[hw3]
 refine HCALL.out.mono ?_
 rintro e w4 ⟨T2,E2,g1,h1,v2,G1,g2,h2,G2,g3,h3,G3,g4,h4,xe,rfl,hv,hre⟩
 have HV4:=Hd (HV3.out.trans (hv.mono HV3.out.size))
 have HB4:=Hd (HB3.out.trans (hv.mono HB3.out.size))
 have HRE:=Hd hre
 have HV24:=Hd (HV23.out.trans (hv.mono HV23.out.size))
 have HG14:=Hd ((hv.block _ (Zd HG1.out)).trans HG1.out)
 have HSZ4:Hid (w2.heap.size < w4.heap.size):=Hd (by have:=Zd HG14.out;omega)
 clear hw3 y0 y1 y2 z1 z4 hv hre HCALL HB3 HV3 HV23 HG1
 obtain⟨w5,hw5⟩: ∃w5,w4.alloc (.cells (dsC T2 E2 g1 h1 v2 G1 g2 h2 G2 g3 h3 G3 g4 h4) 101)=w5:=⟨_,rfl⟩
 have hv5:Below w4.heap.size w4 w5:=hw5▸bA
 have HG2:Hid (w5.heap[w4.heap.size]?=some (.cells (dsC T2 E2 g1 h1 v2 G1 g2 h2 G2 g3 h3 G3 g4 h4) 101 (0,0))):=Hd (hw5▸heap_alloc_new w4 _)
 have HV5:=Hd (HV4.out.trans (hv5.mono HV4.out.size))
 have HB5:=Hd (HB4.out.trans (hv5.mono HB4.out.size))
 have HV25:=Hd (HV24.out.trans (hv5.mono HV24.out.size))
 have HV45:=Hd hv5
 have HG15:=Hd ((hv5.block _ (Zd HG14.out)).trans HG14.out)
 have hcase:=Zj1 HRL.out HRE.out
 have HCASE:=Hd hcase
 have hk1:=(HV5.out.block _ (Zd HK1.out)).trans HK1.out
 have hk2:=(HV5.out.block _ (Zd HK2.out)).trans HK2.out
 have HKA:=Hd (And.intro hk1 hk2)
 clear hv5 HV4 HB4 HV24 HG14 HRL HRE hk1 hk2
 unfold dsC at hw5
 have hx3:(xl=10)∨(xl=0∧xe=10)∨(xl=0∧xe=0):=by
  rcases hcase with⟨h,-⟩|⟨h,h',-⟩|⟨h,h',-⟩
  ·exact .inl h
  ·exact .inr (.inl ⟨h,h'⟩)
  ·exact .inr (.inr ⟨h,h'⟩)
 clear hcase
 rcases hx3 with rfl|⟨rfl,rfl⟩|⟨rfl,rfl⟩
 ·have hno:VA S s.lv s.l:=by
   rcases HCASE.out with⟨-,h⟩|⟨h,-⟩|⟨h,-⟩
   ·exact h
   ·cases h
   ·cases h
  have HNO:=Hd hno
  have k1':=HKA.out.1
  have k2':=HKA.out.2
  clear hno HCASE
  unfold dsV
  have p0:=(Za (i:=0) k1').trans rfl
  have p1:=(Za (i:=1) k1').trans rfl
  have p2:=(Za (i:=2) k1').trans rfl
  have p3:=(Za (i:=3) k1').trans rfl
  have q0:=(Za (i:=0) k2').trans rfl
  have q1:=(Za (i:=1) k2').trans rfl
  have q2:=(Za (i:=2) k2').trans rfl
  have q3:=(Za (i:=3) k2').trans rfl
  have fp0:w5.frozen? ⟨w.heap.size+1+1+1,0,none⟩=false:=Zb k1'
  have fp1:w5.frozen? ⟨w.heap.size+1+1+1,1,none⟩=false:=Zb k1'
  have fp2:w5.frozen? ⟨w.heap.size+1+1+1,2,none⟩=false:=Zb k1'
  have fp3:w5.frozen? ⟨w.heap.size+1+1+1,3,none⟩=false:=Zb k1'
  have fq0:w5.frozen? ⟨w.heap.size+1+1+1+1,0,none⟩=false:=Zb k2'
  have fq1:w5.frozen? ⟨w.heap.size+1+1+1+1,1,none⟩=false:=Zb k2'
  have fq2:w5.frozen? ⟨w.heap.size+1+1+1+1,2,none⟩=false:=Zb k2'
  have fq3:w5.frozen? ⟨w.heap.size+1+1+1+1,3,none⟩=false:=Zb k2'
  have HKK:=Hd (And.intro k1' k2')
  clear k1' k2'
  go_wp2_with fail
  refine bodyPost_ret (v:= .tuple #[Q4.v Q4.nil,Q4.v Q4.nil,.int .i64 (10)]) ?_ rfl ⟨10,Q4.nil,Q4.nil,rfl,.inl ⟨by decide,rfl,rfl,.inr ⟨HEC.out,rfl,.inl HNO.out⟩⟩,?_⟩
  ·exact Vd (P:=Tryz.prog) rfl _ _ (w.heap.size+1+1+1) (w.heap.size+1+1+1+1) 43 _ _ (0,0) (0,0) _ rfl ((Zl (by omega) _ _ _ _).trans (ZC HKK.out.1 _ _ _ _)) rfl (ZC ((Zl (by omega) _ _ _ _).trans HKK.out.2) _ _ _ _) Tryz.underlying43 rfl rfl rfl _ rfl
  ·exact Zr (Zr HB5.out (by omega) _ _ _ _) (by omega) _ _ _ _
 ·have hno:VA X s.ev s.e:=by
   rcases HCASE.out with⟨h,-⟩|⟨-,-,h⟩|⟨-,h,-⟩
   ·cases h
   ·exact h
   ·cases h
  have HNO:=Hd hno
  have k1':=HKA.out.1
  have k2':=HKA.out.2
  clear hno HCASE
  unfold dsV
  have p0:=(Za (i:=0) k1').trans rfl
  have p1:=(Za (i:=1) k1').trans rfl
  have p2:=(Za (i:=2) k1').trans rfl
  have p3:=(Za (i:=3) k1').trans rfl
  have q0:=(Za (i:=0) k2').trans rfl
  have q1:=(Za (i:=1) k2').trans rfl
  have q2:=(Za (i:=2) k2').trans rfl
  have q3:=(Za (i:=3) k2').trans rfl
  have fp0:w5.frozen? ⟨w.heap.size+1+1+1,0,none⟩=false:=Zb k1'
  have fp1:w5.frozen? ⟨w.heap.size+1+1+1,1,none⟩=false:=Zb k1'
  have fp2:w5.frozen? ⟨w.heap.size+1+1+1,2,none⟩=false:=Zb k1'
  have fp3:w5.frozen? ⟨w.heap.size+1+1+1,3,none⟩=false:=Zb k1'
  have fq0:w5.frozen? ⟨w.heap.size+1+1+1+1,0,none⟩=false:=Zb k2'
  have fq1:w5.frozen? ⟨w.heap.size+1+1+1+1,1,none⟩=false:=Zb k2'
  have fq2:w5.frozen? ⟨w.heap.size+1+1+1+1,2,none⟩=false:=Zb k2'
  have fq3:w5.frozen? ⟨w.heap.size+1+1+1+1,3,none⟩=false:=Zb k2'
  have HKK:=Hd (And.intro k1' k2')
  clear k1' k2'
  go_wp2_with fail
  refine bodyPost_ret (v:= .tuple #[Q4.v Q4.nil,Q4.v Q4.nil,.int .i64 (10)]) ?_ rfl ⟨10,Q4.nil,Q4.nil,rfl,.inl ⟨by decide,rfl,rfl,.inr ⟨HEC.out,rfl,.inr HNO.out⟩⟩,?_⟩
  ·exact Vd (P:=Tryz.prog) rfl _ _ (w.heap.size+1+1+1) (w.heap.size+1+1+1+1) 43 _ _ (0,0) (0,0) _ rfl ((Zl (by omega) _ _ _ _).trans (ZC HKK.out.1 _ _ _ _)) rfl (ZC ((Zl (by omega) _ _ _ _).trans HKK.out.2) _ _ _ _) Tryz.underlying43 rfl rfl rfl _ rfl
  ·exact Zr (Zr HB5.out (by omega) _ _ _ _) (by omega) _ _ _ _
 obtain⟨⟨ql,lo,hi,hkl,hgl,hsl⟩,qe,lo',hi',hke,hge,hse⟩:(∃(q:Nat) (lo hi:List Nat),s.lv=(q:Int)∧Got S q s.l lo hi∧DsAt w2 S q lo hi (rcB q s.l) T1 E1 a1 b1 v1 F1 a2 b2 F2 a3 b3 F3 a4 b4)∧(∃(q:Nat) (lo hi:List Nat),s.ev=(q:Int)∧Got X q s.e lo hi∧DsAt w4 X q lo hi (rcB q s.e) T2 E2 g1 h1 v2 G1 g2 h2 G2 g3 h3 G3 g4 h4):=by
  rcases HCASE.out with⟨h,-⟩|⟨-,h,-⟩|⟨-,-,h,h'⟩
  ·cases h
  ·cases h
  ·exact⟨h,h'⟩
 have HGL:=Hd (show OfOk S X s ql qe lo hi lo' hi' from⟨HEC.out,hkl,hke,hgl,hge⟩)
 have HSVL:Hid (∀W,Below w5.heap.size w5 W→DsAt W S ql lo hi (rcB ql s.l) T1 E1 a1 b1 v1 F1 a2 b2 F2 a3 b3 F3 a4 b4):=Hd fun W hW=>hsl.keep (HV25.out.trans (hW.mono HV25.out.size))
 have HSVE:Hid (∀W,Below w5.heap.size w5 W→DsAt W X qe lo' hi' (rcB qe s.e) T2 E2 g1 h1 v2 G1 g2 h2 G2 g3 h3 G3 g4 h4):=Hd fun W hW=>hse.keep (HV45.out.trans (hW.mono HV45.out.size))
 obtain⟨kl,hkl'⟩: ∃k,(labB s.b).length=k:=⟨_,rfl⟩
 obtain⟨ke,hke'⟩: ∃k,(effB s.b).length=k:=⟨_,rfl⟩
 have HKL:=Hd (show kl≤256 by rw[← hkl'];exact Ua s.b)
 have HKE:=Hd (show ke≤256 by rw[← hke'];exact Nat.le_trans (Ub s.b) (by decide))
 have HLL:=Hd hkl'
 have HLE:=Hd hke'
 have HUL:=Hd (Ky HSA.out.bt)
 have HUE:=Hd (Kz HSA.out.bt)
 have hml:=HML.out
 have hme:=HME.out
 rw[hkl] at hml
 rw[hke] at hme
 have HML2:=Hd hml
 have HME2:=Hd hme
 have hcall:=U7 A n c s.b w5 (HSA.out.keep HB5.out).b HSA.out.bf
 have HCALL:=Hd hcall
 have z2:=(HZ.out.keep HV5.out).z2
 clear HCASE hkl hke hgl hge hsl hse hkl' hke' hml hme hcall HV25 HV45 HML HME
 unfold dsV
 have HW5:=Hd hw5
 rw[← hw5] at z2
 clear hw5
 go_wp2_with fail
 try rw[HW5.out]
 refine HCALL.out.mono ?_
 rintro e w6 ⟨v6,u6,rfl,hT⟩
 obtain⟨E5,g5,rfl⟩:=Zk hT.o2
 obtain⟨E6,g6,rfl⟩:=Zk hT.o3
 have hr1:=Rs.of_own Zu (by decide) hT.o2
 have hr2:=Rs.of_own Zu (by decide) hT.o3
 rw[HLL.out] at hr1
 rw[HLE.out] at hr2
 rw[HLL.out,HLE.out]
 have hv:=hT.bel
 have HR1:=Hd hr1
 have HR2:=Hd hr2
 have HV6:=Hd (HV5.out.trans (hv.mono HV5.out.size))
 have HB6:=Hd (HB5.out.trans (hv.mono HB5.out.size))
 have HX6:=Hd hv
 have HS6:Hid (w6.heap[w2.heap.size]?=some (.cells (dsC T1 E1 a1 b1 v1 F1 a2 b2 F2 a3 b3 F3 a4 b4) 101 (0,0))∧w6.heap[w4.heap.size]?=some (.cells (dsC T2 E2 g1 h1 v2 G1 g2 h2 G2 g3 h3 G3 g4 h4) 101 (0,0))):=Hd ⟨(hv.block _ (Zd HG15.out)).trans HG15.out,(hv.block _ (Zd HG2.out)).trans HG2.out⟩
 have HKP:Hid (∀W W',Below W.heap.size W W'→W.heap[w2.heap.size]?=some (.cells (dsC T1 E1 a1 b1 v1 F1 a2 b2 F2 a3 b3 F3 a4 b4) 101 (0,0))∧W.heap[w4.heap.size]?=some (.cells (dsC T2 E2 g1 h1 v2 G1 g2 h2 G2 g3 h3 G3 g4 h4) 101 (0,0))→W'.heap[w2.heap.size]?=some (.cells (dsC T1 E1 a1 b1 v1 F1 a2 b2 F2 a3 b3 F3 a4 b4) 101 (0,0))∧W'.heap[w4.heap.size]?=some (.cells (dsC T2 E2 g1 h1 v2 G1 g2 h2 G2 g3 h3 G3 g4 h4) 101 (0,0))):=Hd fun W W' hW h=>⟨(hW.block _ (Zd h.1)).trans h.1,(hW.block _ (Zd h.2)).trans h.2⟩
 have HKA6:Hid (w6.heap[w.heap.size+1+1+1]?=some (.cells #[.slice none 0 0,.slice none 0 0,.slice none 0 0,.slice none 0 0] 43 (0,0))∧w6.heap[w.heap.size+1+1+1+1]?=some (.cells #[.slice none 0 0,.slice none 0 0,.slice none 0 0,.slice none 0 0] 43 (0,0))):=Hd ⟨(hv.block _ (Zd HKA.out.1)).trans HKA.out.1,(hv.block _ (Zd HKA.out.2)).trans HKA.out.2⟩
 have HU6:Hid (u.heap.size≤w6.heap.size):=Hd HV6.out.size
 clear hr1 hr2 hv hT z2 HCALL HG15 HG2 HV5 HB5 HKA HW5 HV6
 go_wp2_with fail
 refine wro [0,1,3,4,2,5,6,7,8] [2,5,6,7] 9 (fun w'=>w'.heap[w2.heap.size]?=some (.cells (dsC T1 E1 a1 b1 v1 F1 a2 b2 F2 a3 b3 F3 a4 b4) 101 (0,0))∧w'.heap[w4.heap.size]?=some (.cells (dsC T2 E2 g1 h1 v2 G1 g2 h2 G2 g3 h3 G3 g4 h4) 101 (0,0))) (by kernel_rfl) (fun _ _ _ _ _ h=>h) (HKP.out _ _ (Below.refl _ w6).drew HS6.out) ?_
 simp only[steps,sE,sD]
 repeat((first|refine Zg rfl ?_|(refine Zf (v:= ?_) rfl rfl ?_ ?_;rotate_left;(focus(rintro w' ⟨y0,y1⟩;unfold dsC at y0 y1;have x0:=(Za (i:=0) y0).trans rfl;have x1:=(Za (i:=1) y0).trans rfl;have x2:=(Za (i:=2) y0).trans rfl;have x3:=(Za (i:=3) y0).trans rfl;have x4:=(Za (i:=4) y0).trans rfl;have x5:=(Za (i:=5) y0).trans rfl;have x6:=(Za (i:=0) y1).trans rfl;have x7:=(Za (i:=1) y1).trans rfl;have x8:=(Za (i:=2) y1).trans rfl;have x9:=(Za (i:=3) y1).trans rfl;have x10:=(Za (i:=4) y1).trans rfl;have x11:=(Za (i:=5) y1).trans rfl;go_simp;try with_reducible rfl))));simp only[Act.put,sA,sB,sC])
 have hv:=(Below.refl w6.heap.size w6).drew
 have HS7:=Hd (HKP.out _ _ hv HS6.out)
 have HB7:=Hd (HB6.out.trans (hv.mono HB6.out.size))
 have HX7:=Hd (HX6.out.trans (hv.mono HX6.out.size))
 have HXW:Hid (u.heap.size≤w6.drew.heap.size):=Hd (Nat.le_trans HU6.out hv.size)
 have HR17:=Hd (HR1.out.at_size lR hv)
 have HR27:=Hd (HR2.out.at_size lR hv)
 have HK7:Hid (w6.drew.heap[w.heap.size+1+1+1]?=some (.cells #[.slice none 0 0,.slice none 0 0,.slice none 0 0,.slice none 0 0] 43 (0,0))∧w6.drew.heap[w.heap.size+1+1+1+1]?=some (.cells #[.slice none 0 0,.slice none 0 0,.slice none 0 0,.slice none 0 0] 43 (0,0))):=Hd ⟨(hv.block _ (Zd HKA6.out.1)).trans HKA6.out.1,(hv.block _ (Zd HKA6.out.2)).trans HKA6.out.2⟩
 clear hv HS6 HB6 HX6 HR1 HR2 HKA6 HU6
 generalize w6.drew=w7 at*
 refine Ze rfl rfl (fun K hK=> ?_)
 try unfold dsC
 go_simp
 have hcall:=Ri S ql lo hi (rcB ql s.l) T1 E1 a1 b1 v1 F1 a2 b2 F2 a3 b3 F3 a4 b4 E5 kl g5 (labB s.b) w7 (HSVL.out _ HX7.out) HOS.out HR17.out (Zh6 rfl HML2.out) HUL.out (ZiF s.b) (by have:=HKL.out;omega) (fun p hp=>HOS.out.fit _ (HGL.out.gl.lowH (HML2.out p hp))) (fun p hp=>HOS.out.fit _ (HGL.out.gl.highH (HML2.out p hp)))
 unfold dsV at hcall
 refine hcall.mono ?_
 rintro e w8 ⟨⟨P1,p1,q1,P2,p2,q2,P3,p3,q3,P4,p4,q4⟩,rfl,hto,hv⟩
 have HTA:=Hd hto
 have HB78:=Hd hv
 have HS8:=Hd (HKP.out _ _ hv HS7.out)
 have HB8:=Hd (HB7.out.trans (hv.mono HB7.out.size))
 have HX8:=Hd (HX7.out.trans (hv.mono HX7.out.size))
 have HR28:=Hd (HR27.out.at_size lR hv)
 have HK8:Hid (w8.heap[w.heap.size+1+1+1]?=some (.cells #[.slice none 0 0,.slice none 0 0,.slice none 0 0,.slice none 0 0] 43 (0,0))∧w8.heap[w.heap.size+1+1+1+1]?=some (.cells #[.slice none 0 0,.slice none 0 0,.slice none 0 0,.slice none 0 0] 43 (0,0))):=Hd ⟨(hv.block _ (Zd HK7.out.1)).trans HK7.out.1,(hv.block _ (Zd HK7.out.2)).trans HK7.out.2⟩
 clear hcall hto hv HS7 HB7 HX7 HR17 HR27 HK7
 refine hK.out _ _ (fun _=>HS8.out) ?_
 clear hK K
 try simp only[Act.put,sA,sB,sC]
 repeat((first|refine Zg rfl ?_|(refine Zf (v:= ?_) rfl rfl ?_ ?_;rotate_left;(focus(rintro w' ⟨y0,y1⟩;unfold dsC at y0 y1;have x0:=(Za (i:=0) y0).trans rfl;have x1:=(Za (i:=1) y0).trans rfl;have x2:=(Za (i:=2) y0).trans rfl;have x3:=(Za (i:=3) y0).trans rfl;have x4:=(Za (i:=4) y0).trans rfl;have x5:=(Za (i:=5) y0).trans rfl;have x6:=(Za (i:=0) y1).trans rfl;have x7:=(Za (i:=1) y1).trans rfl;have x8:=(Za (i:=2) y1).trans rfl;have x9:=(Za (i:=3) y1).trans rfl;have x10:=(Za (i:=4) y1).trans rfl;have x11:=(Za (i:=5) y1).trans rfl;go_simp;try with_reducible rfl))));simp only[Act.put,sA,sB,sC])
 refine Ze rfl rfl (fun K hK=> ?_)
 try unfold dsC
 go_simp
 have hcall:=Ri X qe lo' hi' (rcB qe s.e) T2 E2 g1 h1 v2 G1 g2 h2 G2 g3 h3 G3 g4 h4 E6 ke g6 (effB s.b) w8 (HSVE.out _ HX8.out) HOX.out HR28.out (Zh6 rfl HME2.out) HUE.out (ZiG s.b) (by have:=HKE.out;omega) (fun p hp=>HOX.out.fit _ (HGL.out.ge.lowH (HME2.out p hp))) (fun p hp=>HOX.out.fit _ (HGL.out.ge.highH (HME2.out p hp)))
 unfold dsV at hcall
 refine hcall.mono ?_
 rintro e w9 ⟨⟨M1,m11,r1,M2,m12,r2,M3,m13,r3,M4,m14,r4⟩,rfl,hto,hv⟩
 have HTB:=Hd hto
 have HB89:=Hd hv
 have HS9:=Hd (HKP.out _ _ hv HS8.out)
 have HB9:=Hd (HB8.out.trans (hv.mono HB8.out.size))
 have HK9:Hid (w9.heap[w.heap.size+1+1+1]?=some (.cells #[.slice none 0 0,.slice none 0 0,.slice none 0 0,.slice none 0 0] 43 (0,0))∧w9.heap[w.heap.size+1+1+1+1]?=some (.cells #[.slice none 0 0,.slice none 0 0,.slice none 0 0,.slice none 0 0] 43 (0,0))):=Hd ⟨(hv.block _ (Zd HK8.out.1)).trans HK8.out.1,(hv.block _ (Zd HK8.out.2)).trans HK8.out.2⟩
 clear hcall hto hv HS8 HB8 HX8 HR28 HK8
 refine hK.out _ _ (fun _=>HS9.out) ?_
 clear hK K
 try simp only[Act.put,sA,sB,sC]
 repeat((first|refine Zg rfl ?_|(refine Zf (v:= ?_) rfl rfl ?_ ?_;rotate_left;(focus(rintro w' ⟨y0,y1⟩;unfold dsC at y0 y1;have x0:=(Za (i:=0) y0).trans rfl;have x1:=(Za (i:=1) y0).trans rfl;have x2:=(Za (i:=2) y0).trans rfl;have x3:=(Za (i:=3) y0).trans rfl;have x4:=(Za (i:=4) y0).trans rfl;have x5:=(Za (i:=5) y0).trans rfl;have x6:=(Za (i:=0) y1).trans rfl;have x7:=(Za (i:=1) y1).trans rfl;have x8:=(Za (i:=2) y1).trans rfl;have x9:=(Za (i:=3) y1).trans rfl;have x10:=(Za (i:=4) y1).trans rfl;have x11:=(Za (i:=5) y1).trans rfl;go_simp;try with_reducible rfl))));simp only[Act.put,sA,sB,sC])
 unfold Q4.v senV
 have y0:=(Za (i:=0) HK9.out.1).trans rfl
 have y1:=(Za (i:=1) HK9.out.1).trans rfl
 have y2:=(Za (i:=2) HK9.out.1).trans rfl
 have y3:=(Za (i:=3) HK9.out.1).trans rfl
 have f0:w9.frozen? ⟨w.heap.size+1+1+1,0,none⟩=false:=Zb HK9.out.1
 have f1:w9.frozen? ⟨w.heap.size+1+1+1,1,none⟩=false:=Zb HK9.out.1
 have f2:w9.frozen? ⟨w.heap.size+1+1+1,2,none⟩=false:=Zb HK9.out.1
 have f3:w9.frozen? ⟨w.heap.size+1+1+1,3,none⟩=false:=Zb HK9.out.1
 refine Ze rfl rfl (fun K hK=> ?_)
 go_simp
 have HNE:Hid (w2.heap.size≠w.heap.size+1+1+1∧w4.heap.size≠w.heap.size+1+1+1∧w2.heap.size≠w.heap.size+1+1+1+1∧w4.heap.size≠w.heap.size+1+1+1+1):=Hd (by
  have:=HSZ2.out
  have:=HSZ4.out
  have:=HSU.out
  refine⟨?_,?_,?_,?_⟩ <;> omega)
 refine hK.out _ _ (fun _=>⟨(Zl HNE.out.1 _ _ _ _).trans HS9.out.1,(Zl HNE.out.2.1 _ _ _ _).trans HS9.out.2⟩) ?_
 clear hK K y0 y1 y2 y3 f0 f1 f2 f3
 try simp only[Act.put,sA,sB,sC]
 repeat((first|refine Zg rfl ?_|(refine Zf (v:= ?_) rfl rfl ?_ ?_;rotate_left;(focus(rintro w' ⟨y0,y1⟩;unfold dsC at y0 y1;have x0:=(Za (i:=0) y0).trans rfl;have x1:=(Za (i:=1) y0).trans rfl;have x2:=(Za (i:=2) y0).trans rfl;have x3:=(Za (i:=3) y0).trans rfl;have x4:=(Za (i:=4) y0).trans rfl;have x5:=(Za (i:=5) y0).trans rfl;have x6:=(Za (i:=0) y1).trans rfl;have x7:=(Za (i:=1) y1).trans rfl;have x8:=(Za (i:=2) y1).trans rfl;have x9:=(Za (i:=3) y1).trans rfl;have x10:=(Za (i:=4) y1).trans rfl;have x11:=(Za (i:=5) y1).trans rfl;go_simp;try with_reducible rfl))));simp only[Act.put,sA,sB,sC])
 obtain⟨ws,hws⟩: ∃ws,(((w9.setCell ⟨w.heap.size+1+1+1,0,none⟩ (.slice P1 p1 q1)).setCell ⟨w.heap.size+1+1+1,1,none⟩ (.slice P2 p2 q2)).setCell ⟨w.heap.size+1+1+1,2,none⟩ (.slice P3 p3 q3)).setCell ⟨w.heap.size+1+1+1,3,none⟩ (.slice P4 p4 q4)=ws:=⟨_,rfl⟩
 have k2s:ws.heap[w.heap.size+1+1+1+1]?=some (.cells #[.slice none 0 0,.slice none 0 0,.slice none 0 0,.slice none 0 0] 43 (0,0)):=by
  rw[← hws]
  exact(Zl (by omega) (.slice P1 p1 q1) (.slice P2 p2 q2) (.slice P3 p3 q3) (.slice P4 p4 q4)).trans HK9.out.2
 have k1s:ws.heap[w.heap.size+1+1+1]?=some (.cells #[.slice P1 p1 q1,.slice P2 p2 q2,.slice P3 p3 q3,.slice P4 p4 q4] 43 (0,0)):=by
  rw[← hws]
  exact ZC HK9.out.1 (.slice P1 p1 q1) (.slice P2 p2 q2) (.slice P3 p3 q3) (.slice P4 p4 q4)
 have hfar: ∀k,k≠w.heap.size+1+1+1→ws.heap[k]?=w9.heap[k]?:=fun k hk=>by
  rw[← hws]
  exact Zl hk (.slice P1 p1 q1) (.slice P2 p2 q2) (.slice P3 p3 q3) (.slice P4 p4 q4)
 have hbs:Below w.heap.size w ws:=by
  rw[← hws]
  exact Zr (g:=w.heap.size+1+1+1) HB9.out (by omega) (.slice P1 p1 q1) (.slice P2 p2 q2) (.slice P3 p3 q3) (.slice P4 p4 q4)
 rw[hws]
 have HK1S:=Hd k1s
 have HK2S:=Hd k2s
 have HFAR:=Hd hfar
 have HBS:=Hd hbs
 have HSS:Hid (ws.heap[w2.heap.size]?=some (.cells (dsC T1 E1 a1 b1 v1 F1 a2 b2 F2 a3 b3 F3 a4 b4) 101 (0,0))∧ws.heap[w4.heap.size]?=some (.cells (dsC T2 E2 g1 h1 v2 G1 g2 h2 G2 g3 h3 G3 g4 h4) 101 (0,0))):=Hd ⟨(hfar _ HNE.out.1).trans HS9.out.1,(hfar _ HNE.out.2.1).trans HS9.out.2⟩
 have y0:=(Za (i:=0) k2s).trans rfl
 have y1:=(Za (i:=1) k2s).trans rfl
 have y2:=(Za (i:=2) k2s).trans rfl
 have y3:=(Za (i:=3) k2s).trans rfl
 have f0:ws.frozen? ⟨w.heap.size+1+1+1+1,0,none⟩=false:=Zb k2s
 have f1:ws.frozen? ⟨w.heap.size+1+1+1+1,1,none⟩=false:=Zb k2s
 have f2:ws.frozen? ⟨w.heap.size+1+1+1+1,2,none⟩=false:=Zb k2s
 have f3:ws.frozen? ⟨w.heap.size+1+1+1+1,3,none⟩=false:=Zb k2s
 clear hws k1s k2s hfar hbs HS9
 refine Ze rfl rfl (fun K hK=> ?_)
 go_simp
 refine hK.out _ _ (fun _=>⟨(Zl HNE.out.2.2.1 _ _ _ _).trans HSS.out.1,(Zl HNE.out.2.2.2 _ _ _ _).trans HSS.out.2⟩) ?_
 clear hK K y0 y1 y2 y3 f0 f1 f2 f3
 try simp only[Act.put,sA,sB,sC]
 repeat((first|refine Zg rfl ?_|(refine Zf (v:= ?_) rfl rfl ?_ ?_;rotate_left;(focus(rintro w' ⟨y0,y1⟩;unfold dsC at y0 y1;have x0:=(Za (i:=0) y0).trans rfl;have x1:=(Za (i:=1) y0).trans rfl;have x2:=(Za (i:=2) y0).trans rfl;have x3:=(Za (i:=3) y0).trans rfl;have x4:=(Za (i:=4) y0).trans rfl;have x5:=(Za (i:=5) y0).trans rfl;have x6:=(Za (i:=0) y1).trans rfl;have x7:=(Za (i:=1) y1).trans rfl;have x8:=(Za (i:=2) y1).trans rfl;have x9:=(Za (i:=3) y1).trans rfl;have x10:=(Za (i:=4) y1).trans rfl;have x11:=(Za (i:=5) y1).trans rfl;go_simp;try with_reducible rfl))));simp only[Act.put,sA,sB,sC])
 refine Zi ?_
 go_wp2_with fail
 refine bodyPost_ret (v:= .tuple #[Q4.v ⟨P1,p1,q1,P2,p2,q2,P3,p3,q3,P4,p4,q4⟩,Q4.v ⟨M1,m11,r1,M2,m12,r2,M3,m13,r3,M4,m14,r4⟩,.int .i64 0]) ?_ rfl ⟨0,⟨P1,p1,q1,P2,p2,q2,P3,p3,q3,P4,p4,q4⟩,⟨M1,m11,r1,M2,m12,r2,M3,m13,r3,M4,m14,r4⟩,rfl,.inr ⟨rfl,ql,qe,lo,hi,lo',hi',HGL.out,HTA.out _ fun k o hk ho=> ?_,HTB.out _ fun k o hk ho=> ?_⟩,?_⟩
 ·exact Vd (P:=Tryz.prog) rfl _ _ (w.heap.size+1+1+1) (w.heap.size+1+1+1+1) 43 _ _ (0,0) (0,0) _ rfl ((Zl (by omega) _ _ _ _).trans HK1S.out) rfl (ZC HK2S.out _ _ _ _) Tryz.underlying43 rfl rfl rfl _ rfl
 ·have h1:=HSU.out
  have h2:=HXW.out
  exact(Zl (by omega) _ _ _ _).trans ((HFAR.out _ (by omega)).trans ((HB89.out.block _ (Zd ho)).trans ho))
 ·have h1:=HSU.out
  have h2:=HXW.out
  have h3:=HB78.out.size
  exact(Zl (by omega) _ _ _ _).trans ((HFAR.out _ (by omega)).trans ho)
 ·exact Zr HBS.out (by omega) _ _ _ _
end Go.Proofs.YtfmpecnkkbpdlaaGreatDoor
