import Derived.Test.YtmejhedegmjboaaGreatBoRefS
import Derived.Test.YtmejhedegmjboaaGreatOpn
set_option maxRecDepth 100000
set_option maxHeartbeats 4000000
namespace Go.Proofs.YtmejhedegmjboaaGreat
open Go.RowKit
theorem ZdE {P:Program}{fn:Func}{p p2:Tmp}{ty:TypeId}(h:fn.results= #[.cell p ty,.cell p2 ty])(tmps:Array Value)(w:World)(g g2:Nat)(t:TypeId)(cs cs2:Array Value)(fr fr2:Nat×Nat)(d:TypeDesc)
  (hp:tmps.getD p undef= .pointer (some ⟨g,0,none⟩)) (hg:w.heap[g]?=some (.cells cs t fr)) (hp2:tmps.getD p2 undef= .pointer (some ⟨g2,0,none⟩)) (hg2:w.heap[g2]?=some (.cells cs2 t fr2))
  (hu:P.underlying ty=some d) (hd:(match d with| .struct _| .array _ _=>true|_=>false)=true) (hi:(P.info? ty).map (·.size)=some cs.size) (hi2:(P.info? ty).map (·.size)=some cs2.size):
  (results fn tmps).run P w= .ok (.tuple #[.agg cs,.agg cs2]) w:=by
 have hp':tmps[p]?.getD undef= .pointer (some ⟨g,0,none⟩):=by simpa using hp
 have hp2':tmps[p2]?.getD undef= .pointer (some ⟨g2,0,none⟩):=by simpa using hp2
 simp[results,h,hp',hp2',asAddr,run_loadVar_row w g t ty cs fr d hg hu hd hi,run_loadVar_row w g2 t ty cs2 fr2 d hg2 hu hd hi2]
theorem ZmB {w:World}{g:Nat}{A:Option Addr}{n c:Nat}{k:Int}(h:w.heap[g]?=some (.cells #[.slice A n c,.int .i64 k] 24 (0,0))):w.cell? ⟨g,0,none⟩=some (.slice A n c)∧w.cell? ⟨g,1,none⟩=some (.int .i64 k):=⟨(Zb (i:=0) h).trans rfl,(Zb (i:=1) h).trans rfl⟩
theorem st3b {w:World}{g:Nat}{a b c:Value}(h:w.heap[g]?=some (.cells #[a,b,c] 37 (0,0)))(x y z:Value):
  (((w.setCell ⟨g,0,none⟩ x).setCell ⟨g,1,none⟩ y).setCell ⟨g,2,none⟩ z).heap[g]?=some (.cells #[x,y,z] 37 (0,0)):=by
 have h1:=Zm (i:=0) h x
 have h2:=Zm (i:=1) h1 y
 have h3:=Zm (i:=2) h2 z
 simpa using h3
theorem ZeE {w:World}{g b:Nat}(h:b≠g)(x y z:Value):(((w.setCell ⟨g,0,none⟩ x).setCell ⟨g,1,none⟩ y).setCell ⟨g,2,none⟩ z).heap[b]?=w.heap[b]?:=
 (Below.heap_setCell _ _ _ _ h).trans ((Below.heap_setCell _ _ _ _ h).trans (Below.heap_setCell _ _ _ _ h))
def ZSo (w:World)(g:Nat):Prop:=w.heap[g]?=some (.cells #[.int .i64 0,.slice none 0 0,.int .i64 0] 37 (0,0))
theorem ZSo.keep {w W:World}{g:Nat}(h:ZSo w g)(hb:Below w.heap.size w W):ZSo W g:=(hb.block g (Zh h)).trans h
theorem Zjz (A:Option Addr)(n c:Nat)(k:Int)(rows:List Nat)(w:World)(h:Rd La.nm w w.heap.size A n c rows)(hf:La.Fit rows):
  Calls Tryz.prog 11 #[zV A n c k] w fun e w'=> ∃t1 B1 m1 d1 e1 t2 B2 m2 d2 e2,e= .returned (.tuple #[Bo.rsV t1 B1 m1 d1 e1,Bo.rsV t2 B2 m2 d2 e2])∧Bo.RSrt w.heap.size w' t1 B1 m1 d1 e1 (laOf rows)∧Bo.RSrt w.heap.size w' t2 B2 m2 d2 e2 (efOf k)∧Below w.heap.size w w':=by
 have HR:=Hd h
 have HF:=Hd hf
 have hzb:Below w.heap.size w (w.alloc (.cells #[.slice A n c,.int .i64 k] 24)):=bA
 have hz:=ZmB (heap_alloc_new w (.cells #[.slice A n c,.int .i64 k] 24))
 obtain⟨wa,hwa⟩: ∃wa,w.alloc (.cells #[.slice A n c,.int .i64 k] 24)=wa:=⟨_,rfl⟩
 rw[hwa] at hz hzb
 have hsa:wa.heap.size=w.heap.size+1:=by rw[← hwa,World.size_alloc]
 have hy1:ZSo (wa.alloc (.cells #[.int .i64 0,.slice none 0 0,.int .i64 0] 37)) wa.heap.size:=heap_alloc_new wa _
 obtain⟨wb,hwb⟩: ∃wb,wa.alloc (.cells #[.int .i64 0,.slice none 0 0,.int .i64 0] 37)=wb:=⟨_,rfl⟩
 have hbb:Below wa.heap.size wa wb:=hwb▸bA
 have hsb:wb.heap.size=w.heap.size+1+1:=by rw[← hwb,World.size_alloc,hsa]
 rw[hwb,hsa] at hy1
 have hy2:ZSo (wb.alloc (.cells #[.int .i64 0,.slice none 0 0,.int .i64 0] 37)) wb.heap.size:=heap_alloc_new wb _
 obtain⟨w1,hw1⟩: ∃w1,wb.alloc (.cells #[.int .i64 0,.slice none 0 0,.int .i64 0] 37)=w1:=⟨_,rfl⟩
 have hbc:Below wb.heap.size wb w1:=hw1▸bA
 rw[hw1,hsb] at hy2
 replace hy1:=hy1.keep hbc
 have hac:=hbb.trans (hbc.mono hbb.size)
 have hz0:=Za hz.1 hac
 have hz1:=Za hz.2 hac
 have hb:=hzb.trans (hac.mono hzb.size)
 have HB:=Hd hb
 have hS:Hid (∀W,Below w1.heap.size w1 W→W.cell? ⟨w.heap.size,0,none⟩=some (.slice A n c)∧W.cell? ⟨w.heap.size,1,none⟩=some (.int .i64 k)):=Hd fun W hW=>⟨Za hz0 hW,Za hz1 hW⟩
 clear hzb hz hsa hbb hsb hbc hac hz0 hz1 hb h hf
 subst hwa hwb
 unfold zV
 go_enter Tryz.func11,Tryz.ntmps11
 go_wp2_with fail
 try rw[hw1]
 clear hw1
 refine wro [0,1,3,4,2,5,6,7] [2,5,6,7] 8 (fun W=>W.cell? ⟨w.heap.size,0,none⟩=some (.slice A n c)∧W.cell? ⟨w.heap.size,1,none⟩=some (.int .i64 k)) (by kernel_rfl) (fun _ _ _ _ _ h=>h) (hS.out _ (Below.refl _ w1).drew) ?_
 simp only[steps,sE,sD]
 repeat((first|refine Zf rfl ?_|(refine Zd (v:= ?_) rfl rfl ?_ ?_;rotate_left;(focus(rintro w' ⟨x0,x1⟩;go_simp;try with_reducible rfl))));simp only[Act.put,sA,sB,sC])
 have hv:Below w1.heap.size w1 w1.drew:=(Below.refl _ _).drew
 have HV:=Hd hv
 replace hy1:=hy1.keep hv
 replace hy2:=hy2.keep hv
 clear hv
 generalize w1.drew=w2 at*
 refine Ze rfl rfl (fun K hK=> ?_)
 go_simp
 have HB2:=Hd (HB.out.trans (HV.out.mono HB.out.size))
 refine(Bo.YG A n c rows w2 w.heap.size HB2.out.size (HR.out.below HB2.out) HF.out).mono ?_
 rintro e w3 ⟨t1,B1,m1,d1,e1,rfl,hr1,hv⟩
 have HR1:=Hd hr1
 have HV3:=Hd (HV.out.trans (hv.mono HV.out.size))
 replace hy1:=hy1.keep hv
 replace hy2:=hy2.keep hv
 clear hr1 hv
 refine hK.out _ _ (fun _=>hS.out _ HV3.out) ?_
 clear hK K
 try simp only[Act.put,sA,sB,sC]
 refine Ze rfl rfl (fun K hK=> ?_)
 go_simp
 refine(Bo.ZbZ k w3).mono ?_
 rintro e w4 ⟨t2,B2,m2,d2,e2,rfl,hr2,hv⟩
 have HR2:=Hd (hr2 w.heap.size)
 have HR1':=Hd (HR1.out.below (hv.mono (HB.out.trans (HV3.out.mono HB.out.size)).size))
 have HV4:=Hd (HV3.out.trans (hv.mono HV3.out.size))
 replace hy1:=hy1.keep hv
 replace hy2:=hy2.keep hv
 clear hr2 hv HR1
 refine hK.out _ _ (fun _=>hS.out _ HV4.out) ?_
 clear hK K
 try simp only[Act.put,sA,sB,sC]
 unfold Bo.rsV
 have HB4:=Hd (HB.out.trans (HV4.out.mono HB.out.size))
 have o0:w4.cell? ⟨w.heap.size+1,0,none⟩=some (.int .i64 0):=by rw[Zb hy1];rfl
 have o1:w4.cell? ⟨w.heap.size+1,1,none⟩=some (.slice none 0 0):=by rw[Zb hy1];rfl
 have o2:w4.cell? ⟨w.heap.size+1,2,none⟩=some (.int .i64 0):=by rw[Zb hy1];rfl
 have f0:w4.frozen? ⟨w.heap.size+1,0,none⟩=false:=Zc hy1
 have f1:w4.frozen? ⟨w.heap.size+1,1,none⟩=false:=Zc hy1
 have f2:w4.frozen? ⟨w.heap.size+1,2,none⟩=false:=Zc hy1
 have hz4:=hS.out _ HV4.out
 refine Ze rfl rfl (fun K hK=> ?_)
 go_simp
 obtain⟨w5,hw5⟩: ∃w5,w5=((w4.setCell ⟨w.heap.size+1,0,none⟩ (.int .i64 (t1:Int))).setCell ⟨w.heap.size+1,1,none⟩ (.slice B1 m1 d1)).setCell ⟨w.heap.size+1,2,none⟩ (.int .i64 (e1:Int)):=⟨_,rfl⟩
 have hk1:w5.heap[w.heap.size+1]?=some (.cells #[.int .i64 (t1:Int),.slice B1 m1 d1,.int .i64 (e1:Int)] 37 (0,0)):=hw5▸st3b hy1 _ _ _
 have hk2:ZSo w5 (w.heap.size+1+1):=(hw5▸ZeE (by omega) _ _ _:w5.heap[w.heap.size+1+1]?=w4.heap[w.heap.size+1+1]?).trans hy2
 have hb5:Below (w.heap.size+1) w4 w5:=hw5▸(((Below.refl _ w4).setCell (p:=⟨w.heap.size+1,0,none⟩) lR _).setCell (p:=⟨w.heap.size+1,1,none⟩) lR _).setCell (p:=⟨w.heap.size+1,2,none⟩) lR _
 have hz5:w5.cell? ⟨w.heap.size,0,none⟩=some (.slice A n c)∧w5.cell? ⟨w.heap.size,1,none⟩=some (.int .i64 k):=⟨(hb5.cell (p:=⟨w.heap.size,0,none⟩) (Nat.lt_succ_self _)).trans hz4.1,(hb5.cell (p:=⟨w.heap.size,1,none⟩) (Nat.lt_succ_self _)).trans hz4.2⟩
 have hb50:Below w.heap.size w4 w5:=⟨hb5.os,hb5.tape,hb5.output,hb5.size,fun b hb=>hb5.block b (by omega)⟩
 have HR15:=Hd (HR1'.out.below hb50)
 have HR25:=Hd (HR2.out.below hb50)
 have HB5:=Hd (HB4.out.trans hb50)
 rw[← hw5]
 clear hw5 o0 o1 o2 f0 f1 f2 hy1 hy2 hb5 hb50 hz4 HR1' HR2 HV3 HV4 HV HB4
 refine hK.out _ _ (fun _=>hz5) ?_
 clear hK K
 try simp only[Act.put,sA,sB,sC]
 have o0:w5.cell? ⟨w.heap.size+1+1,0,none⟩=some (.int .i64 0):=by rw[Zb hk2];rfl
 have o1:w5.cell? ⟨w.heap.size+1+1,1,none⟩=some (.slice none 0 0):=by rw[Zb hk2];rfl
 have o2:w5.cell? ⟨w.heap.size+1+1,2,none⟩=some (.int .i64 0):=by rw[Zb hk2];rfl
 have f0:w5.frozen? ⟨w.heap.size+1+1,0,none⟩=false:=Zc hk2
 have f1:w5.frozen? ⟨w.heap.size+1+1,1,none⟩=false:=Zc hk2
 have f2:w5.frozen? ⟨w.heap.size+1+1,2,none⟩=false:=Zc hk2
 refine Ze rfl rfl (fun K hK=> ?_)
 go_simp
 obtain⟨w6,hw6⟩: ∃w6,w6=((w5.setCell ⟨w.heap.size+1+1,0,none⟩ (.int .i64 (t2:Int))).setCell ⟨w.heap.size+1+1,1,none⟩ (.slice B2 m2 d2)).setCell ⟨w.heap.size+1+1,2,none⟩ (.int .i64 (e2:Int)):=⟨_,rfl⟩
 have hk62:w6.heap[w.heap.size+1+1]?=some (.cells #[.int .i64 (t2:Int),.slice B2 m2 d2,.int .i64 (e2:Int)] 37 (0,0)):=hw6▸st3b hk2 _ _ _
 have hk61:w6.heap[w.heap.size+1]?=some (.cells #[.int .i64 (t1:Int),.slice B1 m1 d1,.int .i64 (e1:Int)] 37 (0,0)):=(hw6▸ZeE (by omega) _ _ _:w6.heap[w.heap.size+1]?=w5.heap[w.heap.size+1]?).trans hk1
 have hb6:Below (w.heap.size+1+1) w5 w6:=hw6▸(((Below.refl _ w5).setCell (p:=⟨w.heap.size+1+1,0,none⟩) lR _).setCell (p:=⟨w.heap.size+1+1,1,none⟩) lR _).setCell (p:=⟨w.heap.size+1+1,2,none⟩) lR _
 have hz6:w6.cell? ⟨w.heap.size,0,none⟩=some (.slice A n c)∧w6.cell? ⟨w.heap.size,1,none⟩=some (.int .i64 k):=⟨(hb6.cell (p:=⟨w.heap.size,0,none⟩) (by show w.heap.size < w.heap.size+1+1;omega)).trans hz5.1,(hb6.cell (p:=⟨w.heap.size,1,none⟩) (by show w.heap.size < w.heap.size+1+1;omega)).trans hz5.2⟩
 have hb60:Below w.heap.size w5 w6:=⟨hb6.os,hb6.tape,hb6.output,hb6.size,fun b hb=>hb6.block b (by omega)⟩
 have HR16:=Hd (HR15.out.below hb60)
 have HR26:=Hd (HR25.out.below hb60)
 have HB6:=Hd (HB5.out.trans hb60)
 rw[← hw6]
 clear hw6 o0 o1 o2 f0 f1 f2 hk1 hk2 hb6 hb60 hz5 HR15 HR25 HB5
 refine hK.out _ _ (fun _=>hz6) ?_
 clear hK K hz6
 try simp only[Act.put,sA,sB,sC]
 refine Zg ?_
 go_wp2_with fail
 exact bodyPost_ret (ZdE (P:=Tryz.prog) rfl _ _ (w.heap.size+1) (w.heap.size+1+1) 37 _ _ (0,0) (0,0) _ rfl hk61 rfl hk62 Tryz.underlying37 rfl rfl rfl) rfl ⟨t1,B1,m1,d1,e1,t2,B2,m2,d2,e2,rfl,HR16.out,HR26.out,HB6.out⟩
end Go.Proofs.YtmejhedegmjboaaGreat
