import Derived.Deep.DeepCutAuto
import Derived.Test.YtfmpecnkkbpdlaaGreatDoorDsC
import Derived.Test.YtfmpecnkkbpdlaaGreatDoorOfs
import Derived.Test.YtfmpecnkkbpdlaaGreatDoorRefPut
set_option maxRecDepth 100000
set_option maxHeartbeats 16000000
namespace Go.Proofs.YtfmpecnkkbpdlaaGreatDoor
open Go.RowKit
theorem ZeZ {w:World}{b:Nat}{o:Obj}(h:w.heap[b]?=some o):b < w.heap.size:=(Array.getElem?_eq_some_iff.1 h).1
structure SpC (w:World)(b o:Nat)(s:Nat)(v:Bool)(z:Nat):Prop where
 s:w.cell? ⟨b,o+2,none⟩=some (.int .u8 (s:Int))
 v:w.cell? ⟨b,o+3,none⟩=some (.bool v)
 z:w.cell? ⟨b,o+4,none⟩=some (.int .u64 (z:Int))
structure SrAt (w:World)(g t:Nat)(A:Option Addr)(n c m:Nat)(A1:Option Addr)(n1 c1:Nat)(A2:Option Addr)(n2 c2:Nat)(A3:Option Addr)(n3 c3:Nat)(b o o' s:Nat)(v:Bool)(z s':Nat)(v':Bool)(z':Nat):Prop where
 d0:w.cell? ⟨g,0,none⟩=some (.int .i64 (t:Int))
 d1:w.cell? ⟨g,1,none⟩=some (.slice A n c)
 d2:w.cell? ⟨g,2,none⟩=some (.int .i64 (m:Int))
 d3:w.cell? ⟨g,3,none⟩=some (.slice A1 n1 c1)
 d4:w.cell? ⟨g,4,none⟩=some (.slice A2 n2 c2)
 d5:w.cell? ⟨g,5,none⟩=some (.slice A3 n3 c3)
 s:w.cell? ⟨b,o+2,none⟩=some (.int .u8 (s:Int))
 v:w.cell? ⟨b,o+3,none⟩=some (.bool v)
 z:w.cell? ⟨b,o+4,none⟩=some (.int .u64 (z:Int))
 s':w.cell? ⟨b,o'+2,none⟩=some (.int .u8 (s':Int))
 v':w.cell? ⟨b,o'+3,none⟩=some (.bool v')
 z':w.cell? ⟨b,o'+4,none⟩=some (.int .u64 (z':Int))
theorem Zi8 {S:Bo.Sr}{lo hi:List Nat}{rc:Nat→Nat→Bool}{p q:Sp}{zp zq:Nat}(hp:p.z=(zp:Int))(hq:q.z=(zq:Int)):belS S lo hi rc p q=(!decide (p.s=0) && (!decide (q.s=1) && alwT S lo hi rc p.v zp q.v zq)):=by
 unfold belS alw alwT tmL
 rw[hp,hq]
 rfl
theorem Yf {W:World}{b0 sz n q:Nat}{E:TypeId}{v:Value}{xs:List Value}{x0 x1 x2 x3:Value}(hne:E≠43)(h:W.ownsRow b0 E sz v n xs)(hq:W.heap[q]?=some (.cells #[x0,x1,x2,x3] 43 (0,0)))(a b c d:Value):(set4 W q a b c d).ownsRow b0 E sz v n xs:=by
 unfold set4
 exact ZF hne (ZF hne (ZF hne (ZF hne h hq) (Zj hq a)) (Zj (Zj hq a) b)) (Zj (Zj (Zj hq a) b) c)
theorem Zbn {W W':World}{b0 sz n:Nat}{E:TypeId}{v:Value}{xs:List Value}(h:W.ownsRow b0 E sz v n xs)(hk: ∀k o,b0≤k→W.heap[k]?=some o→W'.heap[k]?=some o):W'.ownsRow b0 E sz v n xs:=
 RQ h fun g _ e hc=>hk g _ (Zw h e).1 hc
def Zkq (w w':World)(z:Sen)(p:Q4):Prop:= ∀W:World,(∀k o,w.heap.size≤k→w'.heap[k]?=some o→W.heap[k]?=some o)→YD W z p
theorem SnAt.done {w0:World}{g5:Nat}{cs:Array Value}{l:List Sp}{P:Option Addr}{np cp:Nat}{gs:List (Option Addr×Nat×Nat)}{vL vH vB:Value}{wr:World}{S:Bo.Sr}{lo hi:List Nat}{rc:Nat→Nat→Bool}(h:SnAt w0 w0.heap.size g5 cs l P np cp (l.map (lowS S lo)) (l.map (ZR S hi)) gs gs (l.map fun p=>l.map (belS S lo hi rc p)) vL vH vB wr)(hz: ∀p∈l,U64 p.z)(h1: ∀p∈l,lowS S lo p < 18446744073709551616)(h2: ∀p∈l,ZR S hi p < 18446744073709551616):
  ∃p:Q4,p.v= .agg #[.slice P np cp,vL,vH,vB]∧Zkq w0 (set4 wr (w0.heap.size+1) (.slice P np cp) vL vH vB) (senS S lo hi rc l) p:=by
 obtain⟨A2,c2,rfl⟩:=Zk h.oL
 obtain⟨A3,c3,rfl⟩:=Zk h.oH
 obtain⟨A4,c4,rfl⟩:=Zk h.oB
 have o1:=Yf (by decide) h.sp h.zr (.slice P np cp) (.slice A2 (l.map (lowS S lo)).length c2) (.slice A3 (l.map (ZR S hi)).length c3) (.slice A4 gs.length c4)
 have o2:=Yf (by decide) h.oL h.zr (.slice P np cp) (.slice A2 (l.map (lowS S lo)).length c2) (.slice A3 (l.map (ZR S hi)).length c3) (.slice A4 gs.length c4)
 have o3:=Yf (by decide) h.oH h.zr (.slice P np cp) (.slice A2 (l.map (lowS S lo)).length c2) (.slice A3 (l.map (ZR S hi)).length c3) (.slice A4 gs.length c4)
 have o4:=Yf (by decide) h.oB h.zr (.slice P np cp) (.slice A2 (l.map (lowS S lo)).length c2) (.slice A3 (l.map (ZR S hi)).length c3) (.slice A4 gs.length c4)
 rw[ZhT] at o2 o3
 rw[ZhV] at o4
 refine⟨⟨P,np,cp,A2,_,c2,A3,_,c3,A4,_,c4⟩,rfl,fun W hW=>⟨Rs.of_own Zu (by decide) (Zbn o1 hW),Rd.of_own (Zbn o2 hW),Rd.of_own (Zbn o3 hW),⟨gs,Rd.of_own (Zbn o4 hW),h.gl,fun i hi1 hi2=> ?_⟩,hz,?_,?_⟩⟩
 ·have o5:=Zbn (Yf (by decide) (h.rows i hi1 hi2) h.zr (.slice P np cp) (.slice A2 (l.map (lowS S lo)).length c2) (.slice A3 (l.map (ZR S hi)).length c3) (.slice A4 gs.length c4)) hW
  rw[ZhU] at o5
  have e:gs[i].2.1=((l.map fun p=>l.map (belS S lo hi rc p))[i]).length:=by
   obtain⟨A,c,e⟩:=Zk o5
   injection e
  unfold slc at o5
  rw[← e] at o5
  exact Rd.of_own o5
 ·intro x hx
  obtain⟨p,hp,rfl⟩:=List.mem_map.1 hx
  exact h1 p hp
 ·intro x hx
  obtain⟨p,hp,rfl⟩:=List.mem_map.1 hx
  exact h2 p hp
theorem Ri (S:Bo.Sr)(q:Nat)(lo hi:List Nat)(rc:Nat→Nat→Bool)(t:Nat)(A:Option Addr)(n c m:Nat)(A1:Option Addr)(n1 c1:Nat)(A2:Option Addr)(n2 c2:Nat)(A3:Option Addr)(n3 c3:Nat)(E1:Option Addr)(N d4:Nat)(l:List Sp)(w:World)(h:DsAt w S q lo hi rc t A n c m A1 n1 c1 A2 n2 c2 A3 n3 c3)(hS:S.Ok)(hl:Rs spc 5 w w.heap.size E1 N d4 l)(ht: ∀p∈l,okT q p.v p.z.toNat)(hz: ∀p∈l,U64 p.z)(hs: ∀p∈l,p.s≤2)(hn:N≤1000)(hl1: ∀p∈l,lowS S lo p < 18446744073709551616)(hl2: ∀p∈l,ZR S hi p < 18446744073709551616):
  Calls Tryz.prog 33 #[dsV t A n c m A1 n1 c1 A2 n2 c2 A3 n3 c3,.slice E1 N d4] w fun e w'=> ∃p:Q4,e= .returned (Q4.v p)∧Zkq w w' (senS S lo hi rc l) p∧Below w.heap.size w w':=by
 have HLEN:=Hd hl.len
 have HN:=Hd hn
 have HS:=Hd hs
 have HZ:=Hd hz
 have HT:=Hd ht
 have HOK:=Hd hS
 have HF1:=Hd hl1
 have HF2:=Hd hl2
 have HDS:Hid (∀W,Below w.heap.size w W→DsAt W S q lo hi rc t A n c m A1 n1 c1 A2 n2 c2 A3 n3 c3):=Hd fun W hW=>h.keep hW
 have HSPC:Hid (∀i,i < N→ ∃(b o s:Nat) (v:Bool) (z:Nat) (p:Sp),E1=some ⟨b,o,none⟩∧(l[i]?=some p∧p.s=s∧p.v=v∧p.z=(z:Int))∧s≤2∧okT q v z∧z < 18446744073709551616∧ ∀W,Below w.heap.size w W→SpC W b (o+i*5) s v z):=Hd fun i hi=>by
  have hi':i < l.length:=by rw[hl.len];exact hi
  obtain⟨b,o,e,-,-,-,e2,e3,e4⟩:=Vp hl hi'
  have hu:=hz _ (List.getElem_mem hi')
  obtain⟨z,hzz⟩: ∃z:Nat,l[i].z=(z:Int):=⟨l[i].z.toNat,by have:=hu.lo;omega⟩
  rw[hzz] at e4
  have ho:=ht _ (List.getElem_mem hi')
  rw[hzz,Int.toNat_natCast] at ho
  have hhi:=hu.hi
  rw[hzz] at hhi
  exact⟨b,o,l[i].s,l[i].v,z,l[i],e,⟨List.getElem?_eq_getElem hi',rfl,rfl,hzz⟩,hs _ (List.getElem_mem hi'),ho,by omega,fun W hW=>⟨Zc e2 hW,Zc e3 hW,Zc e4 hW⟩⟩
 unfold dsV
 have HRS:=Hd hl
 obtain⟨x1,hx1⟩: ∃x,w.alloc (.cells #[.int .i64 (t:Int),.slice A n c,.int .i64 (m:Int),.slice A1 n1 c1,.slice A2 n2 c2,.slice A3 n3 c3] 101)=x:=⟨_,rfl⟩
 obtain⟨x2,hx2⟩: ∃x,x1.alloc (.cells #[.slice none 0 0,.slice none 0 0,.slice none 0 0,.slice none 0 0] 43)=x:=⟨_,rfl⟩
 have b0:Below w.heap.size w x1:=hx1▸bA
 have sx:x1.heap.size=w.heap.size+1:=by rw[← hx1,World.size_alloc]
 have b1:Below x1.heap.size x1 x2:=hx2▸bA
 have sx2:x2.heap.size=w.heap.size+1+1:=by rw[← hx2,World.size_alloc,sx]
 have k0:x2.heap[w.heap.size]?=some (.cells #[.int .i64 (t:Int),.slice A n c,.int .i64 (m:Int),.slice A1 n1 c1,.slice A2 n2 c2,.slice A3 n3 c3] 101 (0,0)):=(b1.block _ (by rw[sx];omega)).trans (hx1▸heap_alloc_new w _)
 have k1:x2.heap[w.heap.size+1]?=some (.cells #[.slice none 0 0,.slice none 0 0,.slice none 0 0,.slice none 0 0] 43 (0,0)):=by rw[← sx, ← hx2];exact heap_alloc_new x1 _
 have hb:Below w.heap.size w x2:=b0.trans (b1.mono b0.size)
 have HB:=Hd hb
 have HK:=Hd (And.intro k0 k1)
 have hrs2:=hl.at_size lR hb
 have hx2s:w.heap.size≤x2.heap.size:=by omega
 have HSX2:=Hd sx2
 clear b0 b1 sx k0 k1 hb h hS hl ht hz hs sx2 hl1 hl2
 subst hx1
 go_enter Tryz.func33,Tryz.ntmps33
 go_wp2_with (at_builtin;refine Zm (enc:=spc) (sz:=5) (bytes:=32) (t:=40) (E:=119) Zu (by decide) Vo Tryz.underlying40 Zio rfl (by decide) rfl (.const (.slice none 0 0)) (.tmp 11) rfl w.heap.size (.slice none 0 0) 0 [] rfl (World.ownsRow_nil _ _ _ _) _ E1 N d4 l rfl hrs2 (by omega) hx2s ?_;intro P np cp W1 hk1 ha1)
 obtain⟨v0,hv0⟩: ∃v,W1.alloc (.cells #[.slice P np cp,.slice none 0 0,.slice none 0 0,.slice none 0 0] 43)=v:=⟨_,rfl⟩
 have hgr:=ha1.out.grown
 have kw: ∀b o,x2.heap[b]?=some o→v0.heap[b]?=some o:=fun b o hb=>by
  rw[← hv0]
  have h1:W1.heap[b]?=some o:=(hgr.block b (ZeZ hb) (by simp[Value.ownBlock])).trans hb
  exact(Below.heap_alloc _ _ _ (ZeZ h1)).trans h1
 have hnp:np=N:=by have:=hk1.out;omega
 subst hnp
 obtain⟨g5,hg5⟩: ∃g,W1.heap.size=g:=⟨_,rfl⟩
 have hw1s:w.heap.size+1 < g5:=by have:=hgr.size;have:=HSX2.out;omega
 have hown0:v0.ownsRow w.heap.size 119 5 (.slice P np cp) np (l.flatMap spc):=by
  have h1:=ha1.out.own.alloc (.cells #[.slice P np cp,.slice none 0 0,.slice none 0 0,.slice none 0 0] 43)
  rw[hv0] at h1
  simpa using h1
 have hout:v0.heap[g5]?=some (.cells #[.slice P np cp,.slice none 0 0,.slice none 0 0,.slice none 0 0] 43 (0,0)):=by
  rw[← hg5, ← hv0]
  exact heap_alloc_new W1 _
 have hbel:Below w.heap.size w v0:=by
  rw[← hv0]
  exact(HB.out.grown hgr hx2s (by simp[Value.ownBlock])).alloc (by have:=HB.out.size;have:=hgr.size;omega) _
 have HSN:Hid (SnAt w w.heap.size g5 #[.int .i64 (t:Int),.slice A n c,.int .i64 (m:Int),.slice A1 n1 c1,.slice A2 n2 c2,.slice A3 n3 c3] l P np cp [] [] [] [] [] (.slice none 0 0) (.slice none 0 0) (.slice none 0 0) v0):=Hd ⟨kw _ _ HK.out.1,kw _ _ HK.out.2,hout,hw1s,hown0,World.ownsRow_nil _ _ _ _,World.ownsRow_nil _ _ _ _,World.ownsRow_nil _ _ _ _,rfl,(fun j h=>absurd h (Nat.not_lt_zero j)),(fun b e=>by cases e),hbel⟩
 have HG5:=Hd hg5
 clear hgr kw hown0 hout hbel hrs2 hx2s hk1 ha1 HK HSX2 HB hw1s
 try rw[hv0]
 try rw[hg5]
 clear hv0 hg5
 go_loopw [6] (fun v6 wr=> ∃(i:Nat) (gs:List (Option Addr×Nat×Nat)) (vL vH vB:Value),v6= .int .i64 (i:Int)∧i≤np∧gs.length=i∧SnAt w w.heap.size g5 #[.int .i64 (t:Int),.slice A n c,.int .i64 (m:Int),.slice A1 n1 c1,.slice A2 n2 c2,.slice A3 n3 c3] l P np cp ((l.take i).map (lowS S lo)) ((l.take i).map (ZR S hi)) gs gs ((l.take i).map fun p=>l.map (belS S lo hi rc p)) vL vH vB wr) (fun v6 _=>np - (intOf v6).toNat)
 case atStart=>exact⟨0,[],_,_,_,rfl,Nat.zero_le _,rfl,HSN.out⟩
 case round=>
  clear HSN
  obtain⟨i,gs,vL,vH,vB,rfl,hile,hgs,hsn⟩:=hrel
  have HGS:=Hd hgs
  have HSN:=Hd hsn
  by_cases hlt:i < np
  ·obtain⟨b,o,s,v,z,p,rfl,⟨hil,es,ev,ez⟩,hs2,hok,hzf,hsp⟩:=HSPC.out i hlt
   have HSP:=Hd hsp
   have HEQ:=Hd (And.intro es (And.intro ev ez))
   have HOKT:=Hd hok
   have HZF:=Hd hzf
   have HIL:=Hd hil
   have HLT:=Hd hlt
   have hd:=D6.blk hsn.bx
   have d0:=hd.s0
   have d1:=hd.s1
   have d2:=hd.s2
   have hcall:=Bo.RV t A n c m S wr (HDS.out wr hsn.bel).s
   unfold Bo.rsV at hcall
   have HCALL:=Hd hcall
   have hin:(i:Int) < (np:Int):=by omega
   obtain⟨bo,hbo⟩: ∃x,S.bot=x:=⟨_,rfl⟩
   rw[hbo] at HCALL
   have HBO:=Hd hbo
   clear hsn hsp es ev ez hok hzf hd hcall hlt hile hgs hbo
   go_wp2_with fail
   refine HCALL.out.mono ?_
   rintro e wa ⟨rfl,hv⟩
   have HSA:=Hd (HSN.out.keep hv HSN.out.size)
   clear hv d0 d1 d2 HCALL HSN
   have HSwa:=HSA
   clear HSA
   obtain⟨lw,hlw⟩: ∃x,lowS S lo p=x:=⟨_,rfl⟩
   obtain⟨hw,hhw⟩: ∃x,ZR S hi p=x:=⟨_,rfl⟩
   obtain⟨tp,hto⟩: ∃x,S.top=x:=⟨_,rfl⟩
   have HLW:=Hd hlw
   have HHW:=Hd hhw
   have HTO:=Hd hto
   clear hlw hhw hto
   have hside: ∀W,Below w.heap.size w W→W.cell? ⟨b,o+i*5+2,none⟩=some (.int .u8 (s:Int)):=fun W hW=>(HSP.out W hW).s
   have HSD:=Hd hside
   have hs3:s=0∨s=1∨s=2:=by omega
   have HSS2:Hid (s≤2):=Hd (by omega)
   clear hside
   have c0:=HSD.out _ HSwa.out.bel
   rcases hs3 with hs|hs|hs
   (focus(
    have hn1:((s:Int) !=1)=true:=by rw[hs];rfl
    have hn0:((s:Int) !=0)=false:=by rw[hs];rfl
    have hvl:Bo.vl lo v z=lw:=by
     rw[← HLW.out]
     unfold lowS tmL
     rw[HEQ.out.1,if_neg (by omega),HEQ.out.2.1,HEQ.out.2.2]
     rfl
    obtain rfl:hw=tp:=by
     rw[← HTO.out, ← HHW.out]
     unfold ZR
     rw[HEQ.out.1,if_pos hs]
    have HSS:=Hd hs
    clear hs
    have HCL:Hid (∀W,Below wa.heap.size wa W→Calls Tryz.prog 121 #[.agg #[.int .i64 (t:Int),.slice A n c,.int .i64 (m:Int),.slice A1 n1 c1,.slice A2 n2 c2,.slice A3 n3 c3],.agg #[.bool v,.int .u64 (z:Int)]] W fun e w'=>e= .returned (.int .u64 (lw:Int))∧Below W.heap.size W w'):=Hd fun W hW=>YE v z S q lo hi rc t A n c m A1 n1 c1 A2 n2 c2 A3 n3 c3 W (HDS.out W (HSwa.out.bel.trans (hW.mono HSwa.out.size))) HOKT.out HZF.out lw hvl
    have HSR:Hid (∀W,Below wa.heap.size wa W→D6 W w.heap.size t A n c m A1 n1 c1 A2 n2 c2 A3 n3 c3∧SpC W b (o+i*5) s v z):=Hd fun W hW=>⟨D6.blk (HSwa.out.keep hW HSwa.out.size).bx,HSP.out W (HSwa.out.bel.trans (hW.mono HSwa.out.size))⟩
    have HD:=Hd (Below.refl wa.heap.size wa).drew
    go_wp2_with fail
    refine wro [0,1,2,3,4,5,6,7] [6] 8 (fun W=>D6 W w.heap.size t A n c m A1 n1 c1 A2 n2 c2 A3 n3 c3∧SpC W b (o+i*5) s v z) (by kernel_rfl) (fun _ _ _ _ _ h=>h) (HSR.out _ HD.out) ?_
    simp only[steps,sE,sD]
    repeat((first|refine Zg rfl ?_|(refine Zf (v:= ?_) rfl rfl ?_ ?_;rotate_left;(focus(rintro w' ⟨⟨x0,x1,x2,x3,x4,x5⟩,x6,x7,x8⟩;go_simp;try with_reducible rfl))));simp only[Act.put,sA,sB,sC])
    generalize wa.drew=wd at*
    refine Ze rfl rfl (fun K hK=> ?_)
    go_simp
    refine(HCL.out _ HD.out).mono ?_
    rintro e wb ⟨rfl,hv⟩
    have HE:=Hd (HD.out.trans (hv.mono HD.out.size))
    clear hv
    refine hK.out _ _ (fun _=>HSR.out _ HE.out) ?_
    clear hK K
    try simp only[Act.put,sA,sB,sC]
    repeat((first|refine Zg rfl ?_|(refine Zf (v:= ?_) rfl rfl ?_ ?_;rotate_left;(focus(rintro w' ⟨⟨x0,x1,x2,x3,x4,x5⟩,x6,x7,x8⟩;go_simp;try with_reducible rfl))));simp only[Act.put,sA,sB,sC])
    refine Zi ?_
    have HSwb:=Hd (HSwa.out.keep HE.out HSwa.out.size)
    clear HCL HSR HD HE HSwa
    clear c0 hvl
    have hd:=D6.blk HSwb.out.bx
    have d0:=hd.s0
    have d1:=hd.s1
    have d2:=hd.s2
    have hcall:=Bo.Kq t A n c m S wb (HDS.out wb HSwb.out.bel).s
    unfold Bo.rsV at hcall
    rw[HTO.out] at hcall
    have HCALL:=Hd hcall
    clear hcall hd
    go_wp2_with fail
    refine HCALL.out.mono ?_
    rintro e wz ⟨rfl,hv⟩
    have HSwz:=Hd (HSwb.out.keep hv HSwb.out.size)
    clear hv d0 d1 d2 HCALL HSwb
    have c0:=HSD.out _ HSwz.out.bel
    go_wp2_with fail
    clear c0 hn1 hn0))
   rotate_left
   (focus(
    have hn1:((s:Int) !=1)=false:=by rw[hs];rfl
    have hn0:((s:Int) !=0)=true:=by rw[hs];rfl
    obtain rfl:lw=bo:=by
     rw[← HBO.out, ← HLW.out]
     unfold lowS
     rw[HEQ.out.1,if_pos hs]
    have hvl:Bo.vl hi v z=hw:=by
     rw[← HHW.out]
     unfold ZR tmL
     rw[HEQ.out.1,if_neg (by omega),HEQ.out.2.1,HEQ.out.2.2]
     rfl
    have HSS:=Hd hs
    clear hs
    have hd:=D6.blk HSwa.out.bx
    have d0:=hd.s0
    have d1:=hd.s1
    have d2:=hd.s2
    have hcall:=Bo.Kq t A n c m S wa (HDS.out wa HSwa.out.bel).s
    unfold Bo.rsV at hcall
    rw[HTO.out] at hcall
    have HCALL:=Hd hcall
    clear hcall hd
    go_wp2_with fail
    refine HCALL.out.mono ?_
    rintro e wb ⟨rfl,hv⟩
    have HSwb:=Hd (HSwa.out.keep hv HSwa.out.size)
    clear hv d0 d1 d2 HCALL HSwa
    clear c0
    have c0:=HSD.out _ HSwb.out.bel
    have HCL:Hid (∀W,Below wb.heap.size wb W→Calls Tryz.prog 123 #[.agg #[.int .i64 (t:Int),.slice A n c,.int .i64 (m:Int),.slice A1 n1 c1,.slice A2 n2 c2,.slice A3 n3 c3],.agg #[.bool v,.int .u64 (z:Int)]] W fun e w'=>e= .returned (.int .u64 (hw:Int))∧Below W.heap.size W w'):=Hd fun W hW=>Uc v z S q lo hi rc t A n c m A1 n1 c1 A2 n2 c2 A3 n3 c3 W (HDS.out W (HSwb.out.bel.trans (hW.mono HSwb.out.size))) HOKT.out HZF.out hw hvl
    have HSR:Hid (∀W,Below wb.heap.size wb W→D6 W w.heap.size t A n c m A1 n1 c1 A2 n2 c2 A3 n3 c3∧SpC W b (o+i*5) s v z):=Hd fun W hW=>⟨D6.blk (HSwb.out.keep hW HSwb.out.size).bx,HSP.out W (HSwb.out.bel.trans (hW.mono HSwb.out.size))⟩
    have HD:=Hd (Below.refl wb.heap.size wb).drew
    go_wp2_with fail
    refine wro [0,1,2,3,4,5,6,7] [6] 8 (fun W=>D6 W w.heap.size t A n c m A1 n1 c1 A2 n2 c2 A3 n3 c3∧SpC W b (o+i*5) s v z) (by kernel_rfl) (fun _ _ _ _ _ h=>h) (HSR.out _ HD.out) ?_
    simp only[steps,sE,sD]
    repeat((first|refine Zg rfl ?_|(refine Zf (v:= ?_) rfl rfl ?_ ?_;rotate_left;(focus(rintro w' ⟨⟨x0,x1,x2,x3,x4,x5⟩,x6,x7,x8⟩;go_simp;try with_reducible rfl))));simp only[Act.put,sA,sB,sC])
    generalize wb.drew=wd at*
    refine Ze rfl rfl (fun K hK=> ?_)
    go_simp
    refine(HCL.out _ HD.out).mono ?_
    rintro e wz ⟨rfl,hv⟩
    have HE:=Hd (HD.out.trans (hv.mono HD.out.size))
    clear hv
    refine hK.out _ _ (fun _=>HSR.out _ HE.out) ?_
    clear hK K
    try simp only[Act.put,sA,sB,sC]
    repeat((first|refine Zg rfl ?_|(refine Zf (v:= ?_) rfl rfl ?_ ?_;rotate_left;(focus(rintro w' ⟨⟨x0,x1,x2,x3,x4,x5⟩,x6,x7,x8⟩;go_simp;try with_reducible rfl))));simp only[Act.put,sA,sB,sC])
    refine Zi ?_
    have HSwz:=Hd (HSwb.out.keep HE.out HSwb.out.size)
    clear HCL HSR HD HE HSwb
    clear hvl
    go_wp2_with fail
    clear c0 hn1 hn0))
   rotate_left
   (focus(
    have hn1:((s:Int) !=1)=true:=by rw[hs];rfl
    have hn0:((s:Int) !=0)=true:=by rw[hs];rfl
    have hvl:Bo.vl lo v z=lw:=by
     rw[← HLW.out]
     unfold lowS tmL
     rw[HEQ.out.1,if_neg (by omega),HEQ.out.2.1,HEQ.out.2.2]
     rfl
    have hvh:Bo.vl hi v z=hw:=by
     rw[← HHW.out]
     unfold ZR tmL
     rw[HEQ.out.1,if_neg (by omega),HEQ.out.2.1,HEQ.out.2.2]
     rfl
    have HSS:=Hd hs
    clear hs
    have HCL:Hid (∀W,Below wa.heap.size wa W→Calls Tryz.prog 121 #[.agg #[.int .i64 (t:Int),.slice A n c,.int .i64 (m:Int),.slice A1 n1 c1,.slice A2 n2 c2,.slice A3 n3 c3],.agg #[.bool v,.int .u64 (z:Int)]] W fun e w'=>e= .returned (.int .u64 (lw:Int))∧Below W.heap.size W w'):=Hd fun W hW=>YE v z S q lo hi rc t A n c m A1 n1 c1 A2 n2 c2 A3 n3 c3 W (HDS.out W (HSwa.out.bel.trans (hW.mono HSwa.out.size))) HOKT.out HZF.out lw hvl
    have HSR:Hid (∀W,Below wa.heap.size wa W→D6 W w.heap.size t A n c m A1 n1 c1 A2 n2 c2 A3 n3 c3∧SpC W b (o+i*5) s v z):=Hd fun W hW=>⟨D6.blk (HSwa.out.keep hW HSwa.out.size).bx,HSP.out W (HSwa.out.bel.trans (hW.mono HSwa.out.size))⟩
    have HD:=Hd (Below.refl wa.heap.size wa).drew
    go_wp2_with fail
    refine wro [0,1,2,3,4,5,6,7] [6] 8 (fun W=>D6 W w.heap.size t A n c m A1 n1 c1 A2 n2 c2 A3 n3 c3∧SpC W b (o+i*5) s v z) (by kernel_rfl) (fun _ _ _ _ _ h=>h) (HSR.out _ HD.out) ?_
    simp only[steps,sE,sD]
    repeat((first|refine Zg rfl ?_|(refine Zf (v:= ?_) rfl rfl ?_ ?_;rotate_left;(focus(rintro w' ⟨⟨x0,x1,x2,x3,x4,x5⟩,x6,x7,x8⟩;go_simp;try with_reducible rfl))));simp only[Act.put,sA,sB,sC])
    generalize wa.drew=wd at*
    refine Ze rfl rfl (fun K hK=> ?_)
    go_simp
    refine(HCL.out _ HD.out).mono ?_
    rintro e wb ⟨rfl,hv⟩
    have HE:=Hd (HD.out.trans (hv.mono HD.out.size))
    clear hv
    refine hK.out _ _ (fun _=>HSR.out _ HE.out) ?_
    clear hK K
    try simp only[Act.put,sA,sB,sC]
    repeat((first|refine Zg rfl ?_|(refine Zf (v:= ?_) rfl rfl ?_ ?_;rotate_left;(focus(rintro w' ⟨⟨x0,x1,x2,x3,x4,x5⟩,x6,x7,x8⟩;go_simp;try with_reducible rfl))));simp only[Act.put,sA,sB,sC])
    refine Zi ?_
    have HSwb:=Hd (HSwa.out.keep HE.out HSwa.out.size)
    clear HCL HSR HD HE HSwa
    clear c0 hvl
    have hd:=D6.blk HSwb.out.bx
    have d0:=hd.s0
    have d1:=hd.s1
    have d2:=hd.s2
    have hcall:=Bo.Kq t A n c m S wb (HDS.out wb HSwb.out.bel).s
    unfold Bo.rsV at hcall
    rw[HTO.out] at hcall
    have HCALL:=Hd hcall
    clear hcall hd
    go_wp2_with fail
    refine HCALL.out.mono ?_
    rintro e wc ⟨rfl,hv⟩
    have HSwc:=Hd (HSwb.out.keep hv HSwb.out.size)
    clear hv d0 d1 d2 HCALL HSwb
    have c0:=HSD.out _ HSwc.out.bel
    have HCL:Hid (∀W,Below wc.heap.size wc W→Calls Tryz.prog 123 #[.agg #[.int .i64 (t:Int),.slice A n c,.int .i64 (m:Int),.slice A1 n1 c1,.slice A2 n2 c2,.slice A3 n3 c3],.agg #[.bool v,.int .u64 (z:Int)]] W fun e w'=>e= .returned (.int .u64 (hw:Int))∧Below W.heap.size W w'):=Hd fun W hW=>Uc v z S q lo hi rc t A n c m A1 n1 c1 A2 n2 c2 A3 n3 c3 W (HDS.out W (HSwc.out.bel.trans (hW.mono HSwc.out.size))) HOKT.out HZF.out hw hvh
    have HSR:Hid (∀W,Below wc.heap.size wc W→D6 W w.heap.size t A n c m A1 n1 c1 A2 n2 c2 A3 n3 c3∧SpC W b (o+i*5) s v z):=Hd fun W hW=>⟨D6.blk (HSwc.out.keep hW HSwc.out.size).bx,HSP.out W (HSwc.out.bel.trans (hW.mono HSwc.out.size))⟩
    have HD:=Hd (Below.refl wc.heap.size wc).drew
    go_wp2_with fail
    refine wro [0,1,2,3,4,5,6,7] [6] 8 (fun W=>D6 W w.heap.size t A n c m A1 n1 c1 A2 n2 c2 A3 n3 c3∧SpC W b (o+i*5) s v z) (by kernel_rfl) (fun _ _ _ _ _ h=>h) (HSR.out _ HD.out) ?_
    simp only[steps,sE,sD]
    repeat((first|refine Zg rfl ?_|(refine Zf (v:= ?_) rfl rfl ?_ ?_;rotate_left;(focus(rintro w' ⟨⟨x0,x1,x2,x3,x4,x5⟩,x6,x7,x8⟩;go_simp;try with_reducible rfl))));simp only[Act.put,sA,sB,sC])
    generalize wc.drew=wd at*
    refine Ze rfl rfl (fun K hK=> ?_)
    go_simp
    refine(HCL.out _ HD.out).mono ?_
    rintro e wz ⟨rfl,hv⟩
    have HE:=Hd (HD.out.trans (hv.mono HD.out.size))
    clear hv
    refine hK.out _ _ (fun _=>HSR.out _ HE.out) ?_
    clear hK K
    try simp only[Act.put,sA,sB,sC]
    repeat((first|refine Zg rfl ?_|(refine Zf (v:= ?_) rfl rfl ?_ ?_;rotate_left;(focus(rintro w' ⟨⟨x0,x1,x2,x3,x4,x5⟩,x6,x7,x8⟩;go_simp;try with_reducible rfl))));simp only[Act.put,sA,sB,sC])
    refine Zi ?_
    have HSwz:=Hd (HSwc.out.keep HE.out HSwc.out.size)
    clear HCL HSR HD HE HSwc
    clear hvh
    go_wp2_with fail
    clear c0 hn1 hn0))
   rotate_left
   all_goals(
    obtain⟨row,hrow⟩: ∃r,l.map (belS S lo hi rc p)=r:=⟨_,rfl⟩
    have HROW:=Hd hrow
    have HRL:Hid (row.length=np):=Hd (by rw[← hrow,List.length_map];exact HLEN.out)
    clear hrow
    go_loopw [9,10] (fun v9 v10 wq=> ∃(k:Nat) (A':Option Addr) (c':Nat),v10= .int .i64 (k:Int)∧v9= .slice A' k c'∧k≤np∧wq.ownsRow wz.heap.size 4 1 (.slice A' k c') k ((row.take k).flatMap bl1)∧Below wz.heap.size wz wq) (fun v9 v10 _=>np - (intOf v10).toNat)
    case atStart=>exact⟨0,none,0,rfl,rfl,Nat.zero_le _,World.ownsRow_nil _ _ _ _,Below.refl _ _⟩
    case round=>
     obtain⟨k,A',c',rfl,rfl,hk,hown,hb⟩:=hrel
     have HOW:=Hd hown
     have HBW:=Hd hb
     by_cases hlk:k < np
     ·obtain⟨b',o',s',v',z',p',he,⟨hkl,es',ev',ez'⟩,hs2',hok',hzf',hsp'⟩:=HSPC.out k hlk
      injection he with he
      injection he with he1 he2
      subst he1 he2
      have HLK:=Hd hlk
      have hwz:=HSwz.out.size
      have HSR:Hid (∀W,Below wz.heap.size wz W→SrAt W w.heap.size t A n c m A1 n1 c1 A2 n2 c2 A3 n3 c3 b (o+i*5) (o+k*5) s v z s' v' z'):=Hd fun W hW=>by
       have hw:=HSwz.out.bel.trans (hW.mono hwz)
       have hd:=D6.blk (HSwz.out.keep hW hwz).bx
       have h1:=HSP.out W hw
       have h2:=hsp' W hw
       exact⟨hd.s0,hd.s1,hd.s2,hd.s3,hd.s4,hd.s5,h1.s,h1.v,h1.z,h2.s,h2.v,h2.z⟩
      obtain⟨x,hx⟩: ∃x,alwT S lo hi rc v z v' z'=x:=⟨_,rfl⟩
      have HCA:Hid (∀W,Below wz.heap.size wz W→Calls Tryz.prog 124 #[.agg #[.int .i64 (t:Int),.slice A n c,.int .i64 (m:Int),.slice A1 n1 c1,.slice A2 n2 c2,.slice A3 n3 c3],.agg #[.bool v,.int .u64 (z:Int)],.agg #[.bool v',.int .u64 (z':Int)]] W fun e w'=>e= .returned (.bool x)∧Below W.heap.size W w'):=Hd fun W hW=>Zcg v z v' z' S q lo hi rc t A n c m A1 n1 c1 A2 n2 c2 A3 n3 c3 W (HDS.out W (HSwz.out.bel.trans (hW.mono hwz))) HOKT.out hok' HZF.out hzf' x hx
      have hval:belS S lo hi rc p p'=(!decide (s=0) && (!decide (s'=1) && x)):=by
       rw[Zi8 HEQ.out.2.2 ez',HEQ.out.1,HEQ.out.2.1,es',ev',hx]
      have hrk:row[k]?=some (belS S lo hi rc p p'):=by
       rw[← HROW.out,List.getElem?_map,hkl]
       rfl
      have HIK:Hid (i=k→s=s'):=Hd fun e=>by
       subst e
       have h1:=HIL.out
       rw[hkl] at h1
       injection h1 with h1
       rw[← HEQ.out.1, ← es',h1]
      have HD:Hid (Below wz.heap.size wz wr.drew):=Hd (hb.trans ((Below.refl wr.heap.size wr).drew.mono hb.size))
      have HOD:Hid (wr.drew.ownsRow wz.heap.size 4 1 (.slice A' k c') k ((row.take k).flatMap bl1)):=Hd hown.drew
      have hin1:(i:Int) < (np:Int):=by have:=HLT.out;omega
      have hin2:(k:Int) < (np:Int):=by omega
      rw[hval] at hrk
      have HVL:=Hd hrk
      clear hkl es' ev' ez' hs2' hok' hzf' hsp' hx hval hrk hwz hown hb hlk hk
      by_cases g1:s=0
      ·have f1:((s:Int) !=0)=false:=by rw[show((s:Int) !=0)= !decide (s=0) from int_ne s 0];simp[g1]
       have f2:True:=trivial
       have f3:True:=trivial
       have f4:True:=trivial
       have HRK:Hid (row[k]?=some false):=Hd (by rw[HVL.out,decide_eq_true g1];rfl)
       clear g1 HVL HIK HCA
       go_wp2_with fail
       refine wro [0,1,2,3,4,5,6,7,8,9,10,11,12,13,14,15,16,17,18,19,20,21,22,23,24,25,26,27,28,29,30,31,32,33,34,35,36,37,38,39,40,41,42,43,44] [40,42,43] 45 (fun W=>SrAt W w.heap.size t A n c m A1 n1 c1 A2 n2 c2 A3 n3 c3 b (o+i*5) (o+k*5) s v z s' v' z') (by kernel_rfl) (fun _ _ _ _ _ h=>h) (HSR.out _ HD.out) ?_
       simp only[steps,sE,sD]
       repeat((first|refine Zg rfl ?_|(refine Zf (v:= ?_) rfl rfl ?_ ?_;rotate_left;(focus(rintro w' ⟨y0,y1,y2,y3,y4,y5,y6,y7,y8,y9,y10,y11⟩;go_simp;try with_reducible rfl))));simp only[Act.put,sA,sB,sC])
       generalize wr.drew=wd at*
       obtain⟨we,hwe⟩: ∃we,we=wd:=⟨_,rfl⟩
       have HE:Hid (Below wz.heap.size wz we):=Hd (hwe▸HD.out)
       have HOE:=Hd (hwe▸HOD.out)
       rw[← hwe]
       clear hwe
       have HF:Hid (Below wz.heap.size wz (we.alloc (.cells #[.bool false] 4))):=Hd (HE.out.alloc HE.out.size _)
       have hownE:=HOE.out.alloc (.cells #[.bool false] 4)
       have hrE:Rs bl1 1 (we.alloc (.cells #[.bool false] 4)) (we.alloc (.cells #[.bool false] 4)).heap.size (some ⟨we.heap.size,0,none⟩) 1 1 [false]:=Rs.of_blk (fun _=>rfl) (heap_alloc_new we _) ⟨[],rfl⟩ rfl lR (by unfold maxLen;omega)
       refine Ze rfl rfl (fun K hK=> ?_)
       go_simp
       refine hK.out _ _ (fun _=>HSR.out _ HF.out) ?_
       clear hK K
       try simp only[Act.put,sA,sB,sC]
       refine Ze rfl rfl (fun K hK=> ?_)
       refine Bo.VX (enc:=bl1) (sz:=1) (bytes:=1) (t:=78) (E:=4) (fun _=>rfl) (by decide) Za1 Tryz.underlying78 Re.inf4 rfl (by decide) (.tmp 58) (.tmp 100) rfl wz.heap.size (.slice A' k c') k (row.take k) rfl hownE _ (some ⟨we.heap.size,0,none⟩) 1 1 [false] rfl hrE (by have:=HLK.out;have:=HN.out;omega) HF.out.size ?_
       intro A8 k8 c8 wf hk8 ha8
       have HG:Hid (Below wz.heap.size wz wf):=Hd (HF.out.grown ha8.out.grown HF.out.size (fun j hj=>(hownE.lt j hj).1))
       have HO8:Hid (k8=k+1∧wf.ownsRow wz.heap.size 4 1 (.slice A8 k8 c8) k8 ((row.take (k+1)).flatMap bl1)):=Hd ⟨hk8.out,by rw[List.take_add_one,HRK.out];exact ha8.out.own⟩
       clear hownE hrE hk8 ha8
       refine hK.out _ _ (fun _=>HSR.out _ HG.out) ?_
       clear hK K
       try simp only[Act.put,sA,sB,sC]
       repeat((first|refine Zg rfl ?_|(refine Zf (v:= ?_) rfl rfl ?_ ?_;rotate_left;(focus(rintro w' ⟨y0,y1,y2,y3,y4,y5,y6,y7,y8,y9,y10,y11⟩;go_simp;try with_reducible rfl))));simp only[Act.put,sA,sB,sC])
       refine Zi ?_
       have hkb:k≤100000:=by have:=HLK.out;have:=HN.out;omega
       clear f1 f2 f3 f4 hin1 hin2
       go_wp2_with fail
       go_roundw
       case rel=>
        obtain⟨e8,o8⟩:=HO8.out
        subst e8
        exact⟨k+1,A8,c8,by go_num,rfl,HLK.out,o8,HG.out⟩
       case measure=>
        have:=HLK.out
        simp[intOf]
        omega
      by_cases g2:s'=1
      ·have f1:((s:Int) !=0)=true:=by rw[show((s:Int) !=0)= !decide (s=0) from int_ne s 0];simp[g1]
       have f2:((s':Int) !=1)=false:=by rw[show((s':Int) !=1)= !decide (s'=1) from int_ne s' 1];simp[g2]
       have f3:True:=trivial
       have f4:True:=trivial
       have HRK:Hid (row[k]?=some false):=Hd (by rw[HVL.out,decide_eq_true g2];simp)
       clear g1 g2 HVL HIK HCA
       go_wp2_with fail
       refine wro [0,1,2,3,4,5,6,7,8,9,10,11,12,13,14,15,16,17,18,19,20,21,22,23,24,25,26,27,28,29,30,31,32,33,34,35,36,37,38,39,40,41,42,43,44] [40,42,43] 45 (fun W=>SrAt W w.heap.size t A n c m A1 n1 c1 A2 n2 c2 A3 n3 c3 b (o+i*5) (o+k*5) s v z s' v' z') (by kernel_rfl) (fun _ _ _ _ _ h=>h) (HSR.out _ HD.out) ?_
       simp only[steps,sE,sD]
       repeat((first|refine Zg rfl ?_|(refine Zf (v:= ?_) rfl rfl ?_ ?_;rotate_left;(focus(rintro w' ⟨y0,y1,y2,y3,y4,y5,y6,y7,y8,y9,y10,y11⟩;go_simp;try with_reducible rfl))));simp only[Act.put,sA,sB,sC])
       generalize wr.drew=wd at*
       obtain⟨we,hwe⟩: ∃we,we=wd:=⟨_,rfl⟩
       have HE:Hid (Below wz.heap.size wz we):=Hd (hwe▸HD.out)
       have HOE:=Hd (hwe▸HOD.out)
       rw[← hwe]
       clear hwe
       have HF:Hid (Below wz.heap.size wz (we.alloc (.cells #[.bool false] 4))):=Hd (HE.out.alloc HE.out.size _)
       have hownE:=HOE.out.alloc (.cells #[.bool false] 4)
       have hrE:Rs bl1 1 (we.alloc (.cells #[.bool false] 4)) (we.alloc (.cells #[.bool false] 4)).heap.size (some ⟨we.heap.size,0,none⟩) 1 1 [false]:=Rs.of_blk (fun _=>rfl) (heap_alloc_new we _) ⟨[],rfl⟩ rfl lR (by unfold maxLen;omega)
       refine Ze rfl rfl (fun K hK=> ?_)
       go_simp
       refine hK.out _ _ (fun _=>HSR.out _ HF.out) ?_
       clear hK K
       try simp only[Act.put,sA,sB,sC]
       refine Ze rfl rfl (fun K hK=> ?_)
       refine Bo.VX (enc:=bl1) (sz:=1) (bytes:=1) (t:=78) (E:=4) (fun _=>rfl) (by decide) Za1 Tryz.underlying78 Re.inf4 rfl (by decide) (.tmp 58) (.tmp 100) rfl wz.heap.size (.slice A' k c') k (row.take k) rfl hownE _ (some ⟨we.heap.size,0,none⟩) 1 1 [false] rfl hrE (by have:=HLK.out;have:=HN.out;omega) HF.out.size ?_
       intro A8 k8 c8 wf hk8 ha8
       have HG:Hid (Below wz.heap.size wz wf):=Hd (HF.out.grown ha8.out.grown HF.out.size (fun j hj=>(hownE.lt j hj).1))
       have HO8:Hid (k8=k+1∧wf.ownsRow wz.heap.size 4 1 (.slice A8 k8 c8) k8 ((row.take (k+1)).flatMap bl1)):=Hd ⟨hk8.out,by rw[List.take_add_one,HRK.out];exact ha8.out.own⟩
       clear hownE hrE hk8 ha8
       refine hK.out _ _ (fun _=>HSR.out _ HG.out) ?_
       clear hK K
       try simp only[Act.put,sA,sB,sC]
       repeat((first|refine Zg rfl ?_|(refine Zf (v:= ?_) rfl rfl ?_ ?_;rotate_left;(focus(rintro w' ⟨y0,y1,y2,y3,y4,y5,y6,y7,y8,y9,y10,y11⟩;go_simp;try with_reducible rfl))));simp only[Act.put,sA,sB,sC])
       refine Zi ?_
       have hkb:k≤100000:=by have:=HLK.out;have:=HN.out;omega
       clear f1 f2 f3 f4 hin1 hin2
       go_wp2_with fail
       go_roundw
       case rel=>
        obtain⟨e8,o8⟩:=HO8.out
        subst e8
        exact⟨k+1,A8,c8,by go_num,rfl,HLK.out,o8,HG.out⟩
       case measure=>
        have:=HLK.out
        simp[intOf]
        omega
      have f1:((s:Int) !=0)=true:=by rw[show((s:Int) !=0)= !decide (s=0) from int_ne s 0];simp[g1]
      have f2:((s':Int) !=1)=true:=by rw[show((s':Int) !=1)= !decide (s'=1) from int_ne s' 1];simp[g2]
      have HRK:Hid (row[k]?=some x):=Hd (by rw[HVL.out,decide_eq_false g1,decide_eq_false g2];rfl)
      by_cases g3:i=k
      ·have f3:((i:Int) !=(k:Int))=false:=by rw[int_ne,decide_eq_true g3];rfl
       have f4:((s:Int)==2)=true:=by
        have h1:=HIK.out g3
        have h2:s=2:=by have:=HSS2.out;omega
        rw[h2]
        rfl
       clear g1 g2 g3 HVL HIK
       go_wp2_with fail
       refine wro [0,1,2,3,4,5,6,7,8,9,10,11,12,13,14,15,16,17,18,19,20,21,22,23,24,25,26,27,28,29,30,31,32,33,34,35,36,37,38,39,40,41,42,43,44] [40,42,43] 45 (fun W=>SrAt W w.heap.size t A n c m A1 n1 c1 A2 n2 c2 A3 n3 c3 b (o+i*5) (o+k*5) s v z s' v' z') (by kernel_rfl) (fun _ _ _ _ _ h=>h) (HSR.out _ HD.out) ?_
       simp only[steps,sE,sD]
       repeat((first|refine Zg rfl ?_|(refine Zf (v:= ?_) rfl rfl ?_ ?_;rotate_left;(focus(rintro w' ⟨y0,y1,y2,y3,y4,y5,y6,y7,y8,y9,y10,y11⟩;go_simp;try with_reducible rfl))));simp only[Act.put,sA,sB,sC])
       generalize wr.drew=wd at*
       refine Ze rfl rfl (fun K hK=> ?_)
       go_simp
       refine(HCA.out _ HD.out).mono ?_
       rintro e we ⟨rfl,hv⟩
       have HE:=Hd (HD.out.trans (hv.mono HD.out.size))
       have HOE:=Hd (Z5 HOD.out hv)
       clear hv
       refine hK.out _ _ (fun _=>HSR.out _ HE.out) ?_
       clear hK K
       try simp only[Act.put,sA,sB,sC]
       repeat((first|refine Zg rfl ?_|(refine Zf (v:= ?_) rfl rfl ?_ ?_;rotate_left;(focus(rintro w' ⟨y0,y1,y2,y3,y4,y5,y6,y7,y8,y9,y10,y11⟩;go_simp;try with_reducible rfl))));simp only[Act.put,sA,sB,sC])
       have HF:Hid (Below wz.heap.size wz (we.alloc (.cells #[.bool x] 4))):=Hd (HE.out.alloc HE.out.size _)
       have hownE:=HOE.out.alloc (.cells #[.bool x] 4)
       have hrE:Rs bl1 1 (we.alloc (.cells #[.bool x] 4)) (we.alloc (.cells #[.bool x] 4)).heap.size (some ⟨we.heap.size,0,none⟩) 1 1 [x]:=Rs.of_blk (fun _=>rfl) (heap_alloc_new we _) ⟨[],rfl⟩ rfl lR (by unfold maxLen;omega)
       refine Ze rfl rfl (fun K hK=> ?_)
       go_simp
       refine hK.out _ _ (fun _=>HSR.out _ HF.out) ?_
       clear hK K
       try simp only[Act.put,sA,sB,sC]
       refine Ze rfl rfl (fun K hK=> ?_)
       refine Bo.VX (enc:=bl1) (sz:=1) (bytes:=1) (t:=78) (E:=4) (fun _=>rfl) (by decide) Za1 Tryz.underlying78 Re.inf4 rfl (by decide) (.tmp 58) (.tmp 100) rfl wz.heap.size (.slice A' k c') k (row.take k) rfl hownE _ (some ⟨we.heap.size,0,none⟩) 1 1 [x] rfl hrE (by have:=HLK.out;have:=HN.out;omega) HF.out.size ?_
       intro A8 k8 c8 wf hk8 ha8
       have HG:Hid (Below wz.heap.size wz wf):=Hd (HF.out.grown ha8.out.grown HF.out.size (fun j hj=>(hownE.lt j hj).1))
       have HO8:Hid (k8=k+1∧wf.ownsRow wz.heap.size 4 1 (.slice A8 k8 c8) k8 ((row.take (k+1)).flatMap bl1)):=Hd ⟨hk8.out,by rw[List.take_add_one,HRK.out];exact ha8.out.own⟩
       clear hownE hrE hk8 ha8
       refine hK.out _ _ (fun _=>HSR.out _ HG.out) ?_
       clear hK K
       try simp only[Act.put,sA,sB,sC]
       repeat((first|refine Zg rfl ?_|(refine Zf (v:= ?_) rfl rfl ?_ ?_;rotate_left;(focus(rintro w' ⟨y0,y1,y2,y3,y4,y5,y6,y7,y8,y9,y10,y11⟩;go_simp;try with_reducible rfl))));simp only[Act.put,sA,sB,sC])
       refine Zi ?_
       have hkb:k≤100000:=by have:=HLK.out;have:=HN.out;omega
       clear f1 f2 f3 f4 hin1 hin2
       go_wp2_with fail
       go_roundw
       case rel=>
        obtain⟨e8,o8⟩:=HO8.out
        subst e8
        exact⟨k+1,A8,c8,by go_num,rfl,HLK.out,o8,HG.out⟩
       case measure=>
        have:=HLK.out
        simp[intOf]
        omega
      ·have f3:((i:Int) !=(k:Int))=true:=by rw[int_ne,decide_eq_false g3];rfl
       have f4:True:=trivial
       clear g1 g2 g3 HVL HIK
       go_wp2_with fail
       refine wro [0,1,2,3,4,5,6,7,8,9,10,11,12,13,14,15,16,17,18,19,20,21,22,23,24,25,26,27,28,29,30,31,32,33,34,35,36,37,38,39,40,41,42,43,44] [40,42,43] 45 (fun W=>SrAt W w.heap.size t A n c m A1 n1 c1 A2 n2 c2 A3 n3 c3 b (o+i*5) (o+k*5) s v z s' v' z') (by kernel_rfl) (fun _ _ _ _ _ h=>h) (HSR.out _ HD.out) ?_
       simp only[steps,sE,sD]
       repeat((first|refine Zg rfl ?_|(refine Zf (v:= ?_) rfl rfl ?_ ?_;rotate_left;(focus(rintro w' ⟨y0,y1,y2,y3,y4,y5,y6,y7,y8,y9,y10,y11⟩;go_simp;try with_reducible rfl))));simp only[Act.put,sA,sB,sC])
       generalize wr.drew=wd at*
       refine Ze rfl rfl (fun K hK=> ?_)
       go_simp
       refine(HCA.out _ HD.out).mono ?_
       rintro e we ⟨rfl,hv⟩
       have HE:=Hd (HD.out.trans (hv.mono HD.out.size))
       have HOE:=Hd (Z5 HOD.out hv)
       clear hv
       refine hK.out _ _ (fun _=>HSR.out _ HE.out) ?_
       clear hK K
       try simp only[Act.put,sA,sB,sC]
       repeat((first|refine Zg rfl ?_|(refine Zf (v:= ?_) rfl rfl ?_ ?_;rotate_left;(focus(rintro w' ⟨y0,y1,y2,y3,y4,y5,y6,y7,y8,y9,y10,y11⟩;go_simp;try with_reducible rfl))));simp only[Act.put,sA,sB,sC])
       have HF:Hid (Below wz.heap.size wz (we.alloc (.cells #[.bool x] 4))):=Hd (HE.out.alloc HE.out.size _)
       have hownE:=HOE.out.alloc (.cells #[.bool x] 4)
       have hrE:Rs bl1 1 (we.alloc (.cells #[.bool x] 4)) (we.alloc (.cells #[.bool x] 4)).heap.size (some ⟨we.heap.size,0,none⟩) 1 1 [x]:=Rs.of_blk (fun _=>rfl) (heap_alloc_new we _) ⟨[],rfl⟩ rfl lR (by unfold maxLen;omega)
       refine Ze rfl rfl (fun K hK=> ?_)
       go_simp
       refine hK.out _ _ (fun _=>HSR.out _ HF.out) ?_
       clear hK K
       try simp only[Act.put,sA,sB,sC]
       refine Ze rfl rfl (fun K hK=> ?_)
       refine Bo.VX (enc:=bl1) (sz:=1) (bytes:=1) (t:=78) (E:=4) (fun _=>rfl) (by decide) Za1 Tryz.underlying78 Re.inf4 rfl (by decide) (.tmp 58) (.tmp 100) rfl wz.heap.size (.slice A' k c') k (row.take k) rfl hownE _ (some ⟨we.heap.size,0,none⟩) 1 1 [x] rfl hrE (by have:=HLK.out;have:=HN.out;omega) HF.out.size ?_
       intro A8 k8 c8 wf hk8 ha8
       have HG:Hid (Below wz.heap.size wz wf):=Hd (HF.out.grown ha8.out.grown HF.out.size (fun j hj=>(hownE.lt j hj).1))
       have HO8:Hid (k8=k+1∧wf.ownsRow wz.heap.size 4 1 (.slice A8 k8 c8) k8 ((row.take (k+1)).flatMap bl1)):=Hd ⟨hk8.out,by rw[List.take_add_one,HRK.out];exact ha8.out.own⟩
       clear hownE hrE hk8 ha8
       refine hK.out _ _ (fun _=>HSR.out _ HG.out) ?_
       clear hK K
       try simp only[Act.put,sA,sB,sC]
       repeat((first|refine Zg rfl ?_|(refine Zf (v:= ?_) rfl rfl ?_ ?_;rotate_left;(focus(rintro w' ⟨y0,y1,y2,y3,y4,y5,y6,y7,y8,y9,y10,y11⟩;go_simp;try with_reducible rfl))));simp only[Act.put,sA,sB,sC])
       refine Zi ?_
       have hkb:k≤100000:=by have:=HLK.out;have:=HN.out;omega
       clear f1 f2 f3 f4 hin1 hin2
       go_wp2_with fail
       go_roundw
       case rel=>
        obtain⟨e8,o8⟩:=HO8.out
        subst e8
        exact⟨k+1,A8,c8,by go_num,rfl,HLK.out,o8,HG.out⟩
       case measure=>
        have:=HLK.out
        simp[intOf]
        omega
     ·have hkn:np=k:=by omega
      subst hkn
      have hwz:=HSwz.out.size
      have hrw:wr.ownsRow w.heap.size 4 1 (slc (A',np,c')) row.length (row.flatMap bl1):=by
       have h1:=own_base hown hwz
       rw[List.take_of_length_le (by rw[HRL.out];exact Nat.le_refl _)] at h1
       rw[HRL.out]
       exact h1
      have hlw:((l.take i).map (lowS S lo)).length=i:=by rw[List.length_map,List.length_take];have:=HLT.out;have:=HLEN.out;omega
      have hhw:((l.take i).map (ZR S hi)).length=i:=by rw[List.length_map,List.length_take];have:=HLT.out;have:=HLEN.out;omega
      have HL1:=Hd hlw
      have HL2:=Hd hhw
      have HS0:=Hd ((HSwz.out.keep hb hwz).addR hrw)
      clear hlw hhw hrw hwz hown hb hlk hk
      have HWN:Hid (∀p5 (W:World),W.heap[g5]?=some (.cells p5 43 (0,0))→ ∀j,W.frozen? ⟨g5,j,none⟩=false):=Hd fun p5 W hW j=>Zb hW
      have kb:=HS0.out.out
      have cS:wr.cell? ⟨g5,1,none⟩=some vL:=(Za (i:=1) kb).trans rfl
      have HB1:Hid (Below wr.heap.size wr (wr.alloc (.cells #[La.nm lw] 72))):=Hd (bA)
      have HR1:Hid (Rs nm1 1 (wr.alloc (.cells #[La.nm lw] 72)) (wr.alloc (.cells #[La.nm lw] 72)).heap.size (some ⟨wr.heap.size,0,none⟩) 1 1 [lw]):=Hd (Rs.of_blk (fun _=>rfl) (heap_alloc_new wr _) ⟨[],rfl⟩ rfl lR (by unfold maxLen;omega))
      have HT1:=Hd (HS0.out.keep HB1.out HS0.out.size)
      clear kb
      go_upto_region 17 with(at_builtin;refine Zm (enc:=nm1) (sz:=1) (bytes:=8) (t:=22) (E:=72) (fun _=>rfl) (by decide) Zgo Tryz.underlying22 Bo.YU rfl (by decide) rfl (.tmp 103) (.tmp 105) rfl w.heap.size vL _ _ rfl HT1.out.oL _ _ 1 1 [lw] rfl HR1.out (by rw[HL1.out];have:=HLT.out;have:=HN.out;omega) HT1.out.size ?_;intro P1 k1 c1 w1 hk1 ha1;have HS1:=Hd (SnAt.addL HT1.out lw (by rw[hk1.out]) ha1.out);have HF1:Hid (w1.heap[g5]?=some (.cells #[.slice P np cp,vL,vH,vB] 43 (0,0))):=Hd (Vq (by decide) HT1.out.out HT1.out.oL ha1.out.grown);have z1:=HWN.out _ _ HF1.out 1;have z2:w1.cell? ⟨g5,1,none⟩=some vL:=(Za (i:=1) HF1.out).trans rfl;clear cS ha1 hk1 HT1 HB1 HR1 HF1 HS0)
      generalize w1.setCell ⟨g5,1,none⟩ (.slice P1 k1 c1)=wA at*
      clear z1 z2
      have kb:=HS1.out.out
      have cS:wA.cell? ⟨g5,2,none⟩=some vH:=(Za (i:=2) kb).trans rfl
      have HB2:Hid (Below wA.heap.size wA (wA.alloc (.cells #[La.nm hw] 72))):=Hd (bA)
      have HR2:Hid (Rs nm1 1 (wA.alloc (.cells #[La.nm hw] 72)) (wA.alloc (.cells #[La.nm hw] 72)).heap.size (some ⟨wA.heap.size,0,none⟩) 1 1 [hw]):=Hd (Rs.of_blk (fun _=>rfl) (heap_alloc_new wA _) ⟨[],rfl⟩ rfl lR (by unfold maxLen;omega))
      have HT2:=Hd (HS1.out.keep HB2.out HS1.out.size)
      clear kb
      go_upto_region 18 with(at_builtin;refine Zm (enc:=nm1) (sz:=1) (bytes:=8) (t:=22) (E:=72) (fun _=>rfl) (by decide) Zgo Tryz.underlying22 Bo.YU rfl (by decide) rfl (.tmp 109) (.tmp 111) rfl w.heap.size vH _ _ rfl HT2.out.oH _ _ 1 1 [hw] rfl HR2.out (by rw[HL2.out];have:=HLT.out;have:=HN.out;omega) HT2.out.size ?_;intro P2 k2 c2 w2 hk2 ha2;have HS2:=Hd (SnAt.addH HT2.out hw (by rw[hk2.out]) ha2.out);have HF2:Hid (w2.heap[g5]?=some (.cells #[.slice P np cp,(.slice P1 k1 c1),vH,vB] 43 (0,0))):=Hd (Vq (by decide) HT2.out.out HT2.out.oH ha2.out.grown);have z1:=HWN.out _ _ HF2.out 2;have z2:w2.cell? ⟨g5,2,none⟩=some vH:=(Za (i:=2) HF2.out).trans rfl;clear cS ha2 hk2 HT2 HB2 HR2 HF2 HS1)
      generalize w2.setCell ⟨g5,2,none⟩ (.slice P2 k2 c2)=wB at*
      clear z1 z2
      have kb:=HS2.out.out
      have cS:wB.cell? ⟨g5,3,none⟩=some vB:=(Za (i:=3) kb).trans rfl
      have HB3:Hid (Below wB.heap.size wB (wB.alloc (.cells #[slc (A',np,c')] 78))):=Hd (bA)
      have HR3:Hid (Rs sl1 1 (wB.alloc (.cells #[slc (A',np,c')] 78)) (wB.alloc (.cells #[slc (A',np,c')] 78)).heap.size (some ⟨wB.heap.size,0,none⟩) 1 1 [(A',np,c')]):=Hd (Rs.of_blk (fun _=>rfl) (heap_alloc_new wB _) ⟨[],rfl⟩ rfl lR (by unfold maxLen;omega))
      have HT3:=Hd (HS2.out.keep HB3.out HS2.out.size)
      clear kb
      go_upto_region 4 with(at_builtin;refine Zm (enc:=sl1) (sz:=1) (bytes:=24) (t:=41) (E:=78) (fun _=>rfl) (by decide) ZjW Tryz.underlying41 Re.Zjd rfl (by decide) rfl (.tmp 115) (.tmp 117) rfl w.heap.size vB _ _ rfl HT3.out.oB _ _ 1 1 [(A',np,c')] rfl HR3.out (by rw[HGS.out];have:=HLT.out;have:=HN.out;omega) HT3.out.size ?_;intro P3 k3 c3 w3 hk3 ha3;have HS3:=Hd (SnAt.addB HT3.out (A',np,c') (by rw[hk3.out]) ha3.out);have HF3:Hid (w3.heap[g5]?=some (.cells #[.slice P np cp,(.slice P1 k1 c1),(.slice P2 k2 c2),vB] 43 (0,0))):=Hd (Vq (by decide) HT3.out.out HT3.out.oB ha3.out.grown);have z1:=HWN.out _ _ HF3.out 3;have z2:w3.cell? ⟨g5,3,none⟩=some vB:=(Za (i:=3) HF3.out).trans rfl;clear cS ha3 hk3 HT3 HB3 HR3 HF3 HS2)
      generalize w3.setCell ⟨g5,3,none⟩ (.slice P3 k3 c3)=wC at*
      clear z1 z2
      go_wp2_with fail
      go_roundw
      case rel=>
       have e1:(l.take (i+1)).map (lowS S lo)=(l.take i).map (lowS S lo)++ [lw]:=by rw[List.take_add_one,HIL.out,List.map_append, ← HLW.out];rfl
       have e2:(l.take (i+1)).map (ZR S hi)=(l.take i).map (ZR S hi)++ [hw]:=by rw[List.take_add_one,HIL.out,List.map_append, ← HHW.out];rfl
       have e3:((l.take (i+1)).map fun p=>l.map (belS S lo hi rc p))=((l.take i).map fun p=>l.map (belS S lo hi rc p))++ [row]:=by rw[List.take_add_one,HIL.out,List.map_append, ← HROW.out];rfl
       have h3:=HS3.out
       rw[← e1, ← e2, ← e3] at h3
       exact⟨i+1,gs++ [(A',np,c')],_,_,_,by go_num,HLT.out,by rw[List.length_append,HGS.out];rfl,h3⟩
      case measure=>
       have:=HLT.out
       simp[intOf]
       omega
    )
  ·have hin:i=np:=by omega
   subst hin
   have HTK:Hid (l.take i=l):=Hd (List.take_of_length_le (by rw[HLEN.out];exact Nat.le_refl _))
   rw[HTK.out] at hsn
   obtain⟨X2,m2',d2',rfl⟩: ∃X m d,vL= .slice X m d:=by
    obtain⟨A,c,e⟩:=Zk hsn.oL
    exact⟨A,_,c,e⟩
   obtain⟨X3,m3',d3',rfl⟩: ∃X m d,vH= .slice X m d:=by
    obtain⟨A,c,e⟩:=Zk hsn.oH
    exact⟨A,_,c,e⟩
   obtain⟨X4,m4',d4',rfl⟩: ∃X m d,vB= .slice X m d:=by
    obtain⟨A,c,e⟩:=Zk hsn.oB
    exact⟨A,_,c,e⟩
   have h5:=hsn.out
   have hz:=hsn.zr
   have q0:wr.cell? ⟨g5,0,none⟩=some (.slice P i cp):=(Za (i:=0) h5).trans rfl
   have q1:wr.cell? ⟨g5,1,none⟩=some _:=(Za (i:=1) h5).trans rfl
   have q2:wr.cell? ⟨g5,2,none⟩=some _:=(Za (i:=2) h5).trans rfl
   have q3:wr.cell? ⟨g5,3,none⟩=some _:=(Za (i:=3) h5).trans rfl
   have o0:wr.cell? ⟨w.heap.size+1,0,none⟩=some (.slice none 0 0):=(Za (i:=0) hz).trans rfl
   have o1:wr.cell? ⟨w.heap.size+1,1,none⟩=some (.slice none 0 0):=(Za (i:=1) hz).trans rfl
   have o2:wr.cell? ⟨w.heap.size+1,2,none⟩=some (.slice none 0 0):=(Za (i:=2) hz).trans rfl
   have o3:wr.cell? ⟨w.heap.size+1,3,none⟩=some (.slice none 0 0):=(Za (i:=3) hz).trans rfl
   have z0:wr.frozen? ⟨w.heap.size+1,0,none⟩=false:=Zb hz
   have z1:wr.frozen? ⟨w.heap.size+1,1,none⟩=false:=Zb hz
   have z2:wr.frozen? ⟨w.heap.size+1,2,none⟩=false:=Zb hz
   have z3:wr.frozen? ⟨w.heap.size+1,3,none⟩=false:=Zb hz
   obtain⟨p,ep,hp⟩:=hsn.done HZ.out HF1.out HF2.out
   have HP:=Hd (And.intro ep hp)
   clear hsn h5 hz ep hp hlt hile hgs
   go_wp2_with fail
   refine bodyPost_ret (v:=p.v) ?_ rfl ⟨p,rfl,HP.out.2,?_⟩
   ·rw[HP.out.1]
    exact results_cell_row (P:=Tryz.prog) rfl _ _ (w.heap.size+1) 43 _ (0,0) _ rfl (ZC HSN.out.zr _ _ _ _) Tryz.underlying43 rfl rfl
   ·exact Zr HSN.out.bel (by omega) _ _ _ _
end Go.Proofs.YtfmpecnkkbpdlaaGreatDoor
