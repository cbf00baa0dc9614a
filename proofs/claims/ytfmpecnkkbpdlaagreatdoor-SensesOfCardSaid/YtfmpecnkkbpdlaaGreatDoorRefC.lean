import Derived.Test.YtfmpecnkkbpdlaaGreatDoorBoRefV
import Derived.Test.YtfmpecnkkbpdlaaGreatDoorLists
import Derived.Test.YtfmpecnkkbpdlaaGreatDoorRefPut
set_option maxRecDepth 100000
set_option maxHeartbeats 8000000
namespace Go.Proofs.YtfmpecnkkbpdlaaGreatDoor
open Go.RowKit
end Go.Proofs.YtfmpecnkkbpdlaaGreatDoor
namespace Go.Proofs.YtfmpecnkkbpdlaaGreatDoor
open Go.RowKit
end Go.Proofs.YtfmpecnkkbpdlaaGreatDoor
namespace Go.Proofs.YtfmpecnkkbpdlaaGreatDoor
open Go.RowKit
structure RBox (w:World)(g t:Nat)(A:Option Addr)(n c m:Nat):Prop where
 s0:w.cell? ⟨g,0,none⟩=some (.int .i64 (t:Int))
 s1:w.cell? ⟨g,1,none⟩=some (.slice A n c)
 s2:w.cell? ⟨g,2,none⟩=some (.int .i64 (m:Int))
theorem RBox.keep {w W:World}{g t:Nat}{A:Option Addr}{n c m:Nat}(h:RBox w g t A n c m)(hb:Below w.heap.size w W):RBox W g t A n c m:=⟨Zc h.s0 hb,Zc h.s1 hb,Zc h.s2 hb⟩
theorem RBox.new (w:World)(t:Nat)(A:Option Addr)(n c m:Nat):RBox (w.alloc (.cells #[.int .i64 (t:Int),.slice A n c,.int .i64 (m:Int)] 36)) w.heap.size t A n c m:=
 have hbx:=heap_alloc_new w (.cells #[.int .i64 (t:Int),.slice A n c,.int .i64 (m:Int)] 36)
 ⟨(Za (i:=0) hbx).trans rfl,(Za (i:=1) hbx).trans rfl,(Za (i:=2) hbx).trans rfl⟩
theorem Qq {S:Bo.Sr}{k:Int}{l:List Sp}(h0:0≤k)(h1:k≤64)(hl:l.length≤256):Bo.chkS S k (l.map bnd)=if l.all (may1 S k) then 0 else 1:=by
 unfold Bo.chkS
 rw[if_neg (by rw[List.length_map];omega)]
 have e:(l.map bnd).all (Bo.mayB S k.toNat)=l.all (may1 S k):=by
  rw[List.all_map]
  exact List.all_congr rfl fun p=>ZaG S k.toNat p
 rw[e]
def Zkv (f:Sp→Bool)(l:List Sp)(w:World)(v10:Value)(wr:World):Prop:= ∃i:Nat,v10= .int .i64 (i:Int)∧i≤l.length∧(l.take i).all f=true∧Below w.heap.size w wr
theorem Zfm {f:Sp→Bool}{l:List Sp}{i:Nat}(hi:i < l.length)(h:(l.take i).all f=true):(l.take (i+1)).all f=f l[i]:=by
 rw[List.take_succ_eq_append_getElem hi,List.all_append,h]
 simp
theorem Zii {f:Sp→Bool}{l:List Sp}{i:Nat}(hi:i < l.length)(h:f l[i]=false):l.all f=false:=by
 refine Bool.eq_false_iff.2 fun e=> ?_
 have:=List.all_eq_true.1 e _ (List.getElem_mem hi)
 rw[h] at this
 cases this
theorem Qr (s:Sch)(A:Option Addr)(n c:Nat)(A1:Option Addr)(n1 c1:Nat)(A2:Option Addr)(n2 c2:Nat)(t1:Nat)(D1:Option Addr)(m1 k1 u1 t2:Nat)(D2:Option Addr)(m2 k2 u2:Nat)(S X:Bo.Sr)(w:World)(h:Uo w s A n c A1 n1 c1 A2 n2 c2)(hS:Bo.RSrt w.heap.size w t1 D1 m1 k1 u1 S)(hX:Bo.RSrt w.heap.size w t2 D2 m2 k2 u2 X)(x:Int)(hx:s.check S X=x):
  Calls Tryz.prog 30 #[schV s A n c A1 n1 c1 A2 n2 c2,Bo.rsV t1 D1 m1 k1 u1,Bo.rsV t2 D2 m2 k2 u2] w fun e w'=>e= .returned (.int .i64 x)∧Below w.heap.size w w':=by
 obtain⟨lv,ev,bo,sl,se⟩:=s
 have HT1:=Hd (fun W (hW:Bo.RSrt W.heap.size W t1 D1 m1 k1 u1 S) (q:Nat) (hq:q≤64) (v:Bool) (z:Nat) (hz:z < 18446744073709551616)=>Bo.Kt t1 D1 m1 k1 u1 S v z q W hW.rhas hz hq)
 have HT2:=Hd (fun W (hW:Bo.RSrt W.heap.size W t2 D2 m2 k2 u2 X) (q:Nat) (hq:q≤64) (v:Bool) (z:Nat) (hz:z < 18446744073709551616)=>Bo.Kt t2 D2 m2 k2 u2 X v z q W hW.rhas hz hq)
 have HK1:=Hd (fun W (hW:Bo.RSrt W.heap.size W t1 D1 m1 k1 u1 S) (y:Int) (h:Uo W ⟨lv,ev,bo,sl,se⟩ A n c A1 n1 c1 A2 n2 c2) (hy:Bo.chkS S lv sl=y)=>Bo.KU t1 D1 m1 k1 u1 lv A1 n1 c1 sl S W y hW.rhas h.l h.lf hy)
 have HK2:=Hd (fun W (hW:Bo.RSrt W.heap.size W t2 D2 m2 k2 u2 X) (y:Int) (h:Uo W ⟨lv,ev,bo,sl,se⟩ A n c A1 n1 c1 A2 n2 c2) (hy:Bo.chkS X ev se=y)=>Bo.KU t2 D2 m2 k2 u2 ev A2 n2 c2 se X W y hW.rhas h.e h.ef hy)
 unfold Bo.rsV Bo.tmv at HT1 HT2
 unfold Bo.rsV at HK1 HK2
 unfold schV Bo.rsV
 have hz:=Box.new w lv ev A n c A1 n1 c1 A2 n2 c2
 obtain⟨wa,hwa⟩: ∃wa,w.alloc (.cells #[.int .i64 lv,.int .i64 ev,.slice A n c,.slice A1 n1 c1,.slice A2 n2 c2] 28)=wa:=⟨_,rfl⟩
 have hb:Below w.heap.size w wa:=hwa▸bA
 rw[hwa] at hz
 have hsa:wa.heap.size=w.heap.size+1:=by rw[← hwa,World.size_alloc]
 have hy:=RBox.new wa t1 D1 m1 k1 u1
 obtain⟨wb,hwb⟩: ∃wb,wa.alloc (.cells #[.int .i64 (t1:Int),.slice D1 m1 k1,.int .i64 (u1:Int)] 36)=wb:=⟨_,rfl⟩
 have hv:Below wa.heap.size wa wb:=hwb▸bA
 rw[hwb,hsa] at hy
 replace hz:=hz.keep hv
 replace hb:=hb.trans (hv.mono hb.size)
 have hsb:wb.heap.size=w.heap.size+1+1:=by rw[← hwb,World.size_alloc,hsa]
 clear hv hsa
 have hx2:=RBox.new wb t2 D2 m2 k2 u2
 obtain⟨wc,hwc⟩: ∃wc,wb.alloc (.cells #[.int .i64 (t2:Int),.slice D2 m2 k2,.int .i64 (u2:Int)] 36)=wc:=⟨_,rfl⟩
 have hv:Below wb.heap.size wb wc:=hwc▸bA
 rw[hwc,hsb] at hx2
 replace hz:=hz.keep hv
 replace hy:=hy.keep hv
 replace hb:=hb.trans (hv.mono hb.size)
 clear hv hsb
 have H:=Hd h
 have HS:=Hd hS
 have HX:=Hd hX
 have HR:=Hd hx
 have HB:=Hd hb
 have hc:=VO A n c bo _ (h.keep hb).b h.bf
 clear h hS hX hx hb
 subst hwa hwb hwc
 have hz2:=hz.z2
 go_enter Tryz.func30,Tryz.ntmps30
 go_wp2_with fail
 refine hc.mono ?_
 rintro e w1 ⟨rfl,hv⟩
 replace hz:=hz.keep hv
 replace hy:=hy.keep hv
 replace hx2:=hx2.keep hv
 have hb2:=HB.out.trans (hv.mono HB.out.size)
 clear HB hc hv hz2
 have HB:=Hd hb2
 clear hb2
 have hr:=HR.out
 unfold Sch.check at hr
 simp only at hr
 by_cases h0:Zt bo=0
 case neg=>
  rw[if_neg h0] at hr
  have hne:((Zt bo:Int) !=0)=true:=by simp;omega
  have hne2:((Zt bo:Int)==0)=false:=by simp;omega
  rw[hr] at hne hne2 ⊢
  clear HR hz hy hx2 h0 hr HT1 HT2 HK1 HK2
  go_wp2_with fail
  go_ret
  exact⟨rfl,HB.out⟩
 rw[if_pos h0] at hr
 have HR2:=Hd hr
 rw[h0]
 have H0:=Hd h0
 clear h0 hr HR
 obtain⟨x1,hx1⟩: ∃y,Bo.chkS S lv sl=y:=⟨_,rfl⟩
 obtain⟨x2,hx2'⟩: ∃y,Bo.chkS X ev se=y:=⟨_,rfl⟩
 have hc:=HK1.out w1 (HS.out.keep HB.out) x1 (H.out.keep HB.out) hx1
 have HC:=Hd hc
 clear hc HK1
 have hz0:=hz.z0
 have hz3:=hz.z3
 have s0:=hy.s0
 have s1:=hy.s1
 have s2:=hy.s2
 go_wp2_with fail
 refine HC.out.mono ?_
 rintro e w2 ⟨rfl,hv⟩
 clear hz0 hz3 s0 s1 s2 HC
 replace hz:=hz.keep hv
 replace hy:=hy.keep hv
 replace hx2:=hx2.keep hv
 have hb2:=HB.out.trans (hv.mono HB.out.size)
 clear HB hv
 have HB:=Hd hb2
 clear hb2
 by_cases e1:x1=0
 case neg=>
  have hr:x1=x:=by
   have:=HR2.out
   rw[hx1] at this
   unfold orE at this
   rw[if_neg e1] at this
   exact this
  subst hr
  have hne:(x1 !=0)=true:=by simpa using e1
  have hne2:(x1==0)=false:=by simpa using e1
  clear HR2 hz hy hx2 e1 hx1 hx2' HT1 HT2 HK2
  go_wp2_with fail
  go_ret
  exact⟨rfl,HB.out⟩
 subst e1
 have hc:=HK2.out w2 (HX.out.keep HB.out) x2 (H.out.keep HB.out) hx2'
 have HC:=Hd hc
 clear hc HK2
 have hz1:=hz.z1
 have hz4:=hz.z4
 have s0:=hx2.s0
 have s1:=hx2.s1
 have s2:=hx2.s2
 go_wp2_with fail
 refine HC.out.mono ?_
 rintro e w3 ⟨rfl,hv⟩
 clear hz1 hz4 s0 s1 s2 HC
 replace hz:=hz.keep hv
 replace hy:=hy.keep hv
 replace hx2:=hx2.keep hv
 have hb2:=HB.out.trans (hv.mono HB.out.size)
 clear HB hv
 have HB:=Hd hb2
 clear hb2
 by_cases e2:x2=0
 case neg=>
  have hr:x2=x:=by
   have:=HR2.out
   rw[hx1,hx2'] at this
   unfold orE at this
   rw[if_pos rfl,if_neg e2] at this
   exact this
  subst hr
  have hne:(x2 !=0)=true:=by simpa using e2
  clear HR2 hz hy hx2 e2 hx1 hx2' HT1 HT2
  go_wp2_with fail
  go_ret
  exact⟨rfl,HB.out⟩
 subst e2
 obtain⟨p1,p2,-,-⟩:=Yu.1 hx1
 obtain⟨p3,p4,-,-⟩:=Yu.1 hx2'
 have hfin:(if (labB bo).all (may1 S lv) then(if (effB bo).all (may1 X ev) then(0:Int) else 1) else 1)=x:=by
  rw[← HR2.out,hx1,hx2',Qq p1 p2 (Ua bo),Qq p3 p4 (Nat.le_trans (Ub bo) (by decide))]
  unfold orE
  by_cases a:(labB bo).all (may1 S lv)=true <;> by_cases b:(effB bo).all (may1 X ev)=true <;> simp[a,b]
 obtain⟨ql,hql⟩: ∃q:Nat,lv=(q:Int):=⟨lv.toNat,by omega⟩
 obtain⟨qe,hqe⟩: ∃q:Nat,ev=(q:Int):=⟨ev.toNat,by omega⟩
 have HQL:=Hd (And.intro hql (show ql≤64 by omega))
 have HQE:=Hd (And.intro hqe (show qe≤64 by omega))
 clear p1 p2 p3 p4 hx1 hx2' HR2 hql hqe
 obtain⟨kl,hkl⟩: ∃k,(labB bo).length=k:=⟨_,rfl⟩
 obtain⟨ke,hke⟩: ∃k,(effB bo).length=k:=⟨_,rfl⟩
 have HKL:=Hd (show kl≤256 by rw[← hkl];exact Ua bo)
 have HKE:=Hd (show ke≤256 by rw[← hke];exact Nat.le_trans (Ub bo) (by decide))
 have hc:=U7 A n c bo w3 (H.out.keep HB.out).b H.out.bf
 have HU1:=Hd (Ky H.out.bt)
 have HU2:=Hd (Kz H.out.bt)
 have hz2:=hz.z2
 simp only at HU1 HU2
 have HFIN:=Hd hfin
 clear hfin
 generalize labB bo=ls at*
 generalize effB bo=es at*
 go_wp2_with fail
 refine hc.mono ?_
 rintro e w4 ⟨v1,v2,rfl,hT⟩
 have hv:=hT.bel
 replace hz:=hz.keep hv
 replace hy:=hy.keep hv
 replace hx2:=hx2.keep hv
 have hb2:=HB.out.trans (hv.mono HB.out.size)
 have o2:=hT.o2
 have o3:=hT.o3
 obtain⟨B1,d1,rfl⟩:=Zk o2
 obtain⟨B2,d2,rfl⟩:=Zk o3
 rw[hkl] at o2 ⊢
 rw[hke] at o3 ⊢
 have H1:=Hd (Rs.of_own (l:=ls) (n:=kl) Zu (by decide) o2)
 have H2:=Hd (Rs.of_own (l:=es) (n:=ke) Zu (by decide) o3)
 have HLS:=Hd hkl
 have HES:=Hd hke
 clear HB hc hv hz2 hT o2 o3 hkl hke
 have HB:=Hd hb2
 clear hb2
 go_wp2_with fail
 have HZ:=Hd hz
 have HY:=Hd hy
 have HX2:=Hd hx2
 clear hz hy hx2
 obtain⟨wl1,hwl⟩: ∃wb,wb=w4:=⟨_,rfl⟩
 rw[← hwl] at HZ HY HX2 HB H1 H2 ⊢
 clear hwl
 go_loopw [10] (fun v10 wr=>Zkv (may1 S lv) ls wl1 v10 wr) (fun v10 _=>kl - (intOf v10).toNat)
 case atStart=>exact⟨0,rfl,Nat.zero_le _,rfl,Below.refl _ _⟩
 case round=>
  obtain⟨i,rfl,hi,hall,hb3⟩:=hrel
  by_cases hlt:i < kl
  case pos=>
   have hi':i < ls.length:=by rw[HLS.out];exact hlt
   obtain⟨b',o,hbo,hbb,e0,e1,e2,e3,e4⟩:=Vp (H1.out.at_size lR hb3) hi'
   subst hbo
   have hu:=HU1.out _ (List.getElem_mem hi')
   have HSTEP:=Hd (Zfm hi' hall)
   have HOFF:=Hd (fun e:may1 S lv ls[i]=false=>Zii hi' e)
   have bx:=HY.out.keep hb3
   have s0:=bx.s0
   have s1:=bx.s1
   have s2:=bx.s2
   have hz0:=(HZ.out.keep hb3).z0
   generalize ls[i]=y at*
   obtain⟨xn,xp,xs,xv,xz⟩:=y
   simp only at e3 e4 hu
   obtain⟨z,rfl,hzz⟩:=hu.nat
   have hdr:Below wr.heap.size wr wr.drew:=(Below.refl _ _).drew
   have hcall:=HT1.out wr.drew ((HS.out.keep (HB.out.trans (hb3.mono HB.out.size))).keep hdr) ql HQL.out.2 xv z hzz
   obtain⟨r,hr⟩: ∃r,may1 S lv ⟨xn,xp,xs,xv,(z:Int)⟩=r:=⟨_,rfl⟩
   have hdef:Bo.mayT S ql xv z=r:=by
    rw[← hr]
    show Bo.mayT _ _ _ _=Bo.mayT _ _ _ _
    rw[HQL.out.1,Int.toNat_natCast,Int.toNat_natCast]
   rw[hdef, ← HQL.out.1] at hcall
   rw[hr] at HSTEP HOFF
   have HC:=Hd hcall
   have HLT:=Hd hlt
   have hi9:i≤1000:=by have:=HKL.out;omega
   have hbd:=hb3.trans (hdr.mono hb3.size)
   have HBD:=Hd hbd
   have g0:wr.drew.cell? _=_:=s0
   have g1:wr.drew.cell? _=_:=s1
   have g2:wr.drew.cell? _=_:=s2
   have g3:wr.drew.cell? _=_:=e3
   have g4:wr.drew.cell? _=_:=e4
   have g5:wr.drew.cell? _=_:=hz0
   clear hall hi hu hzz hbb hi' e0 e1 e2 bx hdef hr hbd hcall hb3
   go_wp2_with fail
   refine wro [0,1,2,3,4,5,6,7,8,9] [8] 10 (fun w'=>w'.cell? ⟨w.heap.size+1,0,none⟩=some (.int .i64 (t1:Int))∧w'.cell? ⟨w.heap.size+1,1,none⟩=some (.slice D1 m1 k1)∧w'.cell? ⟨w.heap.size+1,2,none⟩=some (.int .i64 (u1:Int))∧w'.cell? ⟨b',o+i*5+3,none⟩=some (.bool xv)∧w'.cell? ⟨b',o+i*5+4,none⟩=some (.int .u64 (z:Int))∧w'.cell? ⟨w.heap.size,0,none⟩=some (.int .i64 lv)) (by kernel_rfl) (fun _ _ _ _ _ h=>h) ⟨s0,s1,s2,e3,e4,hz0⟩ ?_
   simp only[steps,sE,sD]
   repeat((first|refine Zg rfl ?_|(refine Zf (v:= ?_) rfl rfl ?_ ?_;rotate_left;(focus(rintro w' ⟨hS0,hS1,hS2,hS3,hS4,hS5⟩;go_simp;try with_reducible rfl))));simp only[Act.put,sA,sB,sC])
   refine Ze rfl rfl (fun K hK=> ?_)
   go_simp
   refine HC.out.mono ?_
   rintro e w7 ⟨rfl,hv⟩
   have HBE:=Hd (HBD.out.trans (hv.mono HBD.out.size))
   refine hK.out _ _ (fun _=>⟨Zc g0 hv,Zc g1 hv,Zc g2 hv,Zc g3 hv,Zc g4 hv,Zc g5 hv⟩) ?_
   clear hK K hv
   try simp only[Act.put,sA,sB,sC]
   repeat((first|refine Zg rfl ?_|(refine Zf (v:= ?_) rfl rfl ?_ ?_;rotate_left;(focus(rintro w' ⟨hS0,hS1,hS2,hS3,hS4,hS5⟩;go_simp;try with_reducible rfl))));simp only[Act.put,sA,sB,sC])
   refine Zi ?_
   clear s0 s1 s2 e3 e4 hz0 g0 g1 g2 g3 g4 g5 HC hdr
   cases r with
   |true=>
    clear HOFF
    go_wp2_with fail
    go_roundw
    case rel=>exact⟨i+1,by go_num,by have:=HLT.out;have:=HLS.out;omega,HSTEP.out,HBE.out⟩
    case measure=>
     have:=HLT.out
     simp[intOf]
     omega
   |false=>
    have hoff:=HOFF.out rfl
    have hfin:=HFIN.out
    rw[hoff] at hfin
    simp only[Bool.false_eq_true,if_false] at hfin
    subst hfin
    have HBF:=Hd (HB.out.trans (HBE.out.mono HB.out.size))
    clear HOFF HSTEP hoff HFIN
    go_wp2_with fail
    go_ret
    exact⟨rfl,HBF.out⟩
  case neg=>
  obtain rfl:kl=i:=by have:=HLS.out;omega
  have HALL1:Hid (ls.all (may1 S lv)=true):=Hd (by rw[← hall,List.take_of_length_le (by rw[HLS.out];omega)])
  have hz:=HZ.out.keep hb3
  have hy:=HY.out.keep hb3
  have hx2:=HX2.out.keep hb3
  have h1:=H1.out.at_size lR hb3
  have h2:=H2.out.at_size lR hb3
  have hb2:=HB.out.trans (hb3.mono HB.out.size)
  clear HB H1 H2 HZ HY HX2 hall hi hlt hb3
  have HB:=Hd hb2
  have H1:=Hd h1
  have H2:=Hd h2
  clear hb2 h1 h2
  go_wp2_with fail
  have HZ:=Hd hz
  have HY:=Hd hy
  have HX2:=Hd hx2
  clear hz hy hx2
  obtain⟨wl2,hwl⟩: ∃wb,wb=wr:=⟨_,rfl⟩
  rw[← hwl] at HZ HY HX2 HB H1 H2 ⊢
  clear hwl
  go_loopw [11] (fun v10 wr=>Zkv (may1 X ev) es wl2 v10 wr) (fun v10 _=>ke - (intOf v10).toNat)
  case atStart=>exact⟨0,rfl,Nat.zero_le _,rfl,Below.refl _ _⟩
  case round=>
   obtain⟨i,rfl,hi,hall,hb3⟩:=hrel
   by_cases hlt:i < ke
   case pos=>
    have hi':i < es.length:=by rw[HES.out];exact hlt
    obtain⟨b',o,hbo,hbb,e0,e1,e2,e3,e4⟩:=Vp (H2.out.at_size lR hb3) hi'
    subst hbo
    have hu:=HU2.out _ (List.getElem_mem hi')
    have HSTEP:=Hd (Zfm hi' hall)
    have HOFF:=Hd (fun e:may1 X ev es[i]=false=>Zii hi' e)
    have bx:=HX2.out.keep hb3
    have s0:=bx.s0
    have s1:=bx.s1
    have s2:=bx.s2
    have hz1:=(HZ.out.keep hb3).z1
    generalize es[i]=y at*
    obtain⟨xn,xp,xs,xv,xz⟩:=y
    simp only at e3 e4 hu
    obtain⟨z,rfl,hzz⟩:=hu.nat
    have hdr:Below wr.heap.size wr wr.drew:=(Below.refl _ _).drew
    have hcall:=HT2.out wr.drew ((HX.out.keep (HB.out.trans (hb3.mono HB.out.size))).keep hdr) qe HQE.out.2 xv z hzz
    obtain⟨r,hr⟩: ∃r,may1 X ev ⟨xn,xp,xs,xv,(z:Int)⟩=r:=⟨_,rfl⟩
    have hdef:Bo.mayT X qe xv z=r:=by
     rw[← hr]
     show Bo.mayT _ _ _ _=Bo.mayT _ _ _ _
     rw[HQE.out.1,Int.toNat_natCast,Int.toNat_natCast]
    rw[hdef, ← HQE.out.1] at hcall
    rw[hr] at HSTEP HOFF
    have HC:=Hd hcall
    have HLT:=Hd hlt
    have hi9:i≤1000:=by have:=HKE.out;omega
    have hbd:=hb3.trans (hdr.mono hb3.size)
    have HBD:=Hd hbd
    have g0:wr.drew.cell? _=_:=s0
    have g1:wr.drew.cell? _=_:=s1
    have g2:wr.drew.cell? _=_:=s2
    have g3:wr.drew.cell? _=_:=e3
    have g4:wr.drew.cell? _=_:=e4
    have g5:wr.drew.cell? _=_:=hz1
    clear hall hi hu hzz hbb hi' e0 e1 e2 bx hdef hr hbd hcall hb3
    go_wp2_with fail
    refine wro [0,1,2,3,4,5,6,7,8,9] [8] 10 (fun w'=>w'.cell? ⟨w.heap.size+1+1,0,none⟩=some (.int .i64 (t2:Int))∧w'.cell? ⟨w.heap.size+1+1,1,none⟩=some (.slice D2 m2 k2)∧w'.cell? ⟨w.heap.size+1+1,2,none⟩=some (.int .i64 (u2:Int))∧w'.cell? ⟨b',o+i*5+3,none⟩=some (.bool xv)∧w'.cell? ⟨b',o+i*5+4,none⟩=some (.int .u64 (z:Int))∧w'.cell? ⟨w.heap.size,1,none⟩=some (.int .i64 ev)) (by kernel_rfl) (fun _ _ _ _ _ h=>h) ⟨s0,s1,s2,e3,e4,hz1⟩ ?_
    simp only[steps,sE,sD]
    repeat((first|refine Zg rfl ?_|(refine Zf (v:= ?_) rfl rfl ?_ ?_;rotate_left;(focus(rintro w' ⟨hS0,hS1,hS2,hS3,hS4,hS5⟩;go_simp;try with_reducible rfl))));simp only[Act.put,sA,sB,sC])
    refine Ze rfl rfl (fun K hK=> ?_)
    go_simp
    refine HC.out.mono ?_
    rintro e w7 ⟨rfl,hv⟩
    have HBE:=Hd (HBD.out.trans (hv.mono HBD.out.size))
    refine hK.out _ _ (fun _=>⟨Zc g0 hv,Zc g1 hv,Zc g2 hv,Zc g3 hv,Zc g4 hv,Zc g5 hv⟩) ?_
    clear hK K hv
    try simp only[Act.put,sA,sB,sC]
    repeat((first|refine Zg rfl ?_|(refine Zf (v:= ?_) rfl rfl ?_ ?_;rotate_left;(focus(rintro w' ⟨hS0,hS1,hS2,hS3,hS4,hS5⟩;go_simp;try with_reducible rfl))));simp only[Act.put,sA,sB,sC])
    refine Zi ?_
    clear s0 s1 s2 e3 e4 hz1 g0 g1 g2 g3 g4 g5 HC hdr
    cases r with
    |true=>
     clear HOFF
     go_wp2_with fail
     go_roundw
     case rel=>exact⟨i+1,by go_num,by have:=HLT.out;have:=HES.out;omega,HSTEP.out,HBE.out⟩
     case measure=>
      have:=HLT.out
      simp[intOf]
      omega
    |false=>
     have hoff:=HOFF.out rfl
     have hfin:=HFIN.out
     rw[HALL1.out,hoff] at hfin
     simp only[Bool.false_eq_true,if_false,if_true] at hfin
     subst hfin
     have HBF:=Hd (HB.out.trans (HBE.out.mono HB.out.size))
     clear HOFF HSTEP hoff HFIN
     go_wp2_with fail
     go_ret
     exact⟨rfl,HBF.out⟩
   case neg=>
   obtain rfl:ke=i:=by have:=HES.out;omega
   have HALL2:Hid (es.all (may1 X ev)=true):=Hd (by rw[← hall,List.take_of_length_le (by rw[HES.out];omega)])
   have hz:=HZ.out.keep hb3
   have hy:=HY.out.keep hb3
   have hx2:=HX2.out.keep hb3
   have h1:=H1.out.at_size lR hb3
   have h2:=H2.out.at_size lR hb3
   have hb2:=HB.out.trans (hb3.mono HB.out.size)
   clear HB H1 H2 HZ HY HX2 hall hi hlt hb3
   have HB:=Hd hb2
   have H1:=Hd h1
   have H2:=Hd h2
   clear hb2 h1 h2
   have hfin:=HFIN.out
   rw[HALL1.out,HALL2.out] at hfin
   simp only[if_true] at hfin
   subst hfin
   clear HFIN hz hy hx2
   go_wp2_with fail
   go_ret
   exact⟨rfl,HB.out⟩
end Go.Proofs.YtfmpecnkkbpdlaaGreatDoor
