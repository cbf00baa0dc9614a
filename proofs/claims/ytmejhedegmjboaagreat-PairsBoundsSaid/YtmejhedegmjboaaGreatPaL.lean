import Derived.Deep.DeepCutAuto
import Derived.Test.YtmejhedegmjboaaGreatPaG
set_option maxRecDepth 100000
set_option maxHeartbeats 16000000
namespace Go.Proofs.YtmejhedegmjboaaGreat.I
open Go.RowKit PaC
def skL (S:Bo.Sr)(z:Sen)(us L:List Nat)(d:Nat):Option Nat:=us.find? fun u=>decide (L.getD u 0=u) && mayB S z d u
def prL (S:Bo.Sr)(z:Sen)(us L:List Nat)(d:Nat):List Nat:=match skL S z us L d with
 |some u=>L.set u d
 |none=>L
def prA (S:Bo.Sr)(z:Sen)(us L ds:List Nat):List Nat:=ds.foldl (prL S z us) L
theorem Zkw (S:Bo.Sr)(z:Sen)(us L:List Nat)(d:Nat):(prL S z us L d).length=L.length:=by
 unfold prL
 split
 ·rw[List.length_set]
 ·rfl
theorem Zb0 (S:Bo.Sr)(z:Sen)(us:List Nat): ∀(ds L:List Nat),(prA S z us L ds).length=L.length
 | [],_=>rfl
 |d::ds,L=>by
  show(prA S z us (prL S z us L d) ds).length=_
  rw[Zb0 S z us ds,Zkw]
theorem Zc4 {S:Bo.Sr}{z:Sen}{us L ds:List Nat}{k:Nat}(h:k < ds.length):prA S z us L (ds.take (k+1))=prL S z us (prA S z us L (ds.take k)) ds[k]:=by
 unfold prA
 rw[List.take_succ_eq_append_getElem h,List.foldl_append]
 rfl
theorem Zaj {l:List Nat}{p:Nat→Bool}(h: ∀j (g:j < l.length),p l[j]=false):l.find? p=none:=by
 rw[List.find?_eq_none]
 intro a ha
 obtain⟨j,hj,rfl⟩:=List.mem_iff_getElem.1 ha
 rw[h j hj]
 simp
theorem Zd7 {l:List Nat}{p:Nat→Bool}{k:Nat}(h:k < l.length)(hk:p l[k]=true)(hl: ∀j (g:j < k),p (l[j]'(by omega))=false):l.find? p=some l[k]:=by
 rw[List.find?_eq_some_iff_append]
 refine⟨hk,l.take k,l.drop (k+1),?_,fun a ha=> ?_⟩
 ·rw[List.getElem_cons_drop,List.take_append_drop]
 ·obtain⟨j,hj,rfl⟩:=List.mem_iff_getElem.1 ha
  rw[List.length_take] at hj
  rw[List.getElem_take,hl j (by omega)]
  rfl
theorem ZlS {S:Bo.Sr}{z:Sen}{us L:List Nat}{d:Nat}(h: ∀j (g:j < us.length),(decide (L.getD us[j] 0=us[j]) && mayB S z d us[j])=false):prL S z us L d=L:=by
 unfold prL skL
 rw[Zaj h]
theorem Zkx {S:Bo.Sr}{z:Sen}{us L:List Nat}{d k:Nat}(g:k < us.length)(hk:(decide (L.getD us[k] 0=us[k]) && mayB S z d us[k])=true)(h: ∀j (g':j < k),(decide (L.getD (us[j]'(by omega)) 0=us[j]'(by omega)) && mayB S z d (us[j]'(by omega)))=false):prL S z us L d=L.set us[k] d:=by
 unfold prL skL
 rw[Zd7 g hk h]
theorem fits_all {S:Bo.Sr}{z:Sen}{d u:Nat}(h: ∀k < z.p.length,(!bb z k u||Yb S z d k)=true):((List.range z.p.length).all fun k=> !bb z k u||Yb S z d k)=true:=Uk.2 h
theorem ZhT {S:Bo.Sr}{z:Sen}{d u k:Nat}(hk:k < z.p.length)(h:(!bb z k u||Yb S z d k)=false):mayB S z d u=false:=by
 unfold mayB
 have:((List.range z.p.length).all fun k=> !bb z k u||Yb S z d k)=false:=by
  rw[List.all_eq_false]
  exact⟨k,List.mem_range.2 hk,by rw[h];simp⟩
 rw[this,Bool.and_false]
theorem ZfH {S:Bo.Sr}{z:Sen}{d n k:Nat}(h:k < n):(Yy S z d n)[k]'(by simp[Yy];exact h)=Yb S z d k:=by simp[Yy]
theorem ZhU {w:World}{z:Sen}{A1:Option Addr}{n1 c1:Nat}{A2:Option Addr}{n2 c2:Nat}{A3:Option Addr}{n3 c3:Nat}{A4:Option Addr}{n4 c4:Nat}(h:Zx w z A1 n1 c1 A2 n2 c2 A3 n3 c3 A4 n4 c4)(hw:Zn z=true){i j:Nat}(hi:i < z.p.length)(hj:j < z.p.length){b4 o4:Nat}(e:A4=some ⟨b4,o4,none⟩):
  ∃b' o' y,w.cell? ⟨b4,o4+i,none⟩=some (.slice (some ⟨b',o',none⟩) n1 y)∧w.cell? ⟨b',o'+j,none⟩=some (.bool (bb z i j)):=by
 obtain⟨b,o,b',o',y,e1,e2,e3⟩:=Vp h hw hi hj
 rw[e] at e1
 injection e1 with e1
 injection e1 with e1 e1'
 subst e1 e1'
 exact⟨b',o',y,e2,e3⟩
structure PrI (D:Nat→Prop)(S:Bo.Sr)(z:Sen)(us L ds:List Nat)(base:Nat)(O:Option Addr)(no co:Nat)(W2:World)(k:Nat)(wr:World):Prop where
 l:wr.ownsRow base 3 1 (.slice O no co) no ((prA S z us L (ds.take k)).flatMap en3)
 k:Kept D W2 wr
section
variable {D:Nat→Prop} {S:Bo.Sr} {z:Sen} {us L ds:List Nat} {base:Nat} {O:Option Addr} {no co:Nat} {W2:World} {k:Nat} {wr w':World}
theorem PrI.behind (h:PrI D S z us L ds base O no co W2 k wr)(hb:Below wr.heap.size wr w'):PrI D S z us L ds base O no co W2 k w':=
 ⟨Zi h.l hb,h.k.trans (Kept.of_below hb)⟩
theorem PrI.next (h:PrI D S z us L ds base O no co W2 k wr)(hk:k < ds.length)(e:prL S z us (prA S z us L (ds.take k)) ds[k]=prA S z us L (ds.take k)):PrI D S z us L ds base O no co W2 (k+1) wr:=
 ⟨by rw[Zc4 hk,e];exact h.l,h.k⟩
end
theorem ZhV (S:Bo.Sr)(z:Sen)(base:Nat)(v:Value)(A1:Option Addr)(n1 c1:Nat)(A2:Option Addr)(n2 c2:Nat)(A3:Option Addr)(n3 c3:Nat)(A4:Option Addr)(n4 c4:Nat)(F:Option Addr)(nf cf:Nat)(X:Option Addr)(nx cx:Nat)(V:Option Addr)(nv cv:Nat)(O:Option Addr)(no co:Nat)(AC:Option Addr)(nC cC:Nat)(AD:Option Addr)(nD cD:Nat)(ds us L:List Nat)(w:World)(htd0: ∀W,Kept (fun b=>(Value.slice O no co).ownBlock=some b) w W→TdAt W S z v A1 n1 c1 A2 n2 c2 A3 n3 c3 A4 n4 c4 F nf cf X nx cx V nv cv)
  (hO:w.ownsRow base 3 1 (.slice O no co) no (L.flatMap en3)) (hC:Rd nmI w w.heap.size AC nC cC ds) (hCo: ∀b o,AC=some ⟨b,o,none⟩→ ¬(Value.slice O no co).ownBlock=some b)
  (hD:Rd nmI w w.heap.size AD nD cD us) (hDo: ∀b o,AD=some ⟨b,o,none⟩→ ¬(Value.slice O no co).ownBlock=some b) (hds: ∀x∈ds,x < lim z) (hus: ∀x∈us,x < lim z) (hL:L.length=lim z) (hnC:nC≤400) (hnD:nD≤400):
  Calls Tryz.prog 90 #[tdV v A1 n1 c1 A2 n2 c2 A3 n3 c3 A4 n4 c4 F nf cf X nx cx V nv cv O no co,.slice AC nC cC,.slice AD nD cD] w fun e w'=>e= .returned (.tuple #[])∧w'.ownsRow base 3 1 (.slice O no co) no ((prA S z us L ds).flatMap en3)∧Kept (fun b=>(Value.slice O no co).ownBlock=some b) w w':=by
 obtain⟨bC,oC,hsC⟩:=Shows.of hC hCo
 obtain⟨bD,oD,hsD⟩:=Shows.of hD hDo
 have HDS:=Hd hds
 have HUS:=Hd hus
 have HNC:=Hd hnC
 have HND:=Hd hnD
 have HLL:=Hd hL
 have HSC:=Hd hsC
 have HSD:=Hd hsD
 have HO:=Hd hO
 have HBE:Hid (∀q,(Value.slice O no co).ownBlock=some q→q < w.heap.size):=Hd fun q e=>(hO.lt q e).2
 have h:=htd0 w (Kept.refl _ _)
 obtain⟨D,hD'⟩: ∃D:Nat→Prop,(fun b=>(Value.slice O no co).ownBlock=some b)=D:=⟨_,rfl⟩
 rw[hD'] at HSC HSD htd0 ⊢
 have HDD:Hid (∀b,D b↔(Value.slice O no co).ownBlock=some b):=Hd fun b=>by rw[← hD']
 have HLN:Hid (L.length=no):=Hd (Zl Zz (by decide) hO)
 have HTD:Hid (∀W,Kept D w W→TdAt W S z v A1 n1 c1 A2 n2 c2 A3 n3 c3 A4 n4 c4 F nf cf X nx cx V nv cv):=Hd htd0
 have HN:=Hd h.le
 have HNF:=Hd h.sz
 have ka:(w.alloc (.cells #[v,.slice A1 n1 c1,.slice A2 n2 c2,.slice A3 n3 c3,.slice A4 n4 c4,.slice F nf cf,.slice X nx cx,.slice V nv cv,.slice O no co] 108)).heap[w.heap.size]?=some (.cells #[v,.slice A1 n1 c1,.slice A2 n2 c2,.slice A3 n3 c3,.slice A4 n4 c4,.slice F nf cf,.slice X nx cx,.slice V nv cv,.slice O no co] 108 (0,0)):=heap_alloc_new w _
 have hx:=TBx.of ka
 have hb0:Below w.heap.size w (w.alloc (.cells #[v,.slice A1 n1 c1,.slice A2 n2 c2,.slice A3 n3 c3,.slice A4 n4 c4,.slice F nf cf,.slice X nx cx,.slice V nv cv,.slice O no co] 108)):=bA
 have HX:=Hd hx
 have HB0:=Hd hb0
 have HND2:Hid (¬D w.heap.size):=Hd fun hd=>by have:=HBE.out _ ((HDD.out _).1 hd);omega
 clear h htd0 hO hC hCo hD hDo hds hus hL hnC hnD hsC hsD hD' ka hx hb0
 obtain⟨w1,hw1⟩: ∃w1,w.alloc (.cells #[v,.slice A1 n1 c1,.slice A2 n2 c2,.slice A3 n3 c3,.slice A4 n4 c4,.slice F nf cf,.slice X nx cx,.slice V nv cv,.slice O no co] 108)=w1:=⟨_,rfl⟩
 rw[hw1] at HX HB0
 unfold tdV
 go_enter Tryz.func90,Tryz.ntmps90
 go_wp2_with fail
 generalize hwd:World.alloc w _=wd'
 obtain rfl:w1=wd':=hw1.symm.trans hwd
 clear hw1 hwd
 have HK1:Hid (Kept D w w1):=Hd (Kept.of_below HB0.out)
 have HI0:Hid (PrI D S z us L ds base O no co w1 0 w1):=Hd ⟨Zi HO.out HB0.out,Kept.refl _ _⟩
 go_loopw [15] (fun v15 wr=> ∃k:Nat,v15= .int .i64 (k:Int)∧k≤nC∧PrI D S z us L ds base O no co w1 k wr) (fun v15 _=>nC - (intOf v15).toNat)
 case atStart=>exact⟨0,rfl,Nat.zero_le _,HI0.out⟩
 case round=>(
 clear HI0
 obtain⟨k,rfl,hk,hI⟩:=hrel
 have HI:=Hd hI
 by_cases hlt:k < nC
 ·(
 have hkl:k < ds.length:=by have:=HSC.out.1;omega
 obtain rfl:AC=some ⟨bC,oC,none⟩:=HSC.out.2.1 (by omega)
 obtain⟨d,hd⟩: ∃d,ds[k]=d:=⟨_,rfl⟩
 have hKW:=HK1.out.trans hI.k
 have d0:wr.cell? ⟨bC,oC+k,none⟩=some (.int .i64 (d:Int)):=by rw[← hd];exact HSC.out.2.2 wr hKW k hkl
 have HDL:=Hd (HDS.out d (by rw[← hd];exact List.getElem_mem hkl))
 have HKL:=Hd hkl
 have HLT:=Hd hlt
 have HDK:=Hd hd
 have hbx:Below w1.heap.size w1 w1:=Below.refl _ _
 have off: ∀o,wr.cell? ⟨w.heap.size,o,none⟩=w1.cell? ⟨w.heap.size,o,none⟩:=fun o=>hI.k.cell (p:=⟨w.heap.size,o,none⟩) (World.block_lt_of_cell? w1 ⟨w.heap.size,0,none⟩ HX.out.p0) HND2.out
 have y0:=(off 0).trans HX.out.p0
 have y1:=(off 1).trans HX.out.p1
 have y2:=(off 2).trans HX.out.p2
 have y3:=(off 3).trans HX.out.p3
 have y4:=(off 4).trans HX.out.p4
 have y5:=(off 5).trans HX.out.p5
 have y6:=(off 6).trans HX.out.p6
 have y7:=(off 7).trans HX.out.p7
 have y8:=(off 8).trans HX.out.p8
 have hin:(k:Int) < (nC:Int):=by omega
 have hk9:k≤60000:=by have:=HNC.out;omega
 have htd:=HTD.out wr hKW
 obtain⟨hw,hdp⟩:=ZP HDL.out
 have hlen:=htd.lens hw
 have HLE:=Hd hlen
 have HFIT:=Hd (fits_any d S z v A1 n1 c1 A2 n2 c2 A3 n3 c3 A4 n4 c4 F nf cf X nx cx V nv cv O no co wr htd HDL.out)
 obtain⟨b4,o4,b4',o4',y4',hA4,-,-⟩:=Vp htd.sen hw hdp hdp
 obtain⟨Lk,hLk⟩: ∃l,prA S z us L (ds.take k)=l:=⟨_,rfl⟩
 have HLK:=Hd hLk
 have hLw:=hI.l
 rw[hLk] at hLw
 have hLL:Lk.length=lim z:=by rw[← hLk,Zb0];exact HLL.out
 have HLK2:=Hd hLL
 obtain⟨g,rfl,-,hgw,-,-,-⟩:=ZaG hLw (i:=d) (by rw[hLL];exact HDL.out)
 have HW:=Hd hw
 have HA4:=Hd hA4
 clear hA4 hk hI hlt hd off htd hw hdp hlen hLk hLL
 unfold tdV at HFIT
 go_wp2_with fail
 refine wp_scope_straight ?_
 go_wp2_with fail
 refine HFIT.out.mono ?_
 rintro e w2 ⟨FA,FN,fc,rfl,hfo,hv⟩
 have HFR:=Hd (ZgP hfo)
 have HI2:=Hd (HI.out.behind hv)
 have HL2:=Hd (Zi hLw hv)
 have HKW2:Hid (Kept D w w2):=Hd (hKW.trans (Kept.of_below hv))
 have hbox:TBx wr w.heap.size v A1 n1 c1 A2 n2 c2 A3 n3 c3 A4 n4 c4 F nf cf X nx cx V nv cv (some ⟨g,0,none⟩) no co:=⟨y0,y1,y2,y3,y4,y5,y6,y7,y8⟩
 have HBX:=Hd (hbox.keep hv)
 have HTD2:Hid (∀W,Below w2.heap.size w2 W→TdAt W S z v A1 n1 c1 A2 n2 c2 A3 n3 c3 A4 n4 c4 F nf cf X nx cx V nv cv):=Hd fun W hW=>HTD.out W (HKW2.out.trans (Kept.of_below hW))
 have HFN:Hid (FN=z.p.length):=Hd (by have:=HFR.out.len;simp[Yy] at this;omega)
 have HGW:Hid (g≠w.heap.size∧g < w1.heap.size):=Hd (by
 have h1:=HBE.out g rfl
 exact⟨by omega,Nat.lt_of_lt_of_le h1 HB0.out.size⟩)
 clear d0 y0 y1 y2 y3 y4 y5 y6 y7 y8 hLw hgw hKW hfo hv hbox HFIT HI
 go_wp2_with fail
 refine wp_label ?_
 go_wp2_with fail
 obtain⟨wo,rfl⟩: ∃wo,wo=wr:=⟨_,rfl⟩
 go_loopw [24] (fun v24 wq=> ∃j:Nat,v24= .int .i64 (j:Int)∧j≤nD∧(∀i (q:i < j) (q':i < us.length),(decide (Lk.getD us[i] 0=us[i]) && mayB S z d us[i])=false)∧Below w2.heap.size w2 wq) (fun v24 _=>nD - (intOf v24).toNat)
 case atStart=>exact⟨0,rfl,Nat.zero_le _,fun i q=>absurd q (Nat.not_lt_zero i),Below.refl _ _⟩
 case round=>(
 obtain⟨j,rfl,hj,hno,hbq⟩:=hrel
 have HBQ:=Hd hbq
 have HNO:=Hd hno
 by_cases hltj:j < nD
 ·(
 have hjl:j < us.length:=by have:=HSD.out.1;omega
 obtain rfl:AD=some ⟨bD,oD,none⟩:=HSD.out.2.1 (by omega)
 obtain⟨u,hu⟩: ∃u,us[j]=u:=⟨_,rfl⟩
 have u0:wr.cell? ⟨bD,oD+j,none⟩=some (.int .i64 (u:Int)):=by rw[← hu];exact HSD.out.2.2 wr (HKW2.out.trans (Kept.of_below hbq)) j hjl
 have HUL:=Hd (HUS.out u (by rw[← hu];exact List.getElem_mem hjl))
 have HJL:=Hd hjl
 have HLTJ:=Hd hltj
 have HUJ:=Hd hu
 obtain⟨g',hg',-,-,ce,fe,hset⟩:=ZaG (Zi HL2.out hbq) (i:=u) (by rw[HLK2.out];exact HUL.out)
 injection hg' with hg'
 injection hg' with hg' _
 subst hg'
 have HSET:=Hd hset
 obtain⟨a,ha⟩: ∃a,Lk.getD u 0=a:=⟨_,rfl⟩
 rw[ha] at ce
 have HA:=Hd ha
 have hbq':=HBX.out.keep hbq
 have y0:=hbq'.p0
 have y1:=hbq'.p1
 have y2:=hbq'.p2
 have y3:=hbq'.p3
 have y4:=hbq'.p4
 have y5:=hbq'.p5
 have y6:=hbq'.p6
 have y7:=hbq'.p7
 have y8:=hbq'.p8
 have hinj:(j:Int) < (nD:Int):=by omega
 have hj9:j≤60000:=by have:=HND.out;omega
 have hun:(u:Int) < (no:Int):=by have:=HUL.out;have:=HLN.out;have:=HLL.out;omega
 have hu9:u≤60000:=by have:=HUL.out;have:=HNF.out;have:=HN.out;omega
 obtain⟨ld,hld⟩: ∃r,RP S z d u=r:=⟨_,rfl⟩
 have HLD:=Hd hld
 have HLEAD:=Hd (ZfI d u S z v A1 n1 c1 A2 n2 c2 A3 n3 c3 A4 n4 c4 F nf cf X nx cx V nv cv (some ⟨g,0,none⟩) no co wr (HTD2.out wr hbq) HDL.out HUL.out ld hld)
 have HNEXT:Hid ((decide (Lk.getD u 0=u) && mayB S z d u)=false→ ∀i (q:i < j+1) (q':i < us.length),(decide (Lk.getD us[i] 0=us[i]) && mayB S z d us[i])=false):=Hd fun e i q q'=>by(
 by_cases e':i=j
 ·subst e'
  rw[HUJ.out]
  exact e
 ·exact HNO.out i (by omega) q')
 clear hj hbq hno hltj hu hset ha hbq' hld
 unfold tdV at HLEAD
 by_cases hau:a=u
 ·(
 subst hau
 have g1:((a:Int) !=(a:Int))=false:=by simp
 go_wp2_with fail
 refine HLEAD.out.mono ?_
 rintro e w5 ⟨rfl,hv5⟩
 have HB5:=Hd (HBQ.out.trans (hv5.mono HBQ.out.size))
 clear y0 y1 y2 y3 y4 y5 y6 y7 y8 hv5 HLEAD u0 ce fe g1
 cases ld with
 |false=>(
 have HNN:=Hd (HNEXT.out (by unfold mayB;rw[HLD.out];simp))
 go_wp2_with fail
 go_roundw
 case rel=>exact⟨j+1,by go_num,HLTJ.out,HNN.out,HB5.out⟩
 case measure=>(
 have:=HLTJ.out
 simp[intOf]
 omega))
 |true=>(
 obtain⟨wp',rfl⟩: ∃wp',wp'=wr:=⟨_,rfl⟩
 go_wp2_with fail
 go_loopw [44] (fun v44 wz=> ∃q:Nat,v44= .int .i64 (q:Int)∧q≤FN∧(∀i < q,(!bb z i a||Yb S z d i)=true)∧w5=wz) (fun v44 _=>FN - (intOf v44).toNat)
 case atStart=>exact⟨0,rfl,Nat.zero_le _,fun i q=>absurd q (Nat.not_lt_zero i),rfl⟩
 case round=>(
 obtain⟨q,rfl,hq,hall,rfl⟩:=hrel
 have HALL:=Hd hall
 by_cases hltq:q < FN
 ·(
 have hqp:q < z.p.length:=by have:=HFN.out;omega
 have htd:=HTD2.out w5 HB5.out
 obtain⟨b',o',yy,r1,r2⟩:=ZhU htd.sen HW.out hqp (ZP HUL.out).2 HA4.out
 obtain⟨bF,oF,rfl,hbF,hcF⟩:=HFR.out.spot (by omega)
 have m0:w5.cell? ⟨bF,oF+q,none⟩=some (.bool (Yb S z d q)):=by(
 have h1:=hcF q (by simp[Yy];exact hqp)
 rw[ZfH hqp] at h1
 exact Za h1 HB5.out)
 have x4:=(HBX.out.keep HB5.out).p4
 rw[HA4.out] at x4
 obtain⟨x,hx⟩: ∃x,bb z q a=x:=⟨_,rfl⟩
 obtain⟨m,hm⟩: ∃x,Yb S z d q=x:=⟨_,rfl⟩
 rw[hx] at r2
 rw[hm] at m0
 have HXM:Hid ((!bb z q a||Yb S z d q)=(!x||m)):=Hd (by rw[hx,hm])
 have HLTQ:=Hd hltq
 have HQP:=Hd hqp
 have hinq:(q:Int) < (FN:Int):=by omega
 have hinq4:(q:Int) < (n4:Int):=by have:=HLE.out;omega
 have han1:(a:Int) < (n1:Int):=by have:=HLE.out;have:=(ZP HUL.out).2;omega
 have hq9:q≤60000:=by have:=HLE.out;have:=HN.out;omega
 have HNXT:Hid ((!x||m)=true→ ∀i < q+1,(!bb z i a||Yb S z d i)=true):=Hd fun e i hi=>by(
 by_cases e':i=q
 ·subst e'
  rw[HXM.out]
  exact e
 ·exact HALL.out i (by omega))
 clear hq hall hltq hqp htd hbF hcF hx hm
 cases x with
 |false=>(
 have HNN:=Hd (HNXT.out rfl)
 go_wp2_with fail
 go_roundw
 case rel=>exact⟨q+1,by go_num,HLTQ.out,HNN.out,trivial⟩
 case measure=>(
 have:=HLTQ.out
 simp[intOf]
 omega))
 |true=>(
 cases m with
 |true=>(
 have HNN:=Hd (HNXT.out rfl)
 go_wp2_with fail
 go_roundw
 case rel=>exact⟨q+1,by go_num,HLTQ.out,HNN.out,trivial⟩
 case measure=>(
 have:=HLTQ.out
 simp[intOf]
 omega))
 |false=>(
 have HNN:=Hd (HNEXT.out (by rw[ZhT HQP.out HXM.out,Bool.and_false]))
 go_wp2_with fail
 go_roundw
 case rel=>exact⟨j+1,by go_num,HLTJ.out,HNN.out,HB5.out⟩
 case measure=>(
 have:=HLTJ.out
 simp[intOf]
 omega))))
 ·(
 obtain rfl:q=FN:=by omega
 have HMAY:Hid (mayB S z d a=true):=Hd (by
 unfold mayB
 rw[HLD.out,Bool.true_and]
 exact fits_all fun k hk=>hall k (by have:=HFN.out;omega))
 have x8:=(HBX.out.keep HB5.out).p8
 obtain⟨g2,hg2,-,-,ce,fe,hset⟩:=ZaG (Zi HL2.out HB5.out) (i:=a) (by rw[HLK2.out];exact HUL.out)
 injection hg2 with hg2
 injection hg2 with hg2 _
 subst hg2
 have HPI:Hid (PrI D S z us L ds base (some ⟨g,0,none⟩) no co w1 (k+1) (w5.setCell ⟨g,a,none⟩ (.int .i64 (d:Int)))):=Hd (by
 have e1:=HUJ.out
 have e2:prL S z us Lk (ds[k]'HKL.out)=Lk.set a d:=by(
 rw[HDK.out]
 have:=Zkx (S:=S) (z:=z) (L:=Lk) (d:=d) HJL.out (by rw[e1,HA.out,HMAY.out];simp) fun i q=>HNO.out i q (by have:=HJL.out;omega)
 rw[e1] at this
 exact this)
 refine⟨?_,(HI2.out.k.trans (Kept.of_below HB5.out)).setCell (p:=⟨g,a,none⟩) (.inl ((HDD.out g).2 rfl)) _⟩
 rw[Zc4 HKL.out,HLK.out,e2]
 exact hset d)
 clear hq hall hltq hset
 go_wp2_with fail
 go_roundw
 case rel=>exact⟨k+1,by go_num,HLT.out,HPI.out⟩
 case measure=>(
 have:=HLT.out
 simp[intOf]
 omega)))))
 ·(
 have g1:((a:Int) !=(u:Int))=true:=by simp;omega
 have HNN:=Hd (HNEXT.out (by rw[HA.out,decide_eq_false hau,Bool.false_and]))
 clear hau
 go_wp2_with fail
 go_roundw
 case rel=>exact⟨j+1,by go_num,HLTJ.out,HNN.out,HBQ.out⟩
 case measure=>(
 have:=HLTJ.out
 simp[intOf]
 omega)))
 ·(
 obtain rfl:j=nD:=by omega
 have HPI:Hid (PrI D S z us L ds base (some ⟨g,0,none⟩) no co w1 (k+1) wr):=Hd (by
 refine(HI2.out.behind hbq).next HKL.out ?_
 rw[HLK.out,HDK.out]
 exact ZlS fun i q=>hno i (by have:=HSD.out.1;omega) q)
 clear hj hno hbq hltj
 go_wp2_with fail
 rw[Exit.noGoto_normal]
 go_wp2_with fail
 go_roundw
 case rel=>exact⟨k+1,by go_num,HLT.out,HPI.out⟩
 case measure=>(
 have:=HLT.out
 simp[intOf]
 omega))))
 ·(
 obtain rfl:k=nC:=by omega
 have e1:ds.take k=ds:=List.take_of_length_le (by have:=HSC.out.1;omega)
 obtain⟨hl,hkk⟩:=hI
 rw[e1] at hl
 have HL':=Hd hl
 have HK':=Hd (HK1.out.trans hkk)
 clear hlt hk hl hkk HI
 go_wp2_with fail
 go_end0
 exact⟨rfl,HL'.out,HK'.out⟩))
end Go.Proofs.YtmejhedegmjboaaGreat.I
namespace Go.Proofs.YtmejhedegmjboaaGreat.I
open Go.RowKit PaC
def tkO (z:Sen):Tk:=fun x=>(hg z x,pk (rowB z x) z.p.length)
def tkI (z:Sen):Tk:=fun x=>(lw z x,pk (colB z x) z.p.length)
theorem Zlm {z:Sen}{b x:Nat}:decide (tkO z b=tkO z x)=soB z x b:=by
 rw[Bool.eq_iff_iff,decide_eq_true_eq,VJ]
 unfold tkO
 rw[Prod.mk.injEq,Zmu]
 exact⟨fun ⟨a,c⟩=>⟨a.symm,fun k hk=>(c k hk).symm⟩,fun ⟨a,c⟩=>⟨a.symm,fun k hk=>(c k hk).symm⟩⟩
theorem Zln {z:Sen}{b x:Nat}:decide (tkI z b=tkI z x)=siB z x b:=by
 rw[Bool.eq_iff_iff,decide_eq_true_eq,VK]
 unfold tkI
 rw[Prod.mk.injEq,Zmu]
 exact⟨fun ⟨a,c⟩=>⟨a.symm,fun k hk=>(c k hk).symm⟩,fun ⟨a,c⟩=>⟨a.symm,fun k hk=>(c k hk).symm⟩⟩
theorem mgO (S:Bo.Sr)(z:Sen)(x:Nat):mgL (tkO z) ((cfg S z).cls 2) x=(cfg S z).mg (cfg S z).so x:=by
 unfold mgL Cfg.mg
 congr 1
 funext b
 exact Zlm
theorem mgI (S:Bo.Sr)(z:Sen)(x:Nat):mgL (tkI z) ((cfg S z).cls 2) x=(cfg S z).mg (cfg S z).si x:=by
 unfold mgL Cfg.mg
 congr 1
 funext b
 exact Zln
def RL (n:Nat)(f:Nat→Nat):List Nat:=(List.range n).map f
theorem ZaN (n:Nat)(f:Nat→Nat):(RL n f).length=n:=by simp[RL]
theorem Zlo {n:Nat}{f:Nat→Nat}{x:Nat}(h:x < n):(RL n f).getD x 0=f x:=by
 unfold RL
 rw[List.getD_eq_getElem?_getD,List.getElem?_map,List.getElem?_range h]
 rfl
theorem ZiT (n:Nat)(f:Nat→Nat)(x b:Nat):(RL n f).set x b=RL n (fun y=>if y=x then b else f y):=by
 apply List.ext_getElem (by simp[RL])
 intro i h1 h2
 rw[List.getElem_set]
 simp only[RL,List.getElem_map,List.getElem_range]
 by_cases e:x=i
 ·rw[if_pos e,if_pos e.symm]
 ·rw[if_neg e,if_neg (Ne.symm e)]
theorem KD {n:Nat}{f g:Nat→Nat}(h: ∀x < n,f x=g x):RL n f=RL n g:=List.map_congr_left fun x hx=>h x (List.mem_range.1 hx)
theorem Zcz (tk:Tk)(dl:List Nat)(n:Nat): ∀(cl:List Nat) (f:Nat→Nat),stA tk dl (RL n f) cl=RL n (fun x=>if x∈cl then(mgL tk dl x).getD (f x) else f x)
 | [],f=>by
  show RL n f=_
  exact KD fun x _=>by simp
 |x::cl,f=>by(
 show stA tk dl (stL tk dl (RL n f) x) cl=_
 unfold stL
 cases e:mgL tk dl x with
 |none=>(
 show stA tk dl (RL n f) cl=_
 rw[Zcz tk dl n cl f]
 refine KD fun y _=> ?_
 by_cases h:y=x
 ·subst h
  rw[e]
  simp
 ·by_cases h2:y∈cl
  ·rw[if_pos h2,if_pos (List.mem_cons_of_mem _ h2)]
  ·rw[if_neg h2,if_neg fun h3=>(List.mem_cons.1 h3).elim h h2])
 |some b=>(
 show stA tk dl ((RL n f).set x b) cl=_
 rw[ZiT,Zcz tk dl n cl]
 refine KD fun y _=> ?_
 by_cases h:y=x
 ·subst h
  rw[e]
  simp
 ·by_cases h2:y∈cl
  ·rw[if_pos h2,if_pos (List.mem_cons_of_mem _ h2),if_neg h]
  ·rw[if_neg h2,if_neg h,if_neg fun h3=>(List.mem_cons.1 h3).elim h h2]))
section
variable {S:Bo.Sr} {z:Sen}
theorem otO:otL (tkO z) ((cfg S z).cls 2) ((cfg S z).cls 1)=(cfg S z).downs:=by
 unfold otL Cfg.downs Cfg.oth
 exact List.filter_congr fun x _=>by rw[mgO]
theorem otI:otL (tkI z) ((cfg S z).cls 2) ((cfg S z).cls 0)=(cfg S z).ups:=by
 unfold otL Cfg.ups Cfg.oth
 exact List.filter_congr fun x _=>by rw[mgI]
theorem Zlp:stA (tkI z) ((cfg S z).cls 2) (stA (tkO z) ((cfg S z).cls 2) (RL z.p.length id) ((cfg S z).cls 1)) ((cfg S z).cls 0)=RL z.p.length (cfg S z).one1:=by
 rw[Zcz,Zcz]
 refine KD fun x hx=> ?_
 unfold Cfg.one1
 have m: ∀s,x∈(cfg S z).cls s↔(cfg S z).is s x=true:=fun s=>by
  rw[Zt,UK]
  exact⟨fun h=>h.2,fun h=>⟨hx,h⟩⟩
 simp only[m,mgO,mgI,id]
 by_cases h1:(cfg S z).is 1 x=true
 ·have h0: ¬(cfg S z).is 0 x=true:=fun h0=>by
   have a:=(UK.1 h1).2.2
   have b:=(UK.1 h0).2.2
   omega
  rw[if_neg h0,if_pos h1,if_pos h1]
 ·rw[if_neg h1,if_neg h1]
theorem ZeJ {c:Cfg}{l:List Nat}{s:Cfg.Ps}(h:PsOk c l s)(hl: ∀d∈l,d∈c.downs){u:Nat}(hu:u∈c.ups):decide (c.oneM s u=u)= !Cfg.taken s u:=by
 cases t:Cfg.taken s u with
 |false=>
  rw[V6 t,Zce (ZW.1 hu).1,(ZW.1 hu).2]
  simp
 |true=>(
 obtain⟨d,hd⟩:=ZY.1 t
 rw[QA h hd]
 have hm:d∈l:=by rw[← h.fst];exact List.mem_map.2 ⟨_,hd,rfl⟩
 have h1:=(Zt.1 (ZO.1 (hl d hm)).1).2.2.2
 have h2:=(Zt.1 (ZW.1 hu).1).2.2.2
 rw[decide_eq_false (fun e=>by rw[e] at h1;omega)]
 rfl)
theorem Zlq {l:List Nat}{s:Cfg.Ps}(h:PsOk (cfg S z) l s)(hl: ∀d∈l,d∈(cfg S z).downs)(d:Nat):skL S z (cfg S z).ups (RL z.p.length ((cfg S z).oneM s)) d=(cfg S z).seek s d:=by
 unfold skL Cfg.seek
 have key: ∀(us:List Nat),(∀u∈us,u∈(cfg S z).ups)→us.find? (fun u=>decide ((RL z.p.length ((cfg S z).oneM s)).getD u 0=u) && mayB S z d u)=us.find? (fun u=> !Cfg.taken s u && (cfg S z).fit d u):=by(
 intro us
 induction us with
 |nil=>intro _;rfl
 |cons u us ih=>(
 intro hu
 have h1:=hu u (List.mem_cons_self ..)
 have hn:u < z.p.length:=(Zt.1 (ZW.1 h1).1).1
 rw[List.find?_cons,List.find?_cons,Zlo hn,ZeJ h hl h1,ih fun v hv=>hu v (List.mem_cons_of_mem _ hv)]
 rfl))
 exact key _ fun u hu=>hu
theorem ZiU: ∀(r l:List Nat) (s:Cfg.Ps),PsOk (cfg S z) l s→(∀d∈l,d∈(cfg S z).downs)→(∀d∈r,d∈(cfg S z).downs)→
  prA S z (cfg S z).ups (RL z.p.length ((cfg S z).oneM s)) r=RL z.p.length ((cfg S z).oneM (r.foldl (cfg S z).QY s))
 | [],_,_,_,_,_=>rfl
 |d::r,l,s,h,hl,hr=>by(
 have hd:=hr d (List.mem_cons_self ..)
 have ih:=ZiU r (l++ [d]) _ (h.next d) (fun x hx=>(List.mem_append.1 hx).elim (hl x) fun e=>by rw[List.mem_singleton.1 e];exact hd) fun x hx=>hr x (List.mem_cons_of_mem _ hx)
 show prA S z _ (prL S z _ _ d) r=_
 have e:prL S z (cfg S z).ups (RL z.p.length ((cfg S z).oneM s)) d=RL z.p.length ((cfg S z).oneM ((cfg S z).QY s d)):=by(
 unfold prL Cfg.QY
 rw[Zlq h hl]
 cases e:(cfg S z).seek s d with
 |none=>rw[Zgr]
 |some u=>(
 have h1:=List.find?_some e
 simp only[Bool.and_eq_true,Bool.not_eq_true'] at h1
 rw[Zit h1.1]
 exact ZiT _ _ _ _))
 rw[e]
 exact ih)
theorem Zlr:prA S z (cfg S z).ups (RL z.p.length (cfg S z).one1) (cfg S z).downs=RL z.p.length (cfg S z).one:=by
 have:=ZiU (S:=S) (z:=z) (cfg S z).downs [] [] PsOk.zero (fun _ h=>absurd h (List.not_mem_nil)) fun _ h=>h
 have e:(cfg S z).oneM []=(cfg S z).one1:=by
  funext x
  exact V6 rfl
 rw[e] at this
 exact this
end
noncomputable def oneL (S:Bo.Sr) (z:Sen):List Nat:=RL (lim z) (cfg S z).one
end Go.Proofs.YtmejhedegmjboaaGreat.I
namespace Go.Proofs.YtmejhedegmjboaaGreat.I
open Go.RowKit PaC
theorem Zez (S:Bo.Sr)(z:Sen):prA S z (otL (tkI z) (clsL S z 2) (clsL S z 0)) (stA (tkI z) (clsL S z 2) (stA (tkO z) (clsL S z 2) (RL (lim z) id) (clsL S z 1)) (clsL S z 0)) (otL (tkO z) (clsL S z 2) (clsL S z 1))=oneL S z:=by
 unfold oneL
 cases hw:Zn z with
 |true=>rw[QQ hw,Y4 hw,Y4 hw,Y4 hw,otO,otI,Zlp,Zlr]
 |false=>(
 have h0:=Zmt hw
 rw[h0]
 refine List.eq_nil_of_length_eq_zero ?_
 rw[Zb0,YR,YR,ZaN])
theorem Zmx (n:Nat):RL n id=List.range n:=by simp[RL]
theorem Zli (n:Nat):RL (n+1) id=RL n id++ [n]:=by rw[Zmx,Zmx,List.range_succ]
theorem UQ {α:Type}{en:α→Value}{w w':World}{A:Option Addr}{n c:Nat}{l:List α}(h:Rd en w w.heap.size A n c l)(hs:w.heap.size≤w'.heap.size)(hb: ∀b o,A=some ⟨b,o,none⟩→0 < n→b < w.heap.size→w'.heap[b]?=w.heap[b]?):Rd en w' w'.heap.size A n c l:=
 ⟨h.len,h.cap,h.top,h.none0,fun hn=>by
  obtain⟨b,o,e,hlt,hc⟩:=h.spot hn
  exact⟨b,o,e,Nat.lt_of_lt_of_le hlt hs,fun j hj=>(World.cell?_of_block (a:=⟨b,o+j,none⟩) (hb b o e hn hlt)).trans (hc j hj)⟩⟩
theorem Zcr {α:Type}{en:α→Value}{w:World}{B:Nat}{A:Option Addr}{n c:Nat}{l:List α}(h:Rd en w B A n c l){g:Nat}{cs:Array Value}{t:TypeId}(hg:w.heap[g]?=some (.cells cs t (0,0)))(hno: ∀(i:Nat) (x:α),cs[i]?≠some (en x)){b o:Nat}(e:A=some ⟨b,o,none⟩)(hn:0 < n):b≠g:=by
 rintro rfl
 obtain⟨b',o',e',-,hc⟩:=h.spot hn
 rw[e] at e'
 injection e' with e'
 injection e' with e1 e2
 subst e1 e2
 have:=hc 0 (by have:=h.len;omega)
 rw[Zb hg] at this
 exact hno _ _ this
theorem Zcs {v:Value}{S:Bo.Sr}{w:World}(hs:Bo.VH w v S){A1:Option Addr}{n1 c1:Nat}{A2:Option Addr}{n2 c2:Nat}{A3:Option Addr}{n3 c3:Nat}{A4:Option Addr}{n4 c4:Nat}{F:Option Addr}{nf cf:Nat}{X:Option Addr}{nx cx:Nat}{V:Option Addr}{nv cv:Nat}{O:Option Addr}{no co:Nat}:(∀(i:Nat) (x:Nat),(#[v,.slice A1 n1 c1,.slice A2 n2 c2,.slice A3 n3 c3,.slice A4 n4 c4,.slice F nf cf,.slice X nx cx,.slice V nv cv,.slice O no co]:Array Value)[i]?≠some (nmI x))∧(∀(i:Nat) (x:Bool),(#[v,.slice A1 n1 c1,.slice A2 n2 c2,.slice A3 n3 c3,.slice A4 n4 c4,.slice F nf cf,.slice X nx cx,.slice V nv cv,.slice O no co]:Array Value)[i]?≠some (Value.bool x))∧(∀(i:Nat) (x:Nat),(#[v,.slice A1 n1 c1,.slice A2 n2 c2,.slice A3 n3 c3,.slice A4 n4 c4,.slice F nf cf,.slice X nx cx,.slice V nv cv,.slice O no co]:Array Value)[i]?≠some (La.nm x)):=by
 have hv:(∀q a,v≠ .int q a)∧ ∀b,v≠ .bool b:=by(
 rcases hs with⟨rfl,-⟩|⟨a,rfl,-⟩|⟨a,rfl,-⟩|⟨rfl,-⟩
 all_goals(
 refine⟨fun q a e=> ?_,fun b e=> ?_⟩
 ·cases e
 ·cases e))
 have key: ∀(u:Value),(∀A n c,u≠ .slice A n c)→u≠v→ ∀i:Nat,(#[v,.slice A1 n1 c1,.slice A2 n2 c2,.slice A3 n3 c3,.slice A4 n4 c4,.slice F nf cf,.slice X nx cx,.slice V nv cv,.slice O no co]:Array Value)[i]?≠some u:=by(
 intro u h1 h2 i e
 match i,e with
 |0,e=>exact h2 (Option.some.inj e).symm
 |1,e=>exact h1 _ _ _ (Option.some.inj e).symm
 |2,e=>exact h1 _ _ _ (Option.some.inj e).symm
 |3,e=>exact h1 _ _ _ (Option.some.inj e).symm
 |4,e=>exact h1 _ _ _ (Option.some.inj e).symm
 |5,e=>exact h1 _ _ _ (Option.some.inj e).symm
 |6,e=>exact h1 _ _ _ (Option.some.inj e).symm
 |7,e=>exact h1 _ _ _ (Option.some.inj e).symm
 |8,e=>exact h1 _ _ _ (Option.some.inj e).symm
 |k+9,e=>simp at e)
 refine⟨fun i x=>key _ (fun _ _ _ e=>by cases e) (fun e=>hv.1 _ _ e.symm) i,fun i x=>key _ (fun _ _ _ e=>by cases e) (fun e=>hv.2 _ e.symm) i,fun i x=>key _ (fun _ _ _ e=>by cases e) (fun e=>hv.1 _ _ e.symm) i⟩
theorem ZdD (u:Value)(h1:u≠ .nilIface)(h2: ∀A n c,u≠ .slice A n c): ∀i:Nat,(#[.nilIface,.slice none 0 0,.slice none 0 0,.slice none 0 0,.slice none 0 0,.slice none 0 0,.slice none 0 0,.slice none 0 0,.slice none 0 0]:Array Value)[i]?≠some u:=by
 intro i e
 match i,e with
 |0,e=>exact h1 (Option.some.inj e).symm
 |1,e=>exact h2 _ _ _ (Option.some.inj e).symm
 |2,e=>exact h2 _ _ _ (Option.some.inj e).symm
 |3,e=>exact h2 _ _ _ (Option.some.inj e).symm
 |4,e=>exact h2 _ _ _ (Option.some.inj e).symm
 |5,e=>exact h2 _ _ _ (Option.some.inj e).symm
 |6,e=>exact h2 _ _ _ (Option.some.inj e).symm
 |7,e=>exact h2 _ _ _ (Option.some.inj e).symm
 |8,e=>exact h2 _ _ _ (Option.some.inj e).symm
 |k+9,e=>simp at e
theorem ZaJ {v:Value}{S:Bo.Sr}{w0 W:World}(hs:Bo.VH w0 v S){a:Addr}{u:Value}(hc:W.cell? a=some u)(hf:W.frozen? a=false):(store a v).run Tryz.prog W= .ok () (W.setCell a v):=by
 rcases hs with⟨rfl,-⟩|⟨va,rfl,-⟩|⟨va,rfl,-⟩|⟨rfl,-⟩ <;> simp[hc,hf,go_sem]
theorem QR {w:World}{base sz n c b o:Nat}{E:TypeId}{xs:List Value}(h:w.ownsRow base E sz (.slice (some ⟨b,o,none⟩) n c) n xs):base≤b∧b < w.heap.size:=by
 rcases h.2 with⟨h0,-⟩|⟨g,cap,cur,hv,hb,hg,-⟩
 ·cases h0
 ·(
 injection hv with h1
 injection h1 with h1
 injection h1 with h1 h2
 subst h1
 exact⟨hb,Zh hg⟩)
def OD (O:Option Addr)(no co:Nat):Nat→Prop:=fun b=>(Value.slice O no co).ownBlock=some b
theorem Zg1 {l:List Nat}(h:La.Fit l)(i:Nat):l.getD i 0 < 18446744073709551616:=by
 by_cases hi:i < l.length
 ·rw[List.getD_eq_getElem?_getD,List.getElem?_eq_getElem hi]
  exact h _ (List.getElem_mem hi)
 ·rw[List.getD_eq_getElem?_getD,List.getElem?_eq_none (by omega)]
  decide
theorem Zmy {w:World}{z:Sen}{A1:Option Addr}{n1 c1:Nat}{A2:Option Addr}{n2 c2:Nat}{A3:Option Addr}{n3 c3:Nat}{A4:Option Addr}{n4 c4:Nat}(h:Zx w z A1 n1 c1 A2 n2 c2 A3 n3 c3 A4 n4 c4)(x:Nat):hg z x < 18446744073709551616:=Zg1 h.fh x
theorem Zmz {w:World}{z:Sen}{A1:Option Addr}{n1 c1:Nat}{A2:Option Addr}{n2 c2:Nat}{A3:Option Addr}{n3 c3:Nat}{A4:Option Addr}{n4 c4:Nat}(h:Zx w z A1 n1 c1 A2 n2 c2 A3 n3 c3 A4 n4 c4)(x:Nat):lw z x < 18446744073709551616:=Zg1 h.fl x
structure LkA (z:Sen)(w1:World)(v:Value)(A1:Option Addr)(n1 c1:Nat)(A2:Option Addr)(n2 c2:Nat)(A3:Option Addr)(n3 c3:Nat)(A4:Option Addr)(n4 c4:Nat)(bt:Nat)(F:Option Addr)(nf cf:Nat)(W:World):Prop where
 b:Below w1.heap.size w1 W
 t:W.heap[bt]?=some (.cells #[v,.slice A1 n1 c1,.slice A2 n2 c2,.slice A3 n3 c3,.slice A4 n4 c4,.slice F nf cf,.slice none 0 0,.slice none 0 0,.slice none 0 0] 108 (0,0))
 le:w1.heap.size≤bt
 f:Rd nmI W W.heap.size F nf cf (alF z)
structure LkB (w6:World)(bt:Nat)(v:Value)(A1:Option Addr)(n1 c1:Nat)(A2:Option Addr)(n2 c2:Nat)(A3:Option Addr)(n3 c3:Nat)(A4:Option Addr)(n4 c4:Nat)(F:Option Addr)(nf cf:Nat)(X:Option Addr)(nx cx:Nat)(V:Option Addr)(nv cv:Nat)(i:Nat)(O:Option Addr)(no co:Nat)(W:World):Prop where
 t:W.heap[bt]?=some (.cells #[v,.slice A1 n1 c1,.slice A2 n2 c2,.slice A3 n3 c3,.slice A4 n4 c4,.slice F nf cf,.slice X nx cx,.slice V nv cv,.slice O no co] 108 (0,0))
 o:W.ownsRow w6.heap.size 3 1 (.slice O no co) no ((RL i id).flatMap en3)
 k:Kept (· =bt) w6 W
theorem box9 {w:World}{g:Nat}{t:TypeId}{b0 b1 b2 b3 b4 b5 b6 b7 b8:Value}(h:w.heap[g]?=some (.cells #[b0,b1,b2,b3,b4,b5,b6,b7,b8] t (0,0)))(a0 a1 a2 a3 a4 a5 a6 a7 a8:Value):
  (((((((((w.setCell ⟨g,0,none⟩ a0).setCell ⟨g,1,none⟩ a1).setCell ⟨g,2,none⟩ a2).setCell ⟨g,3,none⟩ a3).setCell ⟨g,4,none⟩ a4).setCell ⟨g,5,none⟩ a5).setCell ⟨g,6,none⟩ a6).setCell ⟨g,7,none⟩ a7).setCell ⟨g,8,none⟩ a8).heap[g]?=
   some (.cells #[a0,a1,a2,a3,a4,a5,a6,a7,a8] t (0,0)):=by
 have:=Zm (i:=8) (Zm (i:=7) (Zm (i:=6) (Zm (i:=5) (Zm (i:=4) (Zm (i:=3) (Zm (i:=2) (Zm (i:=1) (Zm (i:=0) h a0) a1) a2) a3) a4) a5) a6) a7) a8
 rw[this]
 simp
theorem bel2 {B:Nat}{w0 w:World}{g:Nat}(h:Below B w0 w)(hg:B≤g)(i j:Nat)(a b:Value):Below B w0 ((w.setCell ⟨g,i,none⟩ a).setCell ⟨g,j,none⟩ b):=
 Zp (Zp h hg _) hg _
theorem bel9 {B:Nat}{w0 w:World}{g:Nat}(h:Below B w0 w)(hg:B≤g)(a0 a1 a2 a3 a4 a5 a6 a7 a8:Value):
  Below B w0 (((((((((w.setCell ⟨g,0,none⟩ a0).setCell ⟨g,1,none⟩ a1).setCell ⟨g,2,none⟩ a2).setCell ⟨g,3,none⟩ a3).setCell ⟨g,4,none⟩ a4).setCell ⟨g,5,none⟩ a5).setCell ⟨g,6,none⟩ a6).setCell ⟨g,7,none⟩ a7).setCell ⟨g,8,none⟩ a8):=
 Zp (Zp (Zp (Zp (Zp (Zp (Zp (Zp (Zp h hg _) hg _) hg _) hg _) hg _) hg _) hg _) hg _) hg _
theorem Zg2 (v:Value)(S:Bo.Sr)(z:Sen)(A1:Option Addr)(n1 c1:Nat)(A2:Option Addr)(n2 c2:Nat)(A3:Option Addr)(n3 c3:Nat)(A4:Option Addr)(n4 c4:Nat)(w:World)(hs:Bo.VH w v S)(h:Zx w z A1 n1 c1 A2 n2 c2 A3 n3 c3 A4 n4 c4)(hn:n1≤400):
  Calls Tryz.prog 47 #[v,senV A1 n1 c1 A2 n2 c2 A3 n3 c3 A4 n4 c4] w fun e w'=> ∃(F:Option Addr) (nf cf:Nat) (X:Option Addr) (nx cx:Nat) (V:Option Addr) (nv cv:Nat) (O:Option Addr) (no co:Nat),e= .returned (tdV v A1 n1 c1 A2 n2 c2 A3 n3 c3 A4 n4 c4 F nf cf X nx cx V nv cv O no co)∧TdAt w' S z v A1 n1 c1 A2 n2 c2 A3 n3 c3 A4 n4 c4 F nf cf X nx cx V nv cv∧Rd nmI w' w'.heap.size O no co (oneL S z)∧Below w.heap.size w w':=by
 have HS:=Hd hs
 have HH:=Hd h
 have HN:=Hd hn
 obtain⟨w1,hw1⟩: ∃w1,(w.alloc (.cells #[.slice A1 n1 c1,.slice A2 n2 c2,.slice A3 n3 c3,.slice A4 n4 c4] 28)).alloc (.cells #[.nilIface,.slice none 0 0,.slice none 0 0,.slice none 0 0,.slice none 0 0,.slice none 0 0,.slice none 0 0,.slice none 0 0,.slice none 0 0] 108)=w1:=⟨_,rfl⟩
 have hf:w1.heap[w.heap.size]?=some (.cells #[.slice A1 n1 c1,.slice A2 n2 c2,.slice A3 n3 c3,.slice A4 n4 c4] 28 (0,0))∧w1.heap[w.heap.size+1]?=some (.cells #[.nilIface,.slice none 0 0,.slice none 0 0,.slice none 0 0,.slice none 0 0,.slice none 0 0,.slice none 0 0,.slice none 0 0,.slice none 0 0] 108 (0,0))∧w1.heap.size=w.heap.size+2∧Below w.heap.size w w1:=by(
 obtain⟨x,hx⟩: ∃x,w.alloc (.cells #[.slice A1 n1 c1,.slice A2 n2 c2,.slice A3 n3 c3,.slice A4 n4 c4] 28)=x:=⟨_,rfl⟩
 rw[hx] at hw1
 have sx:x.heap.size=w.heap.size+1:=by rw[← hx,World.size_alloc]
 have b0:Below w.heap.size w x:=hx▸bA
 have b1:Below x.heap.size x w1:=hw1▸bA
 exact⟨(b1.block _ (by omega)).trans (hx▸heap_alloc_new w _),by rw[← sx, ← hw1];exact heap_alloc_new x _,by rw[← hw1,World.size_alloc,sx],b0.trans (b1.mono b0.size)⟩)
 obtain⟨k0,k1,s1,b1⟩:=hf
 have HK0:=Hd k0
 have HK1:=Hd k1
 have HS1:=Hd s1
 have HB1:=Hd b1
 have hz0:=ZB.of k0
 have HZ0:=Hd hz0
 clear hs h hn k0 k1 s1 b1
 unfold senV
 go_enter Tryz.func47,Tryz.ntmps47
 go_wp2_with fail
 generalize hwd:World.alloc (World.alloc w _) _=wd'
 obtain rfl:w1=wd':=hw1.symm.trans hwd
 clear hw1 hwd
 go_cut [5] (fun s5 wx=> ∃(bt:Nat) (F:Option Addr) (nf cf:Nat),s5= .pointer (some ⟨bt,0,none⟩)∧LkA z w1 v A1 n1 c1 A2 n2 c2 A3 n3 c3 A4 n4 c4 bt F nf cf wx)
 case first=>(
 have hvc:v.cells= #[v]:=by
  rcases HS.out with⟨rfl,-⟩|⟨va,rfl,-⟩|⟨va,rfl,-⟩|⟨rfl,-⟩ <;> rfl
 unfold Value.cells at hvc
 have HVC:=Hd hvc
 clear hvc
 have HOF:=Hd fun W (hW:Below w1.heap.size w1 W)=>ZdI v z A1 n1 c1 A2 n2 c2 A3 n3 c3 A4 n4 c4 W (HH.out.keep (HB1.out.trans (hW.mono HB1.out.size))) HN.out
 have HPL:Hid (z.p.length≤1000):=Hd (by have:=HH.out.rp.len;have:=HN.out;omega)
 unfold senV at HOF
 refine Bo.VR [0,1,2,3] 4 6 _ _ [5,6,7] [4,5,7] [4,6,7] 8 (fun W=>ZB W w.heap.size A1 n1 c1 A2 n2 c2 A3 n3 c3 A4 n4 c4) (by kernel_rfl) (by kernel_rfl) rfl rfl rfl rfl (by kernel_rfl) (by kernel_rfl) (by kernel_rfl) (by kernel_rfl) (by kernel_rfl) (by kernel_rfl) (fun _ _ _ _ _ h=>h) ⟨hz0.p0,hz0.p1,hz0.p2,hz0.p3⟩ ?_
 simp only[steps,sE,sD]
 clear hz0
 repeat(
 refine Bo.Zag (v:= ?_) rfl ?_ ?_
 rotate_left
 (focus(rintro w' ⟨x0,x1,x2,x3⟩;go_simp;try with_reducible rfl))
 simp only[Act.put,sA,sB,sC])
 have HBD:=Hd ((Below.refl w1.heap.size w1).drew)
 generalize World.drew _=wd at*
 refine Bo.Zah ⟨?_,?_⟩
 ·(
 go_simp
 refine(HOF.out wd HBD.out).mono ?_
 rintro e w4 ⟨F,nf,cf,rfl,hof⟩
 have HRD:=Hd (hof.rd HPL.out)
 have HB4:=Hd (HBD.out.trans (hof.1.mono HBD.out.size))
 refine⟨HZ0.out.keep HB4.out,?_⟩
 clear hof HBD HOF
 refine Zd (v:= .agg #[v,.slice A1 n1 c1,.slice A2 n2 c2,.slice A3 n3 c3,.slice A4 n4 c4,.slice F nf cf,.slice none 0 0,.slice none 0 0,.slice none 0 0]) rfl rfl (fun w' _=>by go_simp;simp[HVC.out]) ?_
 simp only[Act.put,sA,sB,sC]
 have HAL:=Hd (show Below w4.heap.size w4 (w4.alloc (.cells #[.nilIface,.slice none 0 0,.slice none 0 0,.slice none 0 0,.slice none 0 0,.slice none 0 0,.slice none 0 0,.slice none 0 0,.slice none 0 0] 108)) from bA)
 have HKN:=Hd (heap_alloc_new w4 (.cells #[.nilIface,.slice none 0 0,.slice none 0 0,.slice none 0 0,.slice none 0 0,.slice none 0 0,.slice none 0 0,.slice none 0 0,.slice none 0 0] 108))
 have HB5:=Hd (HB4.out.trans (HAL.out.mono HB4.out.size))
 refine Ze rfl rfl (fun K hK=> ?_)
 go_simp
 refine hK.out _ _ (fun _=>HZ0.out.keep HB5.out) ?_
 clear hK K
 try simp only[Act.put,sA,sB,sC]
 generalize w4.alloc (.cells #[.nilIface,.slice none 0 0,.slice none 0 0,.slice none 0 0,.slice none 0 0,.slice none 0 0,.slice none 0 0,.slice none 0 0,.slice none 0 0] 108)=w5 at*
 obtain⟨bt,hbt⟩: ∃b,w4.heap.size=b:=⟨_,rfl⟩
 rw[hbt] at HKN HAL
 try simp only[hbt]
 have HLE:=Hd (show w1.heap.size≤bt by rw[← hbt];exact HB4.out.size)
 have HBX:=HB5
 have e0:w5.cell? ⟨bt,0,none⟩=some (.nilIface):=(Zb (i:=0) HKN.out).trans rfl
 have e1:w5.cell? ⟨bt,1,none⟩=some (.slice none 0 0):=(Zb (i:=1) HKN.out).trans rfl
 have e2:w5.cell? ⟨bt,2,none⟩=some (.slice none 0 0):=(Zb (i:=2) HKN.out).trans rfl
 have e3:w5.cell? ⟨bt,3,none⟩=some (.slice none 0 0):=(Zb (i:=3) HKN.out).trans rfl
 have e4:w5.cell? ⟨bt,4,none⟩=some (.slice none 0 0):=(Zb (i:=4) HKN.out).trans rfl
 have e5:w5.cell? ⟨bt,5,none⟩=some (.slice none 0 0):=(Zb (i:=5) HKN.out).trans rfl
 have e6:w5.cell? ⟨bt,6,none⟩=some (.slice none 0 0):=(Zb (i:=6) HKN.out).trans rfl
 have e7:w5.cell? ⟨bt,7,none⟩=some (.slice none 0 0):=(Zb (i:=7) HKN.out).trans rfl
 have e8:w5.cell? ⟨bt,8,none⟩=some (.slice none 0 0):=(Zb (i:=8) HKN.out).trans rfl
 have f0:w5.frozen? ⟨bt,0,none⟩=false:=Zc HKN.out
 have f1:w5.frozen? ⟨bt,1,none⟩=false:=Zc HKN.out
 have f2:w5.frozen? ⟨bt,2,none⟩=false:=Zc HKN.out
 have f3:w5.frozen? ⟨bt,3,none⟩=false:=Zc HKN.out
 have f4:w5.frozen? ⟨bt,4,none⟩=false:=Zc HKN.out
 have f5:w5.frozen? ⟨bt,5,none⟩=false:=Zc HKN.out
 have f6:w5.frozen? ⟨bt,6,none⟩=false:=Zc HKN.out
 have f7:w5.frozen? ⟨bt,7,none⟩=false:=Zc HKN.out
 have f8:w5.frozen? ⟨bt,8,none⟩=false:=Zc HKN.out
 obtain⟨w6,hw6⟩: ∃w6,(((((((((w5).setCell ⟨bt,0,none⟩ (v)).setCell ⟨bt,1,none⟩ (.slice A1 n1 c1)).setCell ⟨bt,2,none⟩ (.slice A2 n2 c2)).setCell ⟨bt,3,none⟩ (.slice A3 n3 c3)).setCell ⟨bt,4,none⟩ (.slice A4 n4 c4)).setCell ⟨bt,5,none⟩ (.slice F nf cf)).setCell ⟨bt,6,none⟩ (.slice none 0 0)).setCell ⟨bt,7,none⟩ (.slice none 0 0)).setCell ⟨bt,8,none⟩ (.slice none 0 0)=w6:=⟨_,rfl⟩
 have HKT:Hid (w6.heap[bt]?=some (.cells #[v,.slice A1 n1 c1,.slice A2 n2 c2,.slice A3 n3 c3,.slice A4 n4 c4,.slice F nf cf,.slice none 0 0,.slice none 0 0,.slice none 0 0] 108 (0,0))):=Hd (by rw[← hw6];exact box9 HKN.out _ _ _ _ _ _ _ _ _)
 have HB65:Hid (Below bt w5 w6):=Hd (by rw[← hw6];exact bel9 (Below.refl _ _) lR _ _ _ _ _ _ _ _ _)
 have HBT:Hid (w1.heap.size≤bt):=Hd HLE.out
 have HB6:Hid (Below w1.heap.size w1 w6):=Hd (HBX.out.trans (HB65.out.mono HBT.out))
 have hsv:=ZaJ HS.out e0 f0
 refine Ze rfl rfl (fun K hK=> ?_)
 go_simp
 generalize hwq:World.setCell (World.setCell (World.setCell (World.setCell (World.setCell (World.setCell (World.setCell (World.setCell (World.setCell _ _ _) _ _) _ _) _ _) _ _) _ _) _ _) _ _) _ _=wq
 obtain rfl:w6=wq:=hw6.symm.trans hwq
 clear hwq
 refine hK.out _ _ (fun _=>HZ0.out.keep HB6.out) ?_
 have HW6:=Hd hw6
 clear hK K e0 e1 e2 e3 e4 e5 e6 e7 e8 f0 f1 f2 f3 f4 f5 f6 f7 f8 hw6 hsv
 try simp only[Act.put,sA,sB,sC]
 refine Zg ?_
 have HRD5:=Hd ((HRD.out.below (by rw[hbt];exact HAL.out)).mono HAL.out.size)
 have HRD6:=Hd (UQ (w':=w6) HRD5.out HB65.out.size fun b o e h1 h2=>HB65.out.block b (by
 obtain⟨b',o',e',hlt,-⟩:=HRD.out.spot h1
 rw[e] at e'
 injection e' with e'
 injection e' with e1 e2
 subst e1
 omega))
 clear hbt
 go_wp2_with fail
 go_meet
 exact⟨bt,F,nf,cf,rfl,HB6.out,HKT.out,HLE.out,HRD6.out⟩)
 ·(
 go_simp
 have HAL:=Hd (show Below wd.heap.size wd (wd.alloc (.cells #[.nilIface,.slice none 0 0,.slice none 0 0,.slice none 0 0,.slice none 0 0,.slice none 0 0,.slice none 0 0,.slice none 0 0,.slice none 0 0] 108)) from bA)
 have HKN:=Hd (heap_alloc_new wd (.cells #[.nilIface,.slice none 0 0,.slice none 0 0,.slice none 0 0,.slice none 0 0,.slice none 0 0,.slice none 0 0,.slice none 0 0,.slice none 0 0] 108))
 have HB5:=Hd (HBD.out.trans (HAL.out.mono HBD.out.size))
 refine⟨HZ0.out.keep HB5.out,?_⟩
 try simp only[Act.put,sA,sB,sC]
 generalize wd.alloc (.cells #[.nilIface,.slice none 0 0,.slice none 0 0,.slice none 0 0,.slice none 0 0,.slice none 0 0,.slice none 0 0,.slice none 0 0,.slice none 0 0] 108)=w5 at*
 obtain⟨bt,hbt⟩: ∃b,wd.heap.size=b:=⟨_,rfl⟩
 rw[hbt] at HKN HAL
 try simp only[hbt]
 have HLE:=Hd (show w1.heap.size≤bt by rw[← hbt];exact HBD.out.size)
 have HBTL:=Hd (Zh HKN.out)
 repeat((first|refine Zf rfl ?_|(refine Zd (v:= ?_) rfl rfl ?_ ?_;rotate_left;(focus(rintro w' ⟨x0,x1,x2,x3⟩;go_simp;try with_reducible rfl))));simp only[Act.put,sA,sB,sC])
 refine Ze rfl rfl (fun K hK=> ?_)
 go_simp
 refine(HOF.out w5 HB5.out).mono ?_
 rintro e w7 ⟨F,nf,cf,rfl,hof⟩
 have HRD:=Hd (hof.rd HPL.out)
 have HBX:=Hd (HB5.out.trans (hof.1.mono HB5.out.size))
 have HKN7:=Hd ((hof.1.block bt HBTL.out).trans HKN.out)
 refine hK.out _ _ (fun _=>HZ0.out.keep HBX.out) ?_
 clear hK K HKN hof HOF hbt
 try simp only[Act.put,sA,sB,sC]
 refine Zd (v:= .agg #[v,.slice A1 n1 c1,.slice A2 n2 c2,.slice A3 n3 c3,.slice A4 n4 c4,.slice F nf cf,.slice none 0 0,.slice none 0 0,.slice none 0 0]) rfl rfl (fun w' _=>by go_simp;simp[HVC.out]) ?_
 simp only[Act.put,sA,sB,sC]
 have HKN:=HKN7
 have HNE:Hid (∀b o,F=some ⟨b,o,none⟩→0 < nf→b≠bt):=Hd fun b o e h1=>Zcr HRD.out HKN.out (fun i x=>ZdD _ (fun e=>by cases e) (fun _ _ _ e=>by cases e) i) e h1
 have e0:w7.cell? ⟨bt,0,none⟩=some (.nilIface):=(Zb (i:=0) HKN.out).trans rfl
 have e1:w7.cell? ⟨bt,1,none⟩=some (.slice none 0 0):=(Zb (i:=1) HKN.out).trans rfl
 have e2:w7.cell? ⟨bt,2,none⟩=some (.slice none 0 0):=(Zb (i:=2) HKN.out).trans rfl
 have e3:w7.cell? ⟨bt,3,none⟩=some (.slice none 0 0):=(Zb (i:=3) HKN.out).trans rfl
 have e4:w7.cell? ⟨bt,4,none⟩=some (.slice none 0 0):=(Zb (i:=4) HKN.out).trans rfl
 have e5:w7.cell? ⟨bt,5,none⟩=some (.slice none 0 0):=(Zb (i:=5) HKN.out).trans rfl
 have e6:w7.cell? ⟨bt,6,none⟩=some (.slice none 0 0):=(Zb (i:=6) HKN.out).trans rfl
 have e7:w7.cell? ⟨bt,7,none⟩=some (.slice none 0 0):=(Zb (i:=7) HKN.out).trans rfl
 have e8:w7.cell? ⟨bt,8,none⟩=some (.slice none 0 0):=(Zb (i:=8) HKN.out).trans rfl
 have f0:w7.frozen? ⟨bt,0,none⟩=false:=Zc HKN.out
 have f1:w7.frozen? ⟨bt,1,none⟩=false:=Zc HKN.out
 have f2:w7.frozen? ⟨bt,2,none⟩=false:=Zc HKN.out
 have f3:w7.frozen? ⟨bt,3,none⟩=false:=Zc HKN.out
 have f4:w7.frozen? ⟨bt,4,none⟩=false:=Zc HKN.out
 have f5:w7.frozen? ⟨bt,5,none⟩=false:=Zc HKN.out
 have f6:w7.frozen? ⟨bt,6,none⟩=false:=Zc HKN.out
 have f7:w7.frozen? ⟨bt,7,none⟩=false:=Zc HKN.out
 have f8:w7.frozen? ⟨bt,8,none⟩=false:=Zc HKN.out
 obtain⟨w6,hw6⟩: ∃w6,(((((((((w7).setCell ⟨bt,0,none⟩ (v)).setCell ⟨bt,1,none⟩ (.slice A1 n1 c1)).setCell ⟨bt,2,none⟩ (.slice A2 n2 c2)).setCell ⟨bt,3,none⟩ (.slice A3 n3 c3)).setCell ⟨bt,4,none⟩ (.slice A4 n4 c4)).setCell ⟨bt,5,none⟩ (.slice F nf cf)).setCell ⟨bt,6,none⟩ (.slice none 0 0)).setCell ⟨bt,7,none⟩ (.slice none 0 0)).setCell ⟨bt,8,none⟩ (.slice none 0 0)=w6:=⟨_,rfl⟩
 have HKT:Hid (w6.heap[bt]?=some (.cells #[v,.slice A1 n1 c1,.slice A2 n2 c2,.slice A3 n3 c3,.slice A4 n4 c4,.slice F nf cf,.slice none 0 0,.slice none 0 0,.slice none 0 0] 108 (0,0))):=Hd (by rw[← hw6];exact box9 HKN.out _ _ _ _ _ _ _ _ _)
 have HB65:Hid (Below bt w7 w6):=Hd (by rw[← hw6];exact bel9 (Below.refl _ _) lR _ _ _ _ _ _ _ _ _)
 have HBT:Hid (w1.heap.size≤bt):=Hd HLE.out
 have HB6:Hid (Below w1.heap.size w1 w6):=Hd (HBX.out.trans (HB65.out.mono HBT.out))
 have hsv:=ZaJ HS.out e0 f0
 refine Ze rfl rfl (fun K hK=> ?_)
 go_simp
 generalize hwq:World.setCell (World.setCell (World.setCell (World.setCell (World.setCell (World.setCell (World.setCell (World.setCell (World.setCell _ _ _) _ _) _ _) _ _) _ _) _ _) _ _) _ _) _ _=wq
 obtain rfl:w6=wq:=hw6.symm.trans hwq
 clear hwq
 refine hK.out _ _ (fun _=>HZ0.out.keep HB6.out) ?_
 have HW6:=Hd hw6
 clear hK K e0 e1 e2 e3 e4 e5 e6 e7 e8 f0 f1 f2 f3 f4 f5 f6 f7 f8 hw6 hsv
 try simp only[Act.put,sA,sB,sC]
 refine Zg ?_
 have HRD6:=Hd (UQ (w':=w6) HRD.out HB65.out.size fun b o e h1 h2=>by
  have hne:=HNE.out b o e h1
  rw[← HW6.out]
  have off:=fun (W:World) (k:Nat) (u:Value)=>Below.heap_setCell W ⟨bt,k,none⟩ u b hne
  rw[off,off,off,off,off,off,off,off,off])
 go_wp2_with fail
 go_meet
 exact⟨bt,F,nf,cf,rfl,HB6.out,HKT.out,HLE.out,HRD6.out⟩))
 obtain⟨bt,F,nf,cf,rfl,hA⟩:=hcut
 have HA:=Hd hA
 have HBC:Hid (Below w.heap.size w wc):=Hd (HB1.out.trans (hA.b.mono HB1.out.size))
 have hz:=HZ0.out.keep hA.b
 have z0:=hz.p0
 have z1:=hz.p1
 have z2:=hz.p2
 have z3:=hz.p3
 have HFX:=Hd (Zgz v S z A1 n1 c1 A2 n2 c2 A3 n3 c3 A4 n4 c4 wc (HS.out.keep HBC.out) (HH.out.keep HBC.out) (by have:=HN.out;omega))
 unfold senV at HFX
 clear hA hz hz0
 go_wp2_with fail
 refine HFX.out.mono ?_
 rintro e w5 ⟨X,nx,cx,V,nv,cv,rfl,hfx⟩
 have hrd:=hfx.rd (by have:=HH.out.rp.len;have:=HN.out;omega)
 have HRX:=Hd hrd.1
 have HRV:=Hd hrd.2
 have HB5:Hid (Below w1.heap.size w1 w5):=Hd (HA.out.b.trans (hfx.1.mono HA.out.b.size))
 have HB55:=Hd hfx.1
 have HT5:=Hd ((hfx.1.block _ (Zh HA.out.t)).trans HA.out.t)
 have e5:=(Zb (i:=5) HT5.out).trans rfl
 have e6:=(Zb (i:=6) HT5.out).trans rfl
 have e7:=(Zb (i:=7) HT5.out).trans rfl
 have f6:w5.frozen? ⟨bt,6,none⟩=false:=Zc HT5.out
 have f7:w5.frozen? ⟨bt,7,none⟩=false:=Zc HT5.out
 have HT6':Hid (((w5.setCell ⟨bt,6,none⟩ (.slice X nx cx)).setCell ⟨bt,7,none⟩ (.slice V nv cv)).heap[bt]?=some (.cells #[v,.slice A1 n1 c1,.slice A2 n2 c2,.slice A3 n3 c3,.slice A4 n4 c4,.slice F nf cf,.slice X nx cx,.slice V nv cv,.slice none 0 0] 108 (0,0))):=Hd (by
 have:=Zm (i:=7) (Zm (i:=6) HT5.out (.slice X nx cx)) (.slice V nv cv)
 rw[this]
 simp)
 have y5:((w5.setCell ⟨bt,6,none⟩ (.slice X nx cx)).setCell ⟨bt,7,none⟩ (.slice V nv cv)).cell? ⟨bt,5,none⟩=some (.slice F nf cf):=(Zb (i:=5) HT6'.out).trans rfl
 clear z0 z1 z2 z3 hrd hfx HFX
 go_wp2_with fail
 obtain⟨w6,hw6⟩: ∃w6,(w5.setCell ⟨bt,6,none⟩ (.slice X nx cx)).setCell ⟨bt,7,none⟩ (.slice V nv cv)=w6:=⟨_,rfl⟩
 rw[hw6] at HT6' ⊢
 have OFF6:Hid (∀b,b≠bt→w6.heap[b]?=w5.heap[b]?):=Hd fun b hb=>by
  rw[← hw6]
  exact(Below.heap_setCell _ ⟨bt,7,none⟩ _ b hb).trans (Below.heap_setCell _ ⟨bt,6,none⟩ _ b hb)
 have HSZ6:Hid (w5.heap.size≤w6.heap.size):=Hd (by rw[← hw6];exact((bel2 (Below.refl bt w5) lR 6 7 _ _)).size)
 have HB6:Hid (Below w1.heap.size w1 w6):=Hd (by rw[← hw6];exact bel2 HB5.out HA.out.le 6 7 _ _)
 have HT6:=HT6'
 have NXF:Hid (∀b o,F=some ⟨b,o,none⟩→0 < nf→b≠bt):=Hd fun b o e h1=>Zcr HA.out.f HA.out.t (Zcs HS.out).1 e h1
 have NXX:Hid (∀b o,X=some ⟨b,o,none⟩→0 < nx→b≠bt):=Hd fun b o e h1=>Zcr HRX.out HT5.out (Zcs HS.out).2.1 e h1
 have NXV:Hid (∀b o,V=some ⟨b,o,none⟩→0 < nv→b≠bt):=Hd fun b o e h1=>Zcr HRV.out HT5.out (Zcs HS.out).2.2 e h1
 have HRF5:Hid (Rd nmI w5 w5.heap.size F nf cf (alF z)):=Hd ((HA.out.f.below HB55.out).mono HB55.out.size)
 have HF6:=Hd (UQ (w':=w6) HRF5.out HSZ6.out fun b o e h1 _=>OFF6.out b (NXF.out b o e h1))
 have HX6:=Hd (UQ (w':=w6) HRX.out HSZ6.out fun b o e h1 _=>OFF6.out b (NXX.out b o e h1))
 have HV6:=Hd (UQ (w':=w6) HRV.out HSZ6.out fun b o e h1 _=>OFF6.out b (NXV.out b o e h1))
 have HKR:=Hd ((HB6.out.block (w.heap.size+1) (by have:=HS1.out;omega)).trans HK1.out)
 have NRF:Hid (∀b o,F=some ⟨b,o,none⟩→0 < nf→b≠w.heap.size+1):=Hd fun b o e h1=>Zcr HF6.out HKR.out (fun i x=>ZdD _ (fun e=>by cases e) (fun _ _ _ e=>by cases e) i) e h1
 have NRX:Hid (∀b o,X=some ⟨b,o,none⟩→0 < nx→b≠w.heap.size+1):=Hd fun b o e h1=>Zcr HX6.out HKR.out (fun i x=>ZdD _ (fun e=>by cases e) (fun _ _ _ e=>by cases e) i) e h1
 have NRV:Hid (∀b o,V=some ⟨b,o,none⟩→0 < nv→b≠w.heap.size+1):=Hd fun b o e h1=>Zcr HV6.out HKR.out (fun i x=>ZdD _ (fun e=>by cases e) (fun _ _ _ e=>by cases e) i) e h1
 have HLT:Hid (bt < w6.heap.size∧w1.heap.size≤bt):=Hd ⟨Zh HT6.out,HA.out.le⟩
 have HNF:Hid (nf=lim z):=Hd (by have:=HF6.out.len;rw[Zdz] at this;exact this.symm)
 have HLIM:Hid (lim z≤400):=Hd (by
 have h1:=HH.out.rp.len
 have h2:=HN.out
 unfold lim
 split <;> omega)
 clear hw6 y5 e5 e6 e7 f6 f7 HT5 HA HB55 HRF5 HRX HRV OFF6 HSZ6 HB5
 go_loopw [27] (fun v27 wr=> ∃(i:Nat) (O:Option Addr) (no co:Nat),v27= .int .i64 (i:Int)∧i≤nf∧LkB w6 bt v A1 n1 c1 A2 n2 c2 A3 n3 c3 A4 n4 c4 F nf cf X nx cx V nv cv i O no co wr) (fun v27 _=>nf - (intOf v27).toNat)
 case atStart=>exact⟨0,none,0,0,rfl,Nat.zero_le _,HT6.out,World.ownsRow_nil _ _ _ _,Kept.refl _ _⟩
 case round=>(
 obtain⟨i,O,no,co,rfl,hi,hB⟩:=hrel
 have HB:=Hd hB
 by_cases hlt:i < nf
 ·(
 have y8:=(Zb (i:=8) hB.t).trans rfl
 have HO:=Hd (ZiH wr i)
 have HAL:=Hd (show Below wr.heap.size wr (wr.alloc (.cells #[.int .i64 (i:Int)] 3)) from bA)
 have HW:=Hd (Zi hB.o HAL.out)
 have hN1:no+1≤100000:=by(
 have h1:=Zl Zz (by decide) hB.o
 rw[ZaN] at h1
 have:=HNF.out
 have:=HLIM.out
 omega)
 have hsz2:w6.heap.size≤(wr.alloc (.cells #[.int .i64 (i:Int)] 3)).heap.size:=Nat.le_trans hB.k.size HAL.out.size
 have HLTI:=Hd hlt
 have hin:(i:Int) < (nf:Int):=by omega
 have hi9:i≤60000:=by have:=HNF.out;have:=HLIM.out;omega
 have HKP:Hid (∀(w':World) (A':Option Addr) (k' c':Nat),Appended (wr.alloc (.cells #[.int .i64 (i:Int)] 3)) w' w6.heap.size 3 1 (.slice O no co) (.slice A' k' c') k' ((RL i id++ [i]).flatMap en3)→w'.heap[bt]?=some (.cells #[v,.slice A1 n1 c1,.slice A2 n2 c2,.slice A3 n3 c3,.slice A4 n4 c4,.slice F nf cf,.slice X nx cx,.slice V nv cv,.slice O no co] 108 (0,0))∧Kept (· =bt) w6 w'):=Hd fun w' A' k' c' ha=>by
  have hb2:Below w6.heap.size wr w':=(HAL.out.mono hB.k.size).grown ha.grown hsz2 fun j hj=>(HW.out.lt j hj).1
  exact⟨(hb2.block bt HLT.out.1).trans hB.t,Kept.then_below hB.k hb2⟩
 clear hi hlt hB
 go_wp2_with (at_builtin;refine Zk Zz (by decide) Y2 Tryz.underlying82 Y3 rfl (by decide) rfl (.tmp 31) (.tmp 33) rfl w6.heap.size _ no _ rfl HW.out _ _ 1 1 [i] rfl HO.out hN1 hsz2 ?_;intro A' k' c' w' HK HA;have d8:w'.cell? ⟨bt,8,none⟩=some (.slice O no co):=(Zb (i:=8) (HKP.out w' A' k' c' HA.out).1).trans rfl;have q8:w'.frozen? ⟨bt,8,none⟩=false:=Zc (HKP.out w' A' k' c' HA.out).1)
 go_roundw
 case rel=>exact⟨i+1,A',k',c',by go_num,HLTI.out,by
  have:=Zm (i:=8) (HKP.out w' A' k' c' HA.out).1 (.slice A' k' c')
  rw[this]
  simp,Zv (by rw[Zli];exact HA.out.own) fun q hq=>Below.heap_setCell _ ⟨bt,8,none⟩ _ q (by
 have:=(HA.out.own.lt q hq).1
 have:=HLT.out.1
 show q≠bt
 omega),(HKP.out w' A' k' c' HA.out).2.setCell (p:=⟨bt,8,none⟩) (.inl rfl) _⟩
 case measure=>(
 have:=HLTI.out
 simp[intOf]
 omega))
 ·(
 obtain rfl:nf=i:=by omega
 obtain⟨w8,rfl⟩: ∃w8,w8=wr:=⟨_,rfl⟩
 have HOB:Hid (∀q,OD O no co q→w6.heap.size≤q∧q < w8.heap.size):=Hd fun q e=>hB.o.lt q e
 have HTX:Hid (∀W,Kept (OD O no co) w8 W→TBx W bt v A1 n1 c1 A2 n2 c2 A3 n3 c3 A4 n4 c4 F nf cf X nx cx V nv cv O no co):=Hd fun W hW=>TBx.of ((hW.block bt (Zh HB.out.t) fun e=>by have:=(HOB.out bt e).1;have:=HLT.out.1;omega).trans HB.out.t)
 have HTD:Hid (∀W,Kept (fun b=>OD O no co b∨b=w.heap.size+1) w8 W→TdAt W S z v A1 n1 c1 A2 n2 c2 A3 n3 c3 A4 n4 c4 F nf cf X nx cx V nv cv):=Hd fun W hW=>by(
 have h1:=HS1.out
 have hb:Below w.heap.size w W:=by(
 have b1:Below w.heap.size w w6:=HB1.out.trans (HB6.out.mono HB1.out.size)
 have b2:Below w.heap.size w6 w8:=HB.out.k.below b1.size fun b e=>by have:=HLT.out;omega
 have b3:Below w.heap.size w8 W:=hW.below (Nat.le_trans b1.size HB.out.k.size) fun b e=>e.elim (fun e=>Nat.le_trans b1.size (HOB.out b e).1) fun e=>by omega
 exact b1.trans (b2.trans b3))
 have off: ∀b,b < w6.heap.size→b≠bt→b≠w.heap.size+1→W.heap[b]?=w6.heap[b]?:=fun b h1 h2 h3=>
  (hW.block b (Nat.lt_of_lt_of_le h1 HB.out.k.size) fun e=>e.elim (fun e=>by have:=(HOB.out b e).1;omega) h3).trans (HB.out.k.block b h1 h2)
 have hsz:w6.heap.size≤W.heap.size:=Nat.le_trans HB.out.k.size hW.size
 exact⟨HS.out.keep hb,HH.out.keep hb,UQ HF6.out hsz fun b o e h1 h2=>off b h2 (NXF.out b o e h1) (NRF.out b o e h1),UQ HX6.out hsz fun b o e h1 h2=>off b h2 (NXX.out b o e h1) (NRX.out b o e h1),UQ HV6.out hsz fun b o e h1 h2=>off b h2 (NXV.out b o e h1) (NRV.out b o e h1),HN.out⟩)
 have HTDK:Hid (∀W,Kept (OD O no co) w8 W→TdAt W S z v A1 n1 c1 A2 n2 c2 A3 n3 c3 A4 n4 c4 F nf cf X nx cx V nv cv):=Hd fun W hW=>HTD.out W (hW.mono fun b e=> .inl e)
 have HO8:Hid (w8.ownsRow w6.heap.size 3 1 (.slice O no co) no ((RL (lim z) id).flatMap en3)):=Hd (by rw[← HNF.out];exact hB.o)
 have HLL1:Hid ((RL (lim z) id).length=lim z):=Hd (ZaN _ _)
 have HLL0:Hid ((stA (tkO z) (clsL S z 2) (RL (lim z) id) (clsL S z 1)).length=lim z):=Hd (by rw[YR,ZaN])
 have HC2:=Hd (Ye 2 S z v A1 n1 c1 A2 n2 c2 A3 n3 c3 A4 n4 c4 F nf cf X nx cx V nv cv O no co w8 (HTDK.out w8 (Kept.refl _ _)))
 unfold tdV at HC2
 have hx:=HTX.out w8 (Kept.refl _ _)
 have y0:=hx.p0
 have y1:=hx.p1
 have y2:=hx.p2
 have y3:=hx.p3
 have y4:=hx.p4
 have y5:=hx.p5
 have y6:=hx.p6
 have y7:=hx.p7
 have y8:=hx.p8
 clear hi hB hlt
 go_wp2_with fail
 refine HC2.out.mono ?_
 rintro e w9 ⟨C2,m2,k2,rfl,hc,hv⟩
 have HOC2:=Hd hc
 have HKw9:Hid (Kept (OD O no co) w8 w9):=Hd (Kept.of_below hv)
 have HOw9:=Hd (Zi HO8.out hv)
 clear hc hv HC2
 clear hx y0 y1 y2 y3 y4 y5 y6 y7 y8
 have hx:=HTX.out w9 HKw9.out
 go_wp2_with fail
 refine wro [0,1,3,4,5,2,6,7] [2,6] 8 (fun W=>TBx W bt v A1 n1 c1 A2 n2 c2 A3 n3 c3 A4 n4 c4 F nf cf X nx cx V nv cv O no co) (by kernel_rfl) (fun _ _ _ _ _ h=>h) ⟨hx.p0,hx.p1,hx.p2,hx.p3,hx.p4,hx.p5,hx.p6,hx.p7,hx.p8⟩ ?_
 simp only[steps,sE,sD]
 clear hx
 repeat((first|refine Zf rfl ?_|(refine Zd (v:= ?_) rfl rfl ?_ ?_;rotate_left;(focus(rintro w' ⟨x0,x1,x2,x3,x4,x5,x6,x7,x8⟩;go_simp;try with_reducible rfl))));simp only[Act.put,sA,sB,sC])
 have HBdw9:=Hd ((Below.refl w9.heap.size w9).drew)
 have HKwd9:Hid (Kept (OD O no co) w8 (World.drew w9)):=Hd (HKw9.out.trans (Kept.of_below HBdw9.out))
 generalize World.drew w9=wd9 at*
 have HC1:=Hd (Ye 1 S z v A1 n1 c1 A2 n2 c2 A3 n3 c3 A4 n4 c4 F nf cf X nx cx V nv cv O no co wd9 (HTDK.out wd9 HKwd9.out))
 unfold tdV at HC1
 refine Ze rfl rfl (fun K hK=> ?_)
 go_simp
 refine HC1.out.mono ?_
 rintro e w10 ⟨C1,m1,k1,rfl,hc,hv⟩
 have HOC1:=Hd hc
 have HBdw10:=Hd hv
 have HKw10:=Hd (HKwd9.out.trans (Kept.of_below hv))
 refine hK.out _ _ (fun _=>HTX.out w10 HKw10.out) ?_
 clear hK K HC1 hc hv
 try simp only[Act.put,sA,sB,sC]
 have HOw10:Hid (w10.ownsRow w6.heap.size 3 1 (.slice O no co) no ((RL (lim z) id).flatMap en3)):=Hd (Zi (Zi HOw9.out HBdw9.out) HBdw10.out)
 have HNBw10:Hid (∀b,w8.heap.size≤b→ ¬OD O no co b):=Hd fun b hb hd=>by have:=(HOB.out b hd).2;omega
 have HR2w10:Hid (w10.ownsRow w8.heap.size 3 1 (.slice C2 m2 k2) m2 ((clsL S z 2).flatMap en3)):=Hd (Zv HOC2.out fun q hq=>by
  have h1:=(HOC2.out.lt q hq)
  exact(Kept.of_below ((HBdw9.out).trans (HBdw10.out.mono HBdw9.out.size)):Kept (OD O no co) w9 w10).block q h1.2 (HNBw10.out q h1.1))
 have HM1:=Hd (callsIn_wide.1 (Zbt w6.heap.size (tkO z) v A1 n1 c1 A2 n2 c2 A3 n3 c3 A4 n4 c4 F nf cf X nx cx V nv cv O no co C1 m1 k1 C2 m2 k2 (clsL S z 1) (clsL S z 2) (RL (lim z) id) w10 HOw10.out (UO HOC1.out)
  (fun b o e=>by
   subst e
   exact HNBw10.out b (Nat.le_trans HKwd9.out.size (QR HOC1.out).1))
  (UO HR2w10.out)
  (fun b o e=>by
   subst e
   exact HNBw10.out b (QR HR2w10.out).1)
  (fun x hx=>by rw[HLL1.out];exact VT hx) (fun x hx=>by have:=VT hx;have:=HLIM.out;omega)
  (by rw[← Zl Zz (by decide) HOC1.out];exact Nat.le_trans (Yd S z 1 _) HLIM.out)
  (by rw[← Zl Zz (by decide) HOC2.out];exact Nat.le_trans (Yd S z 2 _) HLIM.out) (by rw[HLL1.out];exact HLIM.out)
  (fun x _=>⟨Zmy HH.out x,by show(pk _ _).size≤maxLen;rw[Zf8];have:=HH.out.rp.len;have:=HN.out;unfold maxLen;omega⟩)
  (fun W hW x hx=>ZdW x S z v A1 n1 c1 A2 n2 c2 A3 n3 c3 A4 n4 c4 F nf cf X nx cx V nv cv O no co W (HTDK.out W (HKw10.out.trans hW)) (hx.elim VT VT))))
 unfold tdV at HM1
 refine Ze rfl rfl (fun K hK=> ?_)
 go_simp
 refine HM1.out.mono ?_
 rintro e w11 ⟨O1,j1,l1,rfl,ho,hl,hk⟩
 have HOT1:=Hd ho
 have HOw11:=Hd hl
 have HK911:Hid (Kept (OD O no co) w9 w11):=Hd (((Kept.of_below (HBdw9.out.trans (HBdw10.out.mono HBdw9.out.size)):Kept (OD O no co) w9 w10)).trans hk)
 have HKw11:Hid (Kept (OD O no co) w8 w11):=Hd (HKw10.out.trans hk)
 have HSZw11:Hid (w8.heap.size≤w10.heap.size):=Hd HKw10.out.size
 refine hK.out _ _ (fun _=>HTX.out w11 HKw11.out) ?_
 clear hK K HM1 ho hl hk
 try simp only[Act.put,sA,sB,sC]
 repeat((first|refine Zf rfl ?_|(refine Zd (v:= ?_) rfl rfl ?_ ?_;rotate_left;(focus(rintro w' ⟨x0,x1,x2,x3,x4,x5,x6,x7,x8⟩;go_simp;try with_reducible rfl))));simp only[Act.put,sA,sB,sC])
 refine Zg ?_
 have hx:=HTX.out w11 HKw11.out
 go_wp2_with fail
 refine wro [0,1,3,4,5,2,6,7] [2,6] 8 (fun W=>TBx W bt v A1 n1 c1 A2 n2 c2 A3 n3 c3 A4 n4 c4 F nf cf X nx cx V nv cv O no co) (by kernel_rfl) (fun _ _ _ _ _ h=>h) ⟨hx.p0,hx.p1,hx.p2,hx.p3,hx.p4,hx.p5,hx.p6,hx.p7,hx.p8⟩ ?_
 simp only[steps,sE,sD]
 clear hx
 repeat((first|refine Zf rfl ?_|(refine Zd (v:= ?_) rfl rfl ?_ ?_;rotate_left;(focus(rintro w' ⟨x0,x1,x2,x3,x4,x5,x6,x7,x8⟩;go_simp;try with_reducible rfl))));simp only[Act.put,sA,sB,sC])
 have HBdw11:=Hd ((Below.refl w11.heap.size w11).drew)
 have HKwd11:Hid (Kept (OD O no co) w8 (World.drew w11)):=Hd (HKw11.out.trans (Kept.of_below HBdw11.out))
 generalize World.drew w11=wd11 at*
 have HC0:=Hd (Ye 0 S z v A1 n1 c1 A2 n2 c2 A3 n3 c3 A4 n4 c4 F nf cf X nx cx V nv cv O no co wd11 (HTDK.out wd11 HKwd11.out))
 unfold tdV at HC0
 refine Ze rfl rfl (fun K hK=> ?_)
 go_simp
 refine HC0.out.mono ?_
 rintro e w12 ⟨C0,m0,k0,rfl,hc,hv⟩
 have HOC0:=Hd hc
 have HBdw12:=Hd hv
 have HKw12:=Hd (HKwd11.out.trans (Kept.of_below hv))
 refine hK.out _ _ (fun _=>HTX.out w12 HKw12.out) ?_
 clear hK K HC0 hc hv
 try simp only[Act.put,sA,sB,sC]
 have HOw12:Hid (w12.ownsRow w6.heap.size 3 1 (.slice O no co) no ((stA (tkO z) (clsL S z 2) (RL (lim z) id) (clsL S z 1)).flatMap en3)):=Hd (Zi (Zi HOw11.out HBdw11.out) HBdw12.out)
 have HNBw12:Hid (∀b,w8.heap.size≤b→ ¬OD O no co b):=Hd fun b hb hd=>by have:=(HOB.out b hd).2;omega
 have HR2w12:Hid (w12.ownsRow w8.heap.size 3 1 (.slice C2 m2 k2) m2 ((clsL S z 2).flatMap en3)):=Hd (Zv HOC2.out fun q hq=>by
  have h1:=(HOC2.out.lt q hq)
  exact((show Kept (OD O no co) w9 w11 from HK911.out).trans (Kept.of_below ((HBdw11.out).trans (HBdw12.out.mono HBdw11.out.size)))).block q h1.2 (HNBw12.out q h1.1))
 have HM0:=Hd (callsIn_wide.1 (Zbu w6.heap.size (tkI z) v A1 n1 c1 A2 n2 c2 A3 n3 c3 A4 n4 c4 F nf cf X nx cx V nv cv O no co C0 m0 k0 C2 m2 k2 (clsL S z 0) (clsL S z 2) (stA (tkO z) (clsL S z 2) (RL (lim z) id) (clsL S z 1)) w12 HOw12.out (UO HOC0.out)
  (fun b o e=>by
   subst e
   exact HNBw12.out b (Nat.le_trans HKwd11.out.size (QR HOC0.out).1))
  (UO HR2w12.out)
  (fun b o e=>by
   subst e
   exact HNBw12.out b (QR HR2w12.out).1)
  (fun x hx=>by rw[HLL0.out];exact VT hx) (fun x hx=>by have:=VT hx;have:=HLIM.out;omega)
  (by rw[← Zl Zz (by decide) HOC0.out];exact Nat.le_trans (Yd S z 0 _) HLIM.out)
  (by rw[← Zl Zz (by decide) HOC2.out];exact Nat.le_trans (Yd S z 2 _) HLIM.out) (by rw[HLL0.out];exact HLIM.out)
  (fun x _=>⟨Zmz HH.out x,by show(pk _ _).size≤maxLen;rw[Zf8];have:=HH.out.rp.len;have:=HN.out;unfold maxLen;omega⟩)
  (fun W hW x hx=>ZbW x S z v A1 n1 c1 A2 n2 c2 A3 n3 c3 A4 n4 c4 F nf cf X nx cx V nv cv O no co W (HTDK.out W (HKw12.out.trans hW)) (hx.elim VT VT))))
 unfold tdV at HM0
 refine Ze rfl rfl (fun K hK=> ?_)
 go_simp
 refine HM0.out.mono ?_
 rintro e w13 ⟨O0,j0,l0,rfl,ho,hl,hk⟩
 have HOT0:=Hd ho
 have HOw13:=Hd hl
 have HK1113:Hid (Kept (OD O no co) w11 w13):=Hd (((Kept.of_below (HBdw11.out.trans (HBdw12.out.mono HBdw11.out.size)):Kept (OD O no co) w11 w12)).trans hk)
 have HKw13:Hid (Kept (OD O no co) w8 w13):=Hd (HKw12.out.trans hk)
 have HSZw13:Hid (w8.heap.size≤w12.heap.size):=Hd HKw12.out.size
 refine hK.out _ _ (fun _=>HTX.out w13 HKw13.out) ?_
 clear hK K HM0 ho hl hk
 try simp only[Act.put,sA,sB,sC]
 repeat((first|refine Zf rfl ?_|(refine Zd (v:= ?_) rfl rfl ?_ ?_;rotate_left;(focus(rintro w' ⟨x0,x1,x2,x3,x4,x5,x6,x7,x8⟩;go_simp;try with_reducible rfl))));simp only[Act.put,sA,sB,sC])
 refine Zg ?_
 have HR1:Hid (w13.ownsRow w10.heap.size 3 1 (.slice O1 j1 l1) j1 ((otL (tkO z) (clsL S z 2) (clsL S z 1)).flatMap en3)):=Hd (Zv HOT1.out fun q hq=>by
  have h1:=HOT1.out.lt q hq
  exact HK1113.out.block q h1.2 (HNBw12.out q (Nat.le_trans HSZw11.out h1.1)))
 have HPR:=Hd (ZhV S z w6.heap.size v A1 n1 c1 A2 n2 c2 A3 n3 c3 A4 n4 c4 F nf cf X nx cx V nv cv O no co O1 j1 l1 O0 j0 l0 (otL (tkO z) (clsL S z 2) (clsL S z 1)) (otL (tkI z) (clsL S z 2) (clsL S z 0)) _ w13 (fun W hW=>HTDK.out W (HKw13.out.trans hW)) HOw13.out (UO HR1.out)
  (fun b o e=>by
   subst e
   exact HNBw12.out b (Nat.le_trans HSZw11.out (QR HR1.out).1))
  (UO HOT0.out)
  (fun b o e=>by
   subst e
   exact HNBw12.out b (Nat.le_trans HSZw13.out (QR HOT0.out).1))
  (fun x hx=>VT (List.mem_filter.1 hx).1) (fun x hx=>VT (List.mem_filter.1 hx).1) (by rw[YR];exact HLL0.out)
  (by rw[← Zl Zz (by decide) HOT1.out];exact Nat.le_trans (List.length_filter_le _ _) (Nat.le_trans (Yd S z 1 _) HLIM.out))
  (by rw[← Zl Zz (by decide) HOT0.out];exact Nat.le_trans (List.length_filter_le _ _) (Nat.le_trans (Yd S z 0 _) HLIM.out)))
 unfold tdV at HPR
 have hx:=HTX.out w13 HKw13.out
 have y0:=hx.p0
 have y1:=hx.p1
 have y2:=hx.p2
 have y3:=hx.p3
 have y4:=hx.p4
 have y5:=hx.p5
 have y6:=hx.p6
 have y7:=hx.p7
 have y8:=hx.p8
 go_wp2_with fail
 refine HPR.out.mono ?_
 rintro e w14 ⟨rfl,hl,hk⟩
 have HK14:Hid (Kept (OD O no co) w8 w14):=Hd (HKw13.out.trans hk)
 have HL14:=Hd hl
 clear hl hk HPR
 clear hx y0 y1 y2 y3 y4 y5 y6 y7 y8
 have hx:=HTX.out w14 HK14.out
 have y0:=hx.p0
 have y1:=hx.p1
 have y2:=hx.p2
 have y3:=hx.p3
 have y4:=hx.p4
 have y5:=hx.p5
 have y6:=hx.p6
 have y7:=hx.p7
 have y8:=hx.p8
 have HRB:Hid (w14.heap[w.heap.size+1]?=some (.cells #[.nilIface,.slice none 0 0,.slice none 0 0,.slice none 0 0,.slice none 0 0,.slice none 0 0,.slice none 0 0,.slice none 0 0,.slice none 0 0] 108 (0,0))):=Hd (by
 have h1:=HS1.out
 have h2:=HLT.out
 have h3:=HB6.out.size
 exact(HK14.out.block _ (by have:=HB.out.k.size;omega) fun e=>by have:=(HOB.out _ e).1;omega).trans ((HB.out.k.block _ (by omega) (by omega)).trans HKR.out))
 have e0:w14.cell? ⟨w.heap.size+1,0,none⟩=some .nilIface:=(Zb (i:=0) HRB.out).trans rfl
 have e1:w14.cell? ⟨w.heap.size+1,1,none⟩=some (.slice none 0 0):=(Zb (i:=1) HRB.out).trans rfl
 have e2:w14.cell? ⟨w.heap.size+1,2,none⟩=some (.slice none 0 0):=(Zb (i:=2) HRB.out).trans rfl
 have e3:w14.cell? ⟨w.heap.size+1,3,none⟩=some (.slice none 0 0):=(Zb (i:=3) HRB.out).trans rfl
 have e4:w14.cell? ⟨w.heap.size+1,4,none⟩=some (.slice none 0 0):=(Zb (i:=4) HRB.out).trans rfl
 have e5:w14.cell? ⟨w.heap.size+1,5,none⟩=some (.slice none 0 0):=(Zb (i:=5) HRB.out).trans rfl
 have e6:w14.cell? ⟨w.heap.size+1,6,none⟩=some (.slice none 0 0):=(Zb (i:=6) HRB.out).trans rfl
 have e7:w14.cell? ⟨w.heap.size+1,7,none⟩=some (.slice none 0 0):=(Zb (i:=7) HRB.out).trans rfl
 have e8:w14.cell? ⟨w.heap.size+1,8,none⟩=some (.slice none 0 0):=(Zb (i:=8) HRB.out).trans rfl
 have f0:w14.frozen? ⟨w.heap.size+1,0,none⟩=false:=Zc HRB.out
 have f1:w14.frozen? ⟨w.heap.size+1,1,none⟩=false:=Zc HRB.out
 have f2:w14.frozen? ⟨w.heap.size+1,2,none⟩=false:=Zc HRB.out
 have f3:w14.frozen? ⟨w.heap.size+1,3,none⟩=false:=Zc HRB.out
 have f4:w14.frozen? ⟨w.heap.size+1,4,none⟩=false:=Zc HRB.out
 have f5:w14.frozen? ⟨w.heap.size+1,5,none⟩=false:=Zc HRB.out
 have f6:w14.frozen? ⟨w.heap.size+1,6,none⟩=false:=Zc HRB.out
 have f7:w14.frozen? ⟨w.heap.size+1,7,none⟩=false:=Zc HRB.out
 have f8:w14.frozen? ⟨w.heap.size+1,8,none⟩=false:=Zc HRB.out
 have hsv:=ZaJ HS.out e0 f0
 obtain⟨w15,hw15⟩: ∃w15,(((((((((w14).setCell ⟨w.heap.size+1,0,none⟩ (v)).setCell ⟨w.heap.size+1,1,none⟩ (.slice A1 n1 c1)).setCell ⟨w.heap.size+1,2,none⟩ (.slice A2 n2 c2)).setCell ⟨w.heap.size+1,3,none⟩ (.slice A3 n3 c3)).setCell ⟨w.heap.size+1,4,none⟩ (.slice A4 n4 c4)).setCell ⟨w.heap.size+1,5,none⟩ (.slice F nf cf)).setCell ⟨w.heap.size+1,6,none⟩ (.slice X nx cx)).setCell ⟨w.heap.size+1,7,none⟩ (.slice V nv cv)).setCell ⟨w.heap.size+1,8,none⟩ (.slice O no co)=w15:=⟨_,rfl⟩
 have HF15:Hid (w15.heap[w.heap.size+1]?=some (.cells #[v,.slice A1 n1 c1,.slice A2 n2 c2,.slice A3 n3 c3,.slice A4 n4 c4,.slice F nf cf,.slice X nx cx,.slice V nv cv,.slice O no co] 108 (0,0))):=Hd (by rw[← hw15];exact box9 HRB.out _ _ _ _ _ _ _ _ _)
 have OFF:Hid (∀b,b≠w.heap.size+1→w15.heap[b]?=w14.heap[b]?):=Hd fun b hb=>by(
 rw[← hw15]
 have off:=fun (W:World) (k:Nat) (u:Value)=>Below.heap_setCell W ⟨w.heap.size+1,k,none⟩ u b hb
 rw[off,off,off,off,off,off,off,off,off])
 have HB15:Hid (Below (w.heap.size+1) w14 w15):=Hd (by rw[← hw15];exact bel9 (Below.refl _ _) lR _ _ _ _ _ _ _ _ _)
 have HK15:Hid (Kept (fun b=>OD O no co b∨b=w.heap.size+1) w8 w15):=Hd (by
 have h1:=HK14.out
 have h2:=HB15.out
 exact⟨h2.os.trans h1.os,h2.tape.trans h1.tape,h2.output.trans h1.output,Nat.le_trans h1.size h2.size,fun b hb hn=>(OFF.out b fun e=>hn (.inr e)).trans (h1.block b hb fun e=>hn (.inl e))⟩)
 have HL15:=Hd (Zv HL14.out fun q hq=>OFF.out q (by have:=(HOB.out q hq).1;have:=HLT.out;have:=HS1.out;omega))
 have HBW:Hid (Below w.heap.size w w15):=Hd (by
 have h1:=HS1.out
 have b1:Below w.heap.size w w6:=HB1.out.trans (HB6.out.mono HB1.out.size)
 have b2:Below w.heap.size w6 w8:=HB.out.k.below b1.size fun b e=>by have:=HLT.out;omega
 have b3:Below w.heap.size w8 w15:=HK15.out.below (Nat.le_trans b1.size HB.out.k.size) fun b e=>e.elim (fun e=>Nat.le_trans b1.size (HOB.out b e).1) fun e=>by omega
 exact b1.trans (b2.trans b3))
 clear hx
 go_wp2_with fail
 generalize hwq:World.setCell (World.setCell (World.setCell (World.setCell (World.setCell (World.setCell (World.setCell (World.setCell (World.setCell _ _ _) _ _) _ _) _ _) _ _) _ _) _ _) _ _) _ _=wq
 obtain rfl:w15=wq:=hw15.symm.trans hwq
 refine bodyPost_ret (v:= .agg #[v,.slice A1 n1 c1,.slice A2 n2 c2,.slice A3 n3 c3,.slice A4 n4 c4,.slice F nf cf,.slice X nx cx,.slice V nv cv,.slice O no co]) ?_ rfl ⟨F,nf,cf,X,nx,cx,V,nv,cv,O,no,co,rfl,HTD.out w15 HK15.out,?_,HBW.out⟩
 ·exact results_cell_row (P:=Tryz.prog) rfl _ _ (w.heap.size+1) 108 _ (0,0) _ rfl HF15.out Tryz.underlying108 rfl rfl
 ·rw[← Zez]
  exact UO HL15.out))
end Go.Proofs.YtmejhedegmjboaaGreat.I
