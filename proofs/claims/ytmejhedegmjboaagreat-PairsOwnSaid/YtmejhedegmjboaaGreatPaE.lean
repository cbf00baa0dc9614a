/- What pair tells: each class that goes down, with the first class that goes up with which it may be one. Condition: the sense can be read. -/
/- The lists that look makes are those of the variables. No condition. -/
import Derived.Test.YtmejhedegmjboaaGreatPaG
namespace Go.Proofs.YtmejhedegmjboaaGreat.I
open Go.RowKit PaC
def skL (S:Bo.Sr)(z:Sen)(us L:List Nat)(d:Nat):Option Nat:=us.find? fun u=>decide (L.getD u 0=u) && mayB S z d u
def prL (S:Bo.Sr)(z:Sen)(us L:List Nat)(d:Nat):List Nat:=match skL S z us L d with
 |some u=>L.set u d
 |none=>L
def prA (S:Bo.Sr)(z:Sen)(us L ds:List Nat):List Nat:=ds.foldl (prL S z us) L
theorem prL_len (S:Bo.Sr)(z:Sen)(us L:List Nat)(d:Nat):(prL S z us L d).length=L.length:=by
 unfold prL
 split
 ·rw[List.length_set]
 ·rfl
theorem prA_len (S:Bo.Sr)(z:Sen)(us:List Nat): ∀(ds L:List Nat),(prA S z us L ds).length=L.length
 | [],_=>rfl
 |d::ds,L=>by
  show(prA S z us (prL S z us L d) ds).length=_
  rw[prA_len S z us ds,prL_len]
theorem prA_next {S:Bo.Sr}{z:Sen}{us L ds:List Nat}{k:Nat}(h:k < ds.length):prA S z us L (ds.take (k+1))=prL S z us (prA S z us L (ds.take k)) ds[k]:=by
 unfold prA
 rw[List.take_succ_eq_append_getElem h,List.foldl_append]
 rfl
theorem find_none_all {l:List Nat}{p:Nat→Bool}(h: ∀j (g:j < l.length),p l[j]=false):l.find? p=none:=by
 rw[List.find?_eq_none]
 intro a ha
 obtain⟨j,hj,rfl⟩:=List.mem_iff_getElem.1 ha
 rw[h j hj]
 simp
theorem find_first {l:List Nat}{p:Nat→Bool}{k:Nat}(h:k < l.length)(hk:p l[k]=true)(hl: ∀j (g:j < k),p (l[j]'(by omega))=false):l.find? p=some l[k]:=by
 rw[List.find?_eq_some_iff_append]
 refine⟨hk,l.take k,l.drop (k+1),?_,fun a ha=> ?_⟩
 ·rw[List.getElem_cons_drop,List.take_append_drop]
 ·obtain⟨j,hj,rfl⟩:=List.mem_iff_getElem.1 ha
  rw[List.length_take] at hj
  rw[List.getElem_take,hl j (by omega)]
  rfl
theorem prL_no {S:Bo.Sr}{z:Sen}{us L:List Nat}{d:Nat}(h: ∀j (g:j < us.length),(decide (L.getD us[j] 0=us[j]) && mayB S z d us[j])=false):prL S z us L d=L:=by
 unfold prL skL
 rw[find_none_all h]
theorem prL_yes {S:Bo.Sr}{z:Sen}{us L:List Nat}{d k:Nat}(g:k < us.length)(hk:(decide (L.getD us[k] 0=us[k]) && mayB S z d us[k])=true)(h: ∀j (g':j < k),(decide (L.getD (us[j]'(by omega)) 0=us[j]'(by omega)) && mayB S z d (us[j]'(by omega)))=false):prL S z us L d=L.set us[k] d:=by
 unfold prL skL
 rw[find_first g hk h]
theorem fits_all {S:Bo.Sr}{z:Sen}{d u:Nat}(h: ∀k < z.p.length,(!bb z k u||fitsB S z d k)=true):((List.range z.p.length).all fun k=> !bb z k u||fitsB S z d k)=true:=all_rng.2 h
theorem fits_one {S:Bo.Sr}{z:Sen}{d u k:Nat}(hk:k < z.p.length)(h:(!bb z k u||fitsB S z d k)=false):mayB S z d u=false:=by
 unfold mayB
 have:((List.range z.p.length).all fun k=> !bb z k u||fitsB S z d k)=false:=by
  rw[List.all_eq_false]
  exact⟨k,List.mem_range.2 hk,by rw[h];simp⟩
 rw[this,Bool.and_false]
theorem fitsL_get {S:Bo.Sr}{z:Sen}{d n k:Nat}(h:k < n):(fitsL S z d n)[k]'(by simp[fitsL];exact h)=fitsB S z d k:=by simp[fitsL]
theorem col_cell {w:World}{z:Sen}{A1:Option Addr}{n1 c1:Nat}{A2:Option Addr}{n2 c2:Nat}{A3:Option Addr}{n3 c3:Nat}{A4:Option Addr}{n4 c4:Nat}(h:SenAt w z A1 n1 c1 A2 n2 c2 A3 n3 c3 A4 n4 c4)(hw:wholeS z=true){i j:Nat}(hi:i < z.p.length)(hj:j < z.p.length){b4 o4:Nat}(e:A4=some ⟨b4,o4,none⟩):
  ∃b' o' y,w.cell? ⟨b4,o4+i,none⟩=some (.slice (some ⟨b',o',none⟩) n1 y)∧w.cell? ⟨b',o'+j,none⟩=some (.bool (bb z i j)):=by
 obtain⟨b,o,b',o',y,e1,e2,e3⟩:=be_cell h hw hi hj
 rw[e] at e1
 injection e1 with e1
 injection e1 with e1 e1'
 subst e1 e1'
 exact⟨b',o',y,e2,e3⟩
structure PrI (D:Nat→Prop)(S:Bo.Sr)(z:Sen)(us L ds:List Nat)(base:Nat)(O:Option Addr)(no co:Nat)(W2:World)(k:Nat)(wr:World):Prop where
 l:wr.ownsRow base 3 1 (.slice O no co) no ((prA S z us L (ds.take k)).flatMap en3)
 k:Kept D W2 wr
section
variable {D:Nat→Prop} {S:Bo.Sr} {z:Sen} {us L ds:List Nat} {base:Nat} {O:Option Addr} {no co:Nat} {W2:World} {k:Nat} {wr w':World}
theorem PrI.behind (h:PrI D S z us L ds base O no co W2 k wr)(hb:Below wr.heap.size wr w'):PrI D S z us L ds base O no co W2 k w':=
 ⟨own_behind h.l hb,h.k.trans (Kept.of_below hb)⟩
theorem PrI.next (h:PrI D S z us L ds base O no co W2 k wr)(hk:k < ds.length)(e:prL S z us (prA S z us L (ds.take k)) ds[k]=prA S z us L (ds.take k)):PrI D S z us L ds base O no co W2 (k+1) wr:=
 ⟨by rw[prA_next hk,e];exact h.l,h.k⟩
end
set_option maxRecDepth 100000 in
set_option maxHeartbeats 16000000 in
theorem pair_any (S:Bo.Sr)(z:Sen)(base:Nat)(v:Value)(A1:Option Addr)(n1 c1:Nat)(A2:Option Addr)(n2 c2:Nat)(A3:Option Addr)(n3 c3:Nat)(A4:Option Addr)(n4 c4:Nat)(F:Option Addr)(nf cf:Nat)(X:Option Addr)(nx cx:Nat)(V:Option Addr)(nv cv:Nat)(O:Option Addr)(no co:Nat)(AC:Option Addr)(nC cC:Nat)(AD:Option Addr)(nD cD:Nat)(ds us L:List Nat)(w:World)(htd0: ∀W,Kept (fun b=>(Value.slice O no co).ownBlock=some b) w W→TdAt W S z v A1 n1 c1 A2 n2 c2 A3 n3 c3 A4 n4 c4 F nf cf X nx cx V nv cv)
  (hO:w.ownsRow base 3 1 (.slice O no co) no (L.flatMap en3)) (hC:Rd nmI w w.heap.size AC nC cC ds) (hCo: ∀b o,AC=some ⟨b,o,none⟩→ ¬(Value.slice O no co).ownBlock=some b)
  (hD:Rd nmI w w.heap.size AD nD cD us) (hDo: ∀b o,AD=some ⟨b,o,none⟩→ ¬(Value.slice O no co).ownBlock=some b) (hds: ∀x∈ds,x < lim z) (hus: ∀x∈us,x < lim z) (hL:L.length=lim z) (hnC:nC≤400) (hnD:nD≤400):
  Calls Tryz.prog 90 #[tdV v A1 n1 c1 A2 n2 c2 A3 n3 c3 A4 n4 c4 F nf cf X nx cx V nv cv O no co,.slice AC nC cC,.slice AD nD cD] w fun e w'=>e= .returned (.tuple #[])∧w'.ownsRow base 3 1 (.slice O no co) no ((prA S z us L ds).flatMap en3)∧Kept (fun b=>(Value.slice O no co).ownBlock=some b) w w':=by
 obtain⟨bC,oC,hsC⟩:=Shows.of hC hCo
 obtain⟨bD,oD,hsD⟩:=Shows.of hD hDo
 have HDS:=Lib.hid hds
 have HUS:=Lib.hid hus
 have HNC:=Lib.hid hnC
 have HND:=Lib.hid hnD
 have HLL:=Lib.hid hL
 have HSC:=Lib.hid hsC
 have HSD:=Lib.hid hsD
 have HO:=Lib.hid hO
 have HBE:Hid (∀q,(Value.slice O no co).ownBlock=some q→q < w.heap.size):=Lib.hid fun q e=>(hO.lt q e).2
 have h:=htd0 w (Kept.refl _ _)
 obtain⟨D,hD'⟩: ∃D:Nat→Prop,(fun b=>(Value.slice O no co).ownBlock=some b)=D:=⟨_,rfl⟩
 rw[hD'] at HSC HSD htd0 ⊢
 have HDD:Hid (∀b,D b↔(Value.slice O no co).ownBlock=some b):=Lib.hid fun b=>by rw[← hD']
 have HLN:Hid (L.length=no):=Lib.hid (rs_own_len en3_len (by decide) hO)
 have HTD:Hid (∀W,Kept D w W→TdAt W S z v A1 n1 c1 A2 n2 c2 A3 n3 c3 A4 n4 c4 F nf cf X nx cx V nv cv):=Lib.hid htd0
 have HN:=Lib.hid h.le
 have HNF:=Lib.hid h.sz
 have ka:(w.alloc (.cells #[v,.slice A1 n1 c1,.slice A2 n2 c2,.slice A3 n3 c3,.slice A4 n4 c4,.slice F nf cf,.slice X nx cx,.slice V nv cv,.slice O no co] 108)).heap[w.heap.size]?=some (.cells #[v,.slice A1 n1 c1,.slice A2 n2 c2,.slice A3 n3 c3,.slice A4 n4 c4,.slice F nf cf,.slice X nx cx,.slice V nv cv,.slice O no co] 108 (0,0)):=heap_alloc_new w _
 have hx:=TBx.of ka
 have hb0:Below w.heap.size w (w.alloc (.cells #[v,.slice A1 n1 c1,.slice A2 n2 c2,.slice A3 n3 c3,.slice A4 n4 c4,.slice F nf cf,.slice X nx cx,.slice V nv cv,.slice O no co] 108)):=(Below.refl _ _).alloc (Nat.le_refl _) _
 have HX:=Lib.hid hx
 have HB0:=Lib.hid hb0
 have HND2:Hid (¬D w.heap.size):=Lib.hid fun hd=>by have:=HBE.out _ ((HDD.out _).1 hd);omega
 clear h htd0 hO hC hCo hD hDo hds hus hL hnC hnD hsC hsD hD' ka hx hb0
 obtain⟨w1,hw1⟩: ∃w1,w.alloc (.cells #[v,.slice A1 n1 c1,.slice A2 n2 c2,.slice A3 n3 c3,.slice A4 n4 c4,.slice F nf cf,.slice X nx cx,.slice V nv cv,.slice O no co] 108)=w1:=⟨_,rfl⟩
 rw[hw1] at HX HB0
 unfold tdV
 go_enter Tryz.func90,Tryz.ntmps90
 go_wp2_with fail
 generalize hwd:World.alloc w _=wd'
 obtain rfl:w1=wd':=hw1.symm.trans hwd
 clear hw1 hwd
 have HK1:Hid (Kept D w w1):=Lib.hid (Kept.of_below HB0.out)
 have HI0:Hid (PrI D S z us L ds base O no co w1 0 w1):=Lib.hid ⟨own_behind HO.out HB0.out,Kept.refl _ _⟩
 go_loopw [15] (fun v15 wr=> ∃k:Nat,v15= .int .i64 (k:Int)∧k≤nC∧PrI D S z us L ds base O no co w1 k wr) (fun v15 _=>nC - (intOf v15).toNat)
 case atStart=>exact⟨0,rfl,Nat.zero_le _,HI0.out⟩
 case round=>
  clear HI0
  obtain⟨k,rfl,hk,hI⟩:=hrel
  have HI:=Lib.hid hI
  by_cases hlt:k < nC
  ·have hkl:k < ds.length:=by have:=HSC.out.1;omega
   obtain rfl:AC=some ⟨bC,oC,none⟩:=HSC.out.2.1 (by omega)
   obtain⟨d,hd⟩: ∃d,ds[k]=d:=⟨_,rfl⟩
   have hKW:=HK1.out.trans hI.k
   have d0:wr.cell? ⟨bC,oC+k,none⟩=some (.int .i64 (d:Int)):=by rw[← hd];exact HSC.out.2.2 wr hKW k hkl
   have HDL:=Lib.hid (HDS.out d (by rw[← hd];exact List.getElem_mem hkl))
   have HKL:=Lib.hid hkl
   have HLT:=Lib.hid hlt
   have HDK:=Lib.hid hd
   have hbx:Below w1.heap.size w1 w1:=Below.refl _ _
   have off: ∀o,wr.cell? ⟨w.heap.size,o,none⟩=w1.cell? ⟨w.heap.size,o,none⟩:=fun o=>hI.k.cell (p:=⟨w.heap.size,o,none⟩) (World.block_lt_of_cell? w1 ⟨w.heap.size,0,none⟩ HX.out.p0) HND2.out
   have y0:=(off 0).trans HX.out.p0
   have y1:=(off 1).trans HX.out.p1
   have y2:=(off 2).trans HX.out.p2
   have y3:=(off 3).trans HX.out.p3
   have y4:=(off 4).trans HX.out.p4
   have y5:=(off 5).trans HX.out.p5
   have y6:=(off 6).trans HX.out.p6
   have y7:=(off 7).trans HX.out.p7
   have y8:=(off 8).trans HX.out.p8
   have hin:(k:Int) < (nC:Int):=by omega
   have hk9:k≤60000:=by have:=HNC.out;omega
   have htd:=HTD.out wr hKW
   obtain⟨hw,hdp⟩:=lim_whole HDL.out
   have hlen:=htd.lens hw
   have HLE:=Lib.hid hlen
   have HFIT:=Lib.hid (fits_any d S z v A1 n1 c1 A2 n2 c2 A3 n3 c3 A4 n4 c4 F nf cf X nx cx V nv cv O no co wr htd HDL.out)
   obtain⟨b4,o4,b4',o4',y4',hA4,-,-⟩:=be_cell htd.sen hw hdp hdp
   obtain⟨Lk,hLk⟩: ∃l,prA S z us L (ds.take k)=l:=⟨_,rfl⟩
   have HLK:=Lib.hid hLk
   have hLw:=hI.l
   rw[hLk] at hLw
   have hLL:Lk.length=lim z:=by rw[← hLk,prA_len];exact HLL.out
   have HLK2:=Lib.hid hLL
   obtain⟨g,rfl,-,hgw,-,-,-⟩:=own_stI hLw (i:=d) (by rw[hLL];exact HDL.out)
   have HW:=Lib.hid hw
   have HA4:=Lib.hid hA4
   clear hA4 hk hI hlt hd off htd hw hdp hlen hLk hLL
   unfold tdV at HFIT
   go_wp2_with fail
   refine wp_scope_straight ?_
   go_wp2_with fail
   refine HFIT.out.mono ?_
   rintro e w2 ⟨FA,FN,fc,rfl,hfo,hv⟩
   have HFR:=Lib.hid (own_rdB hfo)
   have HI2:=Lib.hid (HI.out.behind hv)
   have HL2:=Lib.hid (own_behind hLw hv)
   have HKW2:Hid (Kept D w w2):=Lib.hid (hKW.trans (Kept.of_below hv))
   have hbox:TBx wr w.heap.size v A1 n1 c1 A2 n2 c2 A3 n3 c3 A4 n4 c4 F nf cf X nx cx V nv cv (some ⟨g,0,none⟩) no co:=⟨y0,y1,y2,y3,y4,y5,y6,y7,y8⟩
   have HBX:=Lib.hid (hbox.keep hv)
   have HTD2:Hid (∀W,Below w2.heap.size w2 W→TdAt W S z v A1 n1 c1 A2 n2 c2 A3 n3 c3 A4 n4 c4 F nf cf X nx cx V nv cv):=Lib.hid fun W hW=>HTD.out W (HKW2.out.trans (Kept.of_below hW))
   have HFN:Hid (FN=z.p.length):=Lib.hid (by have:=HFR.out.len;simp[fitsL] at this;omega)
   have HGW:Hid (g≠w.heap.size∧g < w1.heap.size):=Lib.hid (by
    have h1:=HBE.out g rfl
    exact⟨by omega,Nat.lt_of_lt_of_le h1 HB0.out.size⟩)
   clear d0 y0 y1 y2 y3 y4 y5 y6 y7 y8 hLw hgw hKW hfo hv hbox HFIT HI
   go_wp2_with fail
   refine wp_label ?_
   go_wp2_with fail
   obtain⟨wo,rfl⟩: ∃wo,wo=wr:=⟨_,rfl⟩
   go_loopw [24] (fun v24 wq=> ∃j:Nat,v24= .int .i64 (j:Int)∧j≤nD∧(∀i (q:i < j) (q':i < us.length),(decide (Lk.getD us[i] 0=us[i]) && mayB S z d us[i])=false)∧Below w2.heap.size w2 wq) (fun v24 _=>nD - (intOf v24).toNat)
   case atStart=>exact⟨0,rfl,Nat.zero_le _,fun i q=>absurd q (Nat.not_lt_zero i),Below.refl _ _⟩
   case round=>
    obtain⟨j,rfl,hj,hno,hbq⟩:=hrel
    have HBQ:=Lib.hid hbq
    have HNO:=Lib.hid hno
    by_cases hltj:j < nD
    ·have hjl:j < us.length:=by have:=HSD.out.1;omega
     obtain rfl:AD=some ⟨bD,oD,none⟩:=HSD.out.2.1 (by omega)
     obtain⟨u,hu⟩: ∃u,us[j]=u:=⟨_,rfl⟩
     have u0:wr.cell? ⟨bD,oD+j,none⟩=some (.int .i64 (u:Int)):=by rw[← hu];exact HSD.out.2.2 wr (HKW2.out.trans (Kept.of_below hbq)) j hjl
     have HUL:=Lib.hid (HUS.out u (by rw[← hu];exact List.getElem_mem hjl))
     have HJL:=Lib.hid hjl
     have HLTJ:=Lib.hid hltj
     have HUJ:=Lib.hid hu
     obtain⟨g',hg',-,-,ce,fe,hset⟩:=own_stI (own_behind HL2.out hbq) (i:=u) (by rw[HLK2.out];exact HUL.out)
     injection hg' with hg'
     injection hg' with hg' _
     subst hg'
     have HSET:=Lib.hid hset
     obtain⟨a,ha⟩: ∃a,Lk.getD u 0=a:=⟨_,rfl⟩
     rw[ha] at ce
     have HA:=Lib.hid ha
     have hbq':=HBX.out.keep hbq
     have y0:=hbq'.p0
     have y1:=hbq'.p1
     have y2:=hbq'.p2
     have y3:=hbq'.p3
     have y4:=hbq'.p4
     have y5:=hbq'.p5
     have y6:=hbq'.p6
     have y7:=hbq'.p7
     have y8:=hbq'.p8
     have hinj:(j:Int) < (nD:Int):=by omega
     have hj9:j≤60000:=by have:=HND.out;omega
     have hun:(u:Int) < (no:Int):=by have:=HUL.out;have:=HLN.out;have:=HLL.out;omega
     have hu9:u≤60000:=by have:=HUL.out;have:=HNF.out;have:=HN.out;omega
     obtain⟨ld,hld⟩: ∃r,leadsB S z d u=r:=⟨_,rfl⟩
     have HLD:=Lib.hid hld
     have HLEAD:=Lib.hid (leads_any d u S z v A1 n1 c1 A2 n2 c2 A3 n3 c3 A4 n4 c4 F nf cf X nx cx V nv cv (some ⟨g,0,none⟩) no co wr (HTD2.out wr hbq) HDL.out HUL.out ld hld)
     have HNEXT:Hid ((decide (Lk.getD u 0=u) && mayB S z d u)=false→ ∀i (q:i < j+1) (q':i < us.length),(decide (Lk.getD us[i] 0=us[i]) && mayB S z d us[i])=false):=Lib.hid fun e i q q'=>by
      by_cases e':i=j
      ·subst e'
       rw[HUJ.out]
       exact e
      ·exact HNO.out i (by omega) q'
     clear hj hbq hno hltj hu hset ha hbq' hld
     unfold tdV at HLEAD
     by_cases hau:a=u
     ·subst hau
      have g1:((a:Int) !=(a:Int))=false:=by simp
      go_wp2_with fail
      refine HLEAD.out.mono ?_
      rintro e w5 ⟨rfl,hv5⟩
      have HB5:=Lib.hid (HBQ.out.trans (hv5.mono HBQ.out.size))
      clear y0 y1 y2 y3 y4 y5 y6 y7 y8 hv5 HLEAD u0 ce fe g1
      cases ld with
      |false=>
       have HNN:=Lib.hid (HNEXT.out (by unfold mayB;rw[HLD.out];simp))
       go_wp2_with fail
       go_roundw
       case rel=>exact⟨j+1,by go_num,HLTJ.out,HNN.out,HB5.out⟩
       case measure=>
        have:=HLTJ.out
        simp[intOf]
        omega
      |true=>
       obtain⟨wp',rfl⟩: ∃wp',wp'=wr:=⟨_,rfl⟩
       go_wp2_with fail
       go_loopw [44] (fun v44 wz=> ∃q:Nat,v44= .int .i64 (q:Int)∧q≤FN∧(∀i < q,(!bb z i a||fitsB S z d i)=true)∧w5=wz) (fun v44 _=>FN - (intOf v44).toNat)
       case atStart=>exact⟨0,rfl,Nat.zero_le _,fun i q=>absurd q (Nat.not_lt_zero i),rfl⟩
       case round=>
        obtain⟨q,rfl,hq,hall,rfl⟩:=hrel
        have HALL:=Lib.hid hall
        by_cases hltq:q < FN
        ·have hqp:q < z.p.length:=by have:=HFN.out;omega
         have htd:=HTD2.out w5 HB5.out
         obtain⟨b',o',yy,r1,r2⟩:=col_cell htd.sen HW.out hqp (lim_whole HUL.out).2 HA4.out
         obtain⟨bF,oF,rfl,hbF,hcF⟩:=HFR.out.spot (by omega)
         have m0:w5.cell? ⟨bF,oF+q,none⟩=some (.bool (fitsB S z d q)):=by
          have h1:=hcF q (by simp[fitsL];exact hqp)
          rw[fitsL_get hqp] at h1
          exact cell_old h1 HB5.out
         have x4:=(HBX.out.keep HB5.out).p4
         rw[HA4.out] at x4
         obtain⟨x,hx⟩: ∃x,bb z q a=x:=⟨_,rfl⟩
         obtain⟨m,hm⟩: ∃x,fitsB S z d q=x:=⟨_,rfl⟩
         rw[hx] at r2
         rw[hm] at m0
         have HXM:Hid ((!bb z q a||fitsB S z d q)=(!x||m)):=Lib.hid (by rw[hx,hm])
         have HLTQ:=Lib.hid hltq
         have HQP:=Lib.hid hqp
         have hinq:(q:Int) < (FN:Int):=by omega
         have hinq4:(q:Int) < (n4:Int):=by have:=HLE.out;omega
         have han1:(a:Int) < (n1:Int):=by have:=HLE.out;have:=(lim_whole HUL.out).2;omega
         have hq9:q≤60000:=by have:=HLE.out;have:=HN.out;omega
         have HNXT:Hid ((!x||m)=true→ ∀i < q+1,(!bb z i a||fitsB S z d i)=true):=Lib.hid fun e i hi=>by
          by_cases e':i=q
          ·subst e'
           rw[HXM.out]
           exact e
          ·exact HALL.out i (by omega)
         clear hq hall hltq hqp htd hbF hcF hx hm
         cases x with
         |false=>
          have HNN:=Lib.hid (HNXT.out rfl)
          go_wp2_with fail
          go_roundw
          case rel=>exact⟨q+1,by go_num,HLTQ.out,HNN.out,trivial⟩
          case measure=>
           have:=HLTQ.out
           simp[intOf]
           omega
         |true=>
          cases m with
          |true=>
           have HNN:=Lib.hid (HNXT.out rfl)
           go_wp2_with fail
           go_roundw
           case rel=>exact⟨q+1,by go_num,HLTQ.out,HNN.out,trivial⟩
           case measure=>
            have:=HLTQ.out
            simp[intOf]
            omega
          |false=>
           have HNN:=Lib.hid (HNEXT.out (by rw[fits_one HQP.out HXM.out,Bool.and_false]))
           go_wp2_with fail
           go_roundw
           case rel=>exact⟨j+1,by go_num,HLTJ.out,HNN.out,HB5.out⟩
           case measure=>
            have:=HLTJ.out
            simp[intOf]
            omega
        ·obtain rfl:q=FN:=by omega
         have HMAY:Hid (mayB S z d a=true):=Lib.hid (by
          unfold mayB
          rw[HLD.out,Bool.true_and]
          exact fits_all fun k hk=>hall k (by have:=HFN.out;omega))
         have x8:=(HBX.out.keep HB5.out).p8
         obtain⟨g2,hg2,-,-,ce,fe,hset⟩:=own_stI (own_behind HL2.out HB5.out) (i:=a) (by rw[HLK2.out];exact HUL.out)
         injection hg2 with hg2
         injection hg2 with hg2 _
         subst hg2
         have HPI:Hid (PrI D S z us L ds base (some ⟨g,0,none⟩) no co w1 (k+1) (w5.setCell ⟨g,a,none⟩ (.int .i64 (d:Int)))):=Lib.hid (by
          have e1:=HUJ.out
          have e2:prL S z us Lk (ds[k]'HKL.out)=Lk.set a d:=by
           rw[HDK.out]
           have:=prL_yes (S:=S) (z:=z) (L:=Lk) (d:=d) HJL.out (by rw[e1,HA.out,HMAY.out];simp) fun i q=>HNO.out i q (by have:=HJL.out;omega)
           rw[e1] at this
           exact this
          refine⟨?_,(HI2.out.k.trans (Kept.of_below HB5.out)).setCell (p:=⟨g,a,none⟩) (.inl ((HDD.out g).2 rfl)) _⟩
          rw[prA_next HKL.out,HLK.out,e2]
          exact hset d)
         clear hq hall hltq hset
         go_wp2_with fail
         go_roundw
         case rel=>exact⟨k+1,by go_num,HLT.out,HPI.out⟩
         case measure=>
          have:=HLT.out
          simp[intOf]
          omega
     ·have g1:((a:Int) !=(u:Int))=true:=by simp;omega
      have HNN:=Lib.hid (HNEXT.out (by rw[HA.out,decide_eq_false hau,Bool.false_and]))
      clear hau
      go_wp2_with fail
      go_roundw
      case rel=>exact⟨j+1,by go_num,HLTJ.out,HNN.out,HBQ.out⟩
      case measure=>
       have:=HLTJ.out
       simp[intOf]
       omega
    ·obtain rfl:j=nD:=by omega
     have HPI:Hid (PrI D S z us L ds base (some ⟨g,0,none⟩) no co w1 (k+1) wr):=Lib.hid (by
      refine(HI2.out.behind hbq).next HKL.out ?_
      rw[HLK.out,HDK.out]
      exact prL_no fun i q=>hno i (by have:=HSD.out.1;omega) q)
     clear hj hno hbq hltj
     go_wp2_with fail
     rw[Exit.noGoto_normal]
     go_wp2_with fail
     go_roundw
     case rel=>exact⟨k+1,by go_num,HLT.out,HPI.out⟩
     case measure=>
      have:=HLT.out
      simp[intOf]
      omega
  ·obtain rfl:k=nC:=by omega
   have e1:ds.take k=ds:=List.take_of_length_le (by have:=HSC.out.1;omega)
   obtain⟨hl,hkk⟩:=hI
   rw[e1] at hl
   have HL':=Lib.hid hl
   have HK':=Lib.hid (HK1.out.trans hkk)
   clear hlt hk hl hkk HI
   go_wp2_with fail
   go_end0
   exact⟨rfl,HL'.out,HK'.out⟩
end Go.Proofs.YtmejhedegmjboaaGreat.I
namespace Go.Proofs.YtmejhedegmjboaaGreat.I
open Go.RowKit PaC
def tkO (z:Sen):Tk:=fun x=>(hg z x,pk (rowB z x) z.p.length)
def tkI (z:Sen):Tk:=fun x=>(lw z x,pk (colB z x) z.p.length)
theorem tkO_eq {z:Sen}{b x:Nat}:decide (tkO z b=tkO z x)=soB z x b:=by
 rw[Bool.eq_iff_iff,decide_eq_true_eq,soB_iff]
 unfold tkO
 rw[Prod.mk.injEq,pk_eq]
 exact⟨fun ⟨a,c⟩=>⟨a.symm,fun k hk=>(c k hk).symm⟩,fun ⟨a,c⟩=>⟨a.symm,fun k hk=>(c k hk).symm⟩⟩
theorem tkI_eq {z:Sen}{b x:Nat}:decide (tkI z b=tkI z x)=siB z x b:=by
 rw[Bool.eq_iff_iff,decide_eq_true_eq,siB_iff]
 unfold tkI
 rw[Prod.mk.injEq,pk_eq]
 exact⟨fun ⟨a,c⟩=>⟨a.symm,fun k hk=>(c k hk).symm⟩,fun ⟨a,c⟩=>⟨a.symm,fun k hk=>(c k hk).symm⟩⟩
theorem mgO (S:Bo.Sr)(z:Sen)(x:Nat):mgL (tkO z) ((cfg S z).cls 2) x=(cfg S z).mg (cfg S z).so x:=by
 unfold mgL Cfg.mg
 congr 1
 funext b
 exact tkO_eq
theorem mgI (S:Bo.Sr)(z:Sen)(x:Nat):mgL (tkI z) ((cfg S z).cls 2) x=(cfg S z).mg (cfg S z).si x:=by
 unfold mgL Cfg.mg
 congr 1
 funext b
 exact tkI_eq
def RL (n:Nat)(f:Nat→Nat):List Nat:=(List.range n).map f
theorem RL_len (n:Nat)(f:Nat→Nat):(RL n f).length=n:=by simp[RL]
theorem RL_get {n:Nat}{f:Nat→Nat}{x:Nat}(h:x < n):(RL n f).getD x 0=f x:=by
 unfold RL
 rw[List.getD_eq_getElem?_getD,List.getElem?_map,List.getElem?_range h]
 rfl
theorem RL_set (n:Nat)(f:Nat→Nat)(x b:Nat):(RL n f).set x b=RL n (fun y=>if y=x then b else f y):=by
 apply List.ext_getElem (by simp[RL])
 intro i h1 h2
 rw[List.getElem_set]
 simp only[RL,List.getElem_map,List.getElem_range]
 by_cases e:x=i
 ·rw[if_pos e,if_pos e.symm]
 ·rw[if_neg e,if_neg (Ne.symm e)]
theorem RL_congr {n:Nat}{f g:Nat→Nat}(h: ∀x < n,f x=g x):RL n f=RL n g:=List.map_congr_left fun x hx=>h x (List.mem_range.1 hx)
theorem stA_RL (tk:Tk)(dl:List Nat)(n:Nat): ∀(cl:List Nat) (f:Nat→Nat),stA tk dl (RL n f) cl=RL n (fun x=>if x∈cl then(mgL tk dl x).getD (f x) else f x)
 | [],f=>by
  show RL n f=_
  exact RL_congr fun x _=>by simp
 |x::cl,f=>by
  show stA tk dl (stL tk dl (RL n f) x) cl=_
  unfold stL
  cases e:mgL tk dl x with
  |none=>
   show stA tk dl (RL n f) cl=_
   rw[stA_RL tk dl n cl f]
   refine RL_congr fun y _=> ?_
   by_cases h:y=x
   ·subst h
    rw[e]
    simp
   ·by_cases h2:y∈cl
    ·rw[if_pos h2,if_pos (List.mem_cons_of_mem _ h2)]
    ·rw[if_neg h2,if_neg fun h3=>(List.mem_cons.1 h3).elim h h2]
  |some b=>
   show stA tk dl ((RL n f).set x b) cl=_
   rw[RL_set,stA_RL tk dl n cl]
   refine RL_congr fun y _=> ?_
   by_cases h:y=x
   ·subst h
    rw[e]
    simp
   ·by_cases h2:y∈cl
    ·rw[if_pos h2,if_pos (List.mem_cons_of_mem _ h2),if_neg h]
    ·rw[if_neg h2,if_neg h,if_neg fun h3=>(List.mem_cons.1 h3).elim h h2]
section
variable {S:Bo.Sr} {z:Sen}
theorem otO:otL (tkO z) ((cfg S z).cls 2) ((cfg S z).cls 1)=(cfg S z).downs:=by
 unfold otL Cfg.downs Cfg.oth
 exact List.filter_congr fun x _=>by rw[mgO]
theorem otI:otL (tkI z) ((cfg S z).cls 2) ((cfg S z).cls 0)=(cfg S z).ups:=by
 unfold otL Cfg.ups Cfg.oth
 exact List.filter_congr fun x _=>by rw[mgI]
theorem st_one:stA (tkI z) ((cfg S z).cls 2) (stA (tkO z) ((cfg S z).cls 2) (RL z.p.length id) ((cfg S z).cls 1)) ((cfg S z).cls 0)=RL z.p.length (cfg S z).one1:=by
 rw[stA_RL,stA_RL]
 refine RL_congr fun x hx=> ?_
 unfold Cfg.one1
 have m: ∀s,x∈(cfg S z).cls s↔(cfg S z).is s x=true:=fun s=>by
  rw[mem_cls,is_iff]
  exact⟨fun h=>h.2,fun h=>⟨hx,h⟩⟩
 simp only[m,mgO,mgI,id]
 by_cases h1:(cfg S z).is 1 x=true
 ·have h0: ¬(cfg S z).is 0 x=true:=fun h0=>by
   have a:=(is_iff.1 h1).2.2
   have b:=(is_iff.1 h0).2.2
   omega
  rw[if_neg h0,if_pos h1,if_pos h1]
 ·rw[if_neg h1,if_neg h1]
theorem one_taken {c:Cfg}{l:List Nat}{s:Cfg.Ps}(h:PsOk c l s)(hl: ∀d∈l,d∈c.downs){u:Nat}(hu:u∈c.ups):decide (c.oneM s u=u)= !Cfg.taken s u:=by
 cases t:Cfg.taken s u with
 |false=>
  rw[oneM_none t,one1_up (mem_ups.1 hu).1,(mem_ups.1 hu).2]
  simp
 |true=>
  obtain⟨d,hd⟩:=taken_iff.1 t
  rw[oneM_some h hd]
  have hm:d∈l:=by rw[← h.fst];exact List.mem_map.2 ⟨_,hd,rfl⟩
  have h1:=(mem_cls.1 (mem_downs.1 (hl d hm)).1).2.2.2
  have h2:=(mem_cls.1 (mem_ups.1 hu).1).2.2.2
  rw[decide_eq_false (fun e=>by rw[e] at h1;omega)]
  rfl
theorem skL_is {l:List Nat}{s:Cfg.Ps}(h:PsOk (cfg S z) l s)(hl: ∀d∈l,d∈(cfg S z).downs)(d:Nat):skL S z (cfg S z).ups (RL z.p.length ((cfg S z).oneM s)) d=(cfg S z).seek s d:=by
 unfold skL Cfg.seek
 have key: ∀(us:List Nat),(∀u∈us,u∈(cfg S z).ups)→us.find? (fun u=>decide ((RL z.p.length ((cfg S z).oneM s)).getD u 0=u) && mayB S z d u)=us.find? (fun u=> !Cfg.taken s u && (cfg S z).fit d u):=by
  intro us
  induction us with
  |nil=>intro _;rfl
  |cons u us ih=>
   intro hu
   have h1:=hu u (List.mem_cons_self ..)
   have hn:u < z.p.length:=(mem_cls.1 (mem_ups.1 h1).1).1
   rw[List.find?_cons,List.find?_cons,RL_get hn,one_taken h hl h1,ih fun v hv=>hu v (List.mem_cons_of_mem _ hv)]
   rfl
 exact key _ fun u hu=>hu
theorem prA_RL: ∀(r l:List Nat) (s:Cfg.Ps),PsOk (cfg S z) l s→(∀d∈l,d∈(cfg S z).downs)→(∀d∈r,d∈(cfg S z).downs)→
  prA S z (cfg S z).ups (RL z.p.length ((cfg S z).oneM s)) r=RL z.p.length ((cfg S z).oneM (r.foldl (cfg S z).stepQ s))
 | [],_,_,_,_,_=>rfl
 |d::r,l,s,h,hl,hr=>by
  have hd:=hr d (List.mem_cons_self ..)
  have ih:=prA_RL r (l++ [d]) _ (h.next d) (fun x hx=>(List.mem_append.1 hx).elim (hl x) fun e=>by rw[List.mem_singleton.1 e];exact hd) fun x hx=>hr x (List.mem_cons_of_mem _ hx)
  show prA S z _ (prL S z _ _ d) r=_
  have e:prL S z (cfg S z).ups (RL z.p.length ((cfg S z).oneM s)) d=RL z.p.length ((cfg S z).oneM ((cfg S z).stepQ s d)):=by
   unfold prL Cfg.stepQ
   rw[skL_is h hl]
   cases e:(cfg S z).seek s d with
   |none=>rw[oneM_skip]
   |some u=>
    have h1:=List.find?_some e
    simp only[Bool.and_eq_true,Bool.not_eq_true'] at h1
    rw[oneM_put h1.1]
    exact RL_set _ _ _ _
  rw[e]
  exact ih
theorem pr_one:prA S z (cfg S z).ups (RL z.p.length (cfg S z).one1) (cfg S z).downs=RL z.p.length (cfg S z).one:=by
 have:=prA_RL (S:=S) (z:=z) (cfg S z).downs [] [] PsOk.zero (fun _ h=>absurd h (List.not_mem_nil)) fun _ h=>h
 have e:(cfg S z).oneM []=(cfg S z).one1:=by
  funext x
  exact oneM_none rfl
 rw[e] at this
 exact this
end
noncomputable def oneL (S:Bo.Sr) (z:Sen):List Nat:=RL (lim z) (cfg S z).one
end Go.Proofs.YtmejhedegmjboaaGreat.I
