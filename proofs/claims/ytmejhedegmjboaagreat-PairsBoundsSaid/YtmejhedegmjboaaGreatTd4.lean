import Derived.Test.YtmejhedegmjboaaGreatTd2
set_option maxRecDepth 100000
set_option maxHeartbeats 8000000
namespace Go.Proofs.YtmejhedegmjboaaGreat.I
open Go.RowKit PaC
def en3 (x:Nat):List Value:= [.int .i64 (x:Int)]
theorem Zz (x:Nat):(en3 x).length=1:=rfl
theorem QO (l:List Nat):l.flatMap en3=l.map nmI:=by
 induction l with
 |nil=>rfl
 |cons x l ih=>rw[List.flatMap_cons,ih];rfl
theorem Y2 (l:List Nat): ∀u∈l.flatMap en3,u.oneCell'=true:=by
 intro u hu
 rw[QO] at hu
 obtain⟨x,_,rfl⟩:=List.mem_map.1 hu
 rfl
theorem Y3:(Tryz.prog.info? 3).map (fun i=>(i.zero,i.size,i.bytes))=some (some (.int .i64 0),1,8):=by kernel_rfl
def enB (x:Bool):List Value:= [.bool x]
theorem Vq (x:Bool):(enB x).length=1:=rfl
theorem ZgO (l:List Bool):l.flatMap enB=l.map Value.bool:=by
 induction l with
 |nil=>rfl
 |cons x l ih=>rw[List.flatMap_cons,ih];rfl
theorem Um (l:List Bool): ∀u∈l.flatMap enB,u.oneCell'=true:=by
 intro u hu
 rw[ZgO] at hu
 obtain⟨x,_,rfl⟩:=List.mem_map.1 hu
 rfl
theorem Un:(Tryz.prog.info? 4).map (fun i=>(i.zero,i.size,i.bytes))=some (some (.bool false),1,1):=by kernel_rfl
theorem ZiH (w:World)(x:Nat):Rs en3 1 (w.alloc (.cells #[.int .i64 (x:Int)] 3)) (w.alloc (.cells #[.int .i64 (x:Int)] 3)).heap.size (some ⟨w.heap.size,0,none⟩) 1 1 [x]:=
 Rs.of_blk Zz (heap_alloc_new w _) ⟨[],rfl⟩ rfl lR (by unfold maxLen;omega)
theorem ZaF (w:World)(x:Bool):Rs enB 1 (w.alloc (.cells #[.bool x] 4)) (w.alloc (.cells #[.bool x] 4)).heap.size (some ⟨w.heap.size,0,none⟩) 1 1 [x]:=
 Rs.of_blk Vq (heap_alloc_new w _) ⟨[],rfl⟩ rfl lR (by unfold maxLen;omega)
theorem UO {w:World}{base k:Nat}{A:Option Addr}{c:Nat}{l:List Nat}(h:w.ownsRow base 3 1 (.slice A k c) k (l.flatMap en3)):Rd nmI w w.heap.size A k c l:=by
 rw[QO] at h
 exact Rd.of_own h
theorem ZgP {w:World}{base k:Nat}{A:Option Addr}{c:Nat}{l:List Bool}(h:w.ownsRow base 4 1 (.slice A k c) k (l.flatMap enB)):Rd Value.bool w w.heap.size A k c l:=by
 rw[ZgO] at h
 exact Rd.of_own h
theorem ZaG {w:World}{base n:Nat}{A:Option Addr}{c:Nat}{lo:List Nat}(h:w.ownsRow base 3 1 (.slice A n c) n (lo.flatMap en3)){i:Nat}(hi:i < lo.length):
  ∃g,A=some ⟨g,0,none⟩∧base≤g∧g < w.heap.size∧w.cell? ⟨g,i,none⟩=some (.int .i64 (lo.getD i 0:Int))∧w.frozen? ⟨g,i,none⟩=false∧
   ∀x:Nat,(w.setCell ⟨g,i,none⟩ (.int .i64 (x:Int))).ownsRow base 3 1 (.slice A n c) n ((lo.set i x).flatMap en3):=by
 have hl:=(UO h).len
 rcases h.2 with⟨_,h0⟩|⟨g,cap,cur,hv,hb,hg,hnc,hcm,hcs,htake⟩
 ·omega
 ·(
 injection hv with h1 h2 h3
 subst h1
 subst h3
 rw[QO,Nat.mul_one] at htake
 refine⟨g,rfl,hb,Zh hg,?_,Zc hg,fun x=>⟨?_,.inr ⟨g,c,cur.setIfInBounds i (.int .i64 (x:Int)),rfl,hb,Zm hg _,hnc,hcm,by simpa using hcs,?_⟩⟩⟩
 ·rw[Zb hg, ← Array.getElem?_toList]
  have:(cur.toList.take n)[i]?=cur.toList[i]?:=by rw[List.getElem?_take,if_pos (by omega)]
  rw[← this,htake,List.getElem?_map,List.getElem?_eq_getElem hi,List.getD_eq_getElem?_getD,List.getElem?_eq_getElem hi]
  rfl
 ·rw[QO,List.length_map,List.length_set,Nat.mul_one,hl]
 ·rw[QO,Nat.mul_one,Array.toList_setIfInBounds,List.take_set,htake,List.map_set]
  rfl)
noncomputable def clsI (S:Bo.Sr) (z:Sen) (s i:Nat):List Nat:=(List.range i).filter ((cfg S z).is s)
noncomputable def clsL (S:Bo.Sr) (z:Sen) (s:Nat):List Nat:=clsI S z s (lim z)
theorem Y4 {S:Bo.Sr}{z:Sen}(h:Zn z=true)(s:Nat):clsL S z s=(cfg S z).cls s:=by
 unfold clsL
 rw[QQ h]
 rfl
theorem VT {S:Bo.Sr}{z:Sen}{s x:Nat}(h:x∈clsL S z s):x < lim z:=List.mem_range.1 (List.mem_filter.1 h).1
theorem Yd (S:Bo.Sr)(z:Sen)(s i:Nat):(clsI S z s i).length≤i:=by
 have:=List.length_filter_le ((cfg S z).is s) (List.range i)
 rw[List.length_range] at this
 exact this
theorem ZiI {S:Bo.Sr}{z:Sen}{s i:Nat}(h:(cfg S z).is s i=true):clsI S z s (i+1)=clsI S z s i++ [i]:=by
 unfold clsI
 rw[List.range_succ,List.filter_append,List.filter_cons_of_pos h,List.filter_nil]
theorem Zcm {S:Bo.Sr}{z:Sen}{s i:Nat}(h:(cfg S z).is s i=false):clsI S z s (i+1)=clsI S z s i:=by
 unfold clsI
 rw[List.range_succ,List.filter_append,List.filter_cons_of_neg (by rw[h];simp),List.filter_nil,List.append_nil]
theorem Ye (s:Nat)(S:Bo.Sr)(z:Sen)(v:Value)(A1:Option Addr)(n1 c1:Nat)(A2:Option Addr)(n2 c2:Nat)(A3:Option Addr)(n3 c3:Nat)(A4:Option Addr)(n4 c4:Nat)(F:Option Addr)(nf cf:Nat)(X:Option Addr)(nx cx:Nat)(V:Option Addr)(nv cv:Nat)(O:Option Addr)(no co:Nat)(w:World)(h:TdAt w S z v A1 n1 c1 A2 n2 c2 A3 n3 c3 A4 n4 c4 F nf cf X nx cx V nv cv):
  Calls Tryz.prog 86 #[tdV v A1 n1 c1 A2 n2 c2 A3 n3 c3 A4 n4 c4 F nf cf X nx cx V nv cv O no co,.int .u8 (s:Int)] w fun e w'=> ∃A n c,e= .returned (.slice A n c)∧w'.ownsRow w.heap.size 3 1 (.slice A n c) n ((clsL S z s).flatMap en3)∧Below w.heap.size w w':=by
 have ka:(w.alloc (.cells #[v,.slice A1 n1 c1,.slice A2 n2 c2,.slice A3 n3 c3,.slice A4 n4 c4,.slice F nf cf,.slice X nx cx,.slice V nv cv,.slice O no co] 108)).heap[w.heap.size]?=some (.cells #[v,.slice A1 n1 c1,.slice A2 n2 c2,.slice A3 n3 c3,.slice A4 n4 c4,.slice F nf cf,.slice X nx cx,.slice V nv cv,.slice O no co] 108 (0,0)):=heap_alloc_new w _
 have hx:=TBx.of ka
 have hb0:Below w.heap.size w (w.alloc (.cells #[v,.slice A1 n1 c1,.slice A2 n2 c2,.slice A3 n3 c3,.slice A4 n4 c4,.slice F nf cf,.slice X nx cx,.slice V nv cv,.slice O no co] 108)):=bA
 have HTD:Hid (∀W,Below w.heap.size w W→TdAt W S z v A1 n1 c1 A2 n2 c2 A3 n3 c3 A4 n4 c4 F nf cf X nx cx V nv cv):=Hd fun W hW=>h.keep hW
 have HX:=Hd hx
 have HB0:=Hd hb0
 have HNF:=Hd h.sz
 have HN:=Hd h.le
 have HE:=Hd h.sz.1
 clear h ka hb0
 unfold tdV
 go_enter Tryz.func86,Tryz.ntmps86
 have y5:=hx.p5
 clear hx
 go_wp2_with fail
 clear y5
 generalize w.alloc (.cells #[v,.slice A1 n1 c1,.slice A2 n2 c2,.slice A3 n3 c3,.slice A4 n4 c4,.slice F nf cf,.slice X nx cx,.slice V nv cv,.slice O no co] 108)=w1 at*
 go_loopw [4,10] (fun v4 v10 wr=> ∃(i:Nat) (A:Option Addr) (N c:Nat),v4= .slice A N c∧v10= .int .i64 (i:Int)∧i≤nf∧wr.ownsRow w1.heap.size 3 1 (.slice A N c) N ((clsI S z s i).flatMap en3)∧Below w1.heap.size w1 wr) (fun _ v10 _=>nf - (intOf v10).toNat)
 case atStart=>exact⟨0,none,0,0,rfl,rfl,Nat.zero_le _,World.ownsRow_nil _ _ _ _,Below.refl _ _⟩
 case round=>(
 obtain⟨i,A5,N5,c5,rfl,rfl,hi,hown,hb⟩:=hrel
 have hbw:=HB0.out.trans (hb.mono HB0.out.size)
 by_cases hlt:i < nf
 ·(
 have hlz:i < lim z:=by have:=HE.out;omega
 obtain⟨hw,hip⟩:=ZP hlz
 have htd:=HTD.out _ hbw
 obtain⟨bf,of,rfl,ef⟩:=htd.atF hlz
 obtain⟨bx,ox,rfl,ex⟩:=htd.atX hlz
 obtain⟨p0,o0,rfl,-,e0,e1,e2,e3,e4⟩:=Z7 htd.sen.rp hip
 have HSD:=Hd (ZaE hip)
 generalize z.p[i]=sp at*
 obtain⟨xn,xp,xs,xv,xz⟩:=sp
 simp only at e0 e1 e2 e3 e4
 have HSD:Hid (sd z i=xs):=HSD
 have y1:=(HX.out.keep hb).p1
 have y5:=(HX.out.keep hb).p5
 have y6:=(HX.out.keep hb).p6
 have HBW:=Hd hbw
 have HB:=Hd hb
 have HOWN:=Hd hown
 have HLT:=Hd hlt
 have hN:=Zl Zz (by decide) hown
 have hN1:N5+1≤100000:=by have:=HN.out;have:=HNF.out;have:=Yd S z s i;omega
 have hin:(i:Int) < (nf:Int):=by omega
 have hin1:(i:Int) < (n1:Int):=by have:=HNF.out;omega
 have hinx:(i:Int) < (nx:Int):=by have:=HNF.out;omega
 have hi9:i≤60000:=by have:=HN.out;have:=HNF.out;omega
 have HIS:Hid ((cfg S z).is s i=(decide (first z i=i) && (!fixB S z i && decide (sd z i=s)))):=Hd rfl
 have HHN:=Hd hN1
 have hsz:w1.heap.size≤wr.heap.size:=hb.size
 generalize first z i=fi at*
 obtain⟨is,his⟩: ∃x,fixB S z i=x:=⟨_,rfl⟩
 rw[his] at ex HIS
 clear hi hlt hlz hw hip htd his hbw hb hown hN
 by_cases h1:fi=i
 ·(
 subst h1
 have g1:((fi:Int)==(fi:Int))=true:=by simp
 cases is with
 |true=>(
 have HNX:=Hd (Zcm (s:=s) (HIS.out.trans (by simp)))
 go_wp2_with fail
 go_roundw
 case rel=>exact⟨fi+1,A5,N5,c5,rfl,by go_num,HLT.out,by rw[HNX.out];exact HOWN.out,HB.out⟩
 case measure=>(
 have:=HLT.out
 simp[intOf]
 omega))
 |false=>(
 by_cases h2:xs=s
 ·(
 subst h2
 have g2:((xs:Int)==(xs:Int))=true:=by simp
 have HNX:=Hd (ZiI (s:=xs) (HIS.out.trans (by rw[HSD.out];simp)))
 have HO:=Hd (ZiH wr fi)
 have HAL:=Hd (show Below wr.heap.size wr (wr.alloc (.cells #[.int .i64 (fi:Int)] 3)) from bA)
 have HW:=Hd (Zi HOWN.out HAL.out)
 have hsz2:w1.heap.size≤(wr.alloc (.cells #[.int .i64 (fi:Int)] 3)).heap.size:=Nat.le_trans hsz HAL.out.size
 go_wp2_with (at_builtin;refine Zk Zz (by decide) Y2 Tryz.underlying82 Y3 rfl (by decide) rfl (.tmp 37) (.tmp 39) rfl w1.heap.size _ N5 _ rfl HW.out _ _ 1 1 [fi] rfl HO.out hN1 hsz2 ?_;intro A' k' c' w' HK HA)
 go_roundw
 case rel=>exact⟨fi+1,A',k',c',rfl,by go_num,HLT.out,by rw[HNX.out];exact HA.out.own,(HB.out.trans (HAL.out.mono HB.out.size)).grown HA.out.grown hsz2 fun j hj=>(HW.out.lt j hj).1⟩
 case measure=>(
 have:=HLT.out
 simp[intOf]
 omega))
 ·(
 have g2:((xs:Int)==(s:Int))=false:=by simp;omega
 have HNX:=Hd (Zcm (s:=s) (HIS.out.trans (by rw[HSD.out,decide_eq_false h2];simp)))
 clear h2
 go_wp2_with fail
 go_roundw
 case rel=>exact⟨fi+1,A5,N5,c5,rfl,by go_num,HLT.out,by rw[HNX.out];exact HOWN.out,HB.out⟩
 case measure=>(
 have:=HLT.out
 simp[intOf]
 omega))))
 ·(
 have g1:((fi:Int)==(i:Int))=false:=by simp;omega
 have HNX:=Hd (Zcm (s:=s) (HIS.out.trans (by rw[decide_eq_false h1];simp)))
 clear h1
 go_wp2_with fail
 go_roundw
 case rel=>exact⟨i+1,A5,N5,c5,rfl,by go_num,HLT.out,by rw[HNX.out];exact HOWN.out,HB.out⟩
 case measure=>(
 have:=HLT.out
 simp[intOf]
 omega)))
 ·(
 obtain rfl:i=nf:=by omega
 have hown:wr.ownsRow w1.heap.size 3 1 (.slice A5 N5 c5) N5 ((clsL S z s).flatMap en3):=by unfold clsL;rw[← HE.out];exact hown
 have HO:=Hd (Va hown HB0.out.size)
 have HB:=Hd hbw
 clear hlt hi hb hown hbw
 go_wp2_with fail
 go_ret
 exact⟨A5,N5,c5,rfl,HO.out,HB.out⟩))
def wthB (r s:Nat→Bool)(n:Nat):Bool:=(List.range n).all fun m=> !r m||s m
theorem Zjs {r s:Nat→Bool}{n j:Nat}(hj:j < n)(h:(!r j||s j)=false):wthB r s n=false:=by
 unfold wthB
 rw[List.all_eq_false]
 exact⟨j,List.mem_range.2 hj,by rw[h];simp⟩
theorem ZgQ {r s:Nat→Bool}{n:Nat}(h: ∀j < n,(!r j||s j)=true):wthB r s n=true:=by
 unfold wthB
 rw[List.all_eq_true]
 exact fun j hj=>h j (List.mem_range.1 hj)
theorem Zeu (b o b2 o2 c c2 n:Nat)(r s:Nat→Bool)(w:World)(hn:n≤60000)(h: ∀k < n,w.cell? ⟨b,o+k,none⟩=some (.bool (r k)))(g: ∀k < n,w.cell? ⟨b2,o2+k,none⟩=some (.bool (s k)))(res:Bool)(hres:wthB r s n=res):
  Calls Tryz.prog 156 #[.slice (some ⟨b,o,none⟩) n c,.slice (some ⟨b2,o2,none⟩) n c2] w fun e w'=>e= .returned (.bool res)∧w=w':=by
 have HH:=Hd h
 have HG:=Hd g
 have HN:=Hd hn
 have HR:=Hd hres
 clear h g hn hres
 go_enter Tryz.func156,Tryz.ntmps156
 go_wp2
 go_loopw [9] (fun v9 wr=> ∃i:Nat,v9= .int .i64 (i:Int)∧i≤n∧(∀j < i,(!r j||s j)=true)∧w=wr) (fun v9 _=>n - (intOf v9).toNat)
 case atStart=>exact⟨0,rfl,Nat.zero_le _,fun j hj=>absurd hj (Nat.not_lt_zero j),rfl⟩
 case round=>(
 obtain⟨i,rfl,hi,hall,rfl⟩:=hrel
 by_cases hlt:i < n
 ·(
 have e1:=HH.out i hlt
 have e2:=HG.out i hlt
 have HALL:=Hd hall
 have HLT:=Hd hlt
 have hin:(i:Int) < (n:Int):=by omega
 have hi9:i≤60000:=by have:=HN.out;omega
 obtain⟨x,hx⟩: ∃x,r i=x:=⟨_,rfl⟩
 obtain⟨y,hy⟩: ∃y,s i=y:=⟨_,rfl⟩
 rw[hx] at e1
 rw[hy] at e2
 have HXY:Hid ((!r i||s i)=(!x||y)):=Hd (by rw[hx,hy])
 clear hi hlt hall hx hy
 cases x with
 |false=>(
 go_wp2_with fail
 go_roundw
 case rel=>exact⟨i+1,by go_num,HLT.out,fun j hj=>by
  by_cases e:j=i
  ·subst e;exact HXY.out
  ·exact HALL.out j (by omega),trivial⟩
 case measure=>(
 have:=HLT.out
 simp[intOf]
 omega))
 |true=>(
 cases y with
 |true=>(
 go_wp2_with fail
 go_roundw
 case rel=>exact⟨i+1,by go_num,HLT.out,fun j hj=>by
  by_cases e:j=i
  ·subst e;exact HXY.out
  ·exact HALL.out j (by omega),trivial⟩
 case measure=>(
 have:=HLT.out
 simp[intOf]
 omega))
 |false=>(
 obtain rfl:false=res:=(Zjs HLT.out HXY.out).symm.trans HR.out
 go_wp2_with fail
 go_ret
 exact⟨rfl,rfl⟩)))
 ·(
 obtain rfl:i=n:=by omega
 obtain rfl:true=res:=(ZgQ hall).symm.trans HR.out
 clear hlt hi hall
 go_wp2_with fail
 go_ret
 exact⟨rfl,rfl⟩))
theorem Zdx {w:World}{z:Sen}{A1:Option Addr}{n1 c1:Nat}{A2:Option Addr}{n2 c2:Nat}{A3:Option Addr}{n3 c3:Nat}{A4:Option Addr}{n4 c4:Nat}(h:Zx w z A1 n1 c1 A2 n2 c2 A3 n3 c3 A4 n4 c4)(hw:Zn z=true){i:Nat}(hi:i < z.p.length):
  ∃b o b' o' y,A4=some ⟨b,o,none⟩∧w.cell? ⟨b,o+i,none⟩=some (.slice (some ⟨b',o',none⟩) n1 y)∧ ∀j < z.p.length,w.cell? ⟨b',o'+j,none⟩=some (.bool (bb z i j)):=by
 obtain⟨b,o,b',o',y,e1,e2,e3⟩:=Vp h hw hi hi
 refine⟨b,o,b',o',y,e1,e2,fun j hj=> ?_⟩
 obtain⟨b2,o2,b3,o3,y2,f1,f2,f3⟩:=Vp h hw hi hj
 rw[e1] at f1
 injection f1 with f1
 injection f1 with f1 g1
 subst f1 g1
 rw[e2] at f2
 injection f2 with f2
 injection f2 with f2 g2 g3
 injection f2 with f2
 injection f2 with f2 g4
 subst f2 g4
 exact f3
def Yy (S:Bo.Sr)(z:Sen)(d i:Nat):List Bool:=(List.range i).map (Yb S z d)
theorem Zev (S:Bo.Sr)(z:Sen)(d i:Nat):Yy S z d (i+1)=Yy S z d i++ [Yb S z d i]:=by
 unfold Yy
 rw[List.range_succ,List.map_append]
 rfl
structure FtR (w:World)(g d i:Nat)(v:Value)(b3 o3 n3 c3 b4 o4 n4 c4 x y n1:Nat)(bd od' yd:Nat):Prop where
 a0:w.cell? ⟨g,0,none⟩=some v
 a3:w.cell? ⟨g,3,none⟩=some (.slice (some ⟨b3,o3,none⟩) n3 c3)
 a4:w.cell? ⟨g,4,none⟩=some (.slice (some ⟨b4,o4,none⟩) n4 c4)
 xi:w.cell? ⟨b3,o3+i,none⟩=some (.int .u64 (x:Int))
 xd:w.cell? ⟨b3,o3+d,none⟩=some (.int .u64 (y:Int))
 rd:w.cell? ⟨b4,o4+d,none⟩=some (.slice (some ⟨bd,od',none⟩) n1 yd)
theorem FtR.keep {w W:World}{g d i:Nat}{v:Value}{b3 o3 n3 c3 b4 o4 n4 c4 x y n1:Nat}{bd od' yd:Nat}(h:FtR w g d i v b3 o3 n3 c3 b4 o4 n4 c4 x y n1 bd od' yd)(hb:Below w.heap.size w W):FtR W g d i v b3 o3 n3 c3 b4 o4 n4 c4 x y n1 bd od' yd:=
 ⟨Za h.a0 hb,Za h.a3 hb,Za h.a4 hb,Za h.xi hb,Za h.xd hb,Za h.rd hb⟩
theorem fits_any (d:Nat)(S:Bo.Sr)(z:Sen)(v:Value)(A1:Option Addr)(n1 c1:Nat)(A2:Option Addr)(n2 c2:Nat)(A3:Option Addr)(n3 c3:Nat)(A4:Option Addr)(n4 c4:Nat)(F:Option Addr)(nf cf:Nat)(X:Option Addr)(nx cx:Nat)(V:Option Addr)(nv cv:Nat)(O:Option Addr)(no co:Nat)(w:World)(h:TdAt w S z v A1 n1 c1 A2 n2 c2 A3 n3 c3 A4 n4 c4 F nf cf X nx cx V nv cv)(hd:d < lim z):
  Calls Tryz.prog 133 #[tdV v A1 n1 c1 A2 n2 c2 A3 n3 c3 A4 n4 c4 F nf cf X nx cx V nv cv O no co,.int .i64 (d:Int)] w fun e w'=> ∃A n c,e= .returned (.slice A n c)∧w'.ownsRow w.heap.size 4 1 (.slice A n c) n ((Yy S z d z.p.length).flatMap enB)∧Below w.heap.size w w':=by
 have ka:(w.alloc (.cells #[v,.slice A1 n1 c1,.slice A2 n2 c2,.slice A3 n3 c3,.slice A4 n4 c4,.slice F nf cf,.slice X nx cx,.slice V nv cv,.slice O no co] 108)).heap[w.heap.size]?=some (.cells #[v,.slice A1 n1 c1,.slice A2 n2 c2,.slice A3 n3 c3,.slice A4 n4 c4,.slice F nf cf,.slice X nx cx,.slice V nv cv,.slice O no co] 108 (0,0)):=heap_alloc_new w _
 have hx:=TBx.of ka
 have hb0:Below w.heap.size w (w.alloc (.cells #[v,.slice A1 n1 c1,.slice A2 n2 c2,.slice A3 n3 c3,.slice A4 n4 c4,.slice F nf cf,.slice X nx cx,.slice V nv cv,.slice O no co] 108)):=bA
 have HTD:Hid (∀W,Below w.heap.size w W→TdAt W S z v A1 n1 c1 A2 n2 c2 A3 n3 c3 A4 n4 c4 F nf cf X nx cx V nv cv):=Hd fun W hW=>h.keep hW
 obtain⟨hw,hdp⟩:=ZP hd
 obtain⟨hl1,hl2,hl3,hl4,hl5,hl6,hl7⟩:=h.lens hw
 have HL:=Hd (show z.p.length=n1∧n2=n1∧n3=n1∧n4=n1∧z.lo.length=n1∧z.hi.length=n1 from⟨hl1,hl2,hl3,hl4,hl5,hl6⟩)
 have HX:=Hd hx
 have HB0:=Hd hb0
 have HN:=Hd h.le
 have HW:=Hd hw
 have HD:=Hd hdp
 rw[hl1]
 clear h ka hb0 hw hdp hd hl1 hl2 hl3 hl4 hl5 hl6 hl7
 unfold tdV
 go_enter Tryz.func133,Tryz.ntmps133
 have y4:=hx.p4
 clear hx
 go_wp2_with fail
 clear y4
 generalize w.alloc (.cells #[v,.slice A1 n1 c1,.slice A2 n2 c2,.slice A3 n3 c3,.slice A4 n4 c4,.slice F nf cf,.slice X nx cx,.slice V nv cv,.slice O no co] 108)=w1 at*
 go_loopw [4,11] (fun v4 v11 wr=> ∃(i:Nat) (A:Option Addr) (N c:Nat),v4= .slice A N c∧v11= .int .i64 (i:Int)∧i≤n4∧wr.ownsRow w1.heap.size 4 1 (.slice A N c) N ((Yy S z d i).flatMap enB)∧Below w1.heap.size w1 wr) (fun _ v11 _=>n4 - (intOf v11).toNat)
 case atStart=>exact⟨0,none,0,0,rfl,rfl,Nat.zero_le _,World.ownsRow_nil _ _ _ _,Below.refl _ _⟩
 case round=>(
 obtain⟨i,A5,N5,c5,rfl,rfl,hi,hown,hb⟩:=hrel
 have hbw:=HB0.out.trans (hb.mono HB0.out.size)
 by_cases hlt:i < n4
 ·(
 have htd:=HTD.out _ HB0.out
 have hsn:=htd.sen
 have hip:i < z.p.length:=by have:=HL.out;omega
 obtain⟨b4,o4,bd,od',yd,rfl,rd,cd⟩:=Zdx hsn HW.out HD.out
 obtain⟨b4',o4',bi,oi,yi,e4,ri,ci⟩:=Zdx hsn HW.out hip
 injection e4 with e4
 injection e4 with e4 e4'
 subst e4 e4'
 obtain⟨b3,o3,rfl,xi,fx⟩:=ZG hsn.rh hsn.fh (i:=i) (by have:=HL.out;omega)
 have xd:=RQ hsn.rh (i:=d) (by have:=HL.out;have:=HD.out;omega)
 have hvi:hg z i=_:=Y1 (by have:=HL.out;omega)
 have hvd:hg z d=_:=Y1 (by have:=HL.out;have:=HD.out;omega)
 have fd:hg z d < 18446744073709551616:=by rw[hvd];exact hsn.fh _ (List.getElem_mem _)
 rw[← hvi] at xi fx
 rw[← hvd] at xd
 have hft1:FtR w1 w.heap.size d i v b3 o3 n3 c3 b4 o4 n4 c4 (hg z i) (hg z d) n1 bd od' yd:=⟨HX.out.p0,HX.out.p3,HX.out.p4,xi,xd,rd⟩
 have HFT1:=Hd hft1
 have hft:=hft1.keep hb
 have y4:=hft.a4
 replace ri:=Za ri hb
 obtain⟨lw',hlw⟩: ∃r,S.below (hg z i) (hg z d)=r:=⟨_,rfl⟩
 obtain⟨wt,hwt⟩: ∃r,wthB (bb z d) (bb z i) n1=r:=⟨_,rfl⟩
 have HNX:Hid (Yy S z d (i+1)=Yy S z d i++ [lw' && wt]):=Hd (by
 rw[Zev]
 unfold Yb
 rw[hlw, ← hwt, ← HL.out.1]
 rfl)
 have HPB:Hid (∀W,Below w1.heap.size w1 W→Calls Tryz.prog 61 #[v,.int .u64 (hg z i:Int),.int .u64 (hg z d:Int)] W fun e w'=>e= .returned (.bool lw')∧Below W.heap.size W w'):=Hd fun W hW=>U0 v S _ _ W (htd.srt.keep hW) fx fd lw' hlw
 have HWI:Hid (∀W,Below w1.heap.size w1 W→Calls Tryz.prog 156 #[.slice (some ⟨bd,od',none⟩) n1 yd,.slice (some ⟨bi,oi,none⟩) n1 yi] W fun e w'=>e= .returned (.bool wt)∧W=w'):=Hd fun W hW=>Zeu bd od' bi oi yd yi n1 _ _ W (by have:=HN.out;omega) (fun k hk=>Za (cd k (by have:=HL.out;omega)) hW) (fun k hk=>Za (ci k (by have:=HL.out;omega)) hW) wt hwt
 have HFT:=Hd hft
 have HBW:=Hd hbw
 have HB:=Hd hb
 have HOWN:=Hd hown
 have HLT:=Hd hlt
 have hN:=Zl Vq (by decide) hown
 have hN1:N5+1≤100000:=by have:=HN.out;have:=HL.out;simp[Yy] at hN;omega
 have HHN:=Hd hN1
 have hin:(i:Int) < (n4:Int):=by omega
 have hin3:(i:Int) < (n3:Int):=by have:=HL.out;omega
 have hdn3:(d:Int) < (n3:Int):=by have:=HL.out;have:=HD.out;omega
 have hdn4:(d:Int) < (n4:Int):=by have:=HL.out;have:=HD.out;omega
 have hi9:i≤60000:=by have:=HN.out;have:=HL.out;omega
 generalize hg z i=hvi' at*
 generalize hg z d=hvd' at*
 clear htd hsn hip cd ci hvi hvd fd fx hlw hwt hi hlt hbw hown hN hft1 xi xd rd
 go_wp2_with fail
 clear y4 ri
 refine wro [0,1,2,3,4,5,6,7,8,9,10,11,12,13,14,15,16,17,18,19,20,21,22,23,24,25,26,27,28] [15,24,26,27] 29 (fun W=>FtR W w.heap.size d i v b3 o3 n3 c3 b4 o4 n4 c4 hvi' hvd' n1 bd od' yd) (by kernel_rfl) (fun _ _ _ _ _ h=>h) ⟨hft.a0,hft.a3,hft.a4,hft.xi,hft.xd,hft.rd⟩ ?_
 simp only[steps,sE,sD]
 clear hft hb
 repeat((first|refine Zf rfl ?_|(refine Zd (v:= ?_) rfl rfl ?_ ?_;rotate_left;(focus(rintro w' ⟨x0,x1,x2,x3,x4,x5⟩;go_simp;try with_reducible rfl))));simp only[Act.put,sA,sB,sC])
 have HBD:=Hd (HB.out.trans (((Below.refl wr.heap.size wr).drew).mono HB.out.size))
 have HOD:=Hd (Zi HOWN.out ((Below.refl wr.heap.size wr).drew))
 clear HFT HOWN HB
 generalize World.drew _=wd at*
 refine Ze rfl rfl (fun K hK=> ?_)
 go_simp
 refine(HPB.out wd HBD.out).mono ?_
 rintro e w4 ⟨rfl,hv⟩
 have HB4:=Hd (HBD.out.trans (hv.mono HBD.out.size))
 have HO4:=Hd (Zi HOD.out hv)
 have hs4:=HFT1.out.keep HB4.out
 refine hK.out _ _ (fun _=>hs4) ?_
 clear hK K hs4 hv HBD HPB HOD
 try simp only[Act.put,sA,sB,sC]
 cases lw' with
 |false=>(
 repeat((first|refine Zf rfl ?_|(refine Zd (v:= ?_) rfl rfl ?_ ?_;rotate_left;(focus(rintro w' ⟨x0,x1,x2,x3,x4,x5⟩;go_simp;try with_reducible rfl))));simp only[Act.put,sA,sB,sC])
 refine Ze rfl rfl (fun K hK=> ?_)
 go_simp
 have HO:=Hd (ZaF w4 false)
 have HAL:=Hd (show Below w4.heap.size w4 (w4.alloc (.cells #[.bool false] 4)) from bA)
 have HB5:=Hd (HB4.out.trans (HAL.out.mono HB4.out.size))
 have HW5:=Hd (Zi HO4.out HAL.out)
 have hsz2:=HB5.out.size
 refine hK.out _ _ (fun _=>HFT1.out.keep HB5.out) ?_
 clear hK K HAL HO4
 try simp only[Act.put,sA,sB,sC]
 refine Ze rfl rfl (fun K hK=> ?_)
 refine Bo.Z9 Vq (by decide) Um Tryz.underlying71 Un rfl (by decide) (.tmp 16) (.tmp 42) rfl w1.heap.size _ N5 _ rfl HW5.out _ _ 1 1 [false] rfl HO.out hN1 hsz2 ?_
 intro A' k' c' w' HK HA
 have HB6:=Hd (HB5.out.grown HA.out.grown hsz2 fun j hj=>(HW5.out.lt j hj).1)
 refine hK.out _ _ (fun _=>HFT1.out.keep HB6.out) ?_
 clear hK K
 try simp only[Act.put,sA,sB,sC]
 repeat((first|refine Zf rfl ?_|(refine Zd (v:= ?_) rfl rfl ?_ ?_;rotate_left;(focus(rintro w' ⟨x0,x1,x2,x3,x4,x5⟩;go_simp;try with_reducible rfl))));simp only[Act.put,sA,sB,sC])
 refine Zg ?_
 go_wp2_with fail
 go_roundw
 case rel=>exact⟨i+1,A',k',c',rfl,by go_num,HLT.out,by rw[HNX.out];exact HA.out.own,HB6.out⟩
 case measure=>(
 have:=HLT.out
 simp[intOf]
 omega))
 |true=>(
 repeat((first|refine Zf rfl ?_|(refine Zd (v:= ?_) rfl rfl ?_ ?_;rotate_left;(focus(rintro w' ⟨x0,x1,x2,x3,x4,x5⟩;go_simp;try with_reducible rfl))));simp only[Act.put,sA,sB,sC])
 refine Ze rfl rfl (fun K hK=> ?_)
 go_simp
 refine(HWI.out w4 HB4.out).mono ?_
 rintro e w5 ⟨rfl,rfl⟩
 refine hK.out _ _ (fun _=>HFT1.out.keep HB4.out) ?_
 clear hK K HWI
 try simp only[Act.put,sA,sB,sC]
 cases wt with
 |false=>(
 repeat((first|refine Zf rfl ?_|(refine Zd (v:= ?_) rfl rfl ?_ ?_;rotate_left;(focus(rintro w' ⟨x0,x1,x2,x3,x4,x5⟩;go_simp;try with_reducible rfl))));simp only[Act.put,sA,sB,sC])
 refine Ze rfl rfl (fun K hK=> ?_)
 go_simp
 have HO:=Hd (ZaF w4 false)
 have HAL:=Hd (show Below w4.heap.size w4 (w4.alloc (.cells #[.bool false] 4)) from bA)
 have HB5:=Hd (HB4.out.trans (HAL.out.mono HB4.out.size))
 have HW5:=Hd (Zi HO4.out HAL.out)
 have hsz2:=HB5.out.size
 refine hK.out _ _ (fun _=>HFT1.out.keep HB5.out) ?_
 clear hK K HAL HO4
 try simp only[Act.put,sA,sB,sC]
 refine Ze rfl rfl (fun K hK=> ?_)
 refine Bo.Z9 Vq (by decide) Um Tryz.underlying71 Un rfl (by decide) (.tmp 16) (.tmp 42) rfl w1.heap.size _ N5 _ rfl HW5.out _ _ 1 1 [false] rfl HO.out hN1 hsz2 ?_
 intro A' k' c' w' HK HA
 have HB6:=Hd (HB5.out.grown HA.out.grown hsz2 fun j hj=>(HW5.out.lt j hj).1)
 refine hK.out _ _ (fun _=>HFT1.out.keep HB6.out) ?_
 clear hK K
 try simp only[Act.put,sA,sB,sC]
 repeat((first|refine Zf rfl ?_|(refine Zd (v:= ?_) rfl rfl ?_ ?_;rotate_left;(focus(rintro w' ⟨x0,x1,x2,x3,x4,x5⟩;go_simp;try with_reducible rfl))));simp only[Act.put,sA,sB,sC])
 refine Zg ?_
 go_wp2_with fail
 go_roundw
 case rel=>exact⟨i+1,A',k',c',rfl,by go_num,HLT.out,by rw[HNX.out];exact HA.out.own,HB6.out⟩
 case measure=>(
 have:=HLT.out
 simp[intOf]
 omega))
 |true=>(
 repeat((first|refine Zf rfl ?_|(refine Zd (v:= ?_) rfl rfl ?_ ?_;rotate_left;(focus(rintro w' ⟨x0,x1,x2,x3,x4,x5⟩;go_simp;try with_reducible rfl))));simp only[Act.put,sA,sB,sC])
 refine Ze rfl rfl (fun K hK=> ?_)
 go_simp
 have HO:=Hd (ZaF w4 true)
 have HAL:=Hd (show Below w4.heap.size w4 (w4.alloc (.cells #[.bool true] 4)) from bA)
 have HB5:=Hd (HB4.out.trans (HAL.out.mono HB4.out.size))
 have HW5:=Hd (Zi HO4.out HAL.out)
 have hsz2:=HB5.out.size
 refine hK.out _ _ (fun _=>HFT1.out.keep HB5.out) ?_
 clear hK K HAL HO4
 try simp only[Act.put,sA,sB,sC]
 refine Ze rfl rfl (fun K hK=> ?_)
 refine Bo.Z9 Vq (by decide) Um Tryz.underlying71 Un rfl (by decide) (.tmp 16) (.tmp 42) rfl w1.heap.size _ N5 _ rfl HW5.out _ _ 1 1 [true] rfl HO.out hN1 hsz2 ?_
 intro A' k' c' w' HK HA
 have HB6:=Hd (HB5.out.grown HA.out.grown hsz2 fun j hj=>(HW5.out.lt j hj).1)
 refine hK.out _ _ (fun _=>HFT1.out.keep HB6.out) ?_
 clear hK K
 try simp only[Act.put,sA,sB,sC]
 repeat((first|refine Zf rfl ?_|(refine Zd (v:= ?_) rfl rfl ?_ ?_;rotate_left;(focus(rintro w' ⟨x0,x1,x2,x3,x4,x5⟩;go_simp;try with_reducible rfl))));simp only[Act.put,sA,sB,sC])
 refine Zg ?_
 go_wp2_with fail
 go_roundw
 case rel=>exact⟨i+1,A',k',c',rfl,by go_num,HLT.out,by rw[HNX.out];exact HA.out.own,HB6.out⟩
 case measure=>(
 have:=HLT.out
 simp[intOf]
 omega))))
 ·(
 obtain rfl:i=n4:=by omega
 have hown:wr.ownsRow w1.heap.size 4 1 (.slice A5 N5 c5) N5 ((Yy S z d n1).flatMap enB):=by rw[← HL.out.2.2.2.1];exact hown
 have HO:=Hd (Va hown HB0.out.size)
 have HB:=Hd hbw
 clear hlt hi hb hown hbw
 go_wp2_with fail
 go_ret
 exact⟨A5,N5,c5,rfl,HO.out,HB.out⟩))
end Go.Proofs.YtmejhedegmjboaaGreat.I
namespace Go.Proofs.YtmejhedegmjboaaGreat.I
open Go.RowKit PaC
structure LdR (w:World)(g d u:Nat)(v:Value)(b3 o3 n3 c3 b4 o4 n4 c4 y n1 bd od' yd:Nat)(x:Bool):Prop where
 a0:w.cell? ⟨g,0,none⟩=some v
 a3:w.cell? ⟨g,3,none⟩=some (.slice (some ⟨b3,o3,none⟩) n3 c3)
 a4:w.cell? ⟨g,4,none⟩=some (.slice (some ⟨b4,o4,none⟩) n4 c4)
 xd:w.cell? ⟨b3,o3+d,none⟩=some (.int .u64 (y:Int))
 rd:w.cell? ⟨b4,o4+d,none⟩=some (.slice (some ⟨bd,od',none⟩) n1 yd)
 ru:w.cell? ⟨bd,od'+u,none⟩=some (.bool x)
theorem LdR.keep {w W:World}{g d u:Nat}{v:Value}{b3 o3 n3 c3 b4 o4 n4 c4 y n1 bd od' yd:Nat}{x:Bool}(h:LdR w g d u v b3 o3 n3 c3 b4 o4 n4 c4 y n1 bd od' yd x)(hb:Below w.heap.size w W):LdR W g d u v b3 o3 n3 c3 b4 o4 n4 c4 y n1 bd od' yd x:=
 ⟨Za h.a0 hb,Za h.a3 hb,Za h.a4 hb,Za h.xd hb,Za h.rd hb,Za h.ru hb⟩
structure LmR (w:World)(g m:Nat)(v:Value)(b2 o2 n2 c2 y:Nat):Prop where
 a0:w.cell? ⟨g,0,none⟩=some v
 a2:w.cell? ⟨g,2,none⟩=some (.slice (some ⟨b2,o2,none⟩) n2 c2)
 xm:w.cell? ⟨b2,o2+m,none⟩=some (.int .u64 (y:Int))
theorem LmR.keep {w W:World}{g m:Nat}{v:Value}{b2 o2 n2 c2 y:Nat}(h:LmR w g m v b2 o2 n2 c2 y)(hb:Below w.heap.size w W):LmR W g m v b2 o2 n2 c2 y:=
 ⟨Za h.a0 hb,Za h.a2 hb,Za h.xm hb⟩
theorem ZfI (d u:Nat)(S:Bo.Sr)(z:Sen)(v:Value)(A1:Option Addr)(n1 c1:Nat)(A2:Option Addr)(n2 c2:Nat)(A3:Option Addr)(n3 c3:Nat)(A4:Option Addr)(n4 c4:Nat)(F:Option Addr)(nf cf:Nat)(X:Option Addr)(nx cx:Nat)(V:Option Addr)(nv cv:Nat)(O:Option Addr)(no co:Nat)(w:World)(h:TdAt w S z v A1 n1 c1 A2 n2 c2 A3 n3 c3 A4 n4 c4 F nf cf X nx cx V nv cv)(hd:d < lim z)(hu:u < lim z)(res:Bool)(hres:RP S z d u=res):
  Calls Tryz.prog 134 #[tdV v A1 n1 c1 A2 n2 c2 A3 n3 c3 A4 n4 c4 F nf cf X nx cx V nv cv O no co,.int .i64 (d:Int),.int .i64 (u:Int)] w fun e w'=>e= .returned (.bool res)∧Below w.heap.size w w':=by
 have ka:(w.alloc (.cells #[v,.slice A1 n1 c1,.slice A2 n2 c2,.slice A3 n3 c3,.slice A4 n4 c4,.slice F nf cf,.slice X nx cx,.slice V nv cv,.slice O no co] 108)).heap[w.heap.size]?=some (.cells #[v,.slice A1 n1 c1,.slice A2 n2 c2,.slice A3 n3 c3,.slice A4 n4 c4,.slice F nf cf,.slice X nx cx,.slice V nv cv,.slice O no co] 108 (0,0)):=heap_alloc_new w _
 have hx:=TBx.of ka
 have hb0:Below w.heap.size w (w.alloc (.cells #[v,.slice A1 n1 c1,.slice A2 n2 c2,.slice A3 n3 c3,.slice A4 n4 c4,.slice F nf cf,.slice X nx cx,.slice V nv cv,.slice O no co] 108)):=bA
 obtain⟨w1,hw1⟩: ∃w1,w.alloc (.cells #[v,.slice A1 n1 c1,.slice A2 n2 c2,.slice A3 n3 c3,.slice A4 n4 c4,.slice F nf cf,.slice X nx cx,.slice V nv cv,.slice O no co] 108)=w1:=⟨_,rfl⟩
 rw[hw1] at ka hx hb0
 obtain⟨hw,hdp⟩:=ZP hd
 obtain⟨-,hup⟩:=ZP hu
 obtain⟨hl1,hl2,hl3,hl4,hl5,hl6,hl7⟩:=h.lens hw
 have HL:=Hd (show z.p.length=n1∧n2=n1∧n3=n1∧n4=n1∧z.lo.length=n1∧z.hi.length=n1 from⟨hl1,hl2,hl3,hl4,hl5,hl6⟩)
 have HN:=Hd h.le
 have htd:=h.keep hb0
 have hsn:=htd.sen
 obtain⟨b4,o4,bd,od',yd,rfl,rd,cd⟩:=Zdx hsn hw hdp
 obtain⟨b3,o3,rfl,xd,fd⟩:=ZG hsn.rh hsn.fh (i:=d) (by omega)
 obtain⟨b2,o2,rfl,xu,fu⟩:=ZG hsn.rl hsn.fl (i:=u) (by omega)
 have hvd:hg z d=_:=Y1 (by omega)
 have hvu:lw z u=_:=KA (by omega)
 rw[← hvd] at xd fd
 rw[← hvu] at xu fu
 have HLM:Hid (∀m,m < z.p.length→w1.cell? ⟨b2,o2+m,none⟩=some (.int .u64 (lw z m:Int))∧lw z m < 18446744073709551616):=Hd fun m hm=>by(
 have e:=RQ hsn.rl (i:=m) (by omega)
 have e2:lw z m=_:=KA (by omega)
 rw[← e2] at e
 exact⟨e,by rw[e2];exact hsn.fl _ (List.getElem_mem _)⟩)
 have hru:=cd u hup
 obtain⟨x,hx1⟩: ∃x,bb z d u=x:=⟨_,rfl⟩
 rw[hx1] at hru
 obtain⟨r2,hr2⟩: ∃r,S.below (lw z u) (hg z d)=r:=⟨_,rfl⟩
 have HRES:Hid (RP S z d u=(x && (r2 && wthB (bb z d) (fun m=>S.below (lw z u) (lw z m)) n1))):=Hd (by
 unfold RP wthB
 rw[hx1,hr2,hl1])
 have HPB:Hid (∀W,Below w1.heap.size w1 W→Calls Tryz.prog 61 #[v,.int .u64 (lw z u:Int),.int .u64 (hg z d:Int)] W fun e w'=>e= .returned (.bool r2)∧Below W.heap.size W w'):=Hd fun W hW=>U0 v S _ _ W (htd.srt.keep hW) fu fd r2 hr2
 have HPM:Hid (∀(y:Nat) (r:Bool) W,Below w1.heap.size w1 W→y < 18446744073709551616→S.below (lw z u) y=r→Calls Tryz.prog 61 #[v,.int .u64 (lw z u:Int),.int .u64 (y:Int)] W fun e w'=>e= .returned (.bool r)∧Below W.heap.size W w'):=Hd fun y r W hW hy hr=>U0 v S _ _ W (htd.srt.keep hW) fu hy r hr
 have HCD:=Hd cd
 have HX:=Hd hx
 have HB0:=Hd hb0
 have hld:LdR w1 w.heap.size d u v b3 o3 n3 c3 b4 o4 n4 c4 (hg z d) n1 bd od' yd x:=⟨hx.p0,hx.p3,hx.p4,xd,rd,hru⟩
 have HLD:=Hd hld
 have y2:=hx.p2
 have hun2:(u:Int) < (n2:Int):=by omega
 have hdn3:(d:Int) < (n3:Int):=by omega
 have hdn4:(d:Int) < (n4:Int):=by omega
 have hun1:(u:Int) < (n1:Int):=by omega
 have HLU:=Hd (show lw z u=lw z u from rfl)
 generalize hlu:lw z u=lu at*
 generalize hg z d=hd' at*
 clear h ka hb0 hw hd hu hdp hup hl1 hl2 hl3 hl4 hl5 hl6 hl7 htd hsn cd hvd hvu fd fu hru hx1 hr2 hx HLU hlu
 unfold tdV
 go_enter Tryz.func134,Tryz.ntmps134
 go_wp2_with fail
 clear y2 xu
 generalize hwd:World.alloc w _=wd'
 obtain rfl:w1=wd':=hw1.symm.trans hwd
 clear hw1 hwd
 refine wro [0,1,2,3,4,5,6,7,8,9,10,11,12,13,14,15,16,17,18,19,20,21,22] [20] 23 (fun W=>LdR W w.heap.size d u v b3 o3 n3 c3 b4 o4 n4 c4 hd' n1 bd od' yd x) (by kernel_rfl) (fun _ _ _ _ _ h=>h) ⟨hld.a0,hld.a3,hld.a4,hld.xd,hld.rd,hld.ru⟩ ?_
 simp only[steps,sE,sD]
 clear hld xd rd
 cases x with
 |false=>(
 obtain rfl:false=res:=HRES.out.symm.trans hres
 repeat((first|refine Zf rfl ?_|(refine Zd (v:= ?_) rfl rfl ?_ ?_;rotate_left;(focus(rintro w' ⟨x0,x1,x2,x3,x4,x5⟩;go_simp;try with_reducible rfl))));simp only[Act.put,sA,sB,sC])
 refine Zg ?_
 have HB:=Hd (HB0.out.trans ((Below.refl w1.heap.size w1).drew.mono HB0.out.size))
 clear HPB HPM HLM HCD hres
 go_wp2_with fail
 go_ret
 exact⟨rfl,HB.out⟩)
 |true=>(
 repeat((first|refine Zf rfl ?_|(refine Zd (v:= ?_) rfl rfl ?_ ?_;rotate_left;(focus(rintro w' ⟨x0,x1,x2,x3,x4,x5⟩;go_simp;try with_reducible rfl))));simp only[Act.put,sA,sB,sC])
 have HBD:=Hd ((Below.refl w1.heap.size w1).drew)
 generalize World.drew _=wd at*
 refine Ze rfl rfl (fun K hK=> ?_)
 go_simp
 refine(HPB.out wd HBD.out).mono ?_
 rintro e w4 ⟨rfl,hv⟩
 have HB4:=Hd (HBD.out.trans (hv.mono HBD.out.size))
 refine hK.out _ _ (fun _=>HLD.out.keep HB4.out) ?_
 clear hK K hv HBD HPB
 try simp only[Act.put,sA,sB,sC]
 cases r2 with
 |false=>(
 obtain rfl:false=res:=HRES.out.symm.trans hres
 repeat((first|refine Zf rfl ?_|(refine Zd (v:= ?_) rfl rfl ?_ ?_;rotate_left;(focus(rintro w' ⟨x0,x1,x2,x3,x4,x5⟩;go_simp;try with_reducible rfl))));simp only[Act.put,sA,sB,sC])
 refine Zg ?_
 have HB:=Hd (HB0.out.trans (HB4.out.mono HB0.out.size))
 clear HPM HLM HCD hres
 go_wp2_with fail
 go_ret
 exact⟨rfl,HB.out⟩)
 |true=>(
 have HRS:Hid (wthB (bb z d) (fun m=>S.below lu (lw z m)) n1=res):=Hd (HRES.out.symm.trans hres)
 repeat((first|refine Zf rfl ?_|(refine Zd (v:= ?_) rfl rfl ?_ ?_;rotate_left;(focus(rintro w' ⟨x0,x1,x2,x3,x4,x5⟩;go_simp;try with_reducible rfl))));simp only[Act.put,sA,sB,sC])
 refine Zg ?_
 have h4:=HLD.out.keep HB4.out
 have y4:=h4.a4
 have yr:=h4.rd
 clear h4 hres
 go_wp2_with fail
 clear y4 yr
 go_loopw [46] (fun v46 wr=> ∃i:Nat,v46= .int .i64 (i:Int)∧i≤n1∧(∀j < i,(!bb z d j||S.below lu (lw z j))=true)∧Below w1.heap.size w1 wr) (fun v46 _=>n1 - (intOf v46).toNat)
 case atStart=>exact⟨0,rfl,Nat.zero_le _,fun j hj=>absurd hj (Nat.not_lt_zero j),HB4.out⟩
 case round=>(
 clear HB4
 obtain⟨i,rfl,hi,hall,hb⟩:=hrel
 by_cases hlt:i < n1
 ·(
 have hip:i < z.p.length:=by have:=HL.out;omega
 have e1:=Za (HCD.out i hip) hb
 obtain⟨xm,fm⟩:=HLM.out i hip
 have hlm:LmR w1 w.heap.size i v b2 o2 n2 c2 (lw z i):=⟨HX.out.p0,HX.out.p2,xm⟩
 have HLMR:=Hd hlm
 have hlr:=hlm.keep hb
 obtain⟨x,hx⟩: ∃x,bb z d i=x:=⟨_,rfl⟩
 rw[hx] at e1
 obtain⟨y,hy⟩: ∃y,S.below lu (lw z i)=y:=⟨_,rfl⟩
 have HC:Hid (∀W,Below w1.heap.size w1 W→Calls Tryz.prog 61 #[v,.int .u64 (lu:Int),.int .u64 (lw z i:Int)] W fun e w'=>e= .returned (.bool y)∧Below W.heap.size W w'):=Hd fun W hW=>HPM.out _ _ W hW fm hy
 have HXY:Hid ((!bb z d i||(fun m=>S.below lu (lw z m)) i)=(!x||y)):=Hd (by show(!bb z d i||S.below lu (lw z i))=_;rw[hx,hy])
 have HALL:=Hd hall
 have HLT:=Hd hlt
 have HB:=Hd hb
 have hin:(i:Int) < (n1:Int):=by omega
 have hin2:(i:Int) < (n2:Int):=by have:=HL.out;omega
 have hi9:i≤60000:=by have:=HN.out;omega
 generalize lw z i=li at*
 clear hip xm fm hlm hx hy hall hlt hi hb
 go_wp2_with fail
 clear e1
 refine wro [0,1,2,3,4,5,6,7,8,9,10,11,12,13] [11] 14 (fun W=>LmR W w.heap.size i v b2 o2 n2 c2 li) (by kernel_rfl) (fun _ _ _ _ _ h=>h) ⟨hlr.a0,hlr.a2,hlr.xm⟩ ?_
 simp only[steps,sE,sD]
 clear hlr
 have HBD:=Hd (HB.out.trans ((Below.refl wr.heap.size wr).drew.mono HB.out.size))
 clear HB
 generalize World.drew _=wd at*
 cases x with
 |false=>(
 repeat((first|refine Zf rfl ?_|(refine Zd (v:= ?_) rfl rfl ?_ ?_;rotate_left;(focus(rintro w' ⟨x0,x1,x2⟩;go_simp;try with_reducible rfl))));simp only[Act.put,sA,sB,sC])
 refine Zg ?_
 go_wp2_with fail
 go_roundw
 case rel=>exact⟨i+1,by go_num,HLT.out,fun j hj=>by
  by_cases e:j=i
  ·subst e;exact HXY.out
  ·exact HALL.out j (by omega),HBD.out⟩
 case measure=>(
 have:=HLT.out
 simp[intOf]
 omega))
 |true=>(
 repeat((first|refine Zf rfl ?_|(refine Zd (v:= ?_) rfl rfl ?_ ?_;rotate_left;(focus(rintro w' ⟨x0,x1,x2⟩;go_simp;try with_reducible rfl))));simp only[Act.put,sA,sB,sC])
 refine Ze rfl rfl (fun K hK=> ?_)
 go_simp
 refine(HC.out wd HBD.out).mono ?_
 rintro e w5 ⟨rfl,hv⟩
 have HB5:=Hd (HBD.out.trans (hv.mono HBD.out.size))
 refine hK.out _ _ (fun _=>HLMR.out.keep HB5.out) ?_
 clear hK K hv HBD HC
 try simp only[Act.put,sA,sB,sC]
 cases y with
 |true=>(
 repeat((first|refine Zf rfl ?_|(refine Zd (v:= ?_) rfl rfl ?_ ?_;rotate_left;(focus(rintro w' ⟨x0,x1,x2⟩;go_simp;try with_reducible rfl))));simp only[Act.put,sA,sB,sC])
 refine Zg ?_
 go_wp2_with fail
 go_roundw
 case rel=>exact⟨i+1,by go_num,HLT.out,fun j hj=>by
  by_cases e:j=i
  ·subst e;exact HXY.out
  ·exact HALL.out j (by omega),HB5.out⟩
 case measure=>(
 have:=HLT.out
 simp[intOf]
 omega))
 |false=>(
 obtain rfl:false=res:=(Zjs (r:=bb z d) (s:=fun m=>S.below lu (lw z m)) HLT.out HXY.out).symm.trans HRS.out
 repeat((first|refine Zf rfl ?_|(refine Zd (v:= ?_) rfl rfl ?_ ?_;rotate_left;(focus(rintro w' ⟨x0,x1,x2⟩;go_simp;try with_reducible rfl))));simp only[Act.put,sA,sB,sC])
 refine Zg ?_
 have HBE:=Hd (HB0.out.trans (HB5.out.mono HB0.out.size))
 clear HB5 HRS HALL
 go_wp2_with fail
 go_ret
 exact⟨rfl,HBE.out⟩)))
 ·(
 obtain rfl:i=n1:=by omega
 obtain rfl:true=res:=(ZgQ (r:=bb z d) (s:=fun m=>S.below lu (lw z m)) hall).symm.trans HRS.out
 have HBE:=Hd (HB0.out.trans (hb.mono HB0.out.size))
 clear hlt hi hall hb HRS
 go_wp2_with fail
 go_ret
 exact⟨rfl,HBE.out⟩))))
end Go.Proofs.YtmejhedegmjboaaGreat.I
