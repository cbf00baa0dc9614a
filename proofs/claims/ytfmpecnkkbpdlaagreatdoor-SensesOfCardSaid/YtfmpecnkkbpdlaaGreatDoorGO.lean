import Derived.OwnWalk
import Derived.Test.YtfmpecnkkbpdlaaGreatDoorProg
import Derived.LoopTactic
import Derived.Handy
import Derived.Test.YtfmpecnkkbpdlaaGreatDoorGBook
import Derived.Test.YtfmpecnkkbpdlaaGreatDoorLaOrd
set_option maxRecDepth 100000
set_option maxHeartbeats 4000000
namespace Go.Proofs.YtfmpecnkkbpdlaaGreatDoor
open Go.RowKit
def even (no:Nat):Bool:=decide (no%2=0)
theorem Zep (k:Nat): ∃r:Nat,(k:Int)%2=(r:Int)∧((r=0∧even k=true)∨(r=1∧even k=false)):=by
 refine⟨k%2,by omega,?_⟩
 unfold even
 rcases Nat.mod_two_eq_zero_or_one k with h|h <;> simp[h]
def mkO (no:Nat):List Value:= [.bool (even no)]
def aggO (no:Nat):Value:= .bool (even no)
theorem ZiD (no:Nat): ∀v∈mkO no,v.oneCell'=true:=by
 intro v hv
 simp only[mkO,List.mem_cons,List.not_mem_nil,or_false] at hv
 rcases hv with rfl <;> rfl
theorem infO:(Tryz.prog.info? 4).map (fun i=>(i.zero,i.size,i.bytes))=some (some (.bool false),1,1):=by kernel_rfl
theorem Za9 (k:Nat)(w:World)(_h:k≤1000):Calls Tryz.prog 136 #[.int .i64 (k:Int)] w fun e w'=>e= .returned (aggO k)∧Below w.heap.size w w':=by
 obtain⟨r,hr,hor⟩:=Zep k
 have HR:=Hd hr
 unfold aggO
 clear hr
 rcases hor with⟨rfl,e⟩|⟨rfl,e⟩
 all_goals(
  rw[e]
  clear e
  go_enter Tryz.func136,Tryz.ntmps136
  go_wp2_with (rw[HR.out])
  go_ret
  exact⟨rfl,Below.refl _ _⟩)
theorem Zb3 (k:Nat)(w:World)(_h:k≤1000):Calls Tryz.prog 151 #[aggO k,.int .i64 (k:Int)] w fun e w'=>e= .returned (.bool true)∧Below w.heap.size w w':=by
 obtain⟨r,hr,hor⟩:=Zep k
 have HR:=Hd hr
 unfold aggO
 clear hr
 rcases hor with⟨rfl,e⟩|⟨rfl,e⟩
 all_goals(
  rw[e]
  clear e
  go_enter Tryz.func151,Tryz.ntmps151
  go_wp2_with (rw[HR.out])
  go_ret
  exact⟨rfl,Below.refl _ _⟩)
theorem srcO (w:World)(no:Nat): ∀j x,(mkO no)[j]?=some x→(w.alloc (.cells #[.bool (even no)] 4)).cell? ((⟨w.heap.size,0,none⟩:Addr).add j)=some x:=by
 intro j x hx
 rw[Addr.add_lit,Nat.zero_add,Za (heap_alloc_new w _), ← hx, ← Array.getElem?_toList]
 rfl
structure Seg where
 bk:Nat
 hb:Nat
 cap:Nat
 m:Nat
 g:Nat→Nat
 o:Nat→Nat
 n:Nat→Nat
 no:Nat→Nat
def Seg.A (h:Seg):Option Addr:=if h.m=0 then none else some ⟨h.hb,0,none⟩
def Seg.D (h:Seg)(k b:Nat):Prop:= ∃j,j < k∧b=h.g j
theorem Seg.D.more {h:Seg}{k k' b:Nat}(hd:h.D k b)(hk:k≤k'):h.D k' b:=by
 obtain⟨j,h1,h2⟩:=hd
 exact⟨j,by omega,h2⟩
def Seg.Blks (h:Seg)(w:World):Prop:= ∀i,i < h.m→ ∃cur,w.heap[h.g i]?=some (.cells cur 4 (0,0))∧h.o i+h.n i≤cur.size
structure ZP (h:Seg)(w:World):Prop where
 many:h.m≤1000
 cellK:w.cell? ⟨h.bk,5,none⟩=some (.slice h.A h.m h.cap)
 l: ∀i,i < h.m→w.cell? ⟨h.hb,i*3,none⟩=some (.slice (some ⟨h.g i,h.o i,none⟩) (h.n i) (h.n i))
 lo: ∀i,i < h.m→ ∃A n c,w.cell? ⟨h.hb,i*3+1,none⟩=some (.slice A n c)
 no: ∀i,i < h.m→w.cell? ⟨h.hb,i*3+2,none⟩=some (.int .i64 (h.no i:Int))
 bblk: ∃B,w.heap[h.bk]?=some (.cells B 64 (0,0))
 hblk:0 < h.m→ ∃H,w.heap[h.hb]?=some (.cells H 180 (0,0))
 small: ∀i,i < h.m→h.n i≤1000∧h.no i≤1000
 blk:h.Blks w
 apart: ∀i j,i < h.m→j < h.m→i≠j→h.g i=h.g j→h.o i+h.n i≤h.o j∨h.o j+h.n j≤h.o i
def Vm (h:Seg)(w:World)(k q:Nat):Prop:= ∃cur,w.heap[h.g k]?=some (.cells cur 4 (0,0))∧h.o k+h.n k≤cur.size∧ ∀x,x < q→cur[h.o k+x]?=some (.bool (even (h.no k)))
section
variable {h:Seg} {w w' wr w2 wo wi w1:World} {D:Nat→Prop}
theorem ZP.blt (hB:ZP h w):h.bk < w.heap.size:=by obtain⟨_,e⟩:=hB.bblk;exact Zd e
theorem ZP.hlt (hB:ZP h w)(hm:0 < h.m):h.hb < w.heap.size:=by obtain⟨_,e⟩:=hB.hblk hm;exact Zd e
theorem ZP.dtype (hB:ZP h w){b:Nat}(hd:h.D h.m b): ∃cur,w.heap[b]?=some (.cells cur 4 (0,0)):=by
 obtain⟨j,h1,rfl⟩:=hd
 obtain⟨cur,e,_⟩:=hB.blk j h1
 exact⟨cur,e⟩
theorem ZP.nbk (hB:ZP h w): ¬h.D h.m h.bk:=fun hd=>by
 obtain⟨_,e⟩:=hB.dtype hd
 obtain⟨_,e'⟩:=hB.bblk
 exact Ue e e' (by decide) rfl
theorem ZP.nhb (hB:ZP h w): ¬h.D h.m h.hb:=fun hd=>by
 obtain⟨j,hj,-⟩:=id hd
 obtain⟨_,e⟩:=hB.dtype hd
 obtain⟨_,e'⟩:=hB.hblk (by omega)
 exact Ue e e' (by decide) rfl
theorem ZP.ne (hB:ZP h w)(hm:0 < h.m):h.bk≠h.hb:=by
 obtain⟨_,e⟩:=hB.bblk
 obtain⟨_,e'⟩:=hB.hblk hm
 exact fun he=>Ue e' e (by decide) he.symm
theorem ZP.stay (hB:ZP h w)(hk:Kept D w w')(h1: ¬D h.bk)(h2:0 < h.m→ ¬D h.hb)(hb:h.Blks w'):ZP h w':=by
 have hc:0 < h.m→ ∀o,w'.cell? ⟨h.hb,o,none⟩=w.cell? ⟨h.hb,o,none⟩:=fun hm o=>hk.cell (p:=⟨h.hb,o,none⟩) (hB.hlt hm) (h2 hm)
 refine⟨hB.many,(hk.cell (p:=⟨h.bk,5,none⟩) hB.blt h1).trans hB.cellK,fun i hi=>(hc (by omega) _).trans (hB.l i hi),fun i hi=> ?_,fun i hi=>(hc (by omega) _).trans (hB.no i hi),?_,fun hm=> ?_,hB.small,hb,hB.apart⟩
 ·obtain⟨A,n,c,e⟩:=hB.lo i hi
  exact⟨A,n,c,(hc (by omega) _).trans e⟩
 ·obtain⟨B,e⟩:=hB.bblk
  exact⟨B,(hk.block h.bk hB.blt h1).trans e⟩
 ·obtain⟨H,e⟩:=hB.hblk hm
  exact⟨H,(hk.block h.hb (hB.hlt hm) (h2 hm)).trans e⟩
theorem ZP.goff (hB:ZP h w){i:Nat}(hi:i < h.m):h.g i≠h.bk∧h.g i≠h.hb:=
 ⟨fun e=>hB.nbk ⟨i,hi,e.symm⟩,fun e=>hB.nhb ⟨i,hi,e.symm⟩⟩
theorem Blks.kept (hb:h.Blks w)(hk:Kept (fun _=>False) w w'):h.Blks w':=fun i hi=>by
 obtain⟨cur,e1,e2⟩:=hb i hi
 exact⟨cur,(hk.block _ (Zd e1) (fun h=>h)).trans e1,e2⟩
theorem Vm.kept {k q:Nat}(hm:Vm h w k q)(hk:Kept D w w')(hd: ¬D (h.g k)):Vm h w' k q:=by
 obtain⟨cur,e1,e2,e3⟩:=hm
 exact⟨cur,(hk.block _ (Zd e1) hd).trans e1,e2,e3⟩
theorem Vm.blk {k q:Nat}(hm:Vm h w k q): ∃cur,w.heap[h.g k]?=some (.cells cur 4 (0,0))∧h.o k+h.n k≤cur.size:=by
 obtain⟨cur,e1,e2,_⟩:=hm
 exact⟨cur,e1,e2⟩
def ZgH (h:Seg)(w:World)(i2:Value)(wr:World):Prop:=
 ∃k:Nat,i2= .int .i64 (k:Int)∧k≤h.m∧Kept (h.D k) w wr∧h.Blks wr∧ ∀j,j < k→Vm h wr j (h.n j)
def Zeq (h:Seg)(w:World)(k C:Nat)(i4:Value)(wr:World):Prop:=
 ∃q:Nat,i4= .int .i64 (q:Int)∧q≤h.n k∧Kept (h.D (k+1)) w wr∧h.Blks wr∧(∀j,j < k→Vm h wr j (h.n j))∧Vm h wr k q∧
  wr.cell? ⟨C,0,none⟩=some (.slice (some ⟨h.g k,h.o k,none⟩) (h.n k) (h.n k))∧wr.cell? ⟨C,2,none⟩=some (.int .i64 (h.no k:Int))∧C < wr.heap.size
theorem ZgI {w:World}{p:Addr}{u:Value}:(w.setCell p u).heap.size=w.heap.size:=World.size_setCell _ _ _
theorem ZdE {k C q:Nat}(hkept:Kept (h.D (k+1)) w wr)(hbl:h.Blks wr)(hdone: ∀j,j < k→Vm h wr j (h.n j))(hmq:Vm h wr k q)(hq:q < h.n k)
  (e0:wr.cell? ⟨C,0,none⟩=some (.slice (some ⟨h.g k,h.o k,none⟩) (h.n k) (h.n k))) (e2:wr.cell? ⟨C,2,none⟩=some (.int .i64 (h.no k:Int))) (hC:C < wr.heap.size) (hgC:h.g k < C)
  (hap: ∀i j,i < h.m→j < h.m→i≠j→h.g i=h.g j→h.o i+h.n i≤h.o j∨h.o j+h.n j≤h.o i) (hkm:k < h.m):Zeq h w k C (.int .i64 ((q:Int)+1)) (wr.setCell ⟨h.g k,h.o k+q,none⟩ (.bool (even (h.no k)))):=by
 obtain⟨cur,c1,c2,c3⟩:=hmq
 have hset:=Zj (i:=h.o k+q) c1 (.bool (even (h.no k)))
 have hcf: ∀i,(wr.setCell ⟨h.g k,h.o k+q,none⟩ (.bool (even (h.no k)))).cell? ⟨C,i,none⟩=wr.cell? ⟨C,i,none⟩:=fun i=>World.cell?_of_block (Below.heap_setCell wr ⟨h.g k,h.o k+q,none⟩ _ C (by show C≠h.g k;omega))
 refine⟨q+1,by simp,by omega,hkept.setCell (p:=⟨h.g k,h.o k+q,none⟩) (.inl ⟨k,by omega,rfl⟩) _,fun i hi=> ?_,fun j hj=> ?_,⟨_,hset,by rw[Array.size_setIfInBounds];exact c2,fun x hx=> ?_⟩,(hcf 0).trans e0,(hcf 2).trans e2,by rw[ZgI];exact hC⟩
 ·obtain⟨cu,b1,b2⟩:=hbl i hi
  by_cases e:h.g i=h.g k
  ·rw[e] at b1 ⊢
   obtain rfl:cur=cu:=by
    rw[c1] at b1
    injection b1 with b1
    injection b1
   exact⟨_,hset,by rw[Array.size_setIfInBounds];exact b2⟩
  ·exact⟨cu,(Below.heap_setCell wr ⟨h.g k,h.o k+q,none⟩ _ _ e).trans b1,b2⟩
 ·obtain⟨cu,b1,b2,b3⟩:=hdone j hj
  by_cases e:h.g j=h.g k
  ·have hd:=hap j k (by omega) hkm (by omega) e
   unfold Vm
   rw[e] at b1 ⊢
   obtain rfl:cur=cu:=by
    rw[c1] at b1
    injection b1 with b1
    injection b1
   refine⟨_,hset,by rw[Array.size_setIfInBounds];exact b2,fun x hx=> ?_⟩
   rw[Array.getElem?_setIfInBounds_ne (by omega)]
   exact b3 x hx
  ·exact⟨cu,(Below.heap_setCell wr ⟨h.g k,h.o k+q,none⟩ _ _ e).trans b1,b2,b3⟩
 ·by_cases e:x=q
  ·subst e
   rw[Array.getElem?_setIfInBounds_self_of_lt (by omega)]
  ·rw[Array.getElem?_setIfInBounds_ne (by omega)]
   exact c3 x (by omega)
theorem Zer (h:Seg)(w:World)(hB:ZP h w):
  Calls Tryz.prog 48 #[.pointer (some ⟨h.bk,0,none⟩)] w fun e w'=>e= .returned (.tuple #[])∧Kept (h.D h.m) w w'∧h.Blks w'∧ ∀j,j < h.m→Vm h w' j (h.n j):=by
 have hm:=hB.many
 have hnb:=hB.nbk
 have hnh:=hB.nhb
 have HB0:=Hd hB.blk
 go_enter Tryz.func48,Tryz.ntmps48
 go_wp2
 go_loopw [2] (fun i2 wr=>ZgH h w i2 wr) (fun i2 _=>h.m - (intOf i2).toNat)
 case atStart=>exact⟨0,rfl,by omega,Kept.refl _ _,HB0.out,fun j hj=>absurd hj (by omega)⟩
 case round=>
  clear HB0
  obtain⟨k,rfl,hk,hkept,hbl,hdone⟩:=hrel
  have c1:wr.cell? ⟨h.bk,5,none⟩=some (.slice h.A h.m h.cap):=(hkept.cell (p:=⟨h.bk,5,none⟩) hB.blt (fun hd=>hnb (hd.more hk))).trans hB.cellK
  have HD:=Hd hdone
  have HBL:=Hd hbl
  clear hdone hbl
  by_cases hlt:k < h.m
  ·have hA:h.A=some ⟨h.hb,0,none⟩:=by unfold Seg.A;rw[if_neg (by omega)]
   rw[hA] at c1
   have hhl:=hB.hlt (by omega)
   have l0:wr.cell? ⟨h.hb,k*3,none⟩=some (.slice (some ⟨h.g k,h.o k,none⟩) (h.n k) (h.n k)):=(hkept.cell (p:=⟨h.hb,k*3,none⟩) hhl (fun hd=>hnh (hd.more hk))).trans (hB.l k hlt)
   obtain⟨LA,LN,LC,hlo⟩:=hB.lo k hlt
   have l1:wr.cell? ⟨h.hb,k*3+1,none⟩=some (.slice LA LN LC):=(hkept.cell (p:=⟨h.hb,k*3+1,none⟩) hhl (fun hd=>hnh (hd.more hk))).trans hlo
   have l2:wr.cell? ⟨h.hb,k*3+2,none⟩=some (.int .i64 (h.no k:Int)):=(hkept.cell (p:=⟨h.hb,k*3+2,none⟩) hhl (fun hd=>hnh (hd.more hk))).trans (hB.no k hlt)
   obtain⟨hsm,hno⟩:=hB.small k hlt
   clear hlo hA hhl
   obtain⟨wo,rfl⟩: ∃wo:World,wo=wr:=⟨_,rfl⟩
   have hgk:h.g k < wo.heap.size:=by obtain⟨_,e,_⟩:=HBL.out k hlt;exact Zd e
   go_wp2
   go_loopw [4] (fun i4 wr=>Zeq h w k wo.heap.size i4 wr) (fun i4 _=>h.n k - (intOf i4).toNat)
   case atStart=>
    have hb:=heap_alloc_new wo (.cells #[.slice (some ⟨h.g k,h.o k,none⟩) (h.n k) (h.n k),.slice LA LN LC,.int .i64 (h.no k:Int)] 180)
    have hal:Kept (fun _=>False) wo (wo.alloc (.cells #[.slice (some ⟨h.g k,h.o k,none⟩) (h.n k) (h.n k),.slice LA LN LC,.int .i64 (h.no k:Int)] 180)):=(Kept.refl _ _).alloc _
    refine⟨0,rfl,by omega,(hkept.mono fun b hd=>hd.more (by omega)).alloc _,Blks.kept HBL.out hal,fun j hj=>(HD.out j hj).kept hal (fun h=>h),?_,?_,?_,by simp⟩
    ·obtain⟨cur,b1,b2⟩:=HBL.out k hlt
     exact⟨cur,(Below.heap_alloc wo _ _ (Zd b1)).trans b1,b2,fun x hx=>absurd hx (by omega)⟩
    ·rw[Za hb];rfl
    ·rw[Za hb];rfl
   case round=>
    obtain⟨q,rfl,hq,hkept2,hbl2,hdone2,hmk,e0,e2,hC⟩:=hrel
    have HD2:=Hd hdone2
    have HBL2:=Hd hbl2
    have HK:=Hd hmk
    have HKP:=Hd hkept2
    clear hdone2 hmk c1 l0 l1 l2 hkept2 hbl2
    by_cases hlt2:q < h.n k
    ·have hqi:(0:Int)≤(q:Int):=by omega
     have hqn:(q:Int) < (h.n k:Int):=by omega
     go_wp2
     refine wro [0,1,2,3,4,5,6,7] [5,7] 8 (fun w'=>w'.cell? ⟨wo.heap.size,0,none⟩=some (.slice (some ⟨h.g k,h.o k,none⟩) (h.n k) (h.n k))∧w'.cell? ⟨wo.heap.size,2,none⟩=some (.int .i64 (h.no k:Int))) (by kernel_rfl) (fun _ _ _ _ _ h=>h) ⟨e0,e2⟩ ?_
     simp only[steps,sE,sD]
     repeat((first|refine Zg rfl ?_|(refine Zf (v:= ?_) rfl rfl ?_ ?_;rotate_left;(focus(rintro w' ⟨hS0,hS2⟩;go_simp;try with_reducible rfl))));simp only[Act.put,sA,sB,sC])
     refine Ze rfl rfl (fun K hK=> ?_)
     go_simp
     refine(Za9 (h.no k) wr.drew hno).mono ?_
     rintro e w2 ⟨rfl,bm⟩
     have bm':Kept (fun _=>False) wr w2:=(Kept.refl (fun _=>False) wr).drew.trans (Kept.of_below bm)
     have hC2:wo.heap.size < w2.heap.size:=Nat.lt_of_lt_of_le hC bm'.size
     have e0':=(bm'.cell (p:=⟨wo.heap.size,0,none⟩) hC (fun h=>h)).trans e0
     have e2':=(bm'.cell (p:=⟨wo.heap.size,2,none⟩) hC (fun h=>h)).trans e2
     have HKP':=Hd (HKP.out.trans (bm'.mono (fun _ h=>h.elim)))
     have HBL':=Hd (Blks.kept HBL2.out bm')
     have HD2':Hid (∀j,j < k→Vm h w2 j (h.n j)):=Hd fun j hj=>(HD2.out j hj).kept bm' (fun h=>h)
     have HK':=Hd (HK.out.kept bm' (fun h=>h))
     obtain⟨cur,hcur,hcs⟩:=HK'.out.blk
     have hce0:w2.cell? ⟨h.g k,h.o k+q,none⟩=some (cur[h.o k+q]'(by omega)):=by rw[Za hcur];exact Array.getElem?_eq_getElem (by omega)
     have hfz0:w2.frozen? ⟨h.g k,h.o k+q,none⟩=false:=Zb hcur
     generalize cur[h.o k+q]'(by omega)=old0 at hce0
     refine hK.out _ _ (fun _=>⟨e0',e2'⟩) ?_
     clear hK K bm bm' e0 e2 hC hcur hcs
     repeat((first|refine Zg rfl ?_|(refine Zf (v:= ?_) rfl rfl ?_ ?_;rotate_left;(focus(rintro w' ⟨hS0,hS2⟩;go_simp;try with_reducible rfl))));simp only[Act.put,sA,sB,sC])
     refine Ze rfl rfl (fun K hK=> ?_)
     unfold aggO
     go_simp
     have hg0:wo.heap.size≠h.g k:=by omega
     have HREL:=Hd (ZdE HKP'.out HBL'.out HD2'.out HK'.out hlt2 e0' e2' hC2 hgk hB.apart hlt)
     refine hK.out _ _ (fun _=>⟨(World.cell?_of_block (Below.heap_setCell w2 ⟨h.g k,h.o k+q,none⟩ _ wo.heap.size hg0)).trans e0',(World.cell?_of_block (Below.heap_setCell w2 ⟨h.g k,h.o k+q,none⟩ _ wo.heap.size hg0)).trans e2'⟩) ?_
     clear hK K
     refine Zi ?_
     clear hce0 hfz0
     go_wp2
     go_roundw
     case rel=>exact HREL.out
     case measure=>simp[intOf];omega
    ·obtain rfl:q=h.n k:=by omega
     go_wp2
     go_roundw
     case rel=>exact⟨k+1,by go_num,by omega,HKP.out,HBL2.out,fun j hj=>by
      by_cases e:j=k
      ·subst e;exact HK.out
      ·exact HD2.out j (by omega)⟩
     case measure=>simp[intOf];omega
  ·obtain rfl:k=h.m:=by omega
   go_wp2
   go_end0
   exact⟨rfl,hkept,HBL.out,HD.out⟩
def Zes (h:Seg)(w:World)(j:Nat):Prop:=
 ∃L c cur,w.cell? ⟨h.hb,j*3+1,none⟩=some (.slice (some ⟨L,0,none⟩) (h.n j+40) c)∧w.heap[L]?=some (.cells cur 4 (0,0))∧cur.size=c∧h.n j+40≤c∧c≤maxLen∧ ∀x,x < h.n j+40→cur[x]?=some (.bool (even (h.no j)))
structure KO (h:Seg)(w:World)(k:Nat)(wr:World):Prop where
 kept:Kept (fun b=>b=h.hb∧0 < h.m) w wr
 book:ZP h wr
 marks: ∀j,j < h.m→Vm h wr j (h.n j)
 longs: ∀j,j < k→Zes h wr j
def ZgJ (h:Seg)(w:World)(i2:Value)(wr:World):Prop:= ∃k:Nat,i2= .int .i64 (k:Int)∧k≤h.m∧KO h w k wr
structure Zba (h:Seg)(wo:World)(k p L c:Nat)(cur:Array Value)(wr:World):Prop where
 far:wo.heap.size < L
 blk:wr.heap[L]?=some (.cells cur 4 (0,0))
 size:cur.size=c
 room:h.n k+p≤c
 top:c≤maxLen
 mark: ∀x,x < h.n k+p→cur[x]?=some (.bool (even (h.no k)))
def Zb4 (h:Seg)(wo:World)(k C:Nat)(v4 i5:Value)(wr:World):Prop:=
 ∃p:Nat,i5= .int .i64 (p:Int)∧p≤40∧wr.cell? ⟨C,2,none⟩=some (.int .i64 (h.no k:Int))∧C < wr.heap.size∧Kept (fun _=>False) wo wr∧
  ((p=0∧v4= .slice (some ⟨h.g k,h.o k,none⟩) (h.n k) (h.n k))∨ ∃L c cur,v4= .slice (some ⟨L,0,none⟩) (h.n k+p) c∧Zba h wo k p L c cur wr)
structure Zet (u:Value)(w w':World)(n L' c':Nat)(olds:List Value)(cur':Array Value):Prop where
 blk:w'.heap[L']?=some (.cells cur' 4 (0,0))
 size:cur'.size=c'
 room:n+1≤c'
 top:c'≤maxLen
 old: ∀j,j < n→cur'[j]?=olds[j]?
 new:cur'[n]?=some u
 kept:Kept (fun _=>False) w w'
 far:w.heap.size≤L'
theorem Yv (w:World){ops:Array Oper}{rest:List Oper}{o:Oper}{a:Act}{Q:Exit→Act→World→Prop}(hgd:o.guard=none)(s x:Operand)
  (ho:o.op= .call {callee:= .builtin .append,args:= #[s,x],argTypes:= #[78,78]})
  (g off n:Nat) (olds:List Value) (hlen:olds.length=n) (holds: ∀j v,olds[j]?=some v→w.cell? ((⟨g,off,none⟩:Addr).add j)=some v) (hs:a.eval s= .slice (some ⟨g,off,none⟩) n n) (hn:n≤1000)
  (X:Nat) (u:Value) (hx:a.eval x= .slice (some ⟨X,0,none⟩) 1 1) (hnews:w.cell? ⟨X,0,none⟩=some u)
  (h: ∀L' c' cur' w',Zet u w w' n L' c' olds cur'→wpList Tryz.prog ops Q rest (a.put o.dst (.slice (some ⟨L',0,none⟩) (n+1) c')) w'):wpList Tryz.prog ops Q (o::rest) a w:=by
 obtain⟨i,hi,hz,hsize,hby⟩:=info_parts infO
 have hrun:=run_append_grow (P:=Tryz.prog) w 78 o.type 4 i _ Tryz.underlying78 hi hz ⟨g,off,none⟩ n n olds (by rw[hsize,hlen,Nat.mul_one]) holds ⟨X,0,none⟩ 1 1 [u] (by rw[hsize];rfl) (fun j v hv=>by
  rcases j with _|j
  ·simp only[sE,Option.some.injEq] at hv
   subst hv
   rw[Addr.add_lit,Nat.zero_add]
   exact hnews
  ·simp at hv) (by omega) (by omega) (by rw[hby];exact growslice_fits (by omega) (by omega))
 have hge:=grownCap_ge w (n+1) n 4
 have hle:=grownCap_le_maxLen w (n+1) n 4 (by unfold maxLen;omega)
 refine wpList_plain hgd fun K hK=> ?_
 unfold Oper.wp execOp
 simp only[ho,resolve,invoke,builtin,Sem.run_bind,Sem.run_pure,Result.andThen_ok,List.map_toArray,List.map_cons,List.map_nil,hs,hx,hrun]
 refine hK _ _ (h _ _ _ _ ⟨heap_alloc_new w.drew _,?_,hge,hle,fun j hj=> ?_,?_,(Kept.refl _ _).drew.alloc _,Nat.le_refl _⟩)
 ·simp only[Array.size_append,List.size_toArray,size_zeroCells,hlen,List.length_singleton]
  have:(Value.bool false).cells.size=1:=rfl
  rw[this]
  omega
 ·rw[Array.append_assoc,Array.getElem?_append_left (by simp;omega)]
  simp
 ·rw[Array.append_assoc,Array.getElem?_append_right (by simp;omega),Array.getElem?_append_left (by simp;omega)]
  simp[hlen]
theorem ZiE {k:Nat}{wr:World}{cur:Array Value}(hc:wr.heap[h.g k]?=some (.cells cur 4 (0,0)))(hm: ∀x,x < h.n k→cur[h.o k+x]?=some (.bool (even (h.no k)))): ∀j v,(List.replicate (h.n k) (Value.bool (even (h.no k))))[j]?=some v→wr.cell? ((⟨h.g k,h.o k,none⟩:Addr).add j)=some v:=by
 intro j v hv
 rw[List.getElem?_replicate] at hv
 split at hv
 ·rw[Addr.add_lit,Za hc,hm j (by assumption)]
  exact hv
 ·cases hv
theorem Zb5 {k:Nat}{L' c':Nat}{cur':Array Value}(hC:wo.heap.size < w1.heap.size)(h1:Zet (.bool (even (h.no k))) w1 w' (h.n k) L' c' (List.replicate (h.n k) (Value.bool (even (h.no k)))) cur'):Zba h wo k 1 L' c' cur' w':=by
 refine⟨Nat.lt_of_lt_of_le hC h1.far,h1.blk,h1.size,h1.room,h1.top,fun x hx=> ?_⟩
 by_cases e:x < h.n k
 ·rw[h1.old x e,List.getElem?_replicate,if_pos e]
 ·obtain rfl:x=h.n k:=by omega
  exact h1.new
theorem ZdF {k p L c L' c':Nat}{cur cur':Array Value}(hC:wo.heap.size < w1.heap.size)(hg:Zba h wo k p L c cur wr)(h1:U2 4 1 (mkO (h.no k)) w1 w' L (h.n k+p) c L' c' cur cur'):Zba h wo k (p+1) L' c' cur' w':=by
 refine⟨?_,h1.blk,by have:=h1.size;omega,by have:=h1.room;omega,h1.top,fun x hx=> ?_⟩
 ·rcases h1.place with⟨e,-⟩|e
  ·rw[e];exact hg.far
  ·rw[e];exact hC
 ·by_cases e:x < h.n k+p
  ·rw[h1.old x (by omega)]
   exact hg.mark x e
  ·obtain rfl:x=h.n k+p:=by omega
   have:=h1.new 0 (by decide)
   rw[Nat.mul_one,Nat.add_zero] at this
   exact this
theorem ZdG {L L' c c' a:Nat}{us:List Value}{cur cur':Array Value}(hk:Kept (fun _=>False) wo wr)(hf:wo.heap.size < L)(hk1:Kept (fun _=>False) wr w1)(h1:U2 4 1 us w1 w' L a c L' c' cur cur'):Kept (fun _=>False) wo w':=by
 have hmk:Kept (fun b=>b=L∧L'=L) wr w':=(hk1.mono (fun _ hf=>hf.elim)).trans h1.kept
 exact⟨hmk.os.trans hk.os,hmk.tape.trans hk.tape,hmk.output.trans hk.output,Nat.le_trans hk.size hmk.size,fun b hb hn=>(hmk.block b (Nat.lt_of_lt_of_le hb hk.size) fun hd=>by omega).trans (hk.block b hb hn)⟩
theorem ZdH {L L' c c' a C:Nat}{us:List Value}{cur cur':Array Value}{v:Value}(hC:C < wr.heap.size)(hf:C < L)(hk1:Kept (fun _=>False) wr w1)(h1:U2 4 1 us w1 w' L a c L' c' cur cur')(e2:wr.cell? ⟨C,2,none⟩=some v):w'.cell? ⟨C,2,none⟩=some v:=by
 refine(h1.kept.cell (p:=⟨C,2,none⟩) (Nat.lt_of_lt_of_le hC hk1.size) ?_).trans ((hk1.cell (p:=⟨C,2,none⟩) hC (fun h=>h)).trans e2)
 rintro⟨e,_⟩
 have e:C=L:=e
 omega
theorem ZP.setLong {k:Nat}{A:Option Addr}{n c:Nat}(hB:ZP h w)(hk:k < h.m):ZP h (w.setCell ⟨h.hb,k*3+1,none⟩ (.slice A n c)):=by
 obtain⟨H,hHb⟩:=hB.hblk (by omega)
 obtain⟨B,hBb⟩:=hB.bblk
 refine⟨hB.many,(YW (p:=⟨h.bk,5,none⟩) (hB.ne (by omega))).trans hB.cellK,fun i hi=>(ZY (by omega)).trans (hB.l i hi),fun i hi=> ?_,fun i hi=>(ZY (by omega)).trans (hB.no i hi),
  ⟨B,(ZG (hB.ne (by omega))).trans hBb⟩,fun _=>⟨_,Zj hHb _⟩,hB.small,fun i hi=> ?_,hB.apart⟩
 ·by_cases e:i=k
  ·subst e
   obtain⟨A0,n0,c0,h0⟩:=hB.lo i hi
   refine⟨A,n,c,?_⟩
   rw[Za (Zj hHb _)]
   rw[Za hHb] at h0
   have hlt:i*3+1 < H.size:=by
    rcases Nat.lt_or_ge (i*3+1) H.size with hl|hl
    ·exact hl
    ·rw[Array.getElem?_eq_none hl] at h0;cases h0
   rw[Array.getElem?_setIfInBounds_self_of_lt hlt]
  ·obtain⟨A0,n0,c0,h0⟩:=hB.lo i hi
   exact⟨A0,n0,c0,(ZY (by omega)).trans h0⟩
 ·obtain⟨cur,e1,e2⟩:=hB.blk i hi
  exact⟨cur,(ZG (hB.goff hi).2).trans e1,e2⟩
theorem Zbb {k L c:Nat}{cur:Array Value}(hg:KO h w k wo)(hk:k < h.m)(hK:Kept (fun _=>False) wo wi)(hi:Zba h wo k 40 L c cur wi):
  KO h w (k+1) (wi.setCell ⟨h.hb,k*3+1,none⟩ (.slice (some ⟨L,0,none⟩) (h.n k+40) c)):=by
 have hB:=hg.book
 have hBi:ZP h wi:=hB.stay hK (fun h=>h) (fun _ h=>h) (Blks.kept hB.blk hK)
 obtain⟨H,hHb⟩:=hBi.hblk (by omega)
 have lne: ∀{L0:Nat} {cur:Array Value},wi.heap[L0]?=some (.cells cur 4 (0,0))→L0≠h.hb:=fun hl=>Ue hl hHb (by decide)
 refine⟨(hg.kept.trans (hK.mono fun b hb=>hb.elim)).setCell (.inl ⟨rfl,by omega⟩) _,hBi.setLong hk,fun j hj=> ?_,fun j hj=> ?_⟩
 ·obtain⟨cu,e1,e2,e3⟩:=(hg.marks j hj).kept hK (fun h=>h)
  exact⟨cu,(ZG (hB.goff hj).2).trans e1,e2,e3⟩
 ·by_cases e:j=k
  ·subst e
   obtain⟨A0,n0,c0,h0⟩:=hBi.lo j hk
   rw[Za hHb] at h0
   have hlt:j*3+1 < H.size:=by
    rcases Nat.lt_or_ge (j*3+1) H.size with hl|hl
    ·exact hl
    ·rw[Array.getElem?_eq_none hl] at h0;cases h0
   refine⟨L,c,cur,?_,(ZG (lne hi.blk)).trans hi.blk,hi.size,hi.room,hi.top,hi.mark⟩
   rw[Za (Zj hHb _),Array.getElem?_setIfInBounds_self_of_lt hlt]
  ·obtain⟨L0,c0,cu,l0,l1,r⟩:=hg.longs j (by omega)
   have l1':wi.heap[L0]?=some (.cells cu 4 (0,0)):=(hK.block L0 (Zd l1) (fun h=>h)).trans l1
   have l0':wi.cell? ⟨h.hb,j*3+1,none⟩=_:=(hK.cell (p:=⟨h.hb,j*3+1,none⟩) (hB.hlt (by omega)) (fun h=>h)).trans l0
   exact⟨L0,c0,cu,(ZY (by omega)).trans l0',(ZG (lne l1')).trans l1',r⟩
theorem Zeu (h:Seg)(w:World)(hB:ZP h w)(hmarks: ∀j,j < h.m→Vm h w j (h.n j)):
  Calls Tryz.prog 63 #[.pointer (some ⟨h.bk,0,none⟩)] w fun e w'=>e= .returned (.tuple #[])∧KO h w h.m w':=by
 have hm:=hB.many
 obtain⟨i0,hi0,hz0,hz1,hz2⟩:=info_parts infO
 go_enter Tryz.func63,Tryz.ntmps63
 go_wp2
 go_loopw [2] (fun i2 wr=>ZgJ h w i2 wr) (fun i2 _=>h.m - (intOf i2).toNat)
 case atStart=>exact⟨0,rfl,by omega,Kept.refl _ _,hB,hmarks,fun j hj=>absurd hj (by omega)⟩
 case round=>
  clear hmarks
  obtain⟨k,rfl,hk,hG⟩:=hrel
  have c1:=hG.book.cellK
  by_cases hlt:k < h.m
  ·have hA:h.A=some ⟨h.hb,0,none⟩:=by unfold Seg.A;rw[if_neg (by omega)]
   rw[hA] at c1
   have l0:=hG.book.l k hlt
   obtain⟨LA,LN,LC,l1⟩:=hG.book.lo k hlt
   have l2:=hG.book.no k hlt
   obtain⟨hsm,hno⟩:=hG.book.small k hlt
   have HAA:=Hd hA
   have HG:=Hd hG
   clear hA hG
   obtain⟨wo,rfl⟩: ∃wo:World,wo=wr:=⟨_,rfl⟩
   go_wp2
   go_loopw [4,5] (fun v4 i5 wr=>Zb4 h wo k wo.heap.size v4 i5 wr) (fun _ i5 _=>40 - (intOf i5).toNat)
   case atStart=>
    have hb:=heap_alloc_new wo (.cells #[.slice (some ⟨h.g k,h.o k,none⟩) (h.n k) (h.n k),.slice LA LN LC,.int .i64 (h.no k:Int)] 180)
    exact⟨0,rfl,by omega,by rw[Za hb];rfl,by simp,(Kept.refl _ _).alloc _,.inl ⟨rfl,rfl⟩⟩
   case round=>
    obtain⟨p,rfl,hp,e2,hC,hKo,hor⟩:=hrel
    clear c1 l0 l1 l2
    have hmt:=Za9 (h.no k) wr hno
    have HKO:=Hd hKo
    clear hKo
    by_cases hlt2:p < 40
    ·have hd:decide ((p:Int) < 40)=true:=by simp;omega
     rcases hor with⟨rfl,rfl⟩|⟨L,c,cur,rfl,hGI⟩
     ·have HMK:Hid (Vm h wr k (h.n k)):=Hd ((HG.out.marks k hlt).kept HKO.out (fun h=>h))
      go_wp2_with fail
      refine hmt.mono ?_
      rintro e w2 ⟨rfl,bm⟩
      have HK2:Hid (Kept (fun _=>False) wr w2):=Hd (Kept.of_below bm)
      have HK3:Hid (Kept (fun _=>False) wr (w2.alloc (.cells #[.bool (even (h.no k))] 4))):=Hd (HK2.out.alloc _)
      have HSZ:Hid (wo.heap.size < (w2.alloc (.cells #[.bool (even (h.no k))] 4)).heap.size):=Hd (Nat.lt_of_lt_of_le hC HK3.out.size)
      have HOL:Hid (∀j v,(List.replicate (h.n k) (Value.bool (even (h.no k))))[j]?=some v→(w2.alloc (.cells #[.bool (even (h.no k))] 4)).cell? ((⟨h.g k,h.o k,none⟩:Addr).add j)=some v):=Hd (by
       obtain⟨cu,b1,-,b3⟩:=HMK.out.kept HK3.out (fun h=>h)
       exact ZiE b1 b3)
      have hnews:(w2.alloc (.cells #[.bool (even (h.no k))] 4)).cell? ⟨w2.heap.size,0,none⟩=some (.bool (even (h.no k))):=by rw[Za (heap_alloc_new w2 _)];rfl
      have HNW:=Hd hnews
      clear bm hnews
      unfold aggO
      go_wp2_with (at_builtin;refine Yv _ rfl (.tmp 28) (.tmp 32) rfl (h.g k) (h.o k) (h.n k) _ List.length_replicate HOL.out rfl (by omega) w2.heap.size _ rfl HNW.out ?_;intro L' c' cur' w' hcm)
      have HREL:Hid (Zb4 h wo k wo.heap.size (.slice (some ⟨L',0,none⟩) (h.n k+1) c') (.int .i64 1) w'):=Hd ⟨1,rfl,by omega,(hcm.kept.cell (p:=⟨wo.heap.size,2,none⟩) HSZ.out (fun h=>h)).trans ((HK3.out.cell (p:=⟨wo.heap.size,2,none⟩) hC (fun h=>h)).trans e2),Nat.lt_of_lt_of_le HSZ.out hcm.kept.size,(HKO.out.trans HK3.out).trans hcm.kept,.inr ⟨L',c',cur',rfl,Zb5 HSZ.out hcm⟩⟩
      go_roundw
      case rel=>exact HREL.out
      case measure=>simp[intOf]
     ·have q3:=hGI.room
      have q4:=hGI.top
      have HGI:=Hd hGI
      clear hGI
      go_wp2_with fail
      refine hmt.mono ?_
      rintro e w2 ⟨rfl,bm⟩
      have HK2:Hid (Kept (fun _=>False) wr w2):=Hd (Kept.of_below bm)
      have HK3:Hid (Kept (fun _=>False) wr (w2.alloc (.cells #[.bool (even (h.no k))] 4))):=Hd (HK2.out.alloc _)
      have HSZ:Hid (wo.heap.size < (w2.alloc (.cells #[.bool (even (h.no k))] 4)).heap.size):=Hd (Nat.lt_of_lt_of_le hC HK3.out.size)
      have HX:=Hd (show(w2.alloc (.cells #[.bool (even (h.no k))] 4)).heap[L]?=some (.cells cur 4 (0,0)) from(HK3.out.block L (Zd HGI.out.blk) (fun h=>h)).trans HGI.out.blk)
      clear bm
      unfold aggO
      go_wp2_with (at_builtin;refine ZH _ rfl (.tmp 28) (.tmp 32) 78 4 1 (mkO (h.no k)) rfl i0 _ 1 Tryz.underlying78 hi0 hz0 hz1 hz2 rfl L (h.n k+p) c cur rfl HX.out (by have:=HGI.out.size;omega) q3 q4 (by omega) (by omega) w2.heap.size rfl rfl (srcO _ _) (ZiD _) ?_;intro L' c' cur' w' hone)
      have HREL:Hid (Zb4 h wo k wo.heap.size (.slice (some ⟨L',0,none⟩) (h.n k+p+1) c') (.int .i64 ((p:Int)+1)) w'):=Hd ⟨p+1,by simp,by omega,ZdH hC HGI.out.far HK3.out hone e2,Nat.lt_of_lt_of_le HSZ.out hone.kept.size,ZdG HKO.out HGI.out.far HK3.out hone,.inr ⟨L',c',cur',by rw[Nat.add_assoc],ZdF HSZ.out HGI.out hone⟩⟩
      go_roundw
      case rel=>exact HREL.out
      case measure=>simp[intOf];omega
    ·obtain rfl:p=40:=by omega
     rcases hor with⟨h0,_⟩|⟨L,c,cur,rfl,hGI⟩
     ·omega
     have hB:=HG.out.book
     have c1':wr.cell? ⟨h.bk,5,none⟩=some (.slice (some ⟨h.hb,0,none⟩) h.m h.cap):=((HKO.out.cell (p:=⟨h.bk,5,none⟩) hB.blt (fun h=>h)).trans hB.cellK).trans (by rw[HAA.out])
     obtain⟨LA',LN',LC',l1'⟩:=hB.lo k hlt
     have l1'':wr.cell? ⟨h.hb,k*3+1,none⟩=_:=(HKO.out.cell (p:=⟨h.hb,k*3+1,none⟩) (hB.hlt (by omega)) (fun h=>h)).trans l1'
     obtain⟨H,hH⟩:=hB.hblk (by omega)
     have hfz:wr.frozen? ⟨h.hb,k*3+1,none⟩=false:=Zb ((HKO.out.block h.hb (hB.hlt (by omega)) (fun h=>h)).trans hH)
     have HGI:=Hd hGI
     clear hH l1' hB hGI
     go_wp2_with fail
     go_roundw
     case rel=>exact⟨k+1,by go_num,by omega,Zbb HG.out hlt HKO.out HGI.out⟩
     case measure=>simp[intOf];omega
  ·obtain rfl:k=h.m:=by omega
   go_wp2
   go_end0
   exact⟨rfl,hG⟩
structure QW (h:Seg)(w:World):Prop where
 book:ZP h w
 marks: ∀j,j < h.m→Vm h w j (h.n j)
 longs: ∀j,j < h.m→Zes h w j
def ZgK (h:Seg)(w:World)(i3:Value)(wr:World):Prop:= ∃k:Nat,i3= .int .i64 (k:Int)∧k≤h.m∧Kept (fun _=>False) w wr
def Zb6 (h:Seg)(w:World)(k C:Nat)(LV:Value)(i5:Value)(wr:World):Prop:=
 ∃q:Nat,i5= .int .i64 (q:Int)∧q≤h.n k+40∧Kept (fun _=>False) w wr∧wr.cell? ⟨C,0,none⟩=some (.slice (some ⟨h.g k,h.o k,none⟩) (h.n k) (h.n k))∧wr.cell? ⟨C,1,none⟩=some LV∧wr.cell? ⟨C,2,none⟩=some (.int .i64 (h.no k:Int))∧C < wr.heap.size
theorem ZP.far {Ts:List Nat}(hB:ZP h w)(hk:Kept D w w')(hD:Typed w D Ts)(t1:64∉Ts)(t2:180∉Ts)(t3:4∉Ts):ZP h w':=by
 obtain⟨B,hBb⟩:=hB.bblk
 refine hB.stay hk (hD.no hBb t1) (fun hm=> ?_) fun i hi=> ?_
 ·obtain⟨H,hHb⟩:=hB.hblk hm
  exact hD.no hHb t2
 ·obtain⟨cur,e1,e2⟩:=hB.blk i hi
  exact⟨cur,(hk.block _ (Zd e1) (hD.no e1 t3)).trans e1,e2⟩
theorem Vm.far {Ts:List Nat}{k q:Nat}(hm:Vm h w k q)(hk:Kept D w w')(hD:Typed w D Ts)(t3:4∉Ts):Vm h w' k q:=by
 obtain⟨cur,e1,_⟩:=id hm
 exact hm.kept hk (hD.no e1 t3)
theorem Zes.far {Ts:List Nat}{j:Nat}(hm:Zes h w j)(hB:ZP h w)(hj:j < h.m)(hk:Kept D w w')(hD:Typed w D Ts)(t2:180∉Ts)(t3:4∉Ts):Zes h w' j:=by
 obtain⟨L,c,cur,l0,l1,r⟩:=hm
 obtain⟨H,hHb⟩:=hB.hblk (by omega)
 exact⟨L,c,cur,(hk.cell (p:=⟨h.hb,j*3+1,none⟩) (hB.hlt (by omega)) (hD.no hHb t2)).trans l0,(hk.block _ (Zd l1) (hD.no l1 t3)).trans l1,r⟩
theorem QW.far {Ts:List Nat}(hR:QW h w)(hk:Kept D w w')(hD:Typed w D Ts)(t1:64∉Ts)(t2:180∉Ts)(t3:4∉Ts):QW h w':=
 ⟨hR.book.far hk hD t1 t2 t3,fun j hj=>(hR.marks j hj).far hk hD t3,fun j hj=>(hR.longs j hj).far hR.book hj hk hD t2 t3⟩
theorem ZP.typedD (hB:ZP h w):Typed w (h.D h.m) [4]:=fun b hd _=>by
 obtain⟨cur,e⟩:=hB.dtype hd
 exact⟨cur,4,e,by simp⟩
theorem ZP.typedG (hB:ZP h w):Typed w (fun b=>b=h.hb∧0 < h.m) [180]:=fun b hd _=>by
 obtain⟨rfl,hm⟩:=hd
 obtain⟨H,e⟩:=hB.hblk hm
 exact⟨H,180,e,by simp⟩
theorem Zev (h:Seg)(w:World)(hG:QW h w):
  Calls Tryz.prog 78 #[.pointer (some ⟨h.bk,0,none⟩)] w fun e w'=>e= .returned (.bool true)∧Kept (fun _=>False) w w':=by
 have hm:=hG.book.many
 go_enter Tryz.func78,Tryz.ntmps78
 go_wp2
 go_loopw [3] (fun i3 wr=>ZgK h w i3 wr) (fun i3 _=>h.m - (intOf i3).toNat)
 case atStart=>exact⟨0,rfl,by omega,Kept.refl _ _⟩
 case round=>
  obtain⟨k,rfl,hk,hK⟩:=hrel
  have c1:wr.cell? ⟨h.bk,5,none⟩=_:=(hK.cell (p:=⟨h.bk,5,none⟩) hG.book.blt (by simp)).trans hG.book.cellK
  by_cases hlt:k < h.m
  ·obtain⟨L,c,cur,l1,b1,b2,b3,b4,b5⟩:=hG.longs k hlt
   have hA:h.A=some ⟨h.hb,0,none⟩:=by unfold Seg.A;rw[if_neg (by omega)]
   rw[hA] at c1
   have hhl:=hG.book.hlt (by omega)
   have d0:wr.cell? ⟨h.hb,k*3,none⟩=_:=(hK.cell (p:=⟨h.hb,k*3,none⟩) hhl (by simp)).trans (hG.book.l k hlt)
   have d1:wr.cell? ⟨h.hb,k*3+1,none⟩=_:=(hK.cell (p:=⟨h.hb,k*3+1,none⟩) hhl (by simp)).trans l1
   have d2:wr.cell? ⟨h.hb,k*3+2,none⟩=_:=(hK.cell (p:=⟨h.hb,k*3+2,none⟩) hhl (by simp)).trans (hG.book.no k hlt)
   obtain⟨hsm,hno⟩:=hG.book.small k hlt
   have G1:=Hd (hG.marks k hlt)
   have B1:=Hd b1
   have B5:=Hd b5
   clear l1 b1 b2 b5 hA hhl
   have hw40:((h.n k:Int)+40 !=(h.n k:Int)+40)=false:=by simp
   obtain⟨wo,rfl⟩: ∃wo:World,wo=wr:=⟨_,rfl⟩
   go_wp2
   go_loopw [5] (fun i5 wr=>Zb6 h w k wo.heap.size (.slice (some ⟨L,0,none⟩) (h.n k+40) c) i5 wr) (fun i5 _=>h.n k+40 - (intOf i5).toNat)
   case atStart=>
    have hb:=heap_alloc_new wo (.cells #[.slice (some ⟨h.g k,h.o k,none⟩) (h.n k) (h.n k),.slice (some ⟨L,0,none⟩) (h.n k+40) c,.int .i64 (h.no k:Int)] 180)
    refine⟨0,rfl,by omega,hK.alloc _,?_,?_,?_,by simp⟩
    ·rw[Za hb];rfl
    ·rw[Za hb];rfl
    ·rw[Za hb];rfl
   case round=>
    obtain⟨q,rfl,hq,hK2,e0,e1,e2,hC⟩:=hrel
    clear c1 d0 d1 d2
    by_cases hlt2:q < h.n k+40
    ·have hLr:L < wr.heap.size:=Nat.lt_of_lt_of_le (Zd B1.out) hK2.size
     have f0:wr.cell? ⟨L,q,none⟩=some (.bool (even (h.no k))):=by
      rw[hK2.cell (p:=⟨L,q,none⟩) (Zd B1.out) (by simp),Za B1.out]
      exact B5.out q hlt2
     by_cases hlt3:q < h.n k
     ·obtain⟨curg,g1',g2',g3'⟩:=G1.out
      have hgr:h.g k < wr.heap.size:=Nat.lt_of_lt_of_le (Zd g1') hK2.size
      have g0:wr.cell? ⟨h.g k,h.o k+q,none⟩=some (.bool (even (h.no k))):=by
       rw[hK2.cell (p:=⟨h.g k,h.o k+q,none⟩) (Zd g1') (by simp),Za g1']
       exact g3' q hlt3
      have E0:=Hd e0
      clear g1' g2' g3'
      have HK2:=Hd hK2
      clear hK2
      have hd3:decide (q < h.n k)=true:=by simpa using hlt3
      go_wp2
      refine wro [0,1,2,3,4,5,6,7,8,9,10,11,12,13,14,15,16,17,18,19,20,21,22,23,24,25,26] [7,23] 27 (fun w'=>Kept (fun _=>False) wr w') (by kernel_rfl) (fun _ _ _ _ _ h=>h) (Kept.refl _ _).drew ?_
      simp only[steps,sE,sD]
      repeat((first|refine Zg rfl ?_|(refine Zf (v:= ?_) rfl rfl ?_ ?_;rotate_left;(focus(rintro w' hS;have x0:=(hS.cell (p:=⟨wo.heap.size,0,none⟩) hC (fun h=>h)).trans e0;have x1:=(hS.cell (p:=⟨wo.heap.size,1,none⟩) hC (fun h=>h)).trans e1;have x2:=(hS.cell (p:=⟨wo.heap.size,2,none⟩) hC (fun h=>h)).trans e2;have s0:=(hS.cell (p:=⟨L,q,none⟩) hLr (fun h=>h)).trans f0;have t0:=(hS.cell (p:=⟨h.g k,h.o k+q,none⟩) hgr (fun h=>h)).trans g0;clear hS;go_simp;try with_reducible rfl))));simp only[Act.put,sA,sB,sC])
      refine Ze rfl rfl (fun K hK=> ?_)
      go_simp
      rw[show(Value.bool (even (h.no k)))=aggO (h.no k) from rfl]
      refine(Zb3 (h.no k) _ hno).mono ?_
      rintro e w2 ⟨rfl,b2x⟩
      have k2:Kept (fun _=>False) wr w2:=(Kept.refl (fun _=>False) wr).drew.trans (Kept.of_below b2x)
      refine hK.out _ _ (fun _=>k2) ?_
      clear hK K
      repeat((first|refine Zg rfl ?_|(refine Zf (v:= ?_) rfl rfl ?_ ?_;rotate_left;(focus(rintro w' hS;have x0:=(hS.cell (p:=⟨wo.heap.size,0,none⟩) hC (fun h=>h)).trans e0;have x1:=(hS.cell (p:=⟨wo.heap.size,1,none⟩) hC (fun h=>h)).trans e1;have x2:=(hS.cell (p:=⟨wo.heap.size,2,none⟩) hC (fun h=>h)).trans e2;have s0:=(hS.cell (p:=⟨L,q,none⟩) hLr (fun h=>h)).trans f0;have t0:=(hS.cell (p:=⟨h.g k,h.o k+q,none⟩) hgr (fun h=>h)).trans g0;clear hS;go_simp;try with_reducible rfl))));simp only[Act.put,sA,sB,sC])
      refine Ze rfl rfl (fun K hK=> ?_)
      go_simp
      rw[show(Value.bool (even (h.no k)))=aggO (h.no k) from rfl]
      refine(Zb3 (h.no k) _ hno).mono ?_
      rintro e w3 ⟨rfl,b3x⟩
      have k3:Kept (fun _=>False) wr w3:=k2.trans (Kept.of_below b3x)
      refine hK.out _ _ (fun _=>k3) ?_
      clear hK K
      repeat((first|refine Zg rfl ?_|(refine Zf (v:= ?_) rfl rfl ?_ ?_;rotate_left;(focus(rintro w' hS;have x0:=(hS.cell (p:=⟨wo.heap.size,0,none⟩) hC (fun h=>h)).trans e0;have x1:=(hS.cell (p:=⟨wo.heap.size,1,none⟩) hC (fun h=>h)).trans e1;have x2:=(hS.cell (p:=⟨wo.heap.size,2,none⟩) hC (fun h=>h)).trans e2;have s0:=(hS.cell (p:=⟨L,q,none⟩) hLr (fun h=>h)).trans f0;have t0:=(hS.cell (p:=⟨h.g k,h.o k+q,none⟩) hgr (fun h=>h)).trans g0;clear hS;go_simp;try with_reducible rfl))));simp only[Act.put,sA,sB,sC])
      refine Zi ?_
      have HREL:=Hd (show Zb6 h w k wo.heap.size (.slice (some ⟨L,0,none⟩) (h.n k+40) c) (.int .i64 ((q:Int)+1)) w3 from⟨q+1,by go_num,by omega,HK2.out.trans k3,(k3.cell (p:=⟨wo.heap.size,0,none⟩) hC (fun h=>h)).trans E0.out,(k3.cell (p:=⟨wo.heap.size,1,none⟩) hC (fun h=>h)).trans e1,(k3.cell (p:=⟨wo.heap.size,2,none⟩) hC (fun h=>h)).trans e2,Nat.lt_of_lt_of_le hC k3.size⟩)
      clear f0 g0
      go_wp2
      go_roundw
      case rel=>exact HREL.out
      case measure=>simp[intOf];omega
     ·have hd3:decide (q < h.n k)=false:=by simpa using hlt3
      have HK2:=Hd hK2
      clear hK2
      go_wp2
      refine wro [0,1,2,3,4,5,6,7,8,9,10,11,12,13,14,15,16,17,18,19,20,21,22,23,24,25,26] [7,23] 27 (fun w'=>Kept (fun _=>False) wr w') (by kernel_rfl) (fun _ _ _ _ _ h=>h) (Kept.refl _ _).drew ?_
      simp only[steps,sE,sD]
      repeat((first|refine Zg rfl ?_|(refine Zf (v:= ?_) rfl rfl ?_ ?_;rotate_left;(focus(rintro w' hS;have x0:=(hS.cell (p:=⟨wo.heap.size,0,none⟩) hC (fun h=>h)).trans e0;have x1:=(hS.cell (p:=⟨wo.heap.size,1,none⟩) hC (fun h=>h)).trans e1;have x2:=(hS.cell (p:=⟨wo.heap.size,2,none⟩) hC (fun h=>h)).trans e2;have s0:=(hS.cell (p:=⟨L,q,none⟩) hLr (fun h=>h)).trans f0;clear hS;go_simp;try with_reducible rfl))));simp only[Act.put,sA,sB,sC])
      refine Ze rfl rfl (fun K hK=> ?_)
      go_simp
      rw[show(Value.bool (even (h.no k)))=aggO (h.no k) from rfl]
      refine(Zb3 (h.no k) _ hno).mono ?_
      rintro e w2 ⟨rfl,b2x⟩
      have k2:Kept (fun _=>False) wr w2:=(Kept.refl (fun _=>False) wr).drew.trans (Kept.of_below b2x)
      refine hK.out _ _ (fun _=>k2) ?_
      clear hK K
      repeat((first|refine Zg rfl ?_|(refine Zf (v:= ?_) rfl rfl ?_ ?_;rotate_left;(focus(rintro w' hS;have x0:=(hS.cell (p:=⟨wo.heap.size,0,none⟩) hC (fun h=>h)).trans e0;have x1:=(hS.cell (p:=⟨wo.heap.size,1,none⟩) hC (fun h=>h)).trans e1;have x2:=(hS.cell (p:=⟨wo.heap.size,2,none⟩) hC (fun h=>h)).trans e2;have s0:=(hS.cell (p:=⟨L,q,none⟩) hLr (fun h=>h)).trans f0;clear hS;go_simp;try with_reducible rfl))));simp only[Act.put,sA,sB,sC])
      refine Zi ?_
      have HREL:=Hd (show Zb6 h w k wo.heap.size (.slice (some ⟨L,0,none⟩) (h.n k+40) c) (.int .i64 ((q:Int)+1)) w2 from⟨q+1,by go_num,by omega,HK2.out.trans k2,(k2.cell (p:=⟨wo.heap.size,0,none⟩) hC (fun h=>h)).trans e0,(k2.cell (p:=⟨wo.heap.size,1,none⟩) hC (fun h=>h)).trans e1,(k2.cell (p:=⟨wo.heap.size,2,none⟩) hC (fun h=>h)).trans e2,Nat.lt_of_lt_of_le hC k2.size⟩)
      clear f0
      go_wp2
      go_roundw
      case rel=>exact HREL.out
      case measure=>simp[intOf];omega
    ·go_wp2
     go_roundw
     case rel=>exact⟨k+1,by go_num,by omega,hK2⟩
     case measure=>simp[intOf];omega
  ·go_wp2
   go_ret
   exact⟨rfl,hK⟩
end
end Go.Proofs.YtfmpecnkkbpdlaaGreatDoor
