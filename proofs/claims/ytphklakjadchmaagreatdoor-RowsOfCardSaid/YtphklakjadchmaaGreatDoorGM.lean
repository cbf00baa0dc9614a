import Derived.OwnWalk
import Derived.Test.YtphklakjadchmaaGreatDoorProg
import Derived.LoopTactic
import Derived.Handy
import Derived.Test.YtphklakjadchmaaGreatDoorGBook
import Derived.Test.YtphklakjadchmaaGreatDoorLaOrd
namespace Go.Proofs.YtphklakjadchmaaGreatDoor
open Go.RowKit
def mkM (no:Nat):List Value:= [.int .u64 (no:Int)]
def aggM (no:Nat):Value:= .int .u64 (no:Int)
theorem mkM_one (no:Nat): ∀v∈mkM no,v.oneCell'=true:=by
 intro v hv
 simp only[mkM,List.mem_cons,List.not_mem_nil,or_false] at hv
 rcases hv with rfl <;> rfl
theorem infM:(Tryz.prog.info? 82).map (fun i=>(i.zero,i.size,i.bytes))=some (some (.int .u64 0),1,8):=by kernel_rfl
set_option maxRecDepth 100000 in
theorem markM_any (k:Nat)(w:World)(h:k≤1000):Calls Tryz.prog 114 #[.int .i64 (k:Int)] w fun e w'=>e= .returned (aggM k)∧Below w.heap.size w w':=by
 have h0: -(k:Int)≤0:=by omega
 have h1: -1000≤ -(k:Int):=by omega
 go_enter Tryz.func114,Tryz.ntmps114
 go_wp2
 go_ret
 exact⟨rfl,Below.refl _ _⟩
set_option maxRecDepth 100000 in
theorem isM_any (k:Nat)(w:World)(h:k≤1000):Calls Tryz.prog 129 #[aggM k,.int .i64 (k:Int)] w fun e w'=>e= .returned (.bool true)∧Below w.heap.size w w':=by
 have h0: -(k:Int)≤0:=by omega
 have h1: -1000≤ -(k:Int):=by omega
 have h2:((k:Int)==(k:Int))=true:=by simp
 have h3:(-(k:Int)== -(k:Int))=true:=by simp
 unfold aggM
 go_enter Tryz.func129,Tryz.ntmps129
 go_wp2
 go_ret
 exact⟨rfl,Below.refl _ _⟩
theorem srcM (w:World)(no:Nat): ∀j x,(mkM no)[j]?=some x→(w.alloc (.cells #[.int .u64 (no:Int)] 82)).cell? ((⟨w.heap.size,0,none⟩:Addr).add j)=some x:=by
 intro j x hx
 rw[Addr.add_lit,Nat.zero_add,cell_blk (heap_alloc_new w _), ← hx, ← Array.getElem?_toList]
 rfl
set_option maxRecDepth 100000 in
set_option maxHeartbeats 4000000 in
theorem fillM_any (h:Held)(w:World)(hB:BookAt 4 148 82 1 h w):
  Calls Tryz.prog 49 #[.pointer (some ⟨h.bk,0,none⟩)] w fun e w'=>e= .returned (.tuple #[])∧Kept (h.D h.m) w w'∧ ∀j,j < h.m→Marked 82 1 mkM h w' j (h.n j):=by
 have hm:=hB.many
 have hnb:=hB.nbk (by decide)
 have hnh:=hB.nhb (by decide)
 go_enter Tryz.func49,Tryz.ntmps49
 go_wp2
 go_loopw [2] (fun i2 wr=>FillRel 82 1 mkM h w i2 wr) (fun i2 _=>h.m - (intOf i2).toNat)
 case atStart=>exact⟨0,rfl,by omega,Kept.refl _ _,fun j hj=>absurd hj (by omega)⟩
 case round=>
  obtain⟨k,rfl,hk,hkept,hdone⟩:=hrel
  have c1:wr.cell? ⟨h.bk,4,none⟩=some (.slice (some ⟨h.hb,0,none⟩) h.m h.cap):=(hkept.cell (p:=⟨h.bk,4,none⟩) hB.blt (fun hd=>hnb (hd.more hk))).trans hB.cellK
  by_cases hlt:k < h.m
  ·have l0:wr.cell? ⟨h.hb,k*3,none⟩=_:=(hkept.cell (p:=⟨h.hb,k*3,none⟩) hB.hlt (fun hd=>hnh (hd.more hk))).trans (hB.l k hlt)
   obtain⟨LA,LN,LC,hlo⟩:=hB.lo k hlt
   have l1:wr.cell? ⟨h.hb,k*3+1,none⟩=_:=(hkept.cell (p:=⟨h.hb,k*3+1,none⟩) hB.hlt (fun hd=>hnh (hd.more hk))).trans hlo
   have l2:wr.cell? ⟨h.hb,k*3+2,none⟩=_:=(hkept.cell (p:=⟨h.hb,k*3+2,none⟩) hB.hlt (fun hd=>hnh (hd.more hk))).trans (hB.no k hlt)
   obtain⟨hsm,hno⟩:=hB.small k hlt
   clear hlo
   have HD:=Lib.hid hdone
   clear hdone
   cases hnl:h.nl k with
   |true=>
    obtain⟨hn0,hc0⟩:=hB.nils k hlt hnl
    have ha:h.a k=none:=by simp[Held.a,hnl]
    have HNL:=Lib.hid hnl
    rw[ha,hn0,hc0] at l0
    clear hnl
    go_wp2
    refine wp_loop_rounds 1 ?_
    rw[rounds_succ]
    go_wp2
    go_roundw
    case rel=>exact⟨k+1,by go_num,by omega,(hkept.mono fun b hd=>hd.more (by omega)).alloc _,fun j hj=>by
     by_cases e:j=k
     ·subst e;exact fun h'=>absurd h' (by rw[HNL.out];simp)
     ·exact fun hnj=>by
       obtain⟨cur,h1,h2,h3⟩:=HD.out j (by omega) hnj
       exact⟨cur,(Below.heap_alloc wr _ _ (lt_blk h1)).trans h1,h2,h3⟩⟩
    case measure=>simp[intOf];omega
   |false=>
   have ha:h.a k=some ⟨h.g k,0,none⟩:=by simp[Held.a,hnl]
   have HNL:=Lib.hid hnl
   rw[ha] at l0
   clear hnl
   obtain⟨cur0,hcur,hcs,hnc,hcm⟩:=hB.blk k hlt HNL.out
   have hcur':wr.heap[h.g k]?=some (.cells cur0 82 (0,0)):=(hkept.block (h.g k) (lt_blk hcur) (by rintro⟨j,hj,hn,e⟩;exact hB.apart k j hlt (by omega) HNL.out hn (by omega) e)).trans hcur
   have HC:=Lib.hid hcur'
   have HS:=Lib.hid hcs
   unfold maxLen at hcm
   have hcz:h.n k≤9223372036854775807:=by omega
   clear hcur hcur' hcs
   obtain⟨wo,rfl⟩: ∃wo:World,wo=wr:=⟨_,rfl⟩
   go_wp2
   go_loopw [4] (fun i4 wr=>FillIn 82 1 mkM h w k wo.heap.size i4 wr) (fun i4 _=>h.n k - (intOf i4).toNat)
   case atStart=>
    have hb:=heap_alloc_new wo (.cells #[.slice (some ⟨h.g k,0,none⟩) (h.n k) (h.c k),.slice LA LN LC,.int .i64 (h.no k:Int)] 148)
    refine⟨0,rfl,by omega,(hkept.mono fun b hd=>hd.more (by omega)).alloc _,fun j hj=> ?_,?_,?_,?_,by simp⟩
    ·intro hnj
     obtain⟨cur,h1,h2,h3⟩:=HD.out j hj hnj
     exact⟨cur,(Below.heap_alloc wo _ _ (lt_blk h1)).trans h1,h2,h3⟩
    ·exact fun _=>⟨cur0,(Below.heap_alloc wo _ _ (lt_blk HC.out)).trans HC.out,HS.out,Mk.zero _ _ _⟩
    ·rw[cell_blk hb,ha];rfl
    ·rw[cell_blk hb];rfl
   case round=>
    obtain⟨q,rfl,hq,hkept2,hdone2,hmk,e0,e2,hC⟩:=hrel
    have HD2:=Lib.hid hdone2
    have HK:=Lib.hid hmk
    have HKP:=Lib.hid hkept2
    clear hdone2 hmk c1 l0 l1 l2 hkept2
    have E0:=Lib.hid e0
    rw[ha] at e0
    by_cases hlt2:q < h.n k
    ·obtain⟨cur,hcur,hcs,hmq⟩:=HK.out HNL.out
     have HCUR:=Lib.hid hcur
     have HMQ:=Lib.hid hmq
     have HCS:=Lib.hid hcs
     have hgk:h.g k < wo.heap.size:=lt_blk HC.out
     have hqi:(0:Int)≤(q:Int):=by omega
     have hqn:(q:Int) < (h.n k:Int):=by omega
     clear hcur hmq hcs
     go_wp2
     refine wp_region_ord [0,1,2,3,4,5,6,7] [5,7] 8 (fun w'=>w'.cell? ⟨wo.heap.size,0,none⟩=some (.slice (some ⟨h.g k,0,none⟩) (h.n k) (h.c k))∧w'.cell? ⟨wo.heap.size,2,none⟩=some (.int .i64 (h.no k:Int))) (by kernel_rfl) (by kernel_rfl) (by kernel_rfl) (by kernel_rfl) (fun _ _ _ _ _ h=>h) ⟨e0,e2⟩ ?_
     simp only[steps,List.getElem?_cons_zero,List.getElem?_cons_succ]
     repeat(first
      |(refine ord_no rfl ?_;simp only[Act.put,List.setIfInBounds_toArray,List.set_cons_zero,List.set_cons_succ])
      |(refine ord_yes (v:= ?_) rfl rfl ?_ ?_;rotate_left;(focus(rintro w' ⟨hS0,hS2⟩;go_simp;try with_reducible rfl));simp only[Act.put,List.setIfInBounds_toArray,List.set_cons_zero,List.set_cons_succ]))
     refine ord_hard rfl rfl (fun K hK=> ?_)
     go_simp
     refine(markM_any (h.no k) wr.drew hno).mono ?_
     rintro e w2 ⟨rfl,bm⟩
     have bm':Kept (fun _=>False) wr w2:=(Kept.refl (fun _=>False) wr).drew.trans (Kept.of_below bm)
     have hC2:wo.heap.size < w2.heap.size:=Nat.lt_of_lt_of_le hC bm'.size
     have e0':=(bm'.cell (p:=⟨wo.heap.size,0,none⟩) hC (fun h=>h)).trans e0
     have e2':=(bm'.cell (p:=⟨wo.heap.size,2,none⟩) hC (fun h=>h)).trans e2
     have E0':=Lib.hid ((bm'.cell (p:=⟨wo.heap.size,0,none⟩) hC (fun h=>h)).trans E0.out)
     have HCUR':=Lib.hid ((bm'.block (h.g k) (lt_blk HCUR.out) (fun h=>h)).trans HCUR.out)
     have HKP':=Lib.hid (HKP.out.trans (bm'.mono (fun _ h=>h.elim)))
     have HD2':Hid (∀j,j < k→Marked 82 1 mkM h w2 j (h.n j)):=Lib.hid fun j hj=>marked_on (HD2.out j hj) bm'
     have hqc:q < cur.size:=by have:=HCS.out;omega
     have hce0:w2.cell? ⟨h.g k,q,none⟩=some (cur[q]'(by omega)):=by rw[cell_blk HCUR'.out];exact Array.getElem?_eq_getElem (by omega)
     have hfz0:w2.frozen? ⟨h.g k,q,none⟩=false:=frozen_blk HCUR'.out
     generalize cur[q]'(by omega)=old0 at hce0
     refine hK.out _ _ (fun _=>⟨e0',e2'⟩) ?_
     clear hK K bm bm' e0 e2 hC
     repeat(first
      |(refine ord_no rfl ?_;simp only[Act.put,List.setIfInBounds_toArray,List.set_cons_zero,List.set_cons_succ])
      |(refine ord_yes (v:= ?_) rfl rfl ?_ ?_;rotate_left;(focus(rintro w' ⟨hS0,hS2⟩;go_simp;try with_reducible rfl));simp only[Act.put,List.setIfInBounds_toArray,List.set_cons_zero,List.set_cons_succ]))
     refine ord_hard rfl rfl (fun K hK=> ?_)
     unfold aggM
     go_simp
     have hg0:wo.heap.size≠h.g k:=by omega
     refine hK.out _ _ (fun _=>⟨(setAll_cell (us:=mkM (h.no k)) (w:=w2) (g:=h.g k) (o:=q) (p:=⟨wo.heap.size,0,none⟩) hg0).trans e0',(setAll_cell (us:=mkM (h.no k)) (w:=w2) (g:=h.g k) (o:=q) (p:=⟨wo.heap.size,2,none⟩) hg0).trans e2'⟩) ?_
     clear hK K
     refine ord_end ?_
     have HREL:Hid (FillIn 82 1 mkM h w k wo.heap.size (.int .i64 ((q:Int)+1)) (setAll w2 (h.g k) q (mkM (h.no k)))):=Lib.hid (by have:=fillIn_next (mk:=mkM) (sz:=1) (us:=mkM (h.no k)) rfl rfl HKP'.out HD2'.out HCUR'.out HCS.out HMQ.out hlt2 hnc E0'.out e2' hC2 hgk hB.apart hlt HNL.out;rw[Nat.mul_one] at this;exact this)
     clear hce0 hfz0
     go_wp2
     go_roundw
     case rel=>exact HREL.out
     case measure=>simp[intOf];omega
    ·obtain rfl:q=h.n k:=by omega
     go_wp2
     go_roundw
     case rel=>exact⟨k+1,by go_num,by omega,HKP.out,fun j hj=>by
      by_cases e:j=k
      ·subst e;exact HK.out
      ·exact HD2.out j (by omega)⟩
     case measure=>simp[intOf];omega
  ·obtain rfl:k=h.m:=by omega
   have HD:=Lib.hid hdone
   clear hdone
   go_wp2
   go_end0
   exact⟨rfl,hkept,HD.out⟩
set_option maxRecDepth 100000 in
set_option maxHeartbeats 4000000 in
theorem growM_any (h:Held)(w:World)(hB:BookAt 4 148 82 1 h w)(hmarks: ∀j,j < h.m→Marked 82 1 mkM h w j (h.n j)):
  Calls Tryz.prog 64 #[.pointer (some ⟨h.bk,0,none⟩)] w fun e w'=>e= .returned (.tuple #[])∧GrowAt 4 148 82 1 mkM h w h.m w':=by
 have hm:=hB.many
 obtain⟨i0,hi0,hz0,hz1,hz2⟩:=info_parts infM
 go_enter Tryz.func64,Tryz.ntmps64
 go_wp2
 go_loopw [2] (fun i2 wr=>GrowRel 4 148 82 1 mkM h w i2 wr) (fun i2 _=>h.m - (intOf i2).toNat)
 case atStart=>exact⟨0,rfl,by omega,Kept.refl _ _,hB,hmarks,fun j hj=>absurd hj (by omega)⟩
 case round=>
  clear hmarks
  obtain⟨k,rfl,hk,hG⟩:=hrel
  have c1:=hG.book.cellK
  by_cases hlt:k < h.m
  ·have l0:=hG.book.l k hlt
   obtain⟨LA,LN,LC,l1⟩:=hG.book.lo k hlt
   have l2:=hG.book.no k hlt
   obtain⟨hsm,hno⟩:=hG.book.small k hlt
   have hgo0:h.nl k=false→h.g k < wr.heap.size:=fun hn=>by
    obtain⟨_,e,_⟩:=hG.marks k hlt hn
    exact lt_blk e
   have HGK:=Lib.hid hgo0
   clear hgo0
   obtain⟨wo,rfl⟩: ∃wo:World,wo=wr:=⟨_,rfl⟩
   go_wp2
   go_loopw [4,5] (fun v4 i5 wr=>GrowIn 82 1 mkM h wo k wo.heap.size v4 i5 wr) (fun _ i5 _=>40 - (intOf i5).toNat)
   case atStart=>
    have hb:=heap_alloc_new wo (.cells #[.slice (h.a k) (h.n k) (h.c k),.slice LA LN LC,.int .i64 (h.no k:Int)] 148)
    refine⟨0,rfl,by omega,by rw[cell_blk hb];rfl,by simp,?_⟩
    cases hnl:h.nl k with
    |true=>
     obtain⟨hn0,hc0⟩:=hG.book.nils k hlt hnl
     exact .inl ⟨rfl,rfl,by simp[Held.a,hnl,hn0,hc0],(Kept.refl _ _).alloc _⟩
    |false=>
     obtain⟨cur,m1,m2,m3⟩:=hG.marks k hlt hnl
     obtain⟨_,_,_,m4,m5⟩:=hG.book.blk k hlt hnl
     have m1':=(Below.heap_alloc wo (.cells #[.slice (h.a k) (h.n k) (h.c k),.slice LA LN LC,.int .i64 (h.no k:Int)] 148) (h.g k) (lt_blk m1)).trans m1
     exact .inr ⟨h.g k,h.c k,by simp[Held.a,hnl],⟨(Kept.refl _ _).alloc _,fun _=>⟨cur,m1',m2,m3⟩,⟨cur,m1',m2,m4,m5,m3⟩,.inl ⟨rfl,rfl,hnl⟩⟩⟩
   case round=>
    obtain⟨p,rfl,hp,e2,hC,hor⟩:=hrel
    clear c1 l0 l1 l2
    have hmt:=markM_any (h.no k) wr hno
    by_cases hlt2:p < 40
    ·have hd:decide ((p:Int) < 40)=true:=by simp;omega
     rcases hor with⟨hnl,rfl,rfl,hKn⟩|⟨L,c,rfl,hGI⟩
     ·obtain⟨hn0,hc0⟩:=hG.book.nils k hlt hnl
      have HKN:=Lib.hid hKn
      have HNL:=Lib.hid hnl
      have HN0:=Lib.hid hn0
      clear hKn hnl hn0 hc0
      go_wp2_with fail
      refine hmt.mono ?_
      rintro e w2 ⟨rfl,bm⟩
      have HK2:Hid (Kept (fun _=>False) wr w2):=Lib.hid (Kept.of_below bm)
      have hsz2:=bm.size
      clear bm
      unfold aggM
      go_wp2_with (at_builtin;refine wpList_append_own _ rfl (.tmp 28) (.tmp 32) 22 rfl wr.heap.size 82 i0 _ 1 8 Tryz.underlying22 hi0 hz0 hz1 hz2 rfl (by decide) (.slice none 0 0) 0 [] rfl (World.ownsRow_nil _ _ _ _) ⟨w2.heap.size,0,none⟩ 1 1 (mkM (h.no k)) rfl rfl (srcM _ _) (mkM_one _) (by unfold maxLen;omega) (by omega) (by simp;omega) ?_;intro v' w' own' hg' _)
      obtain⟨A',c',rfl⟩: ∃A c,v'= .slice A (0+1) c:=by
       rcases own'.2 with⟨_,e⟩|⟨g,cap,cur,rfl,_⟩
       ·cases e
       ·exact⟨_,_,rfl⟩
      have HREL:=Lib.hid (growIn_first (mk:=mkM) rfl HN0.out HNL.out HKN.out hC e2 rfl own' (HK2.out.alloc _) hg')
      go_roundw
      case rel=>exact HREL.out
      case measure=>simp[intOf]
     ·obtain⟨cur,q1,q2,q3,q4,q5⟩:=hGI.long
      have Q1:=Lib.hid q1
      have Q2:=Lib.hid q2
      have Q5:=Lib.hid q5
      have HGI:=Lib.hid hGI
      clear q1 q2 q5 hGI
      go_wp2_with fail
      refine hmt.mono ?_
      rintro e w2 ⟨rfl,bm⟩
      have HK2:Hid (Kept (fun _=>False) wr w2):=Lib.hid (Kept.of_below bm)
      have HX:=Lib.hid (show(w2.alloc (.cells #[.int .u64 (h.no k:Int)] 82)).heap[L]?=some (.cells cur 82 (0,0)) from(Below.heap_alloc w2 _ L (Nat.lt_of_lt_of_le (lt_blk Q1.out) HK2.out.size)).trans ((HK2.out.block L (lt_blk Q1.out) (fun h=>h)).trans Q1.out))
      clear bm
      unfold aggM
      go_wp2_with (at_builtin;refine wpList_append_one _ rfl (.tmp 28) (.tmp 32) 22 82 1 (mkM (h.no k)) rfl i0 _ 8 Tryz.underlying22 hi0 hz0 hz1 hz2 rfl L (h.n k+p) c cur rfl HX.out Q2.out q3 q4 (by omega) (by omega) w2.heap.size rfl rfl (srcM _ _) (mkM_one _) ?_;intro L' c' cur' w' hone)
      have hk3:=HK2.out.alloc (.cells #[.int .u64 (h.no k:Int)] 82)
      go_roundw
      case rel=>exact⟨p+1,by go_num,by omega,growIn_copy HGK.out hC HGI.out hk3 hone e2,by have h1:=hone.kept.size;have h2:=hk3.size;omega,.inr ⟨L',c',by rw[Nat.add_assoc],growIn_next (mk:=mkM) rfl HGK.out hC HGI.out Q1.out Q5.out hk3 hone⟩⟩
      case measure=>simp[intOf];omega
    ·obtain rfl:p=40:=by omega
     rcases hor with⟨_,h0,_⟩|⟨L,c,rfl,hGI⟩
     ·omega
     have hnb: ¬(h.hb=h.g k∧h.nl k=false):=fun e=>(hG.book.goff (by decide) (by decide) hlt e.2).2 e.1.symm
     have c1':wr.cell? ⟨h.bk,4,none⟩=_:=(hGI.kept.cell (p:=⟨h.bk,4,none⟩) hG.book.blt (fun e=>(hG.book.goff (by decide) (by decide) hlt e.2).1 e.1.symm)).trans hG.book.cellK
     obtain⟨LA',LN',LC',l1'⟩:=hG.book.lo k hlt
     have l1'':wr.cell? ⟨h.hb,k*3+1,none⟩=_:=(hGI.kept.cell (p:=⟨h.hb,k*3+1,none⟩) hG.book.hlt hnb).trans l1'
     obtain⟨H,hH⟩:=hG.book.hblk
     have hfz:wr.frozen? ⟨h.hb,k*3+1,none⟩=false:=frozen_blk ((hGI.kept.block h.hb hG.book.hlt hnb).trans hH)
     clear hH hnb l1'
     go_wp2_with fail
     go_roundw
     case rel=>exact⟨k+1,by go_num,by omega,growAt_next (by decide) (by decide) (by decide) hG hlt hGI⟩
     case measure=>simp[intOf];omega
  ·obtain rfl:k=h.m:=by omega
   go_wp2
   go_end0
   exact⟨rfl,hG⟩
set_option maxRecDepth 100000 in
set_option maxHeartbeats 4000000 in
theorem lookM_any (h:Held)(w:World)(hG:Ready 4 148 82 1 mkM h w):
  Calls Tryz.prog 79 #[.pointer (some ⟨h.bk,0,none⟩)] w fun e w'=>e= .returned (.bool true)∧Kept (fun _=>False) w w':=by
 have hm:=hG.book.many
 go_enter Tryz.func79,Tryz.ntmps79
 go_wp2
 go_loopw [3] (fun i3 wr=>LookRel h w i3 wr) (fun i3 _=>h.m - (intOf i3).toNat)
 case atStart=>exact⟨0,rfl,by omega,Kept.refl _ _⟩
 case round=>
  obtain⟨k,rfl,hk,hK⟩:=hrel
  have c1:wr.cell? ⟨h.bk,4,none⟩=_:=(hK.cell (p:=⟨h.bk,4,none⟩) hG.book.blt (by simp)).trans hG.book.cellK
  by_cases hlt:k < h.m
  ·obtain⟨L,c,cur,l1,b1,b2,b3,b4,b5,_⟩:=hG.longs k hlt
   have d0:wr.cell? ⟨h.hb,k*3,none⟩=_:=(hK.cell (p:=⟨h.hb,k*3,none⟩) hG.book.hlt (by simp)).trans (hG.book.l k hlt)
   have d1:wr.cell? ⟨h.hb,k*3+1,none⟩=_:=(hK.cell (p:=⟨h.hb,k*3+1,none⟩) hG.book.hlt (by simp)).trans l1
   have d2:wr.cell? ⟨h.hb,k*3+2,none⟩=_:=(hK.cell (p:=⟨h.hb,k*3+2,none⟩) hG.book.hlt (by simp)).trans (hG.book.no k hlt)
   obtain⟨hsm,hno⟩:=hG.book.small k hlt
   have G1:=Lib.hid (hG.marks k hlt)
   have GN:=Lib.hid (hG.book.nils k hlt)
   have B1:=Lib.hid b1
   have B5:=Lib.hid b5
   clear l1 b1 b2 b5
   have hw40:((h.n k:Int)+40 !=(h.n k:Int)+40)=false:=by simp
   obtain⟨wo,rfl⟩: ∃wo:World,wo=wr:=⟨_,rfl⟩
   go_wp2
   go_loopw [5] (fun i5 wr=>LookIn h w k wo.heap.size (.slice (some ⟨L,0,none⟩) (h.n k+40) c) i5 wr) (fun i5 _=>h.n k+40 - (intOf i5).toNat)
   case atStart=>
    have hb:=heap_alloc_new wo (.cells #[.slice (h.a k) (h.n k) (h.c k),.slice (some ⟨L,0,none⟩) (h.n k+40) c,.int .i64 (h.no k:Int)] 148)
    refine⟨0,rfl,by omega,hK.alloc _,?_,?_,?_,by simp⟩
    ·rw[cell_blk hb];rfl
    ·rw[cell_blk hb];rfl
    ·rw[cell_blk hb];rfl
   case round=>
    obtain⟨q,rfl,hq,hK2,e0,e1,e2,hC⟩:=hrel
    clear c1 d0 d1 d2
    by_cases hlt2:q < h.n k+40
    ·have hLr:L < wr.heap.size:=Nat.lt_of_lt_of_le (lt_blk B1.out) hK2.size
     have f0:wr.cell? ⟨L,q,none⟩=some (.int .u64 (h.no k:Int)):=by
      rw[hK2.cell (p:=⟨L,q,none⟩) (lt_blk B1.out) (by simp),cell_blk B1.out]
      have:=B5.out.at hlt2 (i:=0) (by decide) rfl (by rintro _ _ _ h;cases h);rw[Nat.mul_one,Nat.add_zero] at this;exact this
     by_cases hlt3:q < h.n k
     ·have hnl:h.nl k=false:=by
       cases hn:h.nl k with
       |false=>rfl
       |true=>have:=(GN.out hn).1;omega
      obtain⟨curg,g1',g2',g3'⟩:=G1.out hnl
      have hgr:h.g k < wr.heap.size:=Nat.lt_of_lt_of_le (lt_blk g1') hK2.size
      have g0:wr.cell? ⟨h.g k,q,none⟩=some (.int .u64 (h.no k:Int)):=by
       rw[hK2.cell (p:=⟨h.g k,q,none⟩) (lt_blk g1') (by simp),cell_blk g1']
       have:=g3'.at hlt3 (i:=0) (by decide) rfl (by rintro _ _ _ h;cases h);rw[Nat.mul_one,Nat.add_zero] at this;exact this
      have E0:=Lib.hid e0
      rw[show h.a k=some ⟨h.g k,0,none⟩ by simp[Held.a,hnl]] at e0
      clear g1' g2' g3' hnl
      have HK2:=Lib.hid hK2
      clear hK2
      have hd3:decide (q < h.n k)=true:=by simpa using hlt3
      go_wp2
      refine wp_region_ord [0,1,2,3,4,5,6,7,8,9,10,11,12,13,14,15,16,17,18,19,20,21,22,23,24,25,26] [7,23] 27 (fun w'=>Kept (fun _=>False) wr w') (by kernel_rfl) (by kernel_rfl) (by kernel_rfl) (by kernel_rfl) (fun _ _ _ _ _ h=>h) (Kept.refl _ _).drew ?_
      simp only[steps,List.getElem?_cons_zero,List.getElem?_cons_succ]
      repeat(first
       |(refine ord_no rfl ?_;simp only[Act.put,List.setIfInBounds_toArray,List.set_cons_zero,List.set_cons_succ])
       |(refine ord_yes (v:= ?_) rfl rfl ?_ ?_;rotate_left;(focus(rintro w' hS;have x0:=(hS.cell (p:=⟨wo.heap.size,0,none⟩) hC (fun h=>h)).trans e0;have x1:=(hS.cell (p:=⟨wo.heap.size,1,none⟩) hC (fun h=>h)).trans e1;have x2:=(hS.cell (p:=⟨wo.heap.size,2,none⟩) hC (fun h=>h)).trans e2;have s0:=(hS.cell (p:=⟨L,q,none⟩) hLr (fun h=>h)).trans f0;have t0:=(hS.cell (p:=⟨h.g k,q,none⟩) hgr (fun h=>h)).trans g0;clear hS;go_simp;try with_reducible rfl));simp only[Act.put,List.setIfInBounds_toArray,List.set_cons_zero,List.set_cons_succ]))
      refine ord_hard rfl rfl (fun K hK=> ?_)
      go_simp
      rw[show(Value.int .u64 (h.no k:Int))=aggM (h.no k) from rfl]
      refine(isM_any (h.no k) _ hno).mono ?_
      rintro e w2 ⟨rfl,b2x⟩
      have k2:Kept (fun _=>False) wr w2:=(Kept.refl (fun _=>False) wr).drew.trans (Kept.of_below b2x)
      refine hK.out _ _ (fun _=>k2) ?_
      clear hK K
      repeat(first
       |(refine ord_no rfl ?_;simp only[Act.put,List.setIfInBounds_toArray,List.set_cons_zero,List.set_cons_succ])
       |(refine ord_yes (v:= ?_) rfl rfl ?_ ?_;rotate_left;(focus(rintro w' hS;have x0:=(hS.cell (p:=⟨wo.heap.size,0,none⟩) hC (fun h=>h)).trans e0;have x1:=(hS.cell (p:=⟨wo.heap.size,1,none⟩) hC (fun h=>h)).trans e1;have x2:=(hS.cell (p:=⟨wo.heap.size,2,none⟩) hC (fun h=>h)).trans e2;have s0:=(hS.cell (p:=⟨L,q,none⟩) hLr (fun h=>h)).trans f0;have t0:=(hS.cell (p:=⟨h.g k,q,none⟩) hgr (fun h=>h)).trans g0;clear hS;go_simp;try with_reducible rfl));simp only[Act.put,List.setIfInBounds_toArray,List.set_cons_zero,List.set_cons_succ]))
      refine ord_hard rfl rfl (fun K hK=> ?_)
      go_simp
      rw[show(Value.int .u64 (h.no k:Int))=aggM (h.no k) from rfl]
      refine(isM_any (h.no k) _ hno).mono ?_
      rintro e w3 ⟨rfl,b3x⟩
      have k3:Kept (fun _=>False) wr w3:=k2.trans (Kept.of_below b3x)
      refine hK.out _ _ (fun _=>k3) ?_
      clear hK K
      repeat(first
       |(refine ord_no rfl ?_;simp only[Act.put,List.setIfInBounds_toArray,List.set_cons_zero,List.set_cons_succ])
       |(refine ord_yes (v:= ?_) rfl rfl ?_ ?_;rotate_left;(focus(rintro w' hS;have x0:=(hS.cell (p:=⟨wo.heap.size,0,none⟩) hC (fun h=>h)).trans e0;have x1:=(hS.cell (p:=⟨wo.heap.size,1,none⟩) hC (fun h=>h)).trans e1;have x2:=(hS.cell (p:=⟨wo.heap.size,2,none⟩) hC (fun h=>h)).trans e2;have s0:=(hS.cell (p:=⟨L,q,none⟩) hLr (fun h=>h)).trans f0;have t0:=(hS.cell (p:=⟨h.g k,q,none⟩) hgr (fun h=>h)).trans g0;clear hS;go_simp;try with_reducible rfl));simp only[Act.put,List.setIfInBounds_toArray,List.set_cons_zero,List.set_cons_succ]))
      refine ord_end ?_
      have HREL:=Lib.hid (show LookIn h w k wo.heap.size (.slice (some ⟨L,0,none⟩) (h.n k+40) c) (.int .i64 ((q:Int)+1)) w3 from⟨q+1,by go_num,by omega,HK2.out.trans k3,(k3.cell (p:=⟨wo.heap.size,0,none⟩) hC (fun h=>h)).trans E0.out,(k3.cell (p:=⟨wo.heap.size,1,none⟩) hC (fun h=>h)).trans e1,(k3.cell (p:=⟨wo.heap.size,2,none⟩) hC (fun h=>h)).trans e2,Nat.lt_of_lt_of_le hC k3.size⟩)
      clear f0 g0
      go_wp2
      go_roundw
      case rel=>exact HREL.out
      case measure=>simp[intOf];omega
     ·have hd3:decide (q < h.n k)=false:=by simpa using hlt3
      have HK2:=Lib.hid hK2
      clear hK2
      go_wp2
      refine wp_region_ord [0,1,2,3,4,5,6,7,8,9,10,11,12,13,14,15,16,17,18,19,20,21,22,23,24,25,26] [7,23] 27 (fun w'=>Kept (fun _=>False) wr w') (by kernel_rfl) (by kernel_rfl) (by kernel_rfl) (by kernel_rfl) (fun _ _ _ _ _ h=>h) (Kept.refl _ _).drew ?_
      simp only[steps,List.getElem?_cons_zero,List.getElem?_cons_succ]
      repeat(first
       |(refine ord_no rfl ?_;simp only[Act.put,List.setIfInBounds_toArray,List.set_cons_zero,List.set_cons_succ])
       |(refine ord_yes (v:= ?_) rfl rfl ?_ ?_;rotate_left;(focus(rintro w' hS;have x0:=(hS.cell (p:=⟨wo.heap.size,0,none⟩) hC (fun h=>h)).trans e0;have x1:=(hS.cell (p:=⟨wo.heap.size,1,none⟩) hC (fun h=>h)).trans e1;have x2:=(hS.cell (p:=⟨wo.heap.size,2,none⟩) hC (fun h=>h)).trans e2;have s0:=(hS.cell (p:=⟨L,q,none⟩) hLr (fun h=>h)).trans f0;clear hS;go_simp;try with_reducible rfl));simp only[Act.put,List.setIfInBounds_toArray,List.set_cons_zero,List.set_cons_succ]))
      refine ord_hard rfl rfl (fun K hK=> ?_)
      go_simp
      rw[show(Value.int .u64 (h.no k:Int))=aggM (h.no k) from rfl]
      refine(isM_any (h.no k) _ hno).mono ?_
      rintro e w2 ⟨rfl,b2x⟩
      have k2:Kept (fun _=>False) wr w2:=(Kept.refl (fun _=>False) wr).drew.trans (Kept.of_below b2x)
      refine hK.out _ _ (fun _=>k2) ?_
      clear hK K
      repeat(first
       |(refine ord_no rfl ?_;simp only[Act.put,List.setIfInBounds_toArray,List.set_cons_zero,List.set_cons_succ])
       |(refine ord_yes (v:= ?_) rfl rfl ?_ ?_;rotate_left;(focus(rintro w' hS;have x0:=(hS.cell (p:=⟨wo.heap.size,0,none⟩) hC (fun h=>h)).trans e0;have x1:=(hS.cell (p:=⟨wo.heap.size,1,none⟩) hC (fun h=>h)).trans e1;have x2:=(hS.cell (p:=⟨wo.heap.size,2,none⟩) hC (fun h=>h)).trans e2;have s0:=(hS.cell (p:=⟨L,q,none⟩) hLr (fun h=>h)).trans f0;clear hS;go_simp;try with_reducible rfl));simp only[Act.put,List.setIfInBounds_toArray,List.set_cons_zero,List.set_cons_succ]))
      refine ord_end ?_
      have HREL:=Lib.hid (show LookIn h w k wo.heap.size (.slice (some ⟨L,0,none⟩) (h.n k+40) c) (.int .i64 ((q:Int)+1)) w2 from⟨q+1,by go_num,by omega,HK2.out.trans k2,(k2.cell (p:=⟨wo.heap.size,0,none⟩) hC (fun h=>h)).trans e0,(k2.cell (p:=⟨wo.heap.size,1,none⟩) hC (fun h=>h)).trans e1,(k2.cell (p:=⟨wo.heap.size,2,none⟩) hC (fun h=>h)).trans e2,Nat.lt_of_lt_of_le hC k2.size⟩)
      clear f0
      go_wp2
      go_roundw
      case rel=>exact HREL.out
      case measure=>simp[intOf];omega
    ·go_wp2
     go_roundw
     case rel=>exact⟨k+1,by go_num,by omega,hK2⟩
     case measure=>simp[intOf];omega
  ·go_wp2
   go_ret
   exact⟨rfl,hK⟩
end Go.Proofs.YtphklakjadchmaaGreatDoor
