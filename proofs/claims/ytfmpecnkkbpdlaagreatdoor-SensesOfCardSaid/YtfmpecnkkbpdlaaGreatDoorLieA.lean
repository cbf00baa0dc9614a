import Derived.OwnWalk
import Derived.Handy
import Derived.WalkMore
import Derived.Test.YtfmpecnkkbpdlaaGreatDoorApart
import Derived.Test.YtfmpecnkkbpdlaaGreatDoorBoRefV
import Derived.Test.YtfmpecnkkbpdlaaGreatDoorGO
import Derived.Test.YtfmpecnkkbpdlaaGreatDoorKeep
import Derived.Test.YtfmpecnkkbpdlaaGreatDoorOfD
import Derived.Test.YtfmpecnkkbpdlaaGreatDoorRefC
import Derived.Test.YtfmpecnkkbpdlaaGreatDoorTwinNd
set_option maxRecDepth 100000
set_option maxHeartbeats 4000000
namespace Go.Proofs.YtfmpecnkkbpdlaaGreatDoor.Bo
open Go.RowKit
def Yx:Bd:=⟨false,77,false,0⟩
abbrev Zh7:Obj:= .cells #[.bool false,.int .u64 77,.bool false,.int .u64 0] 133
def oBd (x:Bd):Obj:= .cells #[.bool x.av,.int .u64 x.an,.bool x.bv,.int .u64 x.bn] 133
theorem ZcM (w:World):(Go.sizeOf 133).run Tryz.prog w= .ok 4 w:=by kernel_rfl
structure Y6 (w w':World)(g n:Nat)(l:List Bd):Prop where
 len:l.length=n
 top:n≤100000
 old:w.heap.size≤g
 blk:w'.heap[g]?=some (.cells ((l++ [Yx]).flatMap bdc).toArray 133 (0,0))
theorem Y6.keep {w w' w2:World}{g n:Nat}{l:List Bd}(h:Y6 w w' g n l)(hb:Below w'.heap.size w' w2):Y6 w w2 g n l:=
 ⟨h.len,h.top,h.old,(hb.block g (Zd h.blk)).trans h.blk⟩
theorem Y6.rs {w w':World}{g n:Nat}{l:List Bd}(h:Y6 w w' g n l):Rs bdc 4 w' w'.heap.size (some ⟨g,0,none⟩) n (n+1) l:=
 Rs.of_blk ZE h.blk ⟨bdc Yx,by simp⟩ h.len (by omega) (by have:=h.top;unfold maxLen;omega)
theorem Y6.full {w w':World}{g n:Nat}{l:List Bd}(h:Y6 w w' g n l):Rs bdc 4 w' w'.heap.size (some ⟨g,0,none⟩) (n+1) (n+1) (l++ [Yx]):=
 Rs.of_blk ZE h.blk ⟨[],by simp⟩ (by simp[h.len]) (by omega) (by have:=h.top;unfold maxLen;omega)
theorem ZgP {w:World}{base g n:Nat}{xs:List Value}(h:w.ownsRow base 133 4 (.slice (some ⟨g,0,none⟩) n n) n xs):w.heap[g]?=some (.cells xs.toArray 133 (0,0))∧base≤g:=by
 rcases h.2 with⟨hv,_⟩|⟨g',cap,cur,hv,hb,hg,hnc,hcm,hcs,htake⟩
 ·cases hv
 ·injection hv with h1 h2 h3
  injection h1 with h1
  injection h1 with h1
  subst h1
  subst h3
  refine⟨?_,hb⟩
  rw[hg]
  have:cur=xs.toArray:=by
   apply Array.toList_inj.1
   rw[← htake,List.take_of_length_le (by rw[Array.length_toList,hcs];exact Nat.le_refl _)]
  rw[this]
def Zj2 (l:List Bd)(w:World)(g n:Nat)(v3 i4:Value)(wr:World):Prop:=
 ∃k:Nat,i4= .int .i64 (k:Int)∧k≤l.length∧v3= .slice (some ⟨g,0,none⟩) k (n+1)∧wr.ownsRow w.heap.size 133 4 (.slice (some ⟨g,0,none⟩) k (n+1)) k ((l.take k).flatMap bdc)∧Below w.heap.size w wr
theorem Zbd (A:Option Addr)(n c:Nat)(l:List Bd)(w:World)(h:Rs bdc 4 w w.heap.size A n c l)(hb:n≤1000):
  Calls Tryz.prog 24 #[.slice A n c] w fun e w'=> ∃g,e= .returned (.slice (some ⟨g,0,none⟩) n (n+1))∧Y6 w w' g n l∧Below w.heap.size w w':=by
 obtain⟨i0,hi0,hz0,hz1,hz2⟩:=info_parts Zjp
 have HL:=Hd h.len
 go_enter Tryz.func24,Tryz.ntmps24
 go_wp2_with (at_make;refine wpList_make_own _ rfl _ _ 26 rfl w.heap.size 133 i0 (.agg #[.bool false,.int .u64 0,.bool false,.int .u64 0]) 4 Tryz.underlying26 hi0 hz0 hz1 .i64 .i64 _ (n+1) rfl rfl (by omega) (by rw[hz2];omega) (by unfold maxLen;omega) lR ?_;intro w1 hown1 hg1;have hb1:Below w.heap.size w w1:=(Below.refl _ _).grown hg1 lR (by simp))
 have hsl: ∀W,(Instr.slice 26 (.slice (some ⟨w.heap.size,0,none⟩) (n+1) (n+1)) none (some (.int .i64 (n:Int))) none).run Tryz.prog W= .ok (.slice (some ⟨w.heap.size,0,none⟩) n (n+1)) W:=by
  intro W
  rw[run_slice_h W 26 _ _ _ (by rw[show Tryz.prog.elem 26=133 by simp[Program.elem,Tryz.underlying26]];exact Tryz.underlying26) .i64 _ (by omega) (by omega),show Tryz.prog.elem 26=133 by simp[Program.elem,Tryz.underlying26],ZcM]
  simp[Result.andThen,sliced,Addr.add]
 go_loopw [3,4] (fun v3 i4 wr=>Zj2 l w w.heap.size n v3 i4 wr) (fun _ i4 _=>n - (intOf i4).toNat)
 case atStart=>exact⟨0,rfl,by omega,rfl,hown1,hb1⟩
 case round=>
  obtain⟨k,rfl,hk,rfl,hown,hbr⟩:=hrel
  clear hown1 hb1 hg1
  by_cases hlt:k < n
  ·have hk':k < l.length:=by rw[HL.out];exact hlt
   obtain⟨b,o,rfl,hbb,c0,c1,c2,c3⟩:=V4 (h.below hbr) hk'
   have HS:Hid ((l.take k).flatMap bdc++bdc l[k]=(l.take (k+1)).flatMap bdc):=Hd (by rw[List.take_succ_eq_append_getElem hk',List.flatMap_append];simp)
   generalize l[k]=x at*
   have hnews: ∀j u,(bdc x)[j]?=some u→(wr.alloc (oBd x)).cell? ((⟨wr.heap.size,0,none⟩:Addr).add j)=some u:=by
    intro j u hu
    rw[Addr.add_lit,Nat.zero_add,Za (heap_alloc_new wr (oBd x))]
    rw[← hu, ← Array.getElem?_toList]
    rfl
   have HNEW:=Hd hnews
   have hone: ∀u∈bdc x,u.oneCell'=true:=fun u hu=>Zfv [x] u (by simpa using hu)
   have HONE:=Hd hone
   obtain⟨xc,hxc⟩: ∃xc,xc=bdc x:=⟨_,rfl⟩
   have HXL:Hid (xc.length=1*4):=Hd (by rw[hxc];rfl)
   rw[← hxc] at HNEW HONE HS
   obtain⟨xa,xn,xb,xm⟩:=x
   unfold oBd at HNEW
   simp only at c0 c1 c2 c3 HNEW
   clear hnews hone hxc
   go_wp2_with (at_builtin;refine wpList_append_fits _ rfl (.tmp 15) (.tmp 20) 26 rfl w.heap.size 133 i0 4 Tryz.underlying26 hi0 hz1 w.heap.size k (n+1) _ rfl (hown.alloc _) ⟨wr.heap.size,0,none⟩ 1 1 xc rfl HXL.out HNEW.out HONE.out (by omega) ?_;intro w2 hown2 hg2)
   go_roundw
   case rel=>exact⟨k+1,by go_num,by omega,rfl,by rw[← HS.out];exact hown2,(hbr.alloc hbr.size _).grown hg2 (Nat.le_trans hbr.size (by simp)) (by intro j hj;injection hj with hj;omega)⟩
   case measure=>simp[intOf];omega
  ·obtain rfl:k=n:=by have:=HL.out;omega
   have hnews: ∀j u,(bdc Yx)[j]?=some u→(wr.alloc Zh7).cell? ((⟨wr.heap.size,0,none⟩:Addr).add j)=some u:=by
    intro j u hu
    rw[Addr.add_lit,Nat.zero_add,Za (heap_alloc_new wr Zh7)]
    rw[← hu, ← Array.getElem?_toList]
    rfl
   have HNEW:=Hd hnews
   have HONE:Hid (∀u∈bdc Yx,u.oneCell'=true):=Hd fun u hu=>Zfv [Yx] u (by simpa using hu)
   obtain⟨xc,hxc⟩: ∃xc,xc=bdc Yx:=⟨_,rfl⟩
   have HXC:=Hd hxc
   have HXL:Hid (xc.length=1*4):=Hd (by rw[hxc];rfl)
   rw[← hxc] at HNEW HONE
   clear hnews hxc
   go_wp2_with (at_builtin;refine wpList_append_fits _ rfl (.tmp 22) (.tmp 25) 26 rfl w.heap.size 133 i0 4 Tryz.underlying26 hi0 hz1 w.heap.size k (k+1) _ rfl (hown.alloc _) ⟨wr.heap.size,0,none⟩ 1 1 xc rfl HXL.out HNEW.out HONE.out (by omega) ?_;intro w2 hown2 hg2)
   go_ret
   have hl2:(l.take k).flatMap bdc++xc=(l++ [Yx]).flatMap bdc:=by
    rw[List.take_of_length_le (by rw[HL.out];exact Nat.le_refl _),List.flatMap_append,HXC.out]
    simp
   rw[hl2] at hown2
   obtain⟨hblk,hold⟩:=ZgP hown2
   exact⟨w.heap.size,rfl,⟨HL.out,by omega,Nat.le_refl _,hblk⟩,(hbr.alloc hbr.size _).grown hg2 (Nat.le_trans hbr.size (by simp)) (by intro j hj;injection hj with hj;omega)⟩
def Zj3 (n:Nat)(w:World)(i5:Value)(wr:World):Prop:= ∃k q:Nat,i5= .int .i64 (k:Int)∧k≤n∧wr=w.drewN q
theorem Zbe (w0:World)(B:Nat)(A:Option Addr)(g n c:Nat)(l:List Bd)(w:World)(ht:Y6 w0 w g n l)(h:Rs bdc 4 w B A n c l):
  Calls Tryz.prog 43 #[.slice (some ⟨g,0,none⟩) n (n+1),.slice A n c] w fun e w'=>e= .returned (.bool true)∧Below w.heap.size w w':=by
 have HL:=Hd h.len
 have htop:=ht.top
 have HT:=Hd ht
 have HR:=Hd h
 have hsl: ∀W,(Instr.slice 26 (.slice (some ⟨g,0,none⟩) n (n+1)) none (some (.int .i64 ((n:Int)+1))) none).run Tryz.prog W= .ok (.slice (some ⟨g,0,none⟩) (n+1) (n+1)) W:=by
  intro W
  rw[run_slice_h W 26 _ _ _ (by rw[show Tryz.prog.elem 26=133 by simp[Program.elem,Tryz.underlying26]];exact Tryz.underlying26) .i64 _ (by omega) (by omega),show Tryz.prog.elem 26=133 by simp[Program.elem,Tryz.underlying26],ZcM]
  simp[Result.andThen,sliced,Addr.add]
 clear ht h
 go_enter Tryz.func43,Tryz.ntmps43
 have hn1: ¬n+1≤n:=by omega
 have hn2:((n:Int) !=(n:Int))=false:=by simp
 go_wp2
 go_loopw [5] (fun i5 wr=>Zj3 n w i5 wr) (fun i5 _=>n - (intOf i5).toNat)
 case atStart=>exact⟨0,0,rfl,by omega,rfl⟩
 case round=>
  obtain⟨k,q,rfl,hk,rfl⟩:=hrel
  by_cases hlt:k < n
  ·have hk':k < l.length:=by rw[HL.out];exact hlt
   obtain⟨b,o,rfl,-,c0,c1,c2,c3⟩:=V4 HR.out hk'
   obtain⟨b2,o2,heq,-,d0,d1,d2,d3⟩:=V4 HT.out.rs hk'
   injection heq with heq
   injection heq with e1 e2
   subst e1
   subst e2
   rw[Nat.zero_add] at d0 d1 d2 d3
   generalize l[k]=x at*
   obtain⟨xa,xn,xb,xm⟩:=x
   simp only at c0 c1 c2 c3 d0 d1 d2 d3
   clear hsl
   go_wp2
   go_quiet (fail)
   go_wp2
   go_roundw
   case rel=>exact⟨k+1,_,by go_num,by omega,rfl⟩
   case measure=>simp[intOf];omega
  ·obtain rfl:k=n:=by omega
   have ht2:=HT.out.keep (La.below_drewN w q)
   have hbW:Below w.heap.size w (w.drewN q):=La.below_drewN w q
   generalize w.drewN q=W at*
   obtain⟨b2,o2,heq,-,d0,d1,d2,d3⟩:=V4 ht2.full (k:=k) (by simp[HL.out])
   injection heq with heq
   injection heq with e1 e2
   subst e1
   subst e2
   have hmk:(l++ [Yx])[k]'(by simp[HL.out])=Yx:=by
    rw[List.getElem_append_right (by rw[HL.out];exact Nat.le_refl _)]
    simp
   rw[hmk] at d0 d1 d2 d3
   rw[Nat.zero_add] at d0 d1 d2 d3
   unfold Yx at d0 d1 d2 d3
   simp only at d0 d1 d2 d3
   clear hmk ht2
   have hb: ∀o:Obj,Below w.heap.size w (W.alloc o):=fun o=>hbW.alloc hbW.size o
   go_wp2_with fail
   go_ret
   exact⟨rfl,hb _⟩
end Go.Proofs.YtfmpecnkkbpdlaaGreatDoor.Bo
namespace Go.Proofs.YtfmpecnkkbpdlaaGreatDoor
open Go.RowKit
structure Uh (w w':World)(g1 g2 g3:Nat)(s:Sch)(n n1 n2:Nat):Prop where
 t1:Uw w w' g1 n s.b
 t2:Bo.Y6 w w' g2 n1 s.l
 t3:Bo.Y6 w w' g3 n2 s.e
 ne:g2≠g3
theorem Uh.keep {w w' w2:World}{g1 g2 g3:Nat}{s:Sch}{n n1 n2:Nat}(h:Uh w w' g1 g2 g3 s n n1 n2)(hb:Below w'.heap.size w' w2):Uh w w2 g1 g2 g3 s n n1 n2:=⟨h.t1.keep hb,h.t2.keep hb,h.t3.keep hb,h.ne⟩
theorem Uh.at {w w':World}{g1 g2 g3:Nat}{s:Sch}{n n1 n2:Nat}(h:Uh w w' g1 g2 g3 s n n1 n2)(hf: ∀x∈s.b,x.Fits)(ht: ∀x∈s.b,x.TFits)(hl: ∀b∈s.l,b.Fit)(he: ∀b∈s.e,b.Fit):Uo w' s (some ⟨g1,0,none⟩) n (n+1) (some ⟨g2,0,none⟩) n1 (n1+1) (some ⟨g3,0,none⟩) n2 (n2+1):=
 ⟨h.t1.rs,hf,ht,h.t2.rs,hl,h.t3.rs,he⟩
def ZSch (w:World)(g:Nat):Prop:=w.heap[g]?=some (.cells #[.int .i64 0,.int .i64 0,.slice none 0 0,.slice none 0 0,.slice none 0 0] 28 (0,0))
theorem ZSch.keep {w W:World}{g:Nat}(h:ZSch w g)(hb:Below w.heap.size w W):ZSch W g:=(hb.block g (Zd h)).trans h
theorem ZcF (s:Sch)(A:Option Addr)(n c:Nat)(A1:Option Addr)(n1 c1:Nat)(A2:Option Addr)(n2 c2:Nat)(w:World)(h:Uo w s A n c A1 n1 c1 A2 n2 c2)(hn:n≤1000)(hn1:n1≤1000)(hn2:n2≤1000):
  Calls Tryz.prog 8 #[schV s A n c A1 n1 c1 A2 n2 c2] w fun e w'=> ∃g1 g2 g3,e= .returned (schV s (some ⟨g1,0,none⟩) n (n+1) (some ⟨g2,0,none⟩) n1 (n1+1) (some ⟨g3,0,none⟩) n2 (n2+1))∧Uh w w' g1 g2 g3 s n n1 n2∧Below w.heap.size w w':=by
 obtain⟨lv,ev,bo,sl,se⟩:=s
 unfold schV
 have hal:Below w.heap.size w (w.alloc (.cells #[.int .i64 lv,.int .i64 ev,.slice A n c,.slice A1 n1 c1,.slice A2 n2 c2] 28)):=bA
 have hz:=Box.new w lv ev A n c A1 n1 c1 A2 n2 c2
 obtain⟨wa,hwa⟩: ∃wa,w.alloc (.cells #[.int .i64 lv,.int .i64 ev,.slice A n c,.slice A1 n1 c1,.slice A2 n2 c2] 28)=wa:=⟨_,rfl⟩
 rw[hwa] at hz hal
 have hsa:wa.heap.size=w.heap.size+1:=by rw[← hwa,World.size_alloc]
 have hy:ZSch (wa.alloc (.cells #[.int .i64 0,.int .i64 0,.slice none 0 0,.slice none 0 0,.slice none 0 0] 28)) wa.heap.size:=heap_alloc_new wa _
 have hv:Below wa.heap.size wa (wa.alloc (.cells #[.int .i64 0,.int .i64 0,.slice none 0 0,.slice none 0 0,.slice none 0 0] 28)):=bA
 rw[hsa] at hy
 replace hz:=hz.keep hv
 have hb:=hal.trans (hv.mono hal.size)
 have h2:=h.keep hb
 clear hv hal hsa h
 subst hwa
 have HB:=Hd hb
 have H:=Hd h2
 clear hb h2
 go_enter Tryz.func8,Tryz.ntmps8
 go_wp2_with fail
 generalize (w.alloc (.cells #[.int .i64 lv,.int .i64 ev,.slice A n c,.slice A1 n1 c1,.slice A2 n2 c2] 28)).alloc (.cells #[.int .i64 0,.int .i64 0,.slice none 0 0,.slice none 0 0,.slice none 0 0] 28)=w1 at*
 refine wro [0,1,2,3,4,5,7,8,10,11,6,9,12,13,14] [6,9,12,14] 15 (fun w'=>Box w' w.heap.size lv ev A n c A1 n1 c1 A2 n2 c2) (by kernel_rfl) (fun _ _ _ _ _ h=>h) (hz.keep (Below.refl _ w1).drew) ?_
 simp only[steps,sE,sD]
 repeat((first|refine Zg rfl ?_|(refine Zf (v:= ?_) rfl rfl ?_ ?_;rotate_left;(focus(rintro w' ⟨hS0,hS1,hS2,hS3,hS4⟩;go_simp;try with_reducible rfl))));simp only[Act.put,sA,sB,sC])
 have hv:Below w1.heap.size w1 w1.drew:=(Below.refl _ _).drew
 replace hz:=hz.keep hv
 replace hy:=hy.keep hv
 have hb2:=HB.out.trans (hv.mono HB.out.size)
 have h2:=H.out.keep hv
 clear HB H hv
 have HB:=Hd hb2
 have H:=Hd h2
 clear hb2 h2
 generalize w1.drew=w2 at*
 refine Ze rfl rfl (fun K hK=> ?_)
 go_simp
 refine(twin_any A n c bo w2 H.out.b hn).mono ?_
 rintro e w3 ⟨g1,rfl,t1,hv⟩
 replace hz:=hz.keep hv
 replace hy:=hy.keep hv
 have hb2:=HB.out.trans (hv.mono HB.out.size)
 have h2:=H.out.keep hv
 have hsz1:=HB.out.size
 clear HB H hv
 have HB:=Hd hb2
 have H:=Hd h2
 clear hb2 h2
 refine hK.out _ _ (fun _=>hz) ?_
 clear hK K
 try simp only[Act.put,sA,sB,sC]
 refine Ze rfl rfl (fun K hK=> ?_)
 go_simp
 refine(Bo.Zbd A1 n1 c1 sl w3 H.out.l hn1).mono ?_
 rintro e w4 ⟨g2,rfl,t2,hv⟩
 replace hz:=hz.keep hv
 replace hy:=hy.keep hv
 replace t1:=t1.keep hv
 have hb2:=HB.out.trans (hv.mono HB.out.size)
 have h2:=H.out.keep hv
 have hsz2:=HB.out.size
 clear HB H hv
 have HB:=Hd hb2
 have H:=Hd h2
 clear hb2 h2
 refine hK.out _ _ (fun _=>hz) ?_
 clear hK K
 try simp only[Act.put,sA,sB,sC]
 refine Ze rfl rfl (fun K hK=> ?_)
 go_simp
 refine(Bo.Zbd A2 n2 c2 se w4 H.out.e hn2).mono ?_
 rintro e w5 ⟨g3,rfl,t3,hv⟩
 have hlt2:=Zd t2.blk
 replace hz:=hz.keep hv
 replace hy:=hy.keep hv
 replace t1:=t1.keep hv
 replace t2:=t2.keep hv
 have hb2:=HB.out.trans (hv.mono HB.out.size)
 have hsz3:=HB.out.size
 clear HB H hv
 have HB:=Hd hb2
 clear hb2
 refine hK.out _ _ (fun _=>hz) ?_
 clear hK K
 try simp only[Act.put,sA,sB,sC]
 repeat((first|refine Zg rfl ?_|(refine Zf (v:= ?_) rfl rfl ?_ ?_;rotate_left;(focus(rintro w' ⟨hS0,hS1,hS2,hS3,hS4⟩;go_simp;try with_reducible rfl))));simp only[Act.put,sA,sB,sC])
 have HT:Hid (Uh w w5 g1 g2 g3 ⟨lv,ev,bo,sl,se⟩ n n1 n2):=Hd ⟨⟨t1.len,t1.top,Nat.le_trans hsz1 t1.old,t1.blk⟩,⟨t2.len,t2.top,Nat.le_trans hsz2 t2.old,t2.blk⟩,⟨t3.len,t3.top,Nat.le_trans hsz3 t3.old,t3.blk⟩,by have:=t3.old;omega⟩
 have HG:Hid (g1≠w.heap.size+1∧g2≠w.heap.size+1∧g3≠w.heap.size+1):=Hd (by
  have ht: ∀(g t:Nat) (cs:Array Value),w5.heap[g]?=some (.cells cs t (0,0))→t≠28→g≠w.heap.size+1:=fun g t cs hg hne e=>by
   have hh:=hy
   unfold ZSch at hh
   rw[← e,hg] at hh
   injection hh with hh
   injection hh with _ hh
   exact hne hh
  exact⟨ht _ _ _ t1.blk (by decide),ht _ _ _ t2.blk (by decide),ht _ _ _ t3.blk (by decide)⟩)
 clear t1 t2 t3 hlt2 hsz1 hsz2 hsz3
 have o0:w5.cell? ⟨w.heap.size+1,0,none⟩=some (.int .i64 0):=by rw[Za hy];rfl
 have o1:w5.cell? ⟨w.heap.size+1,1,none⟩=some (.int .i64 0):=by rw[Za hy];rfl
 have o2:w5.cell? ⟨w.heap.size+1,2,none⟩=some (.slice none 0 0):=by rw[Za hy];rfl
 have o3:w5.cell? ⟨w.heap.size+1,3,none⟩=some (.slice none 0 0):=by rw[Za hy];rfl
 have o4:w5.cell? ⟨w.heap.size+1,4,none⟩=some (.slice none 0 0):=by rw[Za hy];rfl
 have fz: ∀i,w5.frozen? ⟨w.heap.size+1,i,none⟩=false:=fun i=>Zb hy
 have f0:=fz 0
 have f1:=fz 1
 have f2:=fz 2
 have f3:=fz 3
 have f4:=fz 4
 clear fz
 refine Ze rfl rfl (fun K hK=> ?_)
 go_simp
 obtain⟨w6,hw6⟩: ∃w6,w6=((((w5.setCell ⟨w.heap.size+1,0,none⟩ (.int .i64 lv)).setCell ⟨w.heap.size+1,1,none⟩ (.int .i64 ev)).setCell ⟨w.heap.size+1,2,none⟩ (.slice (some ⟨g1,0,none⟩) n (n+1))).setCell ⟨w.heap.size+1,3,none⟩ (.slice (some ⟨g2,0,none⟩) n1 (n1+1))).setCell ⟨w.heap.size+1,4,none⟩ (.slice (some ⟨g3,0,none⟩) n2 (n2+1)):=⟨_,rfl⟩
 have hbs:Below (w.heap.size+1) w5 w6:=hw6▸(((((Below.refl _ w5).setCell (p:=⟨w.heap.size+1,0,none⟩) lR _).setCell (p:=⟨w.heap.size+1,1,none⟩) lR _).setCell (p:=⟨w.heap.size+1,2,none⟩) lR _).setCell (p:=⟨w.heap.size+1,3,none⟩) lR _).setCell (p:=⟨w.heap.size+1,4,none⟩) lR _
 have hblk:w6.heap[w.heap.size+1]?=some (.cells #[.int .i64 lv,.int .i64 ev,.slice (some ⟨g1,0,none⟩) n (n+1),.slice (some ⟨g2,0,none⟩) n1 (n1+1),.slice (some ⟨g3,0,none⟩) n2 (n2+1)] 28 (0,0)):=by
  rw[hw6,Zj (Zj (Zj (Zj (Zj hy _) _) _) _) _]
  rfl
 have hoth: ∀b,b≠w.heap.size+1→w6.heap[b]?=w5.heap[b]?:=fun b hne=>by
  rw[hw6]
  exact(Below.heap_setCell _ _ _ _ hne).trans ((Below.heap_setCell _ _ _ _ hne).trans ((Below.heap_setCell _ _ _ _ hne).trans ((Below.heap_setCell _ _ _ _ hne).trans (Below.heap_setCell _ _ _ _ hne))))
 have hbx:Box w6 w.heap.size lv ev A n c A1 n1 c1 A2 n2 c2:=
  ⟨(hbs.cell (p:=⟨w.heap.size,0,none⟩) (Nat.lt_succ_self _)).trans hz.z0,(hbs.cell (p:=⟨w.heap.size,1,none⟩) (Nat.lt_succ_self _)).trans hz.z1,(hbs.cell (p:=⟨w.heap.size,2,none⟩) (Nat.lt_succ_self _)).trans hz.z2,(hbs.cell (p:=⟨w.heap.size,3,none⟩) (Nat.lt_succ_self _)).trans hz.z3,(hbs.cell (p:=⟨w.heap.size,4,none⟩) (Nat.lt_succ_self _)).trans hz.z4⟩
 have HT2:Hid (Uh w w6 g1 g2 g3 ⟨lv,ev,bo,sl,se⟩ n n1 n2):=Hd ⟨⟨HT.out.t1.len,HT.out.t1.top,HT.out.t1.old,(hoth _ HG.out.1).trans HT.out.t1.blk⟩,⟨HT.out.t2.len,HT.out.t2.top,HT.out.t2.old,(hoth _ HG.out.2.1).trans HT.out.t2.blk⟩,⟨HT.out.t3.len,HT.out.t3.top,HT.out.t3.old,(hoth _ HG.out.2.2).trans HT.out.t3.blk⟩,HT.out.ne⟩
 have HB2:Hid (Below w.heap.size w w6):=Hd (HB.out.trans ⟨hbs.os,hbs.tape,hbs.output,hbs.size,fun b hb=>hbs.block b (by omega)⟩)
 rw[← hw6]
 clear hw6 hoth hbs o0 o1 o2 o3 o4 f0 f1 f2 f3 f4 hy hz HB HT HG
 refine hK.out _ _ (fun _=>hbx) ?_
 clear hK K hbx
 try simp only[Act.put,sA,sB,sC]
 refine Zi ?_
 go_wp2_with fail
 exact bodyPost_ret (results_cell_row (P:=Tryz.prog) rfl _ _ (w.heap.size+1) 28 _ (0,0) _ rfl hblk Tryz.underlying28 rfl rfl) rfl ⟨g1,g2,g3,rfl,HT2.out,HB2.out⟩
theorem ZcG (w0:World)(g1 g2 g3:Nat)(s:Sch)(A:Option Addr)(n c:Nat)(A1:Option Addr)(n1 c1:Nat)(A2:Option Addr)(n2 c2:Nat)(w:World)(ht:Uh w0 w g1 g2 g3 s n n1 n2)(h:Uo w s A n c A1 n1 c1 A2 n2 c2):
  Calls Tryz.prog 14 #[schV s (some ⟨g1,0,none⟩) n (n+1) (some ⟨g2,0,none⟩) n1 (n1+1) (some ⟨g3,0,none⟩) n2 (n2+1),schV s A n c A1 n1 c1 A2 n2 c2] w fun e w'=>e= .returned (.bool true)∧Below w.heap.size w w':=by
 obtain⟨lv,ev,bo,sl,se⟩:=s
 unfold schV
 have hz:=Box.new w lv ev (some ⟨g1,0,none⟩) n (n+1) (some ⟨g2,0,none⟩) n1 (n1+1) (some ⟨g3,0,none⟩) n2 (n2+1)
 have hb:Below w.heap.size w (w.alloc (.cells #[.int .i64 lv,.int .i64 ev,.slice (some ⟨g1,0,none⟩) n (n+1),.slice (some ⟨g2,0,none⟩) n1 (n1+1),.slice (some ⟨g3,0,none⟩) n2 (n2+1)] 28)):=bA
 obtain⟨wa,hwa⟩: ∃wa,w.alloc (.cells #[.int .i64 lv,.int .i64 ev,.slice (some ⟨g1,0,none⟩) n (n+1),.slice (some ⟨g2,0,none⟩) n1 (n1+1),.slice (some ⟨g3,0,none⟩) n2 (n2+1)] 28)=wa:=⟨_,rfl⟩
 rw[hwa] at hz hb
 have hsa:wa.heap.size=w.heap.size+1:=by rw[← hwa,World.size_alloc]
 have hy:=Box.new wa lv ev A n c A1 n1 c1 A2 n2 c2
 have hv:Below wa.heap.size wa (wa.alloc (.cells #[.int .i64 lv,.int .i64 ev,.slice A n c,.slice A1 n1 c1,.slice A2 n2 c2] 28)):=bA
 rw[hsa] at hy
 replace hz:=hz.keep hv
 replace hb:=hb.trans (hv.mono hb.size)
 replace ht:=ht.keep hb
 replace h:=h.keep hb
 clear hv hsa
 subst hwa
 have hl:(lv==lv)=true:=by simp
 have he:(ev==ev)=true:=by simp
 have z0:=hz.z0
 have z1:=hz.z1
 have z2:=hz.z2
 have z3:=hz.z3
 have z4:=hz.z4
 have y0:=hy.z0
 have y1:=hy.z1
 have y2:=hy.z2
 have y3:=hy.z3
 have y4:=hy.z4
 clear hz hy
 go_enter Tryz.func14,Tryz.ntmps14
 go_wp2_with fail
 refine(ZgT _ _ A g1 n c bo _ ht.t1 h.b).mono ?_
 rintro e w1 ⟨rfl,hv⟩
 replace ht:=ht.keep hv
 replace h:=h.keep hv
 replace z3:=Zc z3 hv
 replace z4:=Zc z4 hv
 replace y3:=Zc y3 hv
 replace y4:=Zc y4 hv
 replace hb:=hb.trans (hv.mono hb.size)
 clear hv z0 z1 z2 y0 y1 y2
 go_wp2_with fail
 refine(Bo.Zbe _ _ A1 g2 n1 c1 sl _ ht.t2 h.l).mono ?_
 rintro e w2 ⟨rfl,hv⟩
 replace ht:=ht.keep hv
 replace h:=h.keep hv
 replace z4:=Zc z4 hv
 replace y4:=Zc y4 hv
 replace hb:=hb.trans (hv.mono hb.size)
 clear hv z3 y3
 go_wp2_with fail
 refine(Bo.Zbe _ _ A2 g3 n2 c2 se _ ht.t3 h.e).mono ?_
 rintro e w3 ⟨rfl,hv⟩
 replace hb:=hb.trans (hv.mono hb.size)
 clear hv z4 y4 ht h
 go_wp2_with fail
 go_ret
 exact⟨rfl,hb⟩
end Go.Proofs.YtfmpecnkkbpdlaaGreatDoor
namespace Go.Proofs.YtfmpecnkkbpdlaaGreatDoor
open Go.RowKit
theorem ZeN {S:Bo.Sr}{q:Nat}{l:List Bo.Bd}{lo hi:List Nat}{k:Int}(h:Got S q l lo hi)(hk:k=(q:Int))(hn:VA S k l):False:=by
 obtain⟨q',e,hn⟩:=hn
 obtain rfl:q'=q:=by omega
 have:=hn lo h.low.has
 rw[h.hold] at this
 cases this
theorem ZcT {S:Bo.Sr}{q q':Nat}{l:List Bo.Bd}{lo hi lo' hi':List Nat}{k:Int}(h:Got S q l lo hi)(h':Got S q' l lo' hi')(hk:k=(q:Int))(hk':k=(q':Int)):q=q'∧lo=lo'∧hi=hi':=by
 obtain rfl:q=q':=by omega
 exact⟨rfl,Bo.Zar h.ok h.low h'.low,Bo.Zar h.ok.turn h.high h'.high⟩
theorem Zib {S X:Bo.Sr}{s:Sch}{x:Int}{ql qe:Nat}{lo hi lo2 hi2:List Nat}(hx:x≠0)(h:s.check S X=x∨(s.check S X=0∧x=10∧(VA S s.lv s.l∨VA X s.ev s.e)))(ok:OfOk S X s ql qe lo hi lo2 hi2):False:=by
 rcases h with h|⟨-,-,h|h⟩
 ·exact hx (h.symm.trans ok.chk)
 ·exact ZeN ok.gl ok.lv h
 ·exact ZeN ok.ge ok.ev h
theorem Zaa (w:World):YD w Sen.none Q4.nil:=Yg.none w
theorem of_same {S X:Bo.Sr}{s:Sch}{w w':World}{x x':Int}{p q p' q':Q4}(h:OfIs S X s w x p q)(h':OfIs S X s w' x' p' q'):x=x'∧ ∃z1 z2,YD w z1 p∧YD w z2 q∧YD w' z1 p'∧YD w' z2 q':=by
 rcases h with⟨hx,rfl,rfl,h⟩|⟨hx,ql,qe,lo,hi,lo2,hi2,ok,h1,h2⟩
 ·rcases h' with⟨hx',rfl,rfl,h'⟩|⟨hx',ql,qe,lo,hi,lo2,hi2,ok,-,-⟩
  ·refine⟨?_,_,_,Zaa w,Zaa w,Zaa w',Zaa w'⟩
   rcases h with h|⟨h,e,-⟩
   ·rcases h' with h'|⟨h',-,-⟩
    ·exact h.symm.trans h'
    ·exact absurd (h.symm.trans h') hx
   ·rcases h' with h'|⟨-,e',-⟩
    ·exact absurd (h'.symm.trans h) hx'
    ·exact e.trans e'.symm
  ·exact(Zib hx h ok).elim
 ·rcases h' with⟨hx',rfl,rfl,h'⟩|⟨hx',ql',qe',lo',hi',lo2',hi2',ok',h3,h4⟩
  ·exact(Zib hx' h' ok).elim
  ·obtain⟨rfl,rfl,rfl⟩:=ZcT ok.gl ok'.gl ok.lv ok'.lv
   obtain⟨rfl,rfl,rfl⟩:=ZcT ok.ge ok'.ge ok.ev ok'.ev
   exact⟨hx.trans hx'.symm,_,_,h1,h2,h3,h4⟩
theorem of_nil {S X:Bo.Sr}{s:Sch}{w:World}{x:Int}{p q:Q4}(h:OfIs S X s w x p q)(hx:x≠0):p=Q4.nil∧q=Q4.nil:=by
 rcases h with⟨-,e1,e2,-⟩|⟨e,-⟩
 ·exact⟨e1,e2⟩
 ·exact absurd e hx
theorem Zg3 (w w':World):Lies w w' Q4.nil Q4.nil:=
 ⟨⟨w.heap.size,w.heap.size,w.heap.size,Nat.le_refl _,Nat.le_refl _,.inl ⟨rfl,rfl,rfl,rfl,rfl,rfl,rfl,rfl,rfl⟩,.inl ⟨rfl,rfl,rfl,rfl,rfl,rfl,rfl,rfl,rfl⟩⟩,
  ⟨none,0,0,[],none,0,0,[],World.ownsRow_nil _ _ _ _,World.ownsRow_nil _ _ _ _,(fun _ e=>by cases e),.inl ⟨rfl,rfl,rfl⟩,.inl ⟨rfl,rfl,rfl⟩⟩⟩
structure Cut where
 g:Nat
 o:Nat
 n:Nat
 no:Nat
def cutc (e:Cut):List Value:= [.slice (some ⟨e.g,e.o,none⟩) e.n e.n,.slice none 0 0,.int .i64 (e.no:Int)]
def zCut:Cut:=⟨0,0,0,0⟩
def Zkb (bk hb cap:Nat)(es:List Cut):Seg:=⟨bk,hb,cap,es.length,fun i=>(es.getD i zCut).g,fun i=>(es.getD i zCut).o,fun i=>(es.getD i zCut).n,fun i=>(es.getD i zCut).no⟩
theorem Qc {es:List Cut}{i:Nat}(h:i < es.length):es.getD i zCut=es[i]:=by rw[List.getD_eq_getElem?_getD,List.getElem?_eq_getElem h];rfl
theorem Zkc {w:World}{bk base:Nat}{v:Value}{es:List Cut}(hcell:w.cell? ⟨bk,5,none⟩=some v)(hbb: ∃B,w.heap[bk]?=some (.cells B 64 (0,0)))(own:w.ownsRow base 180 3 v es.length (es.flatMap cutc))(h0:es.length=0→v= .slice none 0 0)(h8:es.length≤1000)
  (hl: ∀e∈es,e.n≤1000∧e.no≤1000∧ ∃cur,w.heap[e.g]?=some (.cells cur 4 (0,0))∧e.o+e.n≤cur.size) (hap:es.Pairwise fun a b=>a.g=b.g→a.o+a.n≤b.o∨b.o+b.n≤a.o):
  ∃hb cap,(0 < es.length→base≤hb)∧ZP (Zkb bk hb cap es) w:=by
 have hblk:(Zkb bk 0 0 es).Blks w:=fun i hi=>by
  obtain⟨_,_,cur,e1,e2⟩:=hl _ (List.getElem_mem hi)
  show ∃cur,w.heap[(es.getD i zCut).g]?=some (.cells cur 4 (0,0))∧(es.getD i zCut).o+(es.getD i zCut).n≤cur.size
  rw[Qc hi]
  exact⟨cur,e1,e2⟩
 have hsm: ∀i,i < es.length→(es.getD i zCut).n≤1000∧(es.getD i zCut).no≤1000:=fun i hi=>by
  obtain⟨h1,h2,-⟩:=hl _ (List.getElem_mem hi)
  rw[Qc hi]
  exact⟨h1,h2⟩
 have hne: ∀i j,i < es.length→j < es.length→i≠j→(es.getD i zCut).g=(es.getD j zCut).g→(es.getD i zCut).o+(es.getD i zCut).n≤(es.getD j zCut).o∨(es.getD j zCut).o+(es.getD j zCut).n≤(es.getD i zCut).o:=fun i j hi hj hij=>by
  rw[Qc hi,Qc hj]
  rw[List.pairwise_iff_getElem] at hap
  intro e
  rcases Nat.lt_or_gt_of_ne hij with h|h
  ·exact hap i j hi hj h e
  ·exact(hap j i hj hi h e.symm).symm
 by_cases he:es.length=0
 ·obtain rfl:=h0 he
  refine⟨0,0,fun h=>absurd h (by omega),⟨h8,?_,fun i hi=>absurd hi (by show ¬i < es.length;omega),fun i hi=>absurd hi (by show ¬i < es.length;omega),fun i hi=>absurd hi (by show ¬i < es.length;omega),hbb,fun h=>absurd h (by show ¬0 < es.length;omega),hsm,hblk,hne⟩⟩
  show w.cell? ⟨bk,5,none⟩=some (.slice (if es.length=0 then none else some ⟨0,0,none⟩) es.length 0)
  rw[hcell,if_pos he,he]
 ·rcases own.2 with⟨_,e⟩|⟨hb,cap,cur,hv,hbb',hH,hnc,hcm,hcs,htake⟩
  ·exact absurd e he
  subst hv
  have hcell3: ∀i (h:i < es.length) j u,(cutc es[i])[j]?=some u→w.cell? ⟨hb,i*3+j,none⟩=some u:=by
   intro i hi j u hu
   have hj:j < 3:=by
    have:=(List.getElem?_eq_some_iff.1 hu).1
    simpa [cutc] using this
   have:=own.cells (g:=hb) rfl (i*3+j) u (by rw[flat_get (enc:=cutc) (fun _=>rfl) es i hi j hj];exact hu)
   rwa [Addr.add_lit,Nat.zero_add] at this
  refine⟨hb,cap,fun _=>hbb',⟨h8,?_,fun i hi=> ?_,fun i hi=>⟨none,0,0,hcell3 i hi 1 _ rfl⟩,fun i hi=> ?_,hbb,fun _=>⟨cur,hH⟩,hsm,hblk,hne⟩⟩
  ·show w.cell? ⟨bk,5,none⟩=some (.slice (if es.length=0 then none else some ⟨hb,0,none⟩) es.length cap)
   rw[hcell,if_neg he]
  ·show w.cell? ⟨hb,i*3,none⟩=some (.slice (some ⟨(es.getD i zCut).g,(es.getD i zCut).o,none⟩) (es.getD i zCut).n (es.getD i zCut).n)
   have hi:i < es.length:=hi
   rw[Qc hi]
   exact hcell3 i hi 0 _ rfl
  ·show w.cell? ⟨hb,i*3+2,none⟩=some (.int .i64 ((es.getD i zCut).no:Int))
   have hi:i < es.length:=hi
   rw[Qc hi]
   exact hcell3 i hi 2 _ rfl
def ZdS (w:World)(A:Option Addr)(n r:Nat):Prop:= ∀i,i < n→ ∃g,A=some ⟨g,0,none⟩∧w.cell? ⟨g,i,none⟩=some (.slice (some ⟨r,i*n,none⟩) n n)
theorem ZdS.kept {w w':World}{A:Option Addr}{n r:Nat}{D:Nat→Prop}(h:ZdS w A n r)(hk:Kept D w w')(hd: ∀b,b < w.heap.size→ ¬D b):ZdS w' A n r:=fun i hi=>by
 obtain⟨g,e,hc⟩:=h i hi
 have hl:=World.block_lt_of_cell? _ _ hc
 exact⟨g,e,(hk.cell (p:=⟨g,i,none⟩) hl (hd g hl)).trans hc⟩
def Uy (r n k i:Nat):List Cut:=(List.range i).map fun j=>⟨r,j*n,n,k+j+1⟩
theorem Zbk (r n k i:Nat):(Uy r n k i).length=i:=by simp[Uy]
theorem ZdT (r n k i:Nat):(Uy r n k i).flatMap cutc++ [.slice (some ⟨r,i*n,none⟩) n n,.slice none 0 0,.int .i64 (((k+i:Nat):Int)+1)]=(Uy r n k (i+1)).flatMap cutc:=by
 rw[Uy,Uy,List.range_succ,List.map_append,List.flatMap_append]
 simp[cutc]
abbrev kx (A:Option Addr)(n c k:Nat):List Value:= [.slice A n c,.slice none 0 0,.int .i64 ((k:Int)+1)]
def Zkd (bk k n r:Nat)(vN:Value)(kN:Nat)(xN:List Value)(vB:Value)(kB:Nat)(xB:List Value)(vS:Value)(kS:Nat)(xS:List Value)(vM:Value)(kM:Nat)(xM:List Value)(vO:Value)(kO:Nat)(xO:List Value)(vL:Value)(kL:Nat)(xL:List Value)(w:World)(v4:Value)(wr:World):Prop:=
 ∃(i:Nat) (u:Value),v4= .int .i64 (i:Int)∧i≤n∧ZZ wr bk (k+i) vN kN xN vB kB xB vS kS xS vM kM xM u (kO+i) (xO++(Uy r n k i).flatMap cutc) vL kL xL∧(i=0→u=vO)∧Kept (fun b=>bk≤b) w wr
theorem Zab (bk k n c r:Nat)(A:Option Addr)(vN:Value)(kN:Nat)(xN:List Value)(vB:Value)(kB:Nat)(xB:List Value)(vS:Value)(kS:Nat)(xS:List Value)(vM:Value)(kM:Nat)(xM:List Value)(vO:Value)(kO:Nat)(xO:List Value)(vL:Value)(kL:Nat)(xL:List Value)(w0 w:World)(hbk:bk=w0.heap.size)(hR:ZdS w0 A n r)(h0:Kept (fun b=>bk≤b) w0 w)(hB:ZZ w bk k vN kN xN vB kB xB vS kS xS vM kM xM vO kO xO vL kL xL)(hn:n≤256)(hk:k≤700)(hkO:kO≤700)(hkL:kL≤700):
  Calls Tryz.prog 38 #[.pointer (some ⟨bk,0,none⟩),.slice A n c] w fun e w'=>e= .returned (.tuple #[])∧ ∃u v',ZZ w' bk (k+n+1) vN kN xN vB kB xB vS kS xS vM kM xM u (kO+n) (xO++(Uy r n k n).flatMap cutc) v' (kL+1) (xL++kx A n c (k+n))∧(n=0→u=vO)∧Kept (fun b=>bk≤b) w w':=by
 have HR:=Hd hR
 have H0:=Hd h0
 have HBK:=Hd hbk
 have HB:=Hd hB
 clear hR h0 hbk hB
 go_enter Tryz.func38,Tryz.ntmps38
 go_wp2
 go_loopw [4] (fun v4 wr=>Zkd bk k n r vN kN xN vB kB xB vS kS xS vM kM xM vO kO xO vL kL xL w v4 wr) (fun v4 _=>n - (intOf v4).toNat)
 case atStart=>exact⟨0,vO,rfl,Nat.zero_le _,by simpa [Uy] using HB.out,fun _=>rfl,Kept.refl _ _⟩
 case round=>
  obtain⟨i,u,rfl,hi,hBk,hnil,hK⟩:=hrel
  have HBk:=Hd hBk
  have HNIL:=Hd hnil
  have HK:=Hd hK
  clear hBk hnil hK
  by_cases hlt:i < n
  ·obtain⟨g,rfl,c0⟩:=HR.out i hlt
   have hgl:=World.block_lt_of_cell? _ _ c0
   have hne: ¬(fun b=>bk≤b) g:=fun h=>by have h:bk≤g:=h;have:=HBK.out;have hgl:g < w0.heap.size:=hgl;omega
   have c1:wr.cell? ⟨g,i,none⟩=some (.slice (some ⟨r,i*n,none⟩) n n):=((H0.out.trans HK.out).cell (p:=⟨g,i,none⟩) hgl hne).trans c0
   clear c0 hgl hne
   obtain⟨o,ho⟩: ∃o,i*n=o:=⟨_,rfl⟩
   rw[ho] at c1
   have HO:=Hd ho
   clear ho
   go_wp2_with fail
   refine(Zh0 bk (k+i) vN kN xN vB kB xB vS kS xS vM kM xM u (kO+i) _ vL kL xL (some ⟨r,o,none⟩) n n _ HBk.out (by omega) (by omega)).mono ?_
   rintro e w1 ⟨rfl,v1,B1,K1⟩
   have K1':=UG K1 HBk.out.oO
   have HREL:Hid (Zkd bk k n r vN kN xN vB kB xB vS kS xS vM kM xM vO kO xO vL kL xL w (.int .i64 ((i:Int)+1)) w1):=Hd ⟨i+1,v1,by go_num,hlt,by
    rw[← HO.out,List.append_assoc,ZdT] at B1
    exact B1,fun h=>absurd h (Nat.succ_ne_zero i),HK.out.trans K1'⟩
   clear B1 K1 K1' c1
   go_wp2_with fail
   go_roundw
   case rel=>exact HREL.out
   case measure=>simp[intOf];omega
  ·obtain rfl:n=i:=by omega
   go_wp2_with fail
   refine(Zgy bk (k+n) vN kN xN vB kB xB vS kS xS vM kM xM u (kO+n) _ vL kL xL A n c _ HBk.out (by omega) (by omega)).mono ?_
   rintro e w1 ⟨rfl,v1,B1,K1⟩
   have K1':=UG K1 HBk.out.oL
   go_wp2_with fail
   go_end0
   exact⟨rfl,u,v1,B1,HNIL.out,HK.out.trans K1'⟩
theorem ZdU (bk k:Nat)(vN:Value)(kN:Nat)(xN:List Value)(vB:Value)(kB:Nat)(xB:List Value)(vS:Value)(kS:Nat)(xS:List Value)(vM:Value)(kM:Nat)(xM:List Value)(vO:Value)(kO:Nat)(xO:List Value)(vL:Value)(kL:Nat)(xL:List Value)(s:Sch)(A:Option Addr)(n c:Nat)(A1:Option Addr)(n1 c1:Nat)(A2:Option Addr)(n2 c2:Nat)(w:World)(hB:ZZ w bk k vN kN xN vB kB xB vS kS xS vM kM xM vO kO xO vL kL xL)(hk:k≤700)(hkN:kN≤700)(hkB:kB≤700):
  Calls Tryz.prog 11 #[.pointer (some ⟨bk,0,none⟩),schV s A n c A1 n1 c1 A2 n2 c2] w fun e w'=>e= .returned (.tuple #[])∧ ∃v' u',ZZ w' bk (k+1+1+1) v' (kN+1) (xN++kx A n c k) u' (kB+1+1) (xB++kx A1 n1 c1 (k+1)++kx A2 n2 c2 (k+1+1)) vS kS xS vM kM xM vO kO xO vL kL xL∧Kept (fun b=>bk≤b) w w':=by
 obtain⟨lv,ev,bo,sl,se⟩:=s
 unfold schV
 have hlt:=Zd hB.blk
 have hal:=heap_alloc_new w (.cells #[.int .i64 lv,.int .i64 ev,.slice A n c,.slice A1 n1 c1,.slice A2 n2 c2] 28)
 have hb:Below w.heap.size w (w.alloc (.cells #[.int .i64 lv,.int .i64 ev,.slice A n c,.slice A1 n1 c1,.slice A2 n2 c2] 28)):=bA
 have hB1:ZZ (w.alloc (.cells #[.int .i64 lv,.int .i64 ev,.slice A n c,.slice A1 n1 c1,.slice A2 n2 c2] 28)) bk k vN kN xN vB kB xB vS kS xS vM kM xM vO kO xO vL kL xL:=⟨(hb.block bk hlt).trans hB.blk,hB.oN.alloc _,hB.oB.alloc _,hB.oS.alloc _,hB.oM.alloc _,hB.oO.alloc _,hB.oL.alloc _⟩
 have K0:Kept (fun b=>bk≤b) w (w.alloc (.cells #[.int .i64 lv,.int .i64 ev,.slice A n c,.slice A1 n1 c1,.slice A2 n2 c2] 28)):=(Kept.refl _ _).alloc _
 obtain⟨g,hg⟩: ∃g,w.heap.size=g:=⟨_,rfl⟩
 rw[hg] at hal
 have z2:=(Za (i:=2) hal).trans rfl
 clear hb hB
 go_enter Tryz.func11,Tryz.ntmps11
 go_wp2_with fail
 generalize w.alloc (.cells #[.int .i64 lv,.int .i64 ev,.slice A n c,.slice A1 n1 c1,.slice A2 n2 c2] 28)=wa at*
 refine(ZhY bk k vN kN xN vB kB xB vS kS xS vM kM xM vO kO xO vL kL xL A n c wa hB1 (by omega) (by omega)).mono ?_
 rintro e w1 ⟨rfl,v1,hB2,k1⟩
 replace hal:=UH k1 hB1.oN hB1.blk hal (by decide) (by decide)
 have K1:=K0.trans (UG k1 hB1.oN)
 have z3:=(Za (i:=3) hal).trans rfl
 clear K0 k1 hB1 z2
 subst hg
 go_wp2_with fail
 refine(Zdy bk (k+1) v1 (kN+1) _ vB kB xB vS kS xS vM kM xM vO kO xO vL kL xL A1 n1 c1 w1 hB2 (by omega) (by omega)).mono ?_
 rintro e w2 ⟨rfl,v2,hB3,k2⟩
 replace hal:=UH k2 hB2.oB hB2.blk hal (by decide) (by decide)
 have K2:=K1.trans (UG k2 hB2.oB)
 have z4:=(Za (i:=4) hal).trans rfl
 clear K1 k2 hB2 z3
 go_wp2_with fail
 refine(Zdy bk (k+1+1) v1 (kN+1) _ v2 (kB+1) _ vS kS xS vM kM xM vO kO xO vL kL xL A2 n2 c2 w2 hB3 (by omega) (by omega)).mono ?_
 rintro e w3 ⟨rfl,v3,hB4,k3⟩
 have K3:=K2.trans (UG k3 hB3.oB)
 clear K2 k3 hB3 z4 hal
 go_wp2_with fail
 go_end0
 exact⟨rfl,v1,v3,hB4,K3⟩
theorem Rh (bk k r:Nat)(vN:Value)(kN:Nat)(xN:List Value)(vB:Value)(kB:Nat)(xB:List Value)(vS:Value)(kS:Nat)(xS:List Value)(vM:Value)(kM:Nat)(xM:List Value)(vO:Value)(kO:Nat)(xO:List Value)(vL:Value)(kL:Nat)(xL:List Value)(A1:Option Addr)(n1 c1:Nat)(A2:Option Addr)(n2 c2:Nat)(A3:Option Addr)(n3 c3:Nat)(A4:Option Addr)(n4 c4:Nat)(w0 w:World)(hbk:bk=w0.heap.size)(hR:ZdS w0 A4 n4 r)(h0:Kept (fun b=>bk≤b) w0 w)(hB:ZZ w bk k vN kN xN vB kB xB vS kS xS vM kM xM vO kO xO vL kL xL)(hn:n4≤256)(hk:k≤690)(hkS:kS≤700)(hkM:kM≤690)(hkO:kO≤700)(hkL:kL≤700):
  Calls Tryz.prog 12 #[.pointer (some ⟨bk,0,none⟩),senV A1 n1 c1 A2 n2 c2 A3 n3 c3 A4 n4 c4] w fun e w'=>e= .returned (.tuple #[])∧ ∃uS uM uO uL,ZZ w' bk (k+1+1+1+n4+1) vN kN xN vB kB xB uS (kS+1) (xS++kx A1 n1 c1 k) uM (kM+1+1) (xM++kx A2 n2 c2 (k+1)++kx A3 n3 c3 (k+1+1)) uO (kO+n4) (xO++(Uy r n4 (k+1+1+1) n4).flatMap cutc) uL (kL+1) (xL++kx A4 n4 c4 (k+1+1+1+n4))∧(n4=0→uO=vO)∧Kept (fun b=>bk≤b) w w':=by
 unfold senV
 have HR:=Hd hR
 have H0:=Hd h0
 have HBK:=Hd hbk
 have hlt:=Zd hB.blk
 have hal:=heap_alloc_new w (.cells #[.slice A1 n1 c1,.slice A2 n2 c2,.slice A3 n3 c3,.slice A4 n4 c4] 43)
 have hb:Below w.heap.size w (w.alloc (.cells #[.slice A1 n1 c1,.slice A2 n2 c2,.slice A3 n3 c3,.slice A4 n4 c4] 43)):=bA
 have hB1:ZZ (w.alloc (.cells #[.slice A1 n1 c1,.slice A2 n2 c2,.slice A3 n3 c3,.slice A4 n4 c4] 43)) bk k vN kN xN vB kB xB vS kS xS vM kM xM vO kO xO vL kL xL:=⟨(hb.block bk hlt).trans hB.blk,hB.oN.alloc _,hB.oB.alloc _,hB.oS.alloc _,hB.oM.alloc _,hB.oO.alloc _,hB.oL.alloc _⟩
 have K0:Kept (fun b=>bk≤b) w (w.alloc (.cells #[.slice A1 n1 c1,.slice A2 n2 c2,.slice A3 n3 c3,.slice A4 n4 c4] 43)):=(Kept.refl _ _).alloc _
 obtain⟨g,hg⟩: ∃g,w.heap.size=g:=⟨_,rfl⟩
 rw[hg] at hal
 have z0:=(Za (i:=0) hal).trans rfl
 clear hb hB hR h0 hbk
 go_enter Tryz.func12,Tryz.ntmps12
 go_wp2_with fail
 generalize w.alloc (.cells #[.slice A1 n1 c1,.slice A2 n2 c2,.slice A3 n3 c3,.slice A4 n4 c4] 43)=wa at*
 refine(ZhZ bk k vN kN xN vB kB xB vS kS xS vM kM xM vO kO xO vL kL xL A1 n1 c1 wa hB1 (by omega) (by omega)).mono ?_
 rintro e w1 ⟨rfl,v1,hB2,k1⟩
 replace hal:=UH k1 hB1.oS hB1.blk hal (by decide) (by decide)
 have K1:=K0.trans (UG k1 hB1.oS)
 have z1:=(Za (i:=1) hal).trans rfl
 clear K0 k1 hB1 z0
 subst hg
 go_wp2_with fail
 refine(Zdz bk (k+1) vN kN xN vB kB xB v1 (kS+1) _ vM kM xM vO kO xO vL kL xL A2 n2 c2 w1 hB2 (by omega) (by omega)).mono ?_
 rintro e w2 ⟨rfl,v2,hB3,k2⟩
 replace hal:=UH k2 hB2.oM hB2.blk hal (by decide) (by decide)
 have K2:=K1.trans (UG k2 hB2.oM)
 have z2:=(Za (i:=2) hal).trans rfl
 clear K1 k2 hB2 z1
 go_wp2_with fail
 refine(Zdz bk (k+1+1) vN kN xN vB kB xB v1 (kS+1) _ v2 (kM+1) _ vO kO xO vL kL xL A3 n3 c3 w2 hB3 (by omega) (by omega)).mono ?_
 rintro e w3 ⟨rfl,v3,hB4,k3⟩
 replace hal:=UH k3 hB3.oM hB3.blk hal (by decide) (by decide)
 have K3:=K2.trans (UG k3 hB3.oM)
 have z3:=(Za (i:=3) hal).trans rfl
 clear K2 k3 hB3 z2
 go_wp2_with fail
 refine(Zab bk (k+1+1+1) n4 c4 r A4 vN kN xN vB kB xB v1 (kS+1) _ v3 (kM+1+1) _ vO kO xO vL kL xL w0 w3 HBK.out HR.out (H0.out.trans K3) hB4 hn (by omega) (by omega) (by omega)).mono ?_
 rintro e w4 ⟨rfl,v4,v5,hB5,hnil,K4⟩
 have K5:=K3.trans K4
 clear K3 K4 hB4 z3 hal
 go_wp2_with fail
 go_end0
 exact⟨rfl,v1,v3,v4,v5,hB5,hnil,K5⟩
end Go.Proofs.YtfmpecnkkbpdlaaGreatDoor
namespace Go.Proofs.YtfmpecnkkbpdlaaGreatDoor
open Go.RowKit
theorem ZeK {bk hb cap:Nat}{es:List Ent}{b:Nat}(hd:(Zfo bk hb cap es).D es.length b): ∃e∈es,∃a,e.A=some a∧b=a.block:=by
 obtain⟨j,hj,hn,hb⟩:=hd
 have hget:es.getD j zEnt=es[j]:=by rw[List.getD_eq_getElem?_getD,List.getElem?_eq_getElem hj];rfl
 have hn:(es.getD j zEnt).A.isNone=false:=hn
 have hb:b=((es.getD j zEnt).A.map Addr.block).getD 0:=hb
 rw[hget] at hn hb
 refine⟨es[j],List.getElem_mem hj,?_⟩
 cases hA:es[j].A with
 |none=>rw[hA] at hn;cases hn
 |some a=>exact⟨a,rfl,by rw[hb,hA];rfl⟩
theorem Q8 {w w':World}{g n no:Nat}{l:List Bo.Bd}(h:Bo.Y6 w w' g n l):Lone 133 4 w' ⟨some ⟨g,0,none⟩,n,n+1,no⟩:=by
 refine .inr ⟨g,_,rfl,h.blk,?_,by show n≤n+1;omega,by show n+1≤maxLen;have:=h.top;unfold maxLen;omega,by show n≤1000000;have:=h.top;omega⟩
 have hl:=Vb Bo.ZE (l++ [Bo.Yx])
 show((l++ [Bo.Yx]).flatMap Bo.bdc).toArray.size=(n+1)*4
 rw[List.size_toArray,hl,List.length_append,h.len]
 rfl
theorem Zcd {w w':World}{g n no:Nat}{l:List Nd}(h:Uw w w' g n l):Lone 77 10 w' ⟨some ⟨g,0,none⟩,n,n+1,no⟩:=by
 refine .inr ⟨g,_,rfl,h.blk,?_,by show n≤n+1;omega,by show n+1≤maxLen;have:=h.top;unfold maxLen;omega,by show n≤1000000;have:=h.top;omega⟩
 have hl:=Vb U4 (l++ [Yy])
 show((l++ [Yy]).flatMap ndc).toArray.size=(n+1)*10
 rw[List.size_toArray,hl,List.length_append,h.len]
 rfl
structure OneL (lo hi:Nat)(W:World)(p:Q4)(r:Nat):Prop where
 m1: ∀no,Lone 72 1 W ⟨p.A2,p.n2,p.c2,no⟩
 m2: ∀no,Lone 72 1 W ⟨p.A3,p.n3,p.c3,no⟩
 mne: ∀x y,p.A2=some x→p.A3=some y→x.block≠y.block
 l: ∀no,Lone 78 1 W ⟨p.A4,p.n4,p.c4,no⟩
 n:p.n4≤256
 rows:ZdS W p.A4 p.n4 r
 cut:0 < p.n4→ ∃cur,W.heap[r]?=some (.cells cur 4 (0,0))∧cur.size=p.n4*p.n4
 g1: ∀x,p.A2=some x→lo≤x.block∧x.block < hi
 g2: ∀x,p.A3=some x→lo≤x.block∧x.block < hi
 g3: ∀x,p.A4=some x→lo≤x.block∧x.block < hi
 gr:0 < p.n4→lo≤r∧r < hi
theorem LieN.one {lo hi:Nat}{W:World}{p:Q4}(h:LieN lo hi W p): ∃r,OneL lo hi W p r:=by
 obtain⟨A1,n1,c1,A2,n2,c2,A3,n3,c3,A4,n4,c4⟩:=p
 rcases h with⟨e1,e2,e3,e4,e5,e6,e7,e8,e9⟩|⟨g1,g2,g3,r,m,x1,x2,x3,e1,e2,e3,e4,e5,e6,e7,e8,e9,hm,h1,s1,h2,s2,h3,h4,s4,b1,b2,b3,b4,b5,b6,b7,b8,hne⟩
 ·simp only at e1 e2 e3 e4 e5 e6 e7 e8 e9
  subst e1 e2 e3 e4 e5 e6 e7 e8 e9
  exact⟨0,fun _=> .inl ⟨rfl,rfl,rfl⟩,fun _=> .inl ⟨rfl,rfl,rfl⟩,(fun _ _ e=>by cases e),fun _=> .inl ⟨rfl,rfl,rfl⟩,Nat.zero_le _,(fun i hi=>absurd hi (Nat.not_lt_zero i)),(fun h=>absurd h (Nat.not_lt_zero 0)),(fun _ e=>by cases e),(fun _ e=>by cases e),(fun _ e=>by cases e),fun h=>absurd h (Nat.not_lt_zero 0)⟩
 ·simp only at e1 e2 e3 e4 e5 e6 e7 e8 e9
  subst e1 e2 e3 e4 e5 e6 e7 e8 e9
  have hmx:c4≤maxLen:=by unfold maxLen;omega
  refine⟨r,fun _=> .inr ⟨g1,x1,rfl,h1,by show x1.size=c4*1;omega,Nat.le_refl _,hmx,by show c4≤1000000;omega⟩,fun _=> .inr ⟨g2,x2,rfl,h2,by show x2.size=c4*1;omega,Nat.le_refl _,hmx,by show c4≤1000000;omega⟩,?_,fun _=> .inr ⟨g3,_,rfl,h3,by show(hdR r c4 c4).size=c4*1;simp[hdR],Nat.le_refl _,hmx,by show c4≤1000000;omega⟩,hm,fun i hi=>⟨g3,rfl,(Za h3).trans (RJ hi hi)⟩,fun _=>⟨x3,h4,s4⟩,?_,?_,?_,fun _=>⟨b7,b8⟩⟩
  ·intro x y hx hy
   injection hx with hx
   injection hy with hy
   subst hx hy
   exact hne
  ·intro x hx
   injection hx with hx
   subst hx
   exact⟨b1,b2⟩
  ·intro x hx
   injection hx with hx
   subst hx
   exact⟨b3,b4⟩
  ·intro x hx
   injection hx with hx
   subst hx
   exact⟨b5,b6⟩
theorem OneL.kept {lo hi:Nat}{W W':World}{p:Q4}{r:Nat}{D:Nat→Prop}(h:OneL lo hi W p r)(hk:Kept D W W')(hd: ∀b,b < W.heap.size→ ¬D b):OneL lo hi W' p r:=
 ⟨fun no=>(h.m1 no).keep hk hd,fun no=>(h.m2 no).keep hk hd,h.mne,fun no=>(h.l no).keep hk hd,h.n,h.rows.kept hk hd,fun h0=>by
  obtain⟨cur,e1,e2⟩:=h.cut h0
  exact⟨cur,(hk.block _ (Zd e1) (hd _ (Zd e1))).trans e1,e2⟩,h.g1,h.g2,h.g3,h.gr⟩
structure Held2 (base:Nat)(W:World)(p q:Q4)(r r':Nat):Prop where
 s1: ∀no,Lone 119 5 W ⟨p.A1,p.n1,p.c1,no⟩
 s2: ∀no,Lone 119 5 W ⟨q.A1,q.n1,q.c1,no⟩
 sne: ∀x y,p.A1=some x→q.A1=some y→x.block≠y.block
 g1: ∀x,p.A1=some x→base≤x.block
 g2: ∀x,q.A1=some x→base≤x.block
 two: ∃b0 b1 b2,base≤b0∧b0≤b1∧OneL b0 b1 W p r∧OneL b1 b2 W q r'
theorem Held2.kept {base:Nat}{W W':World}{p q:Q4}{r r':Nat}{D:Nat→Prop}(h:Held2 base W p q r r')(hk:Kept D W W')(hd: ∀b,b < W.heap.size→ ¬D b):Held2 base W' p q r r':=by
 obtain⟨b0,b1,b2,h1,h2,h3,h4⟩:=h.two
 exact⟨fun no=>(h.s1 no).keep hk hd,fun no=>(h.s2 no).keep hk hd,h.sne,h.g1,h.g2,b0,b1,b2,h1,h2,h3.kept hk hd,h4.kept hk hd⟩
theorem Held2.keep {base:Nat}{W W':World}{p q:Q4}{r r':Nat}(h:Held2 base W p q r r')(hb:Below W.heap.size W W'):Held2 base W' p q r r':=h.kept (Kept.of_below (D:=fun _=>False) hb) fun _ _=>id
theorem Held2.since {base base':Nat}{W:World}{p q:Q4}{r r':Nat}(h:Held2 base W p q r r')(hb:base'≤base):Held2 base' W p q r r':=by
 obtain⟨b0,b1,b2,h1,h2,h3,h4⟩:=h.two
 exact⟨h.s1,h.s2,h.sne,fun x e=>Nat.le_trans hb (h.g1 x e),fun x e=>Nat.le_trans hb (h.g2 x e),b0,b1,b2,Nat.le_trans hb h1,h2,h3,h4⟩
theorem ZcO {w:World}{base E sz n:Nat}{A:Option Addr}{c:Nat}{xs:List Value}(h:w.ownsRow base E sz (.slice A n c) n xs): ∀x,A=some x→base≤x.block∧(Value.slice A n c).ownBlock=some x.block:=fun x e=>by
 have e2:(Value.slice A n c).ownBlock=some x.block:=by rw[e];rfl
 exact⟨(h.lt _ e2).1,e2⟩
theorem ZeL {E sz:Nat}{w:World}{base:Nat}{A B:Option Addr}{n c m d:Nat}{xs:List Value}(ho:w.ownsRow base E sz (.slice A n c) n xs)(h:(B=none∧m=0∧d=0)∨(B=A∧m=n∧d=c))(hm:m≤256)(no:Nat):Lone E sz w ⟨B,m,d,no⟩:=by
 rcases h with⟨rfl,rfl,rfl⟩|⟨rfl,rfl,rfl⟩
 ·exact .inl ⟨rfl,rfl,rfl⟩
 ·exact Lone.of_own ho (by omega)
theorem Lies.held {w w':World}{p q:Q4}(h:Lies w w' p q)(hp:p.n1≤256)(hq:q.n1≤256): ∃r r',Held2 w.heap.size w' p q r r':=by
 obtain⟨⟨b0,b1,b2,h1,h2,h3,h4⟩,⟨A1,n1,c1,xs,A2,n2,c2,ys,o1,o2,hne,e1,e2⟩⟩:=h
 obtain⟨r,k1⟩:=h3.one
 obtain⟨r',k2⟩:=h4.one
 refine⟨r,r',ZeL o1 e1 hp,ZeL o2 e2 hq,?_,?_,?_,b0,b1,b2,h1,h2,k1,k2⟩
 ·intro x y hx hy
  rcases e1 with⟨e,-,-⟩|⟨e,-,-⟩
  ·rw[e] at hx;cases hx
  rcases e2 with⟨e',-,-⟩|⟨e',-,-⟩
  ·rw[e'] at hy;cases hy
  have a1:=(ZcO o1 x (e.symm.trans hx)).2
  have a2:=(ZcO o2 y (e'.symm.trans hy)).2
  intro he
  exact hne _ a1 (by rw[a2,he])
 ·intro x hx
  rcases e1 with⟨e,-,-⟩|⟨e,-,-⟩
  ·rw[e] at hx;cases hx
  ·exact(ZcO o1 x (e.symm.trans hx)).1
 ·intro x hx
  rcases e2 with⟨e,-,-⟩|⟨e,-,-⟩
  ·rw[e] at hx;cases hx
  ·exact(ZcO o2 x (e.symm.trans hx)).1
theorem ZgV {S X:Bo.Sr}{s:Sch}{w:World}{x:Int}{p q:Q4}(h:OfIs S X s w x p q):p.n1≤256∧q.n1≤256:=by
 rcases h with⟨-,rfl,rfl,-⟩|⟨-,ql,qe,lo,hi,lo2,hi2,ok,h1,h2⟩
 ·exact⟨Nat.zero_le _,Nat.zero_le _⟩
 ·have e1:(labB s.b).length=p.n1:=h1.rp.len
  have e2:(effB s.b).length=q.n1:=h2.rp.len
  have:=Ua s.b
  have:=Ub s.b
  omega
theorem of_held {S X:Bo.Sr}{s:Sch}{w w':World}{x:Int}{p q:Q4}(h:OfIs S X s w' x p q)(hl:x=0→Lies w w' p q): ∃r r',Held2 w.heap.size w' p q r r':=by
 obtain⟨h1,h2⟩:=ZgV h
 by_cases hx:x=0
 ·exact(hl hx).held h1 h2
 ·obtain⟨rfl,rfl⟩:=of_nil h hx
  exact(Zg3 w w').held h1 h2
theorem RY {E sz:Nat}{w:World}{a b:Ent}(ha:Lone E sz w a)(hb:Lone E sz w b): ∀e∈ [a,b],Lone E sz w e:=fun e he=>by
 simp only[List.mem_cons,List.not_mem_nil,or_false] at he
 rcases he with rfl|rfl
 ·exact ha
 ·exact hb
theorem Ku {a b:Ent}(h: ∀x y,a.A=some x→b.A=some y→x.block≠y.block): [a,b].Pairwise fun a b=> ∀x y,a.A=some x→b.A=some y→x.block≠y.block:=
 List.pairwise_cons.2 ⟨fun c hc=>by
  simp only[List.mem_singleton] at hc
  subst hc
  exact h,by simp⟩
theorem Ya {r n k:Nat}{e:Cut}(h:e∈Uy r n k n): ∃j,j < n∧e=⟨r,j*n,n,k+j+1⟩:=by
 obtain⟨j,hj,rfl⟩:=List.mem_map.1 h
 exact⟨j,List.mem_range.1 hj,rfl⟩
theorem ZeM {lo hi r k:Nat}{W:World}{p:Q4}(h:OneL lo hi W p r)(hk:k≤740): ∀e∈Uy r p.n4 k p.n4,e.n≤1000∧e.no≤1000∧ ∃cur,W.heap[e.g]?=some (.cells cur 4 (0,0))∧e.o+e.n≤cur.size:=fun e he=>by
 obtain⟨j,hj,rfl⟩:=Ya he
 obtain⟨cur,h1,h2⟩:=h.cut (by omega)
 have:=h.n
 refine⟨by show p.n4≤1000;omega,by show k+j+1≤1000;omega,cur,h1,?_⟩
 show j*p.n4+p.n4≤cur.size
 rw[h2, ← Nat.succ_mul]
 exact Nat.mul_le_mul_right _ hj
theorem Q9 (r n k:Nat):(Uy r n k n).Pairwise fun a b=>a.g=b.g→a.o+a.n≤b.o∨b.o+b.n≤a.o:=by
 refine List.pairwise_map.2 ((List.pairwise_lt_range (n:=n)).imp fun {i j} hlt _=> .inl ?_)
 show i*n+n≤j*n
 rw[← Nat.succ_mul]
 exact Nat.mul_le_mul_right _ hlt
theorem ZgW (base bk t1 t2 t3 n n1 n2 r r':Nat)(p q:Q4)(uN uB uS uM uO uL:Value)(W:World)
  (K:ZZ W bk ((0+1+1+1+1+1+1+p.n4+1)+1+1+1+q.n4+1) uN (0+1) ([]++kx (some ⟨t1,0,none⟩) n (n+1) 0) uB (0+1+1) ([]++kx (some ⟨t2,0,none⟩) n1 (n1+1) (0+1)++kx (some ⟨t3,0,none⟩) n2 (n2+1) (0+1+1)) uS (0+1+1) ([]++kx p.A1 p.n1 p.c1 (0+1+1+1)++kx q.A1 q.n1 q.c1 (0+1+1+1+1+1+1+p.n4+1)) uM (0+1+1+1+1) ([]++kx p.A2 p.n2 p.c2 ((0+1+1+1)+1)++kx p.A3 p.n3 p.c3 ((0+1+1+1)+1+1)++kx q.A2 q.n2 q.c2 ((0+1+1+1+1+1+1+p.n4+1)+1)++kx q.A3 q.n3 q.c3 ((0+1+1+1+1+1+1+p.n4+1)+1+1)) uO (0+p.n4+q.n4) ([]++(Uy r p.n4 ((0+1+1+1)+1+1+1) p.n4).flatMap cutc++(Uy r' q.n4 ((0+1+1+1+1+1+1+p.n4+1)+1+1+1) q.n4).flatMap cutc) uL (0+1+1) ([]++kx p.A4 p.n4 p.c4 ((0+1+1+1)+1+1+1+p.n4)++kx q.A4 q.n4 q.c4 ((0+1+1+1+1+1+1+p.n4+1)+1+1+1+q.n4)))
  (hnil:p.n4+q.n4=0→uO= .slice none 0 0) (hN:Lone 77 10 W ⟨some ⟨t1,0,none⟩,n,n+1,0+1⟩) (hB1:Lone 133 4 W ⟨some ⟨t2,0,none⟩,n1,n1+1,0+1+1⟩) (hB2:Lone 133 4 W ⟨some ⟨t3,0,none⟩,n2,n2+1,0+1+1+1⟩) (hne:t2≠t3) (H:Held2 base W p q r r') (b1:base≤t1) (b2:base≤t2) (b3:base≤t3) (b4:base≤bk):
  Calls Tryz.prog 15 #[.pointer (some ⟨bk,0,none⟩)] W fun e w'=>e= .returned (.bool true)∧Below base W w':=by
 obtain⟨c0,c1,c2,q0,q1,oa,ob⟩:=H.two
 have n256:=oa.n
 have m256:=ob.n
 have hbb: ∃B,W.heap[bk]?=some (.cells B 64 (0,0)):=⟨_,K.blk⟩
 obtain⟨gN,capN,hgN,eN,BN⟩:=Qy (K:=8) (HT:=191) (E:=77) (sz:=10) (es:= [⟨some ⟨t1,0,none⟩,n,n+1,0+1⟩]) (by rw[Za K.blk];rfl) hbb K.oN (by simp) (by simp) (by intro e he;simp only[List.mem_singleton] at he;subst he;exact hN) (by simp) (by intro e he;simp only[List.mem_singleton] at he;subst he;simp)
 obtain⟨gB,capB,hgB,eB,BB⟩:=Qy (K:=9) (HT:=194) (E:=133) (sz:=4) (es:= [⟨some ⟨t2,0,none⟩,n1,n1+1,0+1+1⟩,⟨some ⟨t3,0,none⟩,n2,n2+1,0+1+1+1⟩]) (by rw[Za K.blk];rfl) hbb K.oB (by simp) (by simp) (RY hB1 hB2) (Ku fun x y hx hy=>by
  injection hx with hx
  injection hy with hy
  subst hx hy
  exact hne) (by intro e he;simp only[List.mem_cons,List.not_mem_nil,or_false] at he;rcases he with rfl|rfl <;> simp)
 obtain⟨gS,capS,hgS,eS,BS⟩:=Qy (K:=11) (HT:=201) (E:=119) (sz:=5) (es:= [⟨p.A1,p.n1,p.c1,(0+1+1+1)+1⟩,⟨q.A1,q.n1,q.c1,(0+1+1+1+1+1+1+p.n4+1)+1⟩]) (by rw[Za K.blk];rfl) hbb K.oS (by simp) (by simp) (RY (H.s1 _) (H.s2 _)) (Ku H.sne) (by intro e he;simp only[List.mem_cons,List.not_mem_nil,or_false] at he;rcases he with rfl|rfl <;> (simp;try omega))
 obtain⟨gL,capL,hgL,eL,BL⟩:=Qy (K:=6) (HT:=183) (E:=78) (sz:=1) (es:= [⟨p.A4,p.n4,p.c4,(0+1+1+1)+1+1+1+p.n4+1⟩,⟨q.A4,q.n4,q.c4,(0+1+1+1+1+1+1+p.n4+1)+1+1+1+q.n4+1⟩]) (by rw[Za K.blk];rfl) hbb K.oL (by simp) (by simp) (RY (oa.l _) (ob.l _)) (Ku fun x y hx hy=>by
  have:=oa.g3 x hx
  have:=ob.g3 y hy
  omega) (by intro e he;simp only[List.mem_cons,List.not_mem_nil,or_false] at he;rcases he with rfl|rfl <;> (simp;try omega))
 obtain⟨gM,capM,hgM,eM,BM⟩:=Qy (K:=4) (HT:=177) (E:=72) (sz:=1) (es:= [⟨p.A2,p.n2,p.c2,(0+1+1+1)+1+1⟩,⟨p.A3,p.n3,p.c3,(0+1+1+1)+1+1+1⟩,⟨q.A2,q.n2,q.c2,(0+1+1+1+1+1+1+p.n4+1)+1+1⟩,⟨q.A3,q.n3,q.c3,(0+1+1+1+1+1+1+p.n4+1)+1+1+1⟩]) (by rw[Za K.blk];rfl) hbb K.oM (by simp) (by simp)
  (by
   intro e he
   simp only[List.mem_cons,List.not_mem_nil,or_false] at he
   rcases he with rfl|rfl|rfl|rfl
   ·exact oa.m1 _
   ·exact oa.m2 _
   ·exact ob.m1 _
   ·exact ob.m2 _)
  (by
   refine List.pairwise_cons.2 ⟨fun c hc=> ?_,List.pairwise_cons.2 ⟨fun c hc=> ?_,Ku ob.mne⟩⟩
   ·simp only[List.mem_cons,List.not_mem_nil,or_false] at hc
    intro x y hx hy
    rcases hc with rfl|rfl|rfl
    ·exact oa.mne x y hx hy
    ·have:=oa.g1 x hx
     have:=ob.g1 y hy
     omega
    ·have:=oa.g1 x hx
     have:=ob.g2 y hy
     omega
   ·simp only[List.mem_cons,List.not_mem_nil,or_false] at hc
    intro x y hx hy
    rcases hc with rfl|rfl
    ·have:=oa.g2 x hx
     have:=ob.g1 y hy
     omega
    ·have:=oa.g2 x hx
     have:=ob.g2 y hy
     omega)
  (by intro e he;simp only[List.mem_cons,List.not_mem_nil,or_false] at he;rcases he with rfl|rfl|rfl|rfl <;> (simp;try omega))
 obtain⟨es,hes⟩: ∃es,es=Uy r p.n4 ((0+1+1+1)+1+1+1) p.n4++Uy r' q.n4 ((0+1+1+1+1+1+1+p.n4+1)+1+1+1) q.n4:=⟨_,rfl⟩
 have hlen:es.length=0+p.n4+q.n4:=by rw[hes,List.length_append,Zbk,Zbk,Nat.zero_add]
 have hO:W.ownsRow (bk+1) 180 3 uO es.length (es.flatMap cutc):=by
  have:=K.oO
  rw[hlen,hes,List.flatMap_append]
  exact this
 obtain⟨gO,capO,hgO,BO⟩:=Zkc (es:=es) (by rw[Za K.blk];rfl) hbb hO (fun h=>hnil (by omega)) (by omega)
  (by
   intro e he
   rw[hes,List.mem_append] at he
   rcases he with he|he
   ·exact ZeM oa (by omega) e he
   ·exact ZeM ob (by omega) e he)
  (by
   rw[hes]
   refine List.pairwise_append.2 ⟨Q9 _ _ _,Q9 _ _ _,fun a ha b hb e=> ?_⟩
   obtain⟨i,hi,rfl⟩:=Ya ha
   obtain⟨j,hj,rfl⟩:=Ya hb
   have e:r=r':=e
   have:=oa.gr (by omega)
   have:=ob.gr (by omega)
   omega)
 have hbase:base≤W.heap.size:=Nat.le_trans b4 (Nat.le_of_lt (Zd K.blk))
 refine(ZfB _ _ _ _ _ _ bk _ _ _ _ _ _ _ _ BN rfl BB rfl BS rfl BM rfl BO rfl BL rfl K.blk).mono ?_
 rintro e w' ⟨rfl,k⟩
 refine⟨rfl,k.below hbase ?_⟩
 rintro b ((e|e)|(e|e)|(e|e)|(e|e)|(e|e)|e|e)
 ·have e:b=gN:=e
  omega
 ·obtain⟨x,hx,a,ha,rfl⟩:=ZeK e
  simp only[List.mem_singleton] at hx
  subst hx
  injection ha with ha
  subst ha
  exact b1
 ·have e:b=gB:=e
  omega
 ·obtain⟨x,hx,a,ha,rfl⟩:=ZeK e
  simp only[List.mem_cons,List.not_mem_nil,or_false] at hx
  rcases hx with rfl|rfl
  ·injection ha with ha
   subst ha
   exact b2
  ·injection ha with ha
   subst ha
   exact b3
 ·have e:b=gS:=e
  omega
 ·obtain⟨x,hx,a,ha,rfl⟩:=ZeK e
  simp only[List.mem_cons,List.not_mem_nil,or_false] at hx
  rcases hx with rfl|rfl
  ·exact H.g1 a ha
  ·exact H.g2 a ha
 ·have e:b=gM:=e
  omega
 ·obtain⟨x,hx,a,ha,rfl⟩:=ZeK e
  simp only[List.mem_cons,List.not_mem_nil,or_false] at hx
  rcases hx with rfl|rfl|rfl|rfl
  ·have:=oa.g1 a ha
   omega
  ·have:=oa.g2 a ha
   omega
  ·have:=ob.g1 a ha
   omega
  ·have:=ob.g2 a ha
   omega
 ·obtain⟨e,hm⟩:=e
  have e:b=gO:=e
  have hm:0 < es.length:=hm
  have:=hgO hm
  omega
 ·obtain⟨j,hj,rfl⟩:=e
  have hj:j < es.length:=hj
  show base≤(es.getD j zCut).g
  rw[Qc hj]
  have hm:=List.getElem_mem hj
  generalize es[j]=c at hm ⊢
  rw[hes,List.mem_append] at hm
  rcases hm with hm|hm
  ·obtain⟨i,hi,rfl⟩:=Ya hm
   have:=oa.gr (by omega)
   show base≤r
   omega
  ·obtain⟨i,hi,rfl⟩:=Ya hm
   have:=ob.gr (by omega)
   show base≤r'
   omega
 ·have e:b=gL:=e
  omega
 ·obtain⟨x,hx,a,ha,rfl⟩:=ZeK e
  simp only[List.mem_cons,List.not_mem_nil,or_false] at hx
  rcases hx with rfl|rfl
  ·have:=oa.g3 a ha
   omega
  ·have:=ob.g3 a ha
   omega
end Go.Proofs.YtfmpecnkkbpdlaaGreatDoor
