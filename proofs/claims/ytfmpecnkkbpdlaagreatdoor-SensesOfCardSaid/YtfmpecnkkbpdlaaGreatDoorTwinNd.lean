import Derived.Test.YtfmpecnkkbpdlaaGreatDoorDepths
import Derived.Test.YtfmpecnkkbpdlaaGreatDoorNdMay
set_option maxRecDepth 100000
set_option maxHeartbeats 2000000
namespace Go.Proofs.YtfmpecnkkbpdlaaGreatDoor
open Go.RowKit
end Go.Proofs.YtfmpecnkkbpdlaaGreatDoor
namespace Go.Proofs.YtfmpecnkkbpdlaaGreatDoor
open Go.RowKit
theorem check_any (A:Option Addr)(n c:Nat)(l:List Nd)(w:World)(h:Ns w w.heap.size A n c l)(hf: ∀x∈l,x.Fits):
  Calls Tryz.prog 98 #[.slice A n c] w fun e w'=>e= .returned (.int .i64 (Zt l:Int))∧Below w.heap.size w w':=by
 have hd:=Zd7 A n c l w h hf
 clear hf
 go_enter Tryz.func98,Tryz.ntmps98
 go_wp2_with fail
 refine hd.mono ?_
 rintro e w1 ⟨A',m,c',rfl,_,hb⟩
 go_wp2_with fail
 go_ret
 exact⟨rfl,hb⟩
theorem below_drewN (w:World)(q:Nat){B:Nat}:Below B w (w.drewN q):=⟨rfl,rfl,rfl,Nat.le_refl _,fun _ _=>rfl⟩
end Go.Proofs.YtfmpecnkkbpdlaaGreatDoor
namespace Go.Proofs.YtfmpecnkkbpdlaaGreatDoor
open Go.RowKit
def nInt:Nd:=⟨1,0,[105,110,116],0,false,0,false,0,false,0⟩
def nFun:Nd:=⟨5,0,[],2,false,0,false,0,false,0⟩
theorem fits_int:nInt.Fits:=⟨by decide,by decide,by decide,by decide,by decide,by decide,by decide⟩
theorem Zhs:nFun.Fits:=⟨by decide,by decide,by decide,by decide,by decide,by decide,by decide⟩
theorem ZfC (w:World):(Go.sizeOf 77).run Tryz.prog w= .ok 10 w:=by kernel_rfl
end Go.Proofs.YtfmpecnkkbpdlaaGreatDoor
namespace Go.Proofs.YtfmpecnkkbpdlaaGreatDoor
open Go.RowKit
def F.app:F→F→F
 | .nil,g=>g
 | .cons x ks r,g=> .cons x ks (F.app r g)
theorem F.app_num: ∀f g:F,(f.app g).num=f.num+g.num
 | .nil,_=>by simp[F.app,F.num]
 | .cons _ _ r,g=>by simp only[F.app,F.num,F.app_num r g];omega
theorem F.app_flat: ∀f g:F,(f.app g).flat=f.flat++g.flat
 | .nil,_=>rfl
 | .cons _ _ r,g=>by simp[F.app,F.flat,F.app_flat r g]
theorem F.app_ht: ∀f g:F,(f.app g).ht=max f.ht g.ht
 | .nil,_=>by simp[F.app,F.ht]
 | .cons _ _ r,g=>by simp only[F.app,F.ht,F.app_ht r g];omega
theorem F.app_wf: ∀f g:F,f.wf→g.wf→(f.app g).wf
 | .nil,_,_,h=>h
 | .cons _ _ r,g,⟨h1,h2,h3,h4,h5⟩,h=>⟨h1,h2,h3,h4,F.app_wf r g h5 h⟩
def zNd:Value:= .agg #[.int .u8 0,.int .i64 0,.string ByteArray.empty,.int .i64 0,.bool false,.int .u64 0,.bool false,.int .u64 0,.bool false,.int .u64 0]
theorem Zkt:(Tryz.prog.info? 77).map (fun i=>(i.zero,i.size,i.bytes))=some (some zNd,10,88):=by kernel_rfl
theorem Ze8 (l:List Nd): ∀u∈l.flatMap ndc,u.oneCell'=true:=by
 intro u hu
 obtain⟨x,_,hx⟩:=List.mem_flatMap.1 hu
 simp only[ndc,List.mem_cons,List.not_mem_nil,or_false] at hx
 rcases hx with rfl|rfl|rfl|rfl|rfl|rfl|rfl|rfl|rfl|rfl <;> rfl
theorem Rk {w:World}{g base n:Nat}{cs:Array Value}{l:List Nd}(hg:w.heap[g]?=some (.cells cs 77 (0,0)))(hb:base≤g)(hcs:cs.toList=l.flatMap ndc)(hn:l.length=n)(hm:n≤maxLen):
  w.ownsRow base 77 10 (.slice (some ⟨g,0,none⟩) n n) n (l.flatMap ndc):=by
 have hl:(l.flatMap ndc).length=n*10:=by rw[Vb U4,hn]
 refine⟨hl,.inr ⟨g,n,cs,rfl,hb,hg,Nat.le_refl _,hm,?_,?_⟩⟩
 ·rw[← Array.length_toList,hcs,hl]
 ·rw[hcs,List.take_of_length_le (by rw[hl];exact Nat.le_refl _)]
theorem Yk {x:Nd}{l:List Nd}(h:x.Fits)(k: ∀y∈l,y.Fits): ∀y∈x::l,y.Fits:=by
 intro y hy
 rcases List.mem_cons.1 hy with rfl|hy
 ·exact h
 ·exact k y hy
theorem ZcW: ∀y∈([]:List Nd),y.Fits:=by simp
theorem Qe {l:List Nd}(h:Zt l=0):l≠ []∧l.length≤128∧chk l [1]=0:=by
 unfold Zt at h
 split at h
 ·cases h
 split at h
 ·cases h
 exact⟨by assumption,by omega,h⟩
end Go.Proofs.YtfmpecnkkbpdlaaGreatDoor
namespace Go.Proofs.YtfmpecnkkbpdlaaGreatDoor
open Go.RowKit
def Yy:Nd:=⟨0,77,[],0,false,0,false,0,false,0⟩
abbrev Zj6:Obj:= .cells #[.int .u8 0,.int .i64 77,.string (str []),.int .i64 0,.bool false,.int .u64 0,.bool false,.int .u64 0,.bool false,.int .u64 0] 77
def oNd (x:Nd):Obj:= .cells #[.int .u8 x.k,.int .i64 x.m,.string (str x.s),.int .i64 x.n,.bool x.lv,.int .u64 x.ln,.bool x.pv,.int .u64 x.pn,.bool x.ev,.int .u64 x.en] 77
structure Uw (w w':World)(g n:Nat)(l:List Nd):Prop where
 len:l.length=n
 top:n≤100000
 old:w.heap.size≤g
 blk:w'.heap[g]?=some (.cells ((l++ [Yy]).flatMap ndc).toArray 77 (0,0))
theorem Uw.keep {w w' w2:World}{g n:Nat}{l:List Nd}(h:Uw w w' g n l)(hb:Below w'.heap.size w' w2):Uw w w2 g n l:=
 ⟨h.len,h.top,h.old,(hb.block g (Zd h.blk)).trans h.blk⟩
theorem Uw.rs {w w':World}{g n:Nat}{l:List Nd}(h:Uw w w' g n l):Ns w' w'.heap.size (some ⟨g,0,none⟩) n (n+1) l:=
 Rs.of_blk U4 h.blk ⟨ndc Yy,by simp⟩ h.len (by omega) (by have:=h.top;unfold maxLen;omega)
theorem Uw.full {w w':World}{g n:Nat}{l:List Nd}(h:Uw w w' g n l):Ns w' w'.heap.size (some ⟨g,0,none⟩) (n+1) (n+1) (l++ [Yy]):=
 Rs.of_blk U4 h.blk ⟨[],by simp⟩ (by simp[h.len]) (by omega) (by have:=h.top;unfold maxLen;omega)
theorem ZiS {w:World}{base g n:Nat}{xs:List Value}(h:w.ownsRow base 77 10 (.slice (some ⟨g,0,none⟩) n n) n xs):w.heap[g]?=some (.cells xs.toArray 77 (0,0))∧base≤g:=by
 rcases h.2 with⟨hv,_⟩|⟨g',cap,cur,hv,hb,hg,hnc,hcm,hcs,htake⟩
 ·cases hv
 ·injection hv with h1 h2 h3
  injection h1 with h1
  injection h1 with h1
  subst h1
  subst h3
  refine⟨?_,hb⟩
  rw[hg]
  have:cur=xs.toArray:=by
   apply Array.toList_inj.1
   rw[← htake,List.take_of_length_le (by rw[Array.length_toList,hcs];exact Nat.le_refl _)]
  rw[this]
def Zk0 (l:List Nd)(w:World)(g n:Nat)(v3 i4:Value)(wr:World):Prop:=
 ∃k:Nat,i4= .int .i64 (k:Int)∧k≤l.length∧v3= .slice (some ⟨g,0,none⟩) k (n+1)∧wr.ownsRow w.heap.size 77 10 (.slice (some ⟨g,0,none⟩) k (n+1)) k ((l.take k).flatMap ndc)∧Below w.heap.size w wr
theorem twin_any (A:Option Addr)(n c:Nat)(l:List Nd)(w:World)(h:Ns w w.heap.size A n c l)(hb:n≤1000):
  Calls Tryz.prog 23 #[.slice A n c] w fun e w'=> ∃g,e= .returned (.slice (some ⟨g,0,none⟩) n (n+1))∧Uw w w' g n l∧Below w.heap.size w w':=by
 obtain⟨i0,hi0,hz0,hz1,hz2⟩:=info_parts Zkt
 have HL:=Hd h.len
 go_enter Tryz.func23,Tryz.ntmps23
 go_wp2_with (at_make;refine wpList_make_own _ rfl _ _ 25 rfl w.heap.size 77 i0 zNd 10 Tryz.underlying25 hi0 hz0 hz1 .i64 .i64 _ (n+1) rfl rfl (by omega) (by rw[hz2];omega) (by unfold maxLen;omega) lR ?_;intro w1 hown1 hg1;have hb1:Below w.heap.size w w1:=(Below.refl _ _).grown hg1 lR (by simp))
 have hsl: ∀W,(Instr.slice 25 (.slice (some ⟨w.heap.size,0,none⟩) (n+1) (n+1)) none (some (.int .i64 (n:Int))) none).run Tryz.prog W= .ok (.slice (some ⟨w.heap.size,0,none⟩) n (n+1)) W:=by
  intro W
  rw[run_slice_h W 25 _ _ _ (by rw[show Tryz.prog.elem 25=77 by simp[Program.elem,Tryz.underlying25]];exact Tryz.underlying25) .i64 _ (by omega) (by omega),show Tryz.prog.elem 25=77 by simp[Program.elem,Tryz.underlying25],ZfC]
  simp[Result.andThen,sliced,Addr.add]
 go_loopw [3,4] (fun v3 i4 wr=>Zk0 l w w.heap.size n v3 i4 wr) (fun _ i4 _=>n - (intOf i4).toNat)
 case atStart=>exact⟨0,rfl,by omega,rfl,hown1,hb1⟩
 case round=>
  obtain⟨k,rfl,hk,rfl,hown,hbr⟩:=hrel
  clear hown1 hb1 hg1
  by_cases hlt:k < n
  ·have hk':k < l.length:=by rw[HL.out];exact hlt
   obtain⟨b,o,rfl,hbb,c0,c1,c2,c3,c4,c5,c6,c7,c8,c9⟩:=(h.below hbr).node hk'
   have HS:Hid ((l.take k).flatMap ndc++ndc l[k]=(l.take (k+1)).flatMap ndc):=Hd (by rw[List.take_succ_eq_append_getElem hk',List.flatMap_append];simp)
   generalize l[k]=x at*
   have hnews: ∀j u,(ndc x)[j]?=some u→(wr.alloc (oNd x)).cell? ((⟨wr.heap.size,0,none⟩:Addr).add j)=some u:=by
    intro j u hu
    rw[Addr.add_lit,Nat.zero_add,Za (heap_alloc_new wr (oNd x))]
    rw[← hu, ← Array.getElem?_toList]
    rfl
   have HNEW:=Hd hnews
   have hone: ∀u∈ndc x,u.oneCell'=true:=fun u hu=>Ze8 [x] u (by simpa using hu)
   have HONE:=Hd hone
   obtain⟨xc,hxc⟩: ∃xc,xc=ndc x:=⟨_,rfl⟩
   have HXL:Hid (xc.length=1*10):=Hd (by rw[hxc];rfl)
   rw[← hxc] at HNEW HONE HS
   obtain⟨xk,xm,xs,xn,xlv,xln,xpv,xpn,xev,xen⟩:=x
   unfold oNd at HNEW
   simp only at c0 c1 c2 c3 c4 c5 c6 c7 c8 c9 HNEW
   clear hnews hone hxc
   go_wp2_with (at_builtin;refine wpList_append_fits _ rfl (.tmp 15) (.tmp 20) 25 rfl w.heap.size 77 i0 10 Tryz.underlying25 hi0 hz1 w.heap.size k (n+1) _ rfl (hown.alloc _) ⟨wr.heap.size,0,none⟩ 1 1 xc rfl HXL.out HNEW.out HONE.out (by omega) ?_;intro w2 hown2 hg2)
   go_roundw
   case rel=>exact⟨k+1,by go_num,by omega,rfl,by rw[← HS.out];exact hown2,(hbr.alloc hbr.size _).grown hg2 (Nat.le_trans hbr.size (by simp)) (by intro j hj;injection hj with hj;omega)⟩
   case measure=>simp[intOf];omega
  ·obtain rfl:k=n:=by have:=HL.out;omega
   have hnews: ∀j u,(ndc Yy)[j]?=some u→(wr.alloc Zj6).cell? ((⟨wr.heap.size,0,none⟩:Addr).add j)=some u:=by
    intro j u hu
    rw[Addr.add_lit,Nat.zero_add,Za (heap_alloc_new wr Zj6)]
    rw[← hu, ← Array.getElem?_toList]
    rfl
   have HNEW:=Hd hnews
   have HONE:Hid (∀u∈ndc Yy,u.oneCell'=true):=Hd fun u hu=>Ze8 [Yy] u (by simpa using hu)
   obtain⟨xc,hxc⟩: ∃xc,xc=ndc Yy:=⟨_,rfl⟩
   have HXC:=Hd hxc
   have HXL:Hid (xc.length=1*10):=Hd (by rw[hxc];rfl)
   rw[← hxc] at HNEW HONE
   clear hnews hxc
   go_wp2_with (at_builtin;refine wpList_append_fits _ rfl (.tmp 22) (.tmp 24) 25 rfl w.heap.size 77 i0 10 Tryz.underlying25 hi0 hz1 w.heap.size k (k+1) _ rfl (hown.alloc _) ⟨wr.heap.size,0,none⟩ 1 1 xc rfl HXL.out HNEW.out HONE.out (by omega) ?_;intro w2 hown2 hg2)
   go_ret
   have hl2:(l.take k).flatMap ndc++xc=(l++ [Yy]).flatMap ndc:=by
    rw[List.take_of_length_le (by rw[HL.out];exact Nat.le_refl _),List.flatMap_append,HXC.out]
    simp
   rw[hl2] at hown2
   obtain⟨hblk,hold⟩:=ZiS hown2
   exact⟨w.heap.size,rfl,⟨HL.out,by omega,Nat.le_refl _,hblk⟩,(hbr.alloc hbr.size _).grown hg2 (Nat.le_trans hbr.size (by simp)) (by intro j hj;injection hj with hj;omega)⟩
def Zj7 (n:Nat)(w:World)(i5:Value)(wr:World):Prop:= ∃k q:Nat,i5= .int .i64 (k:Int)∧k≤n∧wr=w.drewN q
theorem ZgT (w0:World)(B:Nat)(A:Option Addr)(g n c:Nat)(l:List Nd)(w:World)(ht:Uw w0 w g n l)(h:Ns w B A n c l):
  Calls Tryz.prog 42 #[.slice (some ⟨g,0,none⟩) n (n+1),.slice A n c] w fun e w'=>e= .returned (.bool true)∧Below w.heap.size w w':=by
 have HL:=Hd h.len
 have htop:=ht.top
 have HT:=Hd ht
 have HR:=Hd h
 have hsl: ∀W,(Instr.slice 25 (.slice (some ⟨g,0,none⟩) n (n+1)) none (some (.int .i64 ((n:Int)+1))) none).run Tryz.prog W= .ok (.slice (some ⟨g,0,none⟩) (n+1) (n+1)) W:=by
  intro W
  rw[run_slice_h W 25 _ _ _ (by rw[show Tryz.prog.elem 25=77 by simp[Program.elem,Tryz.underlying25]];exact Tryz.underlying25) .i64 _ (by omega) (by omega),show Tryz.prog.elem 25=77 by simp[Program.elem,Tryz.underlying25],ZfC]
  simp[Result.andThen,sliced,Addr.add]
 clear ht h
 go_enter Tryz.func42,Tryz.ntmps42
 have hn1: ¬n+1≤n:=by omega
 have hn2:((n:Int) !=(n:Int))=false:=by simp
 go_wp2
 go_loopw [5] (fun i5 wr=>Zj7 n w i5 wr) (fun i5 _=>n - (intOf i5).toNat)
 case atStart=>exact⟨0,0,rfl,by omega,rfl⟩
 case round=>
  obtain⟨k,q,rfl,hk,rfl⟩:=hrel
  by_cases hlt:k < n
  ·have hk':k < l.length:=by rw[HL.out];exact hlt
   obtain⟨b,o,rfl,-,c0,c1,c2,c3,c4,c5,c6,c7,c8,c9⟩:=HR.out.node hk'
   obtain⟨b2,o2,heq,-,d0,d1,d2,d3,d4,d5,d6,d7,d8,d9⟩:=HT.out.rs.node hk'
   injection heq with heq
   injection heq with e1 e2
   subst e1
   subst e2
   rw[Nat.zero_add] at d0 d1 d2 d3 d4 d5 d6 d7 d8 d9
   generalize l[k]=x at*
   obtain⟨xk,xm,xs,xn,xlv,xln,xpv,xpn,xev,xen⟩:=x
   simp only at c0 c1 c2 c3 c4 c5 c6 c7 c8 c9 d0 d1 d2 d3 d4 d5 d6 d7 d8 d9
   clear hsl
   go_wp2
   go_quiet (fail)
   go_wp2
   go_roundw
   case rel=>exact⟨k+1,_,by go_num,by omega,rfl⟩
   case measure=>simp[intOf];omega
  ·obtain rfl:k=n:=by omega
   have ht2:=HT.out.keep (below_drewN w q)
   have hbW:Below w.heap.size w (w.drewN q):=below_drewN w q
   generalize w.drewN q=W at*
   obtain⟨b2,o2,heq,-,d0,d1,d2,d3,d4,d5,d6,d7,d8,d9⟩:=ht2.full.node (k:=k) (by simp[HL.out])
   injection heq with heq
   injection heq with e1 e2
   subst e1
   subst e2
   have hmk:(l++ [Yy])[k]'(by simp[HL.out])=Yy:=by
    rw[List.getElem_append_right (by rw[HL.out];exact Nat.le_refl _)]
    simp
   rw[hmk] at d0 d1 d2 d3 d4 d5 d6 d7 d8 d9
   rw[Nat.zero_add] at d0 d1 d2 d3 d4 d5 d6 d7 d8 d9
   unfold Yy at d0 d1 d2 d3 d4 d5 d6 d7 d8 d9
   simp only at d0 d1 d2 d3 d4 d5 d6 d7 d8 d9
   clear hmk ht2
   have hb: ∀o:Obj,Below w.heap.size w (W.alloc o):=fun o=>hbW.alloc hbW.size o
   go_wp2_with fail
   go_ret
   exact⟨rfl,hb _⟩
end Go.Proofs.YtfmpecnkkbpdlaaGreatDoor
