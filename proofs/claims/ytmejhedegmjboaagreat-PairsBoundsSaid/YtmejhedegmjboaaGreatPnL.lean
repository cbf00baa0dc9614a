import Derived.Test.YtmejhedegmjboaaGreatOpn
import Derived.Test.YtmejhedegmjboaaGreatPaB
import Derived.Test.YtmejhedegmjboaaGreatPaZ
set_option maxRecDepth 100000
set_option maxHeartbeats 2000000
namespace Go.Proofs.YtmejhedegmjboaaGreat.Tt
open Go.RowKit Go.Proofs.YtmejhedegmjboaaGreat.I
def QS:Tm:=(false,77)
abbrev Zjw:Obj:= .cells #[.bool false,.int .u64 77] 62
def oTm (x:Tm):Obj:= .cells #[.bool x.1,.int .u64 x.2] 62
theorem Zg5 (w:World):(Go.sizeOf 62).run Tryz.prog w= .ok 2 w:=by kernel_rfl
structure ZaL (w w':World)(g n:Nat)(l:List Tm):Prop where
 len:l.length=n
 top:n≤100000
 old:w.heap.size≤g
 blk:w'.heap[g]?=some (.cells ((l++ [QS]).flatMap tmc).toArray 62 (0,0))
theorem ZaL.keep {w w' w2:World}{g n:Nat}{l:List Tm}(h:ZaL w w' g n l)(hb:Below w'.heap.size w' w2):ZaL w w2 g n l:=
 ⟨h.len,h.top,h.old,(hb.block g (Zh h.blk)).trans h.blk⟩
theorem ZaL.rs {w w':World}{g n:Nat}{l:List Tm}(h:ZaL w w' g n l):Rs tmc 2 w' w'.heap.size (some ⟨g,0,none⟩) n (n+1) l:=
 Rs.of_blk ZK h.blk ⟨tmc QS,by simp⟩ h.len (by omega) (by have:=h.top;unfold maxLen;omega)
theorem ZaL.full {w w':World}{g n:Nat}{l:List Tm}(h:ZaL w w' g n l):Rs tmc 2 w' w'.heap.size (some ⟨g,0,none⟩) (n+1) (n+1) (l++ [QS]):=
 Rs.of_blk ZK h.blk ⟨[],by simp⟩ (by simp[h.len]) (by omega) (by have:=h.top;unfold maxLen;omega)
theorem ZiQ {w:World}{base g n:Nat}{xs:List Value}(h:w.ownsRow base 62 2 (.slice (some ⟨g,0,none⟩) n n) n xs):w.heap[g]?=some (.cells xs.toArray 62 (0,0))∧base≤g:=by
 rcases h.2 with⟨hv,_⟩|⟨g',cap,cur,hv,hb,hg,hnc,hcm,hcs,htake⟩
 ·cases hv
 ·(
 injection hv with h1 h2 h3
 injection h1 with h1
 injection h1 with h1
 subst h1
 subst h3
 refine⟨?_,hb⟩
 rw[hg]
 have:cur=xs.toArray:=by
  apply Array.toList_inj.1
  rw[← htake,List.take_of_length_le (by rw[Array.length_toList,hcs];exact Nat.le_refl _)]
 rw[this])
def ZmA (l:List Tm)(w:World)(g n:Nat)(v3 i4:Value)(wr:World):Prop:=
 ∃k:Nat,i4= .int .i64 (k:Int)∧k≤l.length∧v3= .slice (some ⟨g,0,none⟩) k (n+1)∧wr.ownsRow w.heap.size 62 2 (.slice (some ⟨g,0,none⟩) k (n+1)) k ((l.take k).flatMap tmc)∧Below w.heap.size w wr
theorem Zg6 (A:Option Addr)(n c:Nat)(l:List Tm)(w:World)(h:Rs tmc 2 w w.heap.size A n c l)(hb:n≤1000):
  Calls Tryz.prog 12 #[.slice A n c] w fun e w'=> ∃g,e= .returned (.slice (some ⟨g,0,none⟩) n (n+1))∧ZaL w w' g n l∧Below w.heap.size w w':=by
 obtain⟨i0,hi0,hz0,hz1,hz2⟩:=info_parts Kv
 have HL:=Hd h.len
 go_enter Tryz.func12,Tryz.ntmps12
 go_wp2_with (at_make;refine wpList_make_own _ rfl _ _ 29 rfl w.heap.size 62 i0 (.agg #[.bool false,.int .u64 0]) 2 Tryz.underlying29 hi0 hz0 hz1 .i64 .i64 _ (n+1) rfl rfl (by omega) (by rw[hz2];omega) (by unfold maxLen;omega) lR ?_;intro w1 hown1 hg1;have hb1:Below w.heap.size w w1:=(Below.refl _ _).grown hg1 lR (by simp))
 have hsl: ∀W,(Instr.slice 29 (.slice (some ⟨w.heap.size,0,none⟩) (n+1) (n+1)) none (some (.int .i64 (n:Int))) none).run Tryz.prog W= .ok (.slice (some ⟨w.heap.size,0,none⟩) n (n+1)) W:=by(
 intro W
 rw[run_slice_h W 29 _ _ _ (by rw[show Tryz.prog.elem 29=62 by simp[Program.elem,Tryz.underlying29]];exact Tryz.underlying29) .i64 _ (by omega) (by omega),show Tryz.prog.elem 29=62 by simp[Program.elem,Tryz.underlying29],Zg5]
 simp[Result.andThen,sliced,Addr.add])
 go_loopw [3,4] (fun v3 i4 wr=>ZmA l w w.heap.size n v3 i4 wr) (fun _ i4 _=>n - (intOf i4).toNat)
 case atStart=>exact⟨0,rfl,by omega,rfl,hown1,hb1⟩
 case round=>(
 obtain⟨k,rfl,hk,rfl,hown,hbr⟩:=hrel
 clear hown1 hb1 hg1
 by_cases hlt:k < n
 ·(
 have hk':k < l.length:=by rw[HL.out];exact hlt
 obtain⟨b,o,rfl,hbb,c0,c1⟩:=Ue (h.below hbr) hk'
 have HS:Hid ((l.take k).flatMap tmc++tmc l[k]=(l.take (k+1)).flatMap tmc):=Hd (by rw[List.take_succ_eq_append_getElem hk',List.flatMap_append];simp)
 generalize l[k]=x at*
 have hnews: ∀j u,(tmc x)[j]?=some u→(wr.alloc (oTm x)).cell? ((⟨wr.heap.size,0,none⟩:Addr).add j)=some u:=by(
 intro j u hu
 rw[Addr.add_lit,Nat.zero_add,Zb (heap_alloc_new wr (oTm x))]
 rw[← hu, ← Array.getElem?_toList]
 rfl)
 have HNEW:=Hd hnews
 have hone: ∀u∈tmc x,u.oneCell'=true:=fun u hu=>Ul [x] u (by simpa using hu)
 have HONE:=Hd hone
 obtain⟨xc,hxc⟩: ∃xc,xc=tmc x:=⟨_,rfl⟩
 have HXL:Hid (xc.length=1*2):=Hd (by rw[hxc];rfl)
 rw[← hxc] at HNEW HONE HS
 obtain⟨xv,xz⟩:=x
 unfold oTm at HNEW
 simp only at c0 c1 HNEW
 clear hnews hone hxc
 go_wp2_with (at_builtin;refine wpList_append_fits _ rfl (.tmp 15) (.tmp 20) 29 rfl w.heap.size 62 i0 2 Tryz.underlying29 hi0 hz1 w.heap.size k (n+1) _ rfl (hown.alloc _) ⟨wr.heap.size,0,none⟩ 1 1 xc rfl HXL.out HNEW.out HONE.out (by omega) ?_;intro w2 hown2 hg2)
 go_roundw
 case rel=>exact⟨k+1,by go_num,by omega,rfl,by rw[← HS.out];exact hown2,(hbr.alloc hbr.size _).grown hg2 (Nat.le_trans hbr.size (by simp)) (by intro j hj;injection hj with hj;omega)⟩
 case measure=>simp[intOf];omega)
 ·(
 obtain rfl:k=n:=by have:=HL.out;omega
 have hnews: ∀j u,(tmc QS)[j]?=some u→(wr.alloc Zjw).cell? ((⟨wr.heap.size,0,none⟩:Addr).add j)=some u:=by(
 intro j u hu
 rw[Addr.add_lit,Nat.zero_add,Zb (heap_alloc_new wr Zjw)]
 rw[← hu, ← Array.getElem?_toList]
 rfl)
 have HNEW:=Hd hnews
 have HONE:Hid (∀u∈tmc QS,u.oneCell'=true):=Hd fun u hu=>Ul [QS] u (by simpa using hu)
 obtain⟨xc,hxc⟩: ∃xc,xc=tmc QS:=⟨_,rfl⟩
 have HXC:=Hd hxc
 have HXL:Hid (xc.length=1*2):=Hd (by rw[hxc];rfl)
 rw[← hxc] at HNEW HONE
 clear hnews hxc
 go_wp2_with (at_builtin;refine wpList_append_fits _ rfl (.tmp 22) (.tmp 24) 29 rfl w.heap.size 62 i0 2 Tryz.underlying29 hi0 hz1 w.heap.size k (k+1) _ rfl (hown.alloc _) ⟨wr.heap.size,0,none⟩ 1 1 xc rfl HXL.out HNEW.out HONE.out (by omega) ?_;intro w2 hown2 hg2)
 go_ret
 have hl2:(l.take k).flatMap tmc++xc=(l++ [QS]).flatMap tmc:=by
  rw[List.take_of_length_le (by rw[HL.out];exact Nat.le_refl _),List.flatMap_append,HXC.out]
  simp
 rw[hl2] at hown2
 obtain⟨hblk,hold⟩:=ZiQ hown2
 exact⟨w.heap.size,rfl,⟨HL.out,by omega,Nat.le_refl _,hblk⟩,(hbr.alloc hbr.size _).grown hg2 (Nat.le_trans hbr.size (by simp)) (by intro j hj;injection hj with hj;omega)⟩))
def Zlk (n:Nat)(w:World)(i5:Value)(wr:World):Prop:= ∃k q:Nat,i5= .int .i64 (k:Int)∧k≤n∧wr=w.drewN q
theorem Zg7 (w0:World)(B:Nat)(A:Option Addr)(g n c:Nat)(l:List Tm)(w:World)(ht:ZaL w0 w g n l)(h:Rs tmc 2 w B A n c l):
  Calls Tryz.prog 16 #[.slice (some ⟨g,0,none⟩) n (n+1),.slice A n c] w fun e w'=>e= .returned (.bool true)∧Below w.heap.size w w':=by
 have HL:=Hd h.len
 have htop:=ht.top
 have HT:=Hd ht
 have HR:=Hd h
 have hsl: ∀W,(Instr.slice 29 (.slice (some ⟨g,0,none⟩) n (n+1)) none (some (.int .i64 ((n:Int)+1))) none).run Tryz.prog W= .ok (.slice (some ⟨g,0,none⟩) (n+1) (n+1)) W:=by(
 intro W
 rw[run_slice_h W 29 _ _ _ (by rw[show Tryz.prog.elem 29=62 by simp[Program.elem,Tryz.underlying29]];exact Tryz.underlying29) .i64 _ (by omega) (by omega),show Tryz.prog.elem 29=62 by simp[Program.elem,Tryz.underlying29],Zg5]
 simp[Result.andThen,sliced,Addr.add])
 clear ht h
 go_enter Tryz.func16,Tryz.ntmps16
 have hn1: ¬n+1≤n:=by omega
 have hn2:((n:Int) !=(n:Int))=false:=by simp
 go_wp2
 go_loopw [5] (fun i5 wr=>Zlk n w i5 wr) (fun i5 _=>n - (intOf i5).toNat)
 case atStart=>exact⟨0,0,rfl,by omega,rfl⟩
 case round=>(
 obtain⟨k,q,rfl,hk,rfl⟩:=hrel
 by_cases hlt:k < n
 ·(
 have hk':k < l.length:=by rw[HL.out];exact hlt
 obtain⟨b,o,rfl,-,c0,c1⟩:=Ue HR.out hk'
 obtain⟨b2,o2,heq,-,d0,d1⟩:=Ue HT.out.rs hk'
 injection heq with heq
 injection heq with e1 e2
 subst e1
 subst e2
 rw[Nat.zero_add] at d0 d1
 generalize l[k]=x at*
 obtain⟨xv,xz⟩:=x
 simp only at c0 c1 d0 d1
 clear hsl
 go_wp2
 go_quiet (fail)
 go_wp2
 go_roundw
 case rel=>exact⟨k+1,_,by go_num,by omega,rfl⟩
 case measure=>simp[intOf];omega)
 ·(
 obtain rfl:k=n:=by omega
 have ht2:=HT.out.keep (below_drewN w q)
 have hbW:Below w.heap.size w (w.drewN q):=below_drewN w q
 generalize w.drewN q=W at*
 obtain⟨b2,o2,heq,-,d0,d1⟩:=Ue ht2.full (k:=k) (by simp[HL.out])
 injection heq with heq
 injection heq with e1 e2
 subst e1
 subst e2
 have hmk:(l++ [QS])[k]'(by simp[HL.out])=QS:=by
  rw[List.getElem_append_right (by rw[HL.out];exact Nat.le_refl _)]
  simp
 rw[hmk] at d0 d1
 rw[Nat.zero_add] at d0 d1
 unfold QS at d0 d1
 simp only at d0 d1
 clear hmk ht2
 have hb: ∀o:Obj,Below w.heap.size w (W.alloc o):=fun o=>hbW.alloc hbW.size o
 go_wp2_with fail
 go_ret
 exact⟨rfl,hb _⟩))
end Go.Proofs.YtmejhedegmjboaaGreat.Tt
