import Derived.Deep.QuietTactic
import Derived.BigQuiet
import Derived.OwnWalk
import Derived.Handy
import Derived.WalkMore
import Derived.Test.YtphklakjadchmaaGreatDoorSiA
namespace Go.Proofs.YtphklakjadchmaaGreatDoor.La
open Go.RowKit
theorem nm_size' (w:World):(Go.sizeOf 82).run Tryz.prog w= .ok 1 w:=by kernel_rfl
theorem own_block_all {E:TypeId}{w:World}{base g n c:Nat}{xs:List Value}(h:w.ownsRow base E 1 (.slice (some ⟨g,0,none⟩) n c) n xs)(hc:n=c):w.heap[g]?=some (.cells xs.toArray E (0,0))∧base≤g:=by
 rcases h.2 with⟨hv,_⟩|⟨g',cap,cur,hv,hb,hg,hnc,hcm,hcs,htake⟩
 ·cases hv
 ·injection hv with h1 h2 h3
  injection h1 with h1
  injection h1 with h1
  subst h1
  subst h3
  subst hc
  refine⟨?_,hb⟩
  rw[hg]
  have:cur=xs.toArray:=by
   apply Array.toList_inj.1
   rw[← htake,List.take_of_length_le (by rw[Array.length_toList,hcs];exact Nat.le_refl _)]
  rw[this]
theorem slice_to {P:Program}(W:World)(t e:TypeId)(ht:P.underlying t=some (.slice e))(hz: ∀w,(Go.sizeOf e).run P w= .ok 1 w)(g n c hi:Nat)(h2:hi≤c):
  (Instr.slice t (.slice (some ⟨g,0,none⟩) n c) none (some (.int .i64 (hi:Int))) none).run P W= .ok (.slice (some ⟨g,0,none⟩) hi c) W:=by
 have he:P.elem t=e:=by simp[Program.elem,ht]
 have ht':P.underlying t=some (.slice (P.elem t)):=by rw[he];exact ht
 rw[run_slice_h W t _ _ _ ht' .i64 _ (by omega) (by omega),he,hz]
 simp[Result.andThen,sliced,Addr.add]
end Go.Proofs.YtphklakjadchmaaGreatDoor.La
namespace Go.Proofs.YtphklakjadchmaaGreatDoor.La
open Go.RowKit
structure TwinOf (w w':World)(g n:Nat)(l:List Nat):Prop where
 len:l.length=n
 top:n < maxLen
 old:w.heap.size≤g
 blk:w'.heap[g]?=some (.cells (cl (l++ [77])) 82 (0,0))
theorem TwinOf.lt {w w':World}{g n:Nat}{l:List Nat}(h:TwinOf w w' g n l):g < w'.heap.size:=(Array.getElem?_eq_some_iff.1 h.blk).1
theorem TwinOf.keep {w w' w2:World}{g n:Nat}{l:List Nat}(h:TwinOf w w' g n l)(hb:Below w'.heap.size w' w2):TwinOf w w2 g n l:=
 ⟨h.len,h.top,h.old,(hb.block g h.lt).trans h.blk⟩
theorem TwinOf.cell {w w':World}{g n:Nat}{l:List Nat}(h:TwinOf w w' g n l)(j:Nat)(hj:j < (l++ [77]).length):w'.cell? ⟨g,j,none⟩=some (nm (l++ [77])[j]):=by
 rw[cell_blk h.blk,cl_at hj]
 rfl
theorem TwinOf.rd {w w':World}{g n:Nat}{l:List Nat}(h:TwinOf w w' g n l):Rd nm w' w'.heap.size (some ⟨g,0,none⟩) n (n+1) l:=by
 refine⟨h.len,by omega,by have:=h.top;omega,(fun h=>by cases h),fun _=>⟨g,0,rfl,h.lt,fun j hj=> ?_⟩⟩
 have:=h.cell j (by rw[List.length_append];omega)
 rw[Nat.zero_add,this,List.getElem_append_left hj]
def TRel (l:List Nat)(w:World)(g n:Nat)(v3 i4:Value)(wr:World):Prop:=
 ∃k:Nat,i4= .int .i64 (k:Int)∧k≤l.length∧v3= .slice (some ⟨g,0,none⟩) k (n+1)∧wr.ownsRow w.heap.size 82 1 (.slice (some ⟨g,0,none⟩) k (n+1)) k ((l.take k).map nm)∧Below w.heap.size w wr
theorem nm_take_snoc (l:List Nat)(k:Nat)(h:k < l.length):(l.take k).map nm++ [.int .u64 (l[k]:Int)]=(l.take (k+1)).map nm:=by
 rw[List.take_succ_eq_append_getElem h,List.map_append]
 rfl
set_option maxRecDepth 100000 in
set_option maxHeartbeats 400000 in
theorem twin_any (A:Option Addr)(n c:Nat)(l:List Nat)(w:World)(h:Rd nm w w.heap.size A n c l)(hb:n≤1000000):
  Calls Tryz.prog 30 #[.slice A n c] w fun e w'=> ∃g,e= .returned (.slice (some ⟨g,0,none⟩) n (n+1))∧TwinOf w w' g n l∧Below w.heap.size w w':=by
 obtain⟨i0,hi0,hz0,hz1,hz2⟩:=info_parts nm_inf
 have HL:=Lib.hid h.len
 go_enter Tryz.func30,Tryz.ntmps30
 go_wp2_with (at_make;refine wpList_make_own _ rfl _ _ 22 rfl w.heap.size 82 i0 (.int .u64 0) 1 Tryz.underlying22 hi0 hz0 hz1 .i64 .i64 _ (n+1) rfl rfl (by omega) (by rw[hz2];omega) (by unfold maxLen;omega) (Nat.le_refl _) ?_;intro w1 hown1 hg1;have hb1:Below w.heap.size w w1:=(Below.refl _ _).grown hg1 (Nat.le_refl _) (by simp))
 have hsl:=fun W=>slice_to (P:=Tryz.prog) W 22 82 Tryz.underlying22 nm_size' w.heap.size (n+1) (n+1) n (by omega)
 go_loopw [3,4] (fun v3 i4 wr=>TRel l w w.heap.size n v3 i4 wr) (fun _ i4 _=>n - (intOf i4).toNat)
 case atStart=>exact⟨0,rfl,by omega,rfl,hown1,hb1⟩
 case round=>
  obtain⟨k,rfl,hk,rfl,hown,hbr⟩:=hrel
  clear hown1 hb1 hg1
  by_cases hlt:k < n
  ·obtain⟨b,o,rfl,hbb,hc⟩:=h.spot (by omega)
   have hk':k < l.length:=by rw[HL.out];exact hlt
   have hcell:wr.cell? ⟨b,o+k,none⟩=some (.int .u64 (l[k]:Int)):=(hbr.cell (p:=⟨b,o+k,none⟩) hbb).trans (hc k hk')
   have HS:=Lib.hid (nm_take_snoc l k hk')
   clear hc
   generalize l[k]=q at*
   go_wp2_with (at_builtin;refine wpList_append_fits _ rfl (.tmp 15) (.tmp 20) 22 rfl w.heap.size 82 i0 1 Tryz.underlying22 hi0 hz1 w.heap.size k (n+1) _ rfl (hown.alloc _) ⟨wr.heap.size,0,none⟩ 1 1 [.int .u64 (q:Int)] rfl rfl (one_src _ _ _) (one_one rfl) (by omega) ?_;intro w2 hown2 hg2)
   go_roundw
   case rel=>exact⟨k+1,by go_num,by omega,rfl,by rw[← HS.out];exact hown2,(hbr.alloc hbr.size _).grown hg2 (Nat.le_trans hbr.size (by simp)) (by intro j hj;injection hj with hj;omega)⟩
   case measure=>simp[intOf];omega
  ·obtain rfl:k=n:=by have:=HL.out;omega
   go_wp2_with (at_builtin;refine wpList_append_fits _ rfl (.tmp 22) (.tmp 23) 22 rfl w.heap.size 82 i0 1 Tryz.underlying22 hi0 hz1 w.heap.size k (k+1) _ rfl (hown.alloc _) ⟨wr.heap.size,0,none⟩ 1 1 [.int .u64 77] rfl rfl (one_src _ _ _) (one_one rfl) (by omega) ?_;intro w2 hown2 hg2)
   go_ret
   have hl2:(l.take k).map nm++ [.int .u64 77]=(l++ [77]).map nm:=by
    rw[List.take_of_length_le (by rw[HL.out];exact Nat.le_refl _),List.map_append]
    rfl
   rw[hl2] at hown2
   obtain⟨hblk,hold⟩:=own_block_all hown2 rfl
   exact⟨w.heap.size,rfl,⟨HL.out,by unfold maxLen;omega,Nat.le_refl _,hblk⟩,(hbr.alloc hbr.size _).grown hg2 (Nat.le_trans hbr.size (by simp)) (by intro j hj;injection hj with hj;omega)⟩
def LRel (n:Nat)(w:World)(i5:Value)(wr:World):Prop:= ∃k q:Nat,i5= .int .i64 (k:Int)∧k≤n∧wr=w.drewN q
set_option maxRecDepth 100000 in
set_option maxHeartbeats 400000 in
theorem left_any (w0:World)(B:Nat)(A:Option Addr)(g n c:Nat)(l:List Nat)(w:World)(ht:TwinOf w0 w g n l)(h:Rd nm w B A n c l):
  Calls Tryz.prog 44 #[.slice (some ⟨g,0,none⟩) n (n+1),.slice A n c] w fun e w'=>e= .returned (.bool true)∧ ∃k,w'=w.drewN k:=by
 have HL:=Lib.hid h.len
 have htop:=ht.top
 unfold maxLen at htop
 have hmark:w.cell? ⟨g,n,none⟩=some (.int .u64 77):=by
  have:=ht.cell n (by rw[List.length_append,HL.out];simp)
  rw[this,List.getElem_append_right (by rw[HL.out];exact Nat.le_refl _)]
  simp[nm]
 have hsl:=fun W=>slice_to (P:=Tryz.prog) W 22 82 Tryz.underlying22 nm_size' g n (n+1) (n+1) (by omega)
 have hsl': ∀W,(Instr.slice 22 (.slice (some ⟨g,0,none⟩) n (n+1)) none (some (.int .i64 ((n:Int)+1))) none).run Tryz.prog W= .ok (.slice (some ⟨g,0,none⟩) (n+1) (n+1)) W:=by
  intro W
  have:=hsl W
  rwa [Int.natCast_add] at this
 clear hsl
 go_enter Tryz.func44,Tryz.ntmps44
 go_wp2
 go_loopw [5] (fun i5 wr=>LRel n w i5 wr) (fun i5 _=>n - (intOf i5).toNat)
 case atStart=>exact⟨0,0,rfl,by omega,rfl⟩
 case round=>
  obtain⟨k,q,rfl,hk,rfl⟩:=hrel
  by_cases hlt:k < n
  ·obtain⟨b,o,rfl,_,hc⟩:=h.spot (by omega)
   have hl:k < l.length:=by have:=HL.out;omega
   have e1:w.cell? ⟨b,o+k,none⟩=some (.int .u64 (l[k]:Int)):=hc k hl
   have e2:=ht.cell k (by rw[List.length_append];omega)
   rw[List.getElem_append_left hl,show nm l[k]= .int .u64 (l[k]:Int) from rfl] at e2
   clear hc
   generalize l[k]=u at*
   have hne:((u:Int) !=(u:Int))=false:=by simp
   go_wp2
   go_quiet (fail)
   go_wp2
   go_roundw
   case rel=>exact⟨k+1,_,by go_num,by omega,rfl⟩
   case measure=>simp[intOf];omega
  ·obtain rfl:k=n:=by omega
   go_wp2_with fail
   go_ret
   exact⟨rfl,_,rfl⟩
end Go.Proofs.YtphklakjadchmaaGreatDoor.La
namespace Go.Proofs.YtphklakjadchmaaGreatDoor.I
open Go.RowKit
theorem spc_one (l:List Sp): ∀u∈l.flatMap spc,u.oneCell'=true:=by
 intro u hu
 obtain⟨x,_,hx⟩:=List.mem_flatMap.1 hu
 simp only[spc,List.mem_cons,List.not_mem_nil,or_false] at hx
 rcases hx with rfl|rfl|rfl|rfl|rfl <;> rfl
def bMark:Sp:=⟨77,0,0,false,0⟩
abbrev oMarkT:Obj:= .cells #[.int .i64 77,.int .u8 0,.int .u8 0,.bool false,.int .u64 0] 102
def oSp (x:Sp):Obj:= .cells #[.int .i64 x.n,.int .u8 (x.p:Int),.int .u8 (x.s:Int),.bool x.v,.int .u64 x.z] 102
theorem sp_size5 (w:World):(Go.sizeOf 102).run Tryz.prog w= .ok 5 w:=by kernel_rfl
structure TwinP (w w':World)(g n:Nat)(l:List Sp):Prop where
 len:l.length=n
 top:n≤100000
 old:w.heap.size≤g
 blk:w'.heap[g]?=some (.cells ((l++ [bMark]).flatMap spc).toArray 102 (0,0))
theorem TwinP.keep {w w' w2:World}{g n:Nat}{l:List Sp}(h:TwinP w w' g n l)(hb:Below w'.heap.size w' w2):TwinP w w2 g n l:=
 ⟨h.len,h.top,h.old,(hb.block g (lt_blk h.blk)).trans h.blk⟩
theorem TwinP.rs {w w':World}{g n:Nat}{l:List Sp}(h:TwinP w w' g n l):Rs spc 5 w' w'.heap.size (some ⟨g,0,none⟩) n (n+1) l:=
 Rs.of_blk spc_len h.blk ⟨spc bMark,by simp⟩ h.len (by omega) (by have:=h.top;unfold maxLen;omega)
theorem TwinP.full {w w':World}{g n:Nat}{l:List Sp}(h:TwinP w w' g n l):Rs spc 5 w' w'.heap.size (some ⟨g,0,none⟩) (n+1) (n+1) (l++ [bMark]):=
 Rs.of_blk spc_len h.blk ⟨[],by simp⟩ (by simp[h.len]) (by omega) (by have:=h.top;unfold maxLen;omega)
theorem own_allP {w:World}{base g n:Nat}{xs:List Value}(h:w.ownsRow base 102 5 (.slice (some ⟨g,0,none⟩) n n) n xs):w.heap[g]?=some (.cells xs.toArray 102 (0,0))∧base≤g:=by
 rcases h.2 with⟨hv,_⟩|⟨g',cap,cur,hv,hb,hg,hnc,hcm,hcs,htake⟩
 ·cases hv
 ·injection hv with h1 h2 h3
  injection h1 with h1
  injection h1 with h1
  subst h1
  subst h3
  refine⟨?_,hb⟩
  rw[hg]
  have:cur=xs.toArray:=by
   apply Array.toList_inj.1
   rw[← htake,List.take_of_length_le (by rw[Array.length_toList,hcs];exact Nat.le_refl _)]
  rw[this]
def TwRelP (l:List Sp)(w:World)(g n:Nat)(v3 i4:Value)(wr:World):Prop:=
 ∃k:Nat,i4= .int .i64 (k:Int)∧k≤l.length∧v3= .slice (some ⟨g,0,none⟩) k (n+1)∧wr.ownsRow w.heap.size 102 5 (.slice (some ⟨g,0,none⟩) k (n+1)) k ((l.take k).flatMap spc)∧Below w.heap.size w wr
set_option maxRecDepth 100000 in
set_option maxHeartbeats 2000000 in
theorem twinP_any (A:Option Addr)(n c:Nat)(l:List Sp)(w:World)(h:Rs spc 5 w w.heap.size A n c l)(hb:n≤1000):
  Calls Tryz.prog 29 #[.slice A n c] w fun e w'=> ∃g,e= .returned (.slice (some ⟨g,0,none⟩) n (n+1))∧TwinP w w' g n l∧Below w.heap.size w w':=by
 obtain⟨i0,hi0,hz0,hz1,hz2⟩:=info_parts sp_inf
 have HL:=Lib.hid h.len
 go_enter Tryz.func29,Tryz.ntmps29
 go_wp2_with (at_make;refine wpList_make_own _ rfl _ _ 25 rfl w.heap.size 102 i0 zSp 5 Tryz.underlying25 hi0 hz0 hz1 .i64 .i64 _ (n+1) rfl rfl (by omega) (by rw[hz2];omega) (by unfold maxLen;omega) (Nat.le_refl _) ?_;intro w1 hown1 hg1;have hb1:Below w.heap.size w w1:=(Below.refl _ _).grown hg1 (Nat.le_refl _) (by simp))
 have hsl: ∀W,(Instr.slice 25 (.slice (some ⟨w.heap.size,0,none⟩) (n+1) (n+1)) none (some (.int .i64 (n:Int))) none).run Tryz.prog W= .ok (.slice (some ⟨w.heap.size,0,none⟩) n (n+1)) W:=by
  intro W
  rw[run_slice_h W 25 _ _ _ (by rw[show Tryz.prog.elem 25=102 by simp[Program.elem,Tryz.underlying25]];exact Tryz.underlying25) .i64 _ (by omega) (by omega),show Tryz.prog.elem 25=102 by simp[Program.elem,Tryz.underlying25],sp_size5]
  simp[Result.andThen,sliced,Addr.add]
 go_loopw [3,4] (fun v3 i4 wr=>TwRelP l w w.heap.size n v3 i4 wr) (fun _ i4 _=>n - (intOf i4).toNat)
 case atStart=>exact⟨0,rfl,by omega,rfl,hown1,hb1⟩
 case round=>
  obtain⟨k,rfl,hk,rfl,hown,hbr⟩:=hrel
  clear hown1 hb1 hg1
  by_cases hlt:k < n
  ·have hk':k < l.length:=by rw[HL.out];exact hlt
   obtain⟨b,o,rfl,hbb,c0,c1,c2,c3,c4⟩:=spot_at (h.below hbr) hk'
   have HS:Hid ((l.take k).flatMap spc++spc l[k]=(l.take (k+1)).flatMap spc):=Lib.hid (by rw[List.take_succ_eq_append_getElem hk',List.flatMap_append];simp)
   generalize l[k]=x at*
   have hnews: ∀j u,(spc x)[j]?=some u→(wr.alloc (oSp x)).cell? ((⟨wr.heap.size,0,none⟩:Addr).add j)=some u:=by
    intro j u hu
    rw[Addr.add_lit,Nat.zero_add,cell_blk (heap_alloc_new wr (oSp x))]
    rw[← hu, ← Array.getElem?_toList]
    rfl
   have HNEW:=Lib.hid hnews
   have hone: ∀u∈spc x,u.oneCell'=true:=fun u hu=>spc_one [x] u (by simpa using hu)
   have HONE:=Lib.hid hone
   obtain⟨xc,hxc⟩: ∃xc,xc=spc x:=⟨_,rfl⟩
   have HXL:Hid (xc.length=1*5):=Lib.hid (by rw[hxc];rfl)
   rw[← hxc] at HNEW HONE HS
   obtain⟨xn,xp,xs,xv,xz⟩:=x
   unfold oSp at HNEW
   simp only at c0 c1 c2 c3 c4 HNEW
   clear hnews hone hxc
   go_wp2_with (at_builtin;refine wpList_append_fits _ rfl (.tmp 15) (.tmp 20) 25 rfl w.heap.size 102 i0 5 Tryz.underlying25 hi0 hz1 w.heap.size k (n+1) _ rfl (hown.alloc _) ⟨wr.heap.size,0,none⟩ 1 1 xc rfl HXL.out HNEW.out HONE.out (by omega) ?_;intro w2 hown2 hg2)
   go_roundw
   case rel=>exact⟨k+1,by go_num,by omega,rfl,by rw[← HS.out];exact hown2,(hbr.alloc hbr.size _).grown hg2 (Nat.le_trans hbr.size (by simp)) (by intro j hj;injection hj with hj;omega)⟩
   case measure=>simp[intOf];omega
  ·obtain rfl:k=n:=by have:=HL.out;omega
   have hnews: ∀j u,(spc bMark)[j]?=some u→(wr.alloc oMarkT).cell? ((⟨wr.heap.size,0,none⟩:Addr).add j)=some u:=by
    intro j u hu
    rw[Addr.add_lit,Nat.zero_add,cell_blk (heap_alloc_new wr oMarkT)]
    rw[← hu, ← Array.getElem?_toList]
    rfl
   have HNEW:=Lib.hid hnews
   have HONE:Hid (∀u∈spc bMark,u.oneCell'=true):=Lib.hid fun u hu=>spc_one [bMark] u (by simpa using hu)
   obtain⟨xc,hxc⟩: ∃xc,xc=spc bMark:=⟨_,rfl⟩
   have HXC:=Lib.hid hxc
   have HXL:Hid (xc.length=1*5):=Lib.hid (by rw[hxc];rfl)
   rw[← hxc] at HNEW HONE
   clear hnews hxc
   go_wp2_with (at_builtin;refine wpList_append_fits _ rfl (.tmp 22) (.tmp 24) 25 rfl w.heap.size 102 i0 5 Tryz.underlying25 hi0 hz1 w.heap.size k (k+1) _ rfl (hown.alloc _) ⟨wr.heap.size,0,none⟩ 1 1 xc rfl HXL.out HNEW.out HONE.out (by omega) ?_;intro w2 hown2 hg2)
   go_ret
   have hl2:(l.take k).flatMap spc++xc=(l++ [bMark]).flatMap spc:=by
    rw[List.take_of_length_le (by rw[HL.out];exact Nat.le_refl _),List.flatMap_append,HXC.out]
    simp
   rw[hl2] at hown2
   obtain⟨hblk,hold⟩:=own_allP hown2
   exact⟨w.heap.size,rfl,⟨HL.out,by omega,Nat.le_refl _,hblk⟩,(hbr.alloc hbr.size _).grown hg2 (Nat.le_trans hbr.size (by simp)) (by intro j hj;injection hj with hj;omega)⟩
def LfRelP (n:Nat)(w:World)(i5:Value)(wr:World):Prop:= ∃k q:Nat,i5= .int .i64 (k:Int)∧k≤n∧wr=w.drewN q
set_option maxRecDepth 100000 in
set_option maxHeartbeats 2000000 in
theorem leftP_any (w0:World)(B:Nat)(A:Option Addr)(g n c:Nat)(l:List Sp)(w:World)(ht:TwinP w0 w g n l)(h:Rs spc 5 w B A n c l):
  Calls Tryz.prog 43 #[.slice (some ⟨g,0,none⟩) n (n+1),.slice A n c] w fun e w'=>e= .returned (.bool true)∧Below w.heap.size w w':=by
 have HL:=Lib.hid h.len
 have htop:=ht.top
 have HT:=Lib.hid ht
 have HR:=Lib.hid h
 have hsl: ∀W,(Instr.slice 25 (.slice (some ⟨g,0,none⟩) n (n+1)) none (some (.int .i64 ((n:Int)+1))) none).run Tryz.prog W= .ok (.slice (some ⟨g,0,none⟩) (n+1) (n+1)) W:=by
  intro W
  rw[run_slice_h W 25 _ _ _ (by rw[show Tryz.prog.elem 25=102 by simp[Program.elem,Tryz.underlying25]];exact Tryz.underlying25) .i64 _ (by omega) (by omega),show Tryz.prog.elem 25=102 by simp[Program.elem,Tryz.underlying25],sp_size5]
  simp[Result.andThen,sliced,Addr.add]
 clear ht h
 go_enter Tryz.func43,Tryz.ntmps43
 have hn1: ¬n+1≤n:=by omega
 have hn2:((n:Int) !=(n:Int))=false:=by simp
 go_wp2
 go_loopw [5] (fun i5 wr=>LfRelP n w i5 wr) (fun i5 _=>n - (intOf i5).toNat)
 case atStart=>exact⟨0,0,rfl,by omega,rfl⟩
 case round=>
  obtain⟨k,q,rfl,hk,rfl⟩:=hrel
  by_cases hlt:k < n
  ·have hk':k < l.length:=by rw[HL.out];exact hlt
   obtain⟨b,o,rfl,-,c0,c1,c2,c3,c4⟩:=spot_at HR.out hk'
   obtain⟨b2,o2,heq,-,d0,d1,d2,d3,d4⟩:=spot_at HT.out.rs hk'
   injection heq with heq
   injection heq with e1 e2
   subst e1
   subst e2
   rw[Nat.zero_add] at d0 d1 d2 d3 d4
   generalize l[k]=x at*
   obtain⟨xn,xp,xs,xv,xz⟩:=x
   simp only at c0 c1 c2 c3 c4 d0 d1 d2 d3 d4
   clear hsl
   go_wp2
   go_quiet (fail)
   go_wp2
   go_roundw
   case rel=>exact⟨k+1,_,by go_num,by omega,rfl⟩
   case measure=>simp[intOf];omega
  ·obtain rfl:k=n:=by omega
   have ht2:=HT.out.keep (La.below_drewN w q)
   have hbW:Below w.heap.size w (w.drewN q):=La.below_drewN w q
   generalize w.drewN q=W at*
   obtain⟨b2,o2,heq,-,d0,d1,d2,d3,d4⟩:=spot_at ht2.full (k:=k) (by simp[HL.out])
   injection heq with heq
   injection heq with e1 e2
   subst e1
   subst e2
   have hmk:(l++ [bMark])[k]'(by simp[HL.out])=bMark:=by
    rw[List.getElem_append_right (by rw[HL.out];exact Nat.le_refl _)]
    simp
   rw[hmk] at d0 d1 d2 d3 d4
   rw[Nat.zero_add] at d0 d1 d2 d3 d4
   unfold bMark at d0 d1 d2 d3 d4
   simp only at d0 d1 d2 d3 d4
   clear hmk ht2
   have hb: ∀o:Obj,Below w.heap.size w (W.alloc o):=fun o=>hbW.alloc hbW.size o
   go_wp2_with fail
   go_ret
   exact⟨rfl,hb _⟩
end Go.Proofs.YtphklakjadchmaaGreatDoor.I
namespace Go.Proofs.YtphklakjadchmaaGreatDoor.I
open Go.RowKit
structure TwB (w:World)(g:Nat)(l:List Bool):Prop where
 blk:w.heap[g]?=some (.cells ((l++ [false]).map Value.bool).toArray 4 (0,0))
theorem TwB.cell {w:World}{g:Nat}{l:List Bool}(h:TwB w g l)(j:Nat)(hj:j < (l++ [false]).length):w.cell? ⟨g,j,none⟩=some (.bool (l++ [false])[j]):=by
 rw[cell_blk h.blk,List.getElem?_toArray,List.getElem?_map,List.getElem?_eq_getElem hj]
 rfl
theorem TwB.rd {w:World}{g:Nat}{l:List Bool}(h:TwB w g l)(hl:l.length≤100000):Rd Value.bool w w.heap.size (some ⟨g,0,none⟩) l.length (l.length+1) l:=by
 refine⟨rfl,by omega,by unfold maxLen;omega,(fun h=>by cases h),fun _=>⟨g,0,rfl,lt_blk h.blk,fun j hj=> ?_⟩⟩
 have:=h.cell j (by rw[List.length_append];omega)
 rw[Nat.zero_add,this,List.getElem_append_left hj]
theorem TwB.keep {w W:World}{g:Nat}{l:List Bool}(h:TwB w g l)(hb:Below w.heap.size w W):TwB W g l:=⟨(hb.block g (lt_blk h.blk)).trans h.blk⟩
theorem bo_size (w:World):(Go.sizeOf 4).run Tryz.prog w= .ok 1 w:=by kernel_rfl
theorem bl_size (w:World):(Go.sizeOf 42).run Tryz.prog w= .ok 1 w:=by kernel_rfl
def BRel (l:List Bool)(w:World)(g n:Nat)(v3 i4:Value)(wr:World):Prop:=
 ∃k:Nat,i4= .int .i64 (k:Int)∧k≤l.length∧v3= .slice (some ⟨g,0,none⟩) k (n+1)∧wr.ownsRow w.heap.size 4 1 (.slice (some ⟨g,0,none⟩) k (n+1)) k ((l.take k).map Value.bool)∧Below w.heap.size w wr
theorem bo_take_snoc (l:List Bool)(k:Nat)(h:k < l.length):(l.take k).map Value.bool++ [.bool l[k]]=(l.take (k+1)).map Value.bool:=by
 rw[List.take_succ_eq_append_getElem h,List.map_append]
 rfl
set_option maxRecDepth 100000 in
set_option maxHeartbeats 400000 in
theorem twinBo_any (A:Option Addr)(n c:Nat)(l:List Bool)(w:World)(h:Rd Value.bool w w.heap.size A n c l)(hb:n≤1000):
  Calls Tryz.prog 99 #[.slice A n c] w fun e w'=> ∃g,e= .returned (.slice (some ⟨g,0,none⟩) n (n+1))∧w.heap.size≤g∧TwB w' g l∧Below w.heap.size w w':=by
 obtain⟨i0,hi0,hz0,hz1,hz2⟩:=info_parts Re.inf4
 have HL:=Lib.hid h.len
 go_enter Tryz.func99,Tryz.ntmps99
 go_wp2_with (at_make;refine wpList_make_own _ rfl _ _ 42 rfl w.heap.size 4 i0 (.bool false) 1 Tryz.underlying42 hi0 hz0 hz1 .i64 .i64 _ (n+1) rfl rfl (by omega) (by rw[hz2];omega) (by unfold maxLen;omega) (Nat.le_refl _) ?_;intro w1 hown1 hg1;have hb1:Below w.heap.size w w1:=(Below.refl _ _).grown hg1 (Nat.le_refl _) (by simp))
 have hsl:=fun W=>La.slice_to (P:=Tryz.prog) W 42 4 Tryz.underlying42 bo_size w.heap.size (n+1) (n+1) n (by omega)
 go_loopw [3,4] (fun v3 i4 wr=>BRel l w w.heap.size n v3 i4 wr) (fun _ i4 _=>n - (intOf i4).toNat)
 case atStart=>exact⟨0,rfl,by omega,rfl,hown1,hb1⟩
 case round=>
  obtain⟨k,rfl,hk,rfl,hown,hbr⟩:=hrel
  clear hown1 hb1 hg1
  by_cases hlt:k < n
  ·obtain⟨b,o,rfl,hbb,hc⟩:=h.spot (by omega)
   have hk':k < l.length:=by rw[HL.out];exact hlt
   have hcell:wr.cell? ⟨b,o+k,none⟩=some (.bool l[k]):=(hbr.cell (p:=⟨b,o+k,none⟩) hbb).trans (hc k hk')
   have HS:=Lib.hid (bo_take_snoc l k hk')
   clear hc
   generalize l[k]=q at*
   go_wp2_with (at_builtin;refine wpList_append_fits _ rfl (.tmp 15) (.tmp 20) 42 rfl w.heap.size 4 i0 1 Tryz.underlying42 hi0 hz1 w.heap.size k (n+1) _ rfl (hown.alloc _) ⟨wr.heap.size,0,none⟩ 1 1 [.bool q] rfl rfl (one_src _ _ _) (one_one rfl) (by omega) ?_;intro w2 hown2 hg2)
   go_roundw
   case rel=>exact⟨k+1,by go_num,by omega,rfl,by rw[← HS.out];exact hown2,(hbr.alloc hbr.size _).grown hg2 (Nat.le_trans hbr.size (by simp)) (by intro j hj;injection hj with hj;omega)⟩
   case measure=>simp[intOf];omega
  ·obtain rfl:k=n:=by have:=HL.out;omega
   go_wp2_with (at_builtin;refine wpList_append_fits _ rfl (.tmp 22) (.tmp 23) 42 rfl w.heap.size 4 i0 1 Tryz.underlying42 hi0 hz1 w.heap.size k (k+1) _ rfl (hown.alloc _) ⟨wr.heap.size,0,none⟩ 1 1 [.bool false] rfl rfl (one_src _ _ _) (one_one rfl) (by omega) ?_;intro w2 hown2 hg2)
   go_ret
   have hl2:(l.take k).map Value.bool++ [.bool false]=(l++ [false]).map Value.bool:=by
    rw[List.take_of_length_le (by rw[HL.out];exact Nat.le_refl _),List.map_append]
    rfl
   rw[hl2] at hown2
   obtain⟨hblk,hold⟩:=La.own_block_all hown2 rfl
   exact⟨w.heap.size,rfl,Nat.le_refl _,⟨hblk⟩,(hbr.alloc hbr.size _).grown hg2 (Nat.le_trans hbr.size (by simp)) (by intro j hj;injection hj with hj;omega)⟩
set_option maxRecDepth 100000 in
set_option maxHeartbeats 400000 in
theorem leftBo_any (B:Nat)(A:Option Addr)(g n c:Nat)(l:List Bool)(w:World)(ht:TwB w g l)(h:Rd Value.bool w B A n c l)(hn:n≤100000):
  Calls Tryz.prog 110 #[.slice (some ⟨g,0,none⟩) n (n+1),.slice A n c] w fun e w'=>e= .returned (.bool true)∧Below w.heap.size w w':=by
 have HL:=Lib.hid h.len
 have hmark:w.cell? ⟨g,n,none⟩=some (.bool false):=by
  have:=ht.cell n (by rw[List.length_append,HL.out];simp)
  rw[this,List.getElem_append_right (by rw[HL.out];exact Nat.le_refl _)]
  simp
 have hsl:=fun W=>La.slice_to (P:=Tryz.prog) W 42 4 Tryz.underlying42 bo_size g n (n+1) (n+1) (by omega)
 have hsl': ∀W,(Instr.slice 42 (.slice (some ⟨g,0,none⟩) n (n+1)) none (some (.int .i64 ((n:Int)+1))) none).run Tryz.prog W= .ok (.slice (some ⟨g,0,none⟩) (n+1) (n+1)) W:=by
  intro W
  have:=hsl W
  rwa [Int.natCast_add] at this
 clear hsl
 go_enter Tryz.func110,Tryz.ntmps110
 go_wp2
 go_loopw [5] (fun i5 wr=>La.LRel n w i5 wr) (fun i5 _=>n - (intOf i5).toNat)
 case atStart=>exact⟨0,0,rfl,by omega,rfl⟩
 case round=>
  obtain⟨k,q,rfl,hk,rfl⟩:=hrel
  by_cases hlt:k < n
  ·obtain⟨b,o,rfl,_,hc⟩:=h.spot (by omega)
   have hl:k < l.length:=by have:=HL.out;omega
   have e1:w.cell? ⟨b,o+k,none⟩=some (.bool l[k]):=hc k hl
   have e2:=ht.cell k (by rw[List.length_append];omega)
   rw[List.getElem_append_left hl] at e2
   clear hc
   generalize l[k]=u at*
   cases u
   all_goals
    go_wp2
    go_quiet (fail)
    go_wp2
    go_roundw
    case rel=>exact⟨k+1,_,by go_num,by omega,rfl⟩
    case measure=>simp[intOf];omega
  ·obtain rfl:k=n:=by omega
   go_wp2_with fail
   go_ret
   exact⟨rfl,La.below_drewN _ _⟩
theorem two_bel (w:World)(o o':Obj):Below w.heap.size w ((w.alloc o).alloc o'):=((Below.refl _ _).alloc (Nat.le_refl _) _).alloc (by simp) _
def hdv (g:Nat)(r:List Bool):Value:= .slice (some ⟨g,0,none⟩) r.length (r.length+1)
structure TwL (w:World)(g:Nat)(l:List (List Bool)):Prop where
 ex: ∃(gs:List Nat) (gm:Nat),gs.length=l.length∧w.heap[g]?=some (.cells (List.zipWith hdv gs l++ [Value.slice (some ⟨gm,0,none⟩) 77 77]).toArray 42 (0,0))∧ ∀i (h:i < gs.length) (h':i < l.length),TwB w gs[i] l[i]
theorem TwL.keep {w W:World}{g:Nat}{l:List (List Bool)}(h:TwL w g l)(hb:Below w.heap.size w W):TwL W g l:=by
 obtain⟨gs,gm,h1,h2,h3⟩:=h.ex
 exact⟨gs,gm,h1,(hb.block g (lt_blk h2)).trans h2,fun i a b=>(h3 i a b).keep hb⟩
theorem TwL.rows {w:World}{g:Nat}{l:List (List Bool)}(h:TwL w g l)(hl:l.length≤100000)(hr: ∀r∈l,r.length≤100000):BRows w w.heap.size (some ⟨g,0,none⟩) l.length (l.length+1) l:=by
 obtain⟨gs,gm,h1,h2,h3⟩:=h.ex
 refine⟨List.zipWith (fun g r=>(some ⟨g,0,none⟩,r.length,r.length+1)) gs l,⟨by simp[h1],by omega,by unfold maxLen;omega,(fun e=>by cases e),fun _=>⟨g,0,rfl,lt_blk h2,fun j hj=> ?_⟩⟩,by simp[h1],fun i a b=> ?_⟩
 ·have hj':j < l.length:=by simpa [h1] using hj
  have hz:j < (List.zipWith hdv gs l).length:=by simp[h1,hj']
  rw[Nat.zero_add,cell_blk h2,List.getElem?_toArray,List.getElem?_append_left hz,List.getElem?_eq_getElem hz,List.getElem_zipWith,List.getElem_zipWith]
  rfl
 ·rw[List.getElem_zipWith]
  exact(h3 i (by omega) b).rd (hr _ (List.getElem_mem b))
structure TwLA (B:Nat)(w:World)(g:Nat)(l:List (List Bool)):Prop where
 ex: ∃(gs:List Nat) (gm:Nat),gs.length=l.length∧w.heap[g]?=some (.cells (List.zipWith hdv gs l++ [Value.slice (some ⟨gm,0,none⟩) 77 77]).toArray 42 (0,0))∧(B≤g∧(∀x∈gs,B≤x)∧gs.Pairwise (· ≠ ·))∧ ∀i (h:i < gs.length) (h':i < l.length),TwB w gs[i] l[i]
theorem TwLA.tw {B:Nat}{w:World}{g:Nat}{l:List (List Bool)}(h:TwLA B w g l):TwL w g l:=by
 obtain⟨gs,gm,h1,h2,-,h3⟩:=h.ex
 exact⟨gs,gm,h1,h2,h3⟩
theorem TwLA.keep {B:Nat}{w W:World}{g:Nat}{l:List (List Bool)}(h:TwLA B w g l)(hb:Below w.heap.size w W):TwLA B W g l:=by
 obtain⟨gs,gm,h1,h2,ha,h3⟩:=h.ex
 exact⟨gs,gm,h1,(hb.block g (lt_blk h2)).trans h2,ha,fun i a b=>(h3 i a b).keep hb⟩
theorem TwLA.mono {B C:Nat}{w:World}{g:Nat}{l:List (List Bool)}(h:TwLA B w g l)(hC:C≤B):TwLA C w g l:=by
 obtain⟨gs,gm,h1,h2,⟨ha,hb,hc⟩,h3⟩:=h.ex
 exact⟨gs,gm,h1,h2,⟨Nat.le_trans hC ha,fun x hx=>Nat.le_trans hC (hb x hx),hc⟩,h3⟩
def LiRel (l:List (List Bool))(w:World)(g n:Nat)(v3 i4:Value)(wr:World):Prop:=
 ∃(k:Nat) (gs:List Nat),i4= .int .i64 (k:Int)∧k≤l.length∧gs.length=k∧v3= .slice (some ⟨g,0,none⟩) k (n+1)∧gs.Pairwise (· ≠ ·)∧wr.ownsRow w.heap.size 42 1 (.slice (some ⟨g,0,none⟩) k (n+1)) k (List.zipWith hdv gs (l.take k))∧(∀i (h:i < gs.length) (h':i < l.length),w.heap.size < gs[i]∧TwB wr gs[i] l[i])∧Below w.heap.size w wr∧w.heap.size < wr.heap.size
theorem hdv_snoc {l:List (List Bool)}{gs:List Nat}{k g1:Nat}(hk:k < l.length)(hg:gs.length=k):List.zipWith hdv gs (l.take k)++ [hdv g1 l[k]]=List.zipWith hdv (gs++ [g1]) (l.take (k+1)):=by
 rw[List.take_succ_eq_append_getElem hk,List.zipWith_append (by rw[hg,List.length_take];omega)]
 rfl
theorem own_all1 {w:World}{base g n c:Nat}{xs:List Value}(h:w.ownsRow base 42 1 (.slice (some ⟨g,0,none⟩) n c) n xs)(hc:n=c):w.heap[g]?=some (.cells xs.toArray 42 (0,0))∧base≤g:=La.own_block_all h hc
theorem tw_next {l:List (List Bool)}{gs:List Nat}{k g1 b:Nat}{W W2:World}(hg:gs.length=k)(hk:k < l.length)(h: ∀i (h:i < gs.length) (h':i < l.length),b < gs[i]∧TwB W gs[i] l[i])(h1:b < g1)(h2:TwB W g1 l[k])(hg2:W.grownBy W2 (some b)): ∀i (h:i < (gs++ [g1]).length) (h':i < l.length),b < (gs++ [g1])[i]∧TwB W2 (gs++ [g1])[i] l[i]:=fun i hi hi'=>by
 have mv: ∀g r,b < g→TwB W g r→TwB W2 g r:=fun g r hb ht=>⟨(hg2.block g (lt_blk ht.blk) (fun e=>by injection e with e;omega)).trans ht.blk⟩
 by_cases hl:i < gs.length
 ·rw[List.getElem_append_left hl]
  obtain⟨a1,a2⟩:=h i hl hi'
  exact⟨a1,mv _ _ a1 a2⟩
 ·have hi2:i=k:=by rw[List.length_append,List.length_singleton] at hi;omega
  subst hi2
  rw[List.getElem_append_right (by omega)]
  simp only[hg,Nat.sub_self,List.getElem_singleton]
  exact⟨h1,mv _ _ h1 h2⟩
set_option maxRecDepth 100000 in
set_option maxHeartbeats 2000000 in
theorem twinLi_any (A:Option Addr)(n c:Nat)(l:List (List Bool))(w:World)(h:BRows w w.heap.size A n c l)(hb:n≤1000)(hr: ∀r∈l,r.length≤1000):
  Calls Tryz.prog 31 #[.slice A n c] w fun e w'=> ∃g,e= .returned (.slice (some ⟨g,0,none⟩) n (n+1))∧TwLA w.heap.size w' g l∧Below w.heap.size w w':=by
 obtain⟨i0,hi0,hz0,hz1,hz2⟩:=info_parts Re.inf34
 have HL:=Lib.hid h.len
 have HR:=Lib.hid h
 have HRR:=Lib.hid hr
 clear h hr
 obtain⟨cs,hmk⟩: ∃cs,∀W,(Instr.makeSlice 42 (.int .i64 77) (.int .i64 77)).run Tryz.prog W= .ok (.slice (some ⟨W.heap.size,0,none⟩) 77 77) (W.alloc (.cells cs 4)):=⟨_,make_room (fun _=>false) 77 (by decide)⟩
 go_enter Tryz.func31,Tryz.ntmps31
 go_wp2_with (at_make;refine wpList_make_own _ rfl _ _ 26 rfl w.heap.size 42 i0 (.slice none 0 0) 1 Tryz.underlying26 hi0 hz0 hz1 .i64 .i64 _ (n+1) rfl rfl (by omega) (by rw[hz2];omega) (by unfold maxLen;omega) (Nat.le_refl _) ?_;intro w1 hown1 hg1;have hb1:Below w.heap.size w w1:=(Below.refl _ _).grown hg1 (Nat.le_refl _) (by simp))
 have hsl:=fun W=>La.slice_to (P:=Tryz.prog) W 26 42 Tryz.underlying26 bl_size w.heap.size (n+1) (n+1) n (by omega)
 have hlt1:w.heap.size < w1.heap.size:=(own_block hown1 rfl).2.1
 go_loopw [3,4] (fun v3 i4 wr=>LiRel l w w.heap.size n v3 i4 wr) (fun _ i4 _=>n - (intOf i4).toNat)
 case atStart=>exact⟨0,[],rfl,by omega,rfl,rfl,List.Pairwise.nil,hown1,(fun i h=>absurd h (Nat.not_lt_zero i)),hb1,hlt1⟩
 case round=>
  obtain⟨k,gs,rfl,hk,hgs,rfl,hap,hown,hall,hbr,hws⟩:=hrel
  have HAP:=Lib.hid hap
  clear hap
  clear hown1 hb1 hg1 hlt1
  by_cases hlt:k < n
  ·have hk':k < l.length:=by rw[HL.out];exact hlt
   obtain⟨b,o,A',n',c',rfl,hbb,hcell,hrd⟩:=(HR.out.at_size (Nat.le_refl _) hbr).row hk'
   have hn':=hrd.len
   have hcall:=twinBo_any A' n' c' l[k] wr hrd (by rw[← hn'];exact HRR.out _ (List.getElem_mem hk'))
   have HCALL:=Lib.hid hcall
   have HN:=Lib.hid hn'
   have HG:=Lib.hid hgs
   have HALL:=Lib.hid hall
   have HBR:=Lib.hid hbr
   have HWS:=Lib.hid hws
   have HOWN:=Lib.hid hown
   have HLT:=Lib.hid hlt
   have hin:(k:Int) < (n:Int):=by omega
   clear hrd hcall hbb hn' hgs hall hbr hws hown hlt hk
   go_wp2_with fail
   refine HCALL.out.mono ?_
   rintro e w2 ⟨g1,rfl,hg1,htb,hv⟩
   have hown2:=own_behind HOWN.out hv
   have HB2:=Lib.hid (HBR.out.trans (hv.mono HBR.out.size))
   have HALL2:Hid (∀i (h:i < gs.length) (h':i < l.length),w.heap.size < gs[i]∧TwB w2 gs[i] l[i]):=Lib.hid fun i h h'=>⟨(HALL.out i h h').1,(HALL.out i h h').2.keep hv⟩
   have HAP2:Hid ((gs++ [g1]).Pairwise (· ≠ ·)):=Lib.hid (List.pairwise_append.2 ⟨HAP.out,List.pairwise_singleton _ _,fun a ha b hb=>by
    rw[List.mem_singleton] at hb
    subst hb
    obtain⟨i,hi,rfl⟩:=List.getElem_of_mem ha
    have:=lt_blk (HALL.out i hi (by have:=HG.out;omega)).2.blk
    omega⟩)
   have HG1:Hid (w.heap.size < g1):=Lib.hid (by have:=HWS.out;omega)
   have HTB:=Lib.hid htb
   have HWS2:Hid (w.heap.size < w2.heap.size):=Lib.hid (Nat.lt_of_lt_of_le HWS.out hv.size)
   have HLT2:Hid (n=k+1+(n - (k+1))):=Lib.hid (by have:=HLT.out;omega)
   have hkn:k+1≤n+1:=by have:=HLT.out;omega
   clear hg1 htb hv hcell hin HCALL HALL HBR HWS HOWN HLT
   go_wp2_with (at_builtin;refine wpList_append_fits _ rfl (.tmp 15) (.tmp 21) 26 rfl w.heap.size 42 i0 1 Tryz.underlying26 hi0 hz1 w.heap.size k (n+1) _ rfl (hown2.alloc _) ⟨w2.heap.size,0,none⟩ 1 1 [.slice (some ⟨g1,0,none⟩) n' (n'+1)] rfl rfl (one_src _ _ _) (one_one rfl) (by omega) ?_;intro w3 hown3 hg3)
   go_roundw
   case rel=>
    have hal:Below w2.heap.size w2 (w2.alloc (.cells #[.slice (some ⟨g1,0,none⟩) n' (n'+1)] 42)):=(Below.refl _ _).alloc (Nat.le_refl _) _
    refine⟨k+1,gs++ [g1],by go_num,by have:=HLT2.out;have:=HL.out;omega,by rw[List.length_append,HG.out];rfl,rfl,HAP2.out,?_,tw_next HG.out hk' (fun i h h'=>⟨(HALL2.out i h h').1,(HALL2.out i h h').2.keep hal⟩) HG1.out (HTB.out.keep hal) hg3,(HB2.out.alloc HB2.out.size _).grown hg3 (Nat.le_trans HB2.out.size (by simp)) (by intro j hj;injection hj with hj;omega),?_⟩
    ·rw[← hdv_snoc hk' HG.out]
     rw[show hdv g1 l[k]= .slice (some ⟨g1,0,none⟩) n' (n'+1) by unfold hdv;rw[HN.out]]
     exact hown3
    ·have h1:=HWS2.out
     have h2:=hg3.size
     simp only[World.size_alloc] at h2
     omega
   case measure=>
    have:=HLT2.out
    simp[intOf]
    omega
  ·obtain rfl:k=n:=by have:=HL.out;omega
   have hal:Below wr.heap.size wr ((wr.alloc (.cells cs 4)).alloc (.cells #[.slice (some ⟨wr.heap.size,0,none⟩) 77 77] 42)):=two_bel wr _ _
   have HALL2:Hid (∀i (h:i < gs.length) (h':i < l.length),w.heap.size < gs[i]∧TwB ((wr.alloc (.cells cs 4)).alloc (.cells #[.slice (some ⟨wr.heap.size,0,none⟩) 77 77] 42)) gs[i] l[i]):=Lib.hid fun i h h'=>⟨(hall i h h').1,(hall i h h').2.keep hal⟩
   have HG:=Lib.hid hgs
   have HBR:=Lib.hid hbr
   have hownA:=(hown.alloc (.cells cs 4)).alloc (.cells #[.slice (some ⟨wr.heap.size,0,none⟩) 77 77] 42)
   have hsz:(wr.alloc (.cells cs 4)).heap.size=wr.heap.size+1:=by simp
   have hsrc:=one_src (wr.alloc (.cells cs 4)) (.slice (some ⟨wr.heap.size,0,none⟩) 77 77) 42
   rw[hsz] at hsrc
   clear hall hal hgs hbr hlt hk hsz hown
   go_wp2_with (at_builtin;refine wpList_append_fits _ rfl (.tmp 23) (.tmp 25) 26 rfl w.heap.size 42 i0 1 Tryz.underlying26 hi0 hz1 w.heap.size k (k+1) _ rfl hownA ⟨wr.heap.size+1,0,none⟩ 1 1 [.slice (some ⟨wr.heap.size,0,none⟩) 77 77] rfl rfl hsrc (one_one rfl) (by omega) ?_;intro w2 hown2 hg2)
   go_ret
   obtain⟨hblk,-⟩:=own_all1 hown2 rfl
   rw[List.take_of_length_le (by rw[HL.out];exact Nat.le_refl _)] at hblk
   refine⟨w.heap.size,rfl,⟨gs,_,by rw[HG.out,HL.out],hblk,⟨Nat.le_refl _,fun x hx=>by
    obtain⟨i,hi,rfl⟩:=List.getElem_of_mem hx
    exact Nat.le_of_lt (HALL2.out i hi (by have h1:=HG.out;have h2:=HL.out;omega)).1,HAP.out⟩,fun i h h'=> ?_⟩,?_⟩
   ·obtain⟨a1,a2⟩:=HALL2.out i h h'
    exact⟨(hg2.block _ (lt_blk a2.blk) (fun e=>by injection e with e;omega)).trans a2.blk⟩
   ·have hb2:Below w.heap.size w ((wr.alloc (.cells cs 4)).alloc (.cells #[.slice (some ⟨wr.heap.size,0,none⟩) 77 77] 42)):=HBR.out.trans ((two_bel wr _ _).mono HBR.out.size)
    exact hb2.grown hg2 hb2.size (by intro j hj;injection hj with hj;omega)
end Go.Proofs.YtphklakjadchmaaGreatDoor.I
