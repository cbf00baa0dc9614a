/- TwT; TwS; RfL; Opn: merged. -/
import Derived.Deep.QuietTactic
import Derived.BigQuiet
import Derived.OwnWalk
import Derived.Handy
import Derived.WalkMore
import Derived.Test.YtmejhedegmjboaaGreatCame
import Derived.Test.YtmejhedegmjboaaGreatSiA
namespace Go.Proofs.YtmejhedegmjboaaGreat.La
open Go.RowKit
theorem nm_size' (w:World):(Go.sizeOf 60).run Tryz.prog w= .ok 1 w:=by kernel_rfl
theorem own_block_all {E:TypeId}{w:World}{base g n c:Nat}{xs:List Value}(h:w.ownsRow base E 1 (.slice (some ⟨g,0,none⟩) n c) n xs)(hc:n=c):w.heap[g]?=some (.cells xs.toArray E (0,0))∧base≤g:=by
 rcases h.2 with⟨hv,_⟩|⟨g',cap,cur,hv,hb,hg,hnc,hcm,hcs,htake⟩
 ·cases hv
 ·injection hv with h1 h2 h3
  injection h1 with h1
  injection h1 with h1
  subst h1
  subst h3
  subst hc
  refine⟨?_,hb⟩
  rw[hg]
  have:cur=xs.toArray:=by
   apply Array.toList_inj.1
   rw[← htake,List.take_of_length_le (by rw[Array.length_toList,hcs];exact Nat.le_refl _)]
  rw[this]
theorem slice_to {P:Program}(W:World)(t e:TypeId)(ht:P.underlying t=some (.slice e))(hz: ∀w,(Go.sizeOf e).run P w= .ok 1 w)(g n c hi:Nat)(h2:hi≤c):
  (Instr.slice t (.slice (some ⟨g,0,none⟩) n c) none (some (.int .i64 (hi:Int))) none).run P W= .ok (.slice (some ⟨g,0,none⟩) hi c) W:=by
 have he:P.elem t=e:=by simp[Program.elem,ht]
 have ht':P.underlying t=some (.slice (P.elem t)):=by rw[he];exact ht
 rw[run_slice_h W t _ _ _ ht' .i64 _ (by omega) (by omega),he,hz]
 simp[Result.andThen,sliced,Addr.add]
end Go.Proofs.YtmejhedegmjboaaGreat.La
namespace Go.Proofs.YtmejhedegmjboaaGreat.La
open Go.RowKit
structure TwinOf (w w':World)(g n:Nat)(l:List Nat):Prop where
 len:l.length=n
 top:n < maxLen
 old:w.heap.size≤g
 blk:w'.heap[g]?=some (.cells (cl (l++ [77])) 60 (0,0))
theorem TwinOf.lt {w w':World}{g n:Nat}{l:List Nat}(h:TwinOf w w' g n l):g < w'.heap.size:=(Array.getElem?_eq_some_iff.1 h.blk).1
theorem TwinOf.keep {w w' w2:World}{g n:Nat}{l:List Nat}(h:TwinOf w w' g n l)(hb:Below w'.heap.size w' w2):TwinOf w w2 g n l:=
 ⟨h.len,h.top,h.old,(hb.block g h.lt).trans h.blk⟩
theorem TwinOf.cell {w w':World}{g n:Nat}{l:List Nat}(h:TwinOf w w' g n l)(j:Nat)(hj:j < (l++ [77]).length):w'.cell? ⟨g,j,none⟩=some (nm (l++ [77])[j]):=by
 rw[cell_blk h.blk,cl_at hj]
 rfl
theorem TwinOf.rd {w w':World}{g n:Nat}{l:List Nat}(h:TwinOf w w' g n l):Rd nm w' w'.heap.size (some ⟨g,0,none⟩) n (n+1) l:=by
 refine⟨h.len,by omega,by have:=h.top;omega,(fun h=>by cases h),fun _=>⟨g,0,rfl,h.lt,fun j hj=> ?_⟩⟩
 have:=h.cell j (by rw[List.length_append];omega)
 rw[Nat.zero_add,this,List.getElem_append_left hj]
def TRel (l:List Nat)(w:World)(g n:Nat)(v3 i4:Value)(wr:World):Prop:=
 ∃k:Nat,i4= .int .i64 (k:Int)∧k≤l.length∧v3= .slice (some ⟨g,0,none⟩) k (n+1)∧wr.ownsRow w.heap.size 60 1 (.slice (some ⟨g,0,none⟩) k (n+1)) k ((l.take k).map nm)∧Below w.heap.size w wr
theorem nm_take_snoc (l:List Nat)(k:Nat)(h:k < l.length):(l.take k).map nm++ [.int .u64 (l[k]:Int)]=(l.take (k+1)).map nm:=by
 rw[List.take_succ_eq_append_getElem h,List.map_append]
 rfl
set_option maxRecDepth 100000 in
set_option maxHeartbeats 400000 in
theorem twin_any (A:Option Addr)(n c:Nat)(l:List Nat)(w:World)(h:Rd nm w w.heap.size A n c l)(hb:n≤1000000):
  Calls Tryz.prog 55 #[.slice A n c] w fun e w'=> ∃g,e= .returned (.slice (some ⟨g,0,none⟩) n (n+1))∧TwinOf w w' g n l∧Below w.heap.size w w':=by
 obtain⟨i0,hi0,hz0,hz1,hz2⟩:=info_parts nm_inf
 have HL:=Lib.hid h.len
 go_enter Tryz.func55,Tryz.ntmps55
 go_wp2_with (at_make;refine wpList_make_own _ rfl _ _ 22 rfl w.heap.size 60 i0 (.int .u64 0) 1 Tryz.underlying22 hi0 hz0 hz1 .i64 .i64 _ (n+1) rfl rfl (by omega) (by rw[hz2];omega) (by unfold maxLen;omega) (Nat.le_refl _) ?_;intro w1 hown1 hg1;have hb1:Below w.heap.size w w1:=(Below.refl _ _).grown hg1 (Nat.le_refl _) (by simp))
 have hsl:=fun W=>slice_to (P:=Tryz.prog) W 22 60 Tryz.underlying22 nm_size' w.heap.size (n+1) (n+1) n (by omega)
 go_loopw [3,4] (fun v3 i4 wr=>TRel l w w.heap.size n v3 i4 wr) (fun _ i4 _=>n - (intOf i4).toNat)
 case atStart=>exact⟨0,rfl,by omega,rfl,hown1,hb1⟩
 case round=>
  obtain⟨k,rfl,hk,rfl,hown,hbr⟩:=hrel
  clear hown1 hb1 hg1
  by_cases hlt:k < n
  ·obtain⟨b,o,rfl,hbb,hc⟩:=h.spot (by omega)
   have hk':k < l.length:=by rw[HL.out];exact hlt
   have hcell:wr.cell? ⟨b,o+k,none⟩=some (.int .u64 (l[k]:Int)):=(hbr.cell (p:=⟨b,o+k,none⟩) hbb).trans (hc k hk')
   have HS:=Lib.hid (nm_take_snoc l k hk')
   clear hc
   generalize l[k]=q at*
   go_wp2_with (at_builtin;refine wpList_append_fits _ rfl (.tmp 15) (.tmp 20) 22 rfl w.heap.size 60 i0 1 Tryz.underlying22 hi0 hz1 w.heap.size k (n+1) _ rfl (hown.alloc _) ⟨wr.heap.size,0,none⟩ 1 1 [.int .u64 (q:Int)] rfl rfl (one_src _ _ _) (one_one rfl) (by omega) ?_;intro w2 hown2 hg2)
   go_roundw
   case rel=>exact⟨k+1,by go_num,by omega,rfl,by rw[← HS.out];exact hown2,(hbr.alloc hbr.size _).grown hg2 (Nat.le_trans hbr.size (by simp)) (by intro j hj;injection hj with hj;omega)⟩
   case measure=>simp[intOf];omega
  ·obtain rfl:k=n:=by have:=HL.out;omega
   go_wp2_with (at_builtin;refine wpList_append_fits _ rfl (.tmp 22) (.tmp 23) 22 rfl w.heap.size 60 i0 1 Tryz.underlying22 hi0 hz1 w.heap.size k (k+1) _ rfl (hown.alloc _) ⟨wr.heap.size,0,none⟩ 1 1 [.int .u64 77] rfl rfl (one_src _ _ _) (one_one rfl) (by omega) ?_;intro w2 hown2 hg2)
   go_ret
   have hl2:(l.take k).map nm++ [.int .u64 77]=(l++ [77]).map nm:=by
    rw[List.take_of_length_le (by rw[HL.out];exact Nat.le_refl _),List.map_append]
    rfl
   rw[hl2] at hown2
   obtain⟨hblk,hold⟩:=own_block_all hown2 rfl
   exact⟨w.heap.size,rfl,⟨HL.out,by unfold maxLen;omega,Nat.le_refl _,hblk⟩,(hbr.alloc hbr.size _).grown hg2 (Nat.le_trans hbr.size (by simp)) (by intro j hj;injection hj with hj;omega)⟩
end Go.Proofs.YtmejhedegmjboaaGreat.La
namespace Go.Proofs.YtmejhedegmjboaaGreat.I
open Go.RowKit
theorem spc_one (l:List Sp): ∀u∈l.flatMap spc,u.oneCell'=true:=by
 intro u hu
 obtain⟨x,_,hx⟩:=List.mem_flatMap.1 hu
 simp only[spc,List.mem_cons,List.not_mem_nil,or_false] at hx
 rcases hx with rfl|rfl|rfl|rfl|rfl <;> rfl
def bMark:Sp:=⟨77,0,0,false,0⟩
abbrev oMarkT:Obj:= .cells #[.int .i64 77,.int .u8 0,.int .u8 0,.bool false,.int .u64 0] 67
def oSp (x:Sp):Obj:= .cells #[.int .i64 x.n,.int .u8 (x.p:Int),.int .u8 (x.s:Int),.bool x.v,.int .u64 x.z] 67
theorem sp_size5 (w:World):(Go.sizeOf 67).run Tryz.prog w= .ok 5 w:=by kernel_rfl
structure TwinP (w w':World)(g n:Nat)(l:List Sp):Prop where
 len:l.length=n
 top:n≤100000
 old:w.heap.size≤g
 blk:w'.heap[g]?=some (.cells ((l++ [bMark]).flatMap spc).toArray 67 (0,0))
theorem TwinP.keep {w w' w2:World}{g n:Nat}{l:List Sp}(h:TwinP w w' g n l)(hb:Below w'.heap.size w' w2):TwinP w w2 g n l:=
 ⟨h.len,h.top,h.old,(hb.block g (lt_blk h.blk)).trans h.blk⟩
theorem TwinP.rs {w w':World}{g n:Nat}{l:List Sp}(h:TwinP w w' g n l):Rs spc 5 w' w'.heap.size (some ⟨g,0,none⟩) n (n+1) l:=
 Rs.of_blk spc_len h.blk ⟨spc bMark,by simp⟩ h.len (by omega) (by have:=h.top;unfold maxLen;omega)
theorem own_allP {w:World}{base g n:Nat}{xs:List Value}(h:w.ownsRow base 67 5 (.slice (some ⟨g,0,none⟩) n n) n xs):w.heap[g]?=some (.cells xs.toArray 67 (0,0))∧base≤g:=by
 rcases h.2 with⟨hv,_⟩|⟨g',cap,cur,hv,hb,hg,hnc,hcm,hcs,htake⟩
 ·cases hv
 ·injection hv with h1 h2 h3
  injection h1 with h1
  injection h1 with h1
  subst h1
  subst h3
  refine⟨?_,hb⟩
  rw[hg]
  have:cur=xs.toArray:=by
   apply Array.toList_inj.1
   rw[← htake,List.take_of_length_le (by rw[Array.length_toList,hcs];exact Nat.le_refl _)]
  rw[this]
def TwRelP (l:List Sp)(w:World)(g n:Nat)(v3 i4:Value)(wr:World):Prop:=
 ∃k:Nat,i4= .int .i64 (k:Int)∧k≤l.length∧v3= .slice (some ⟨g,0,none⟩) k (n+1)∧wr.ownsRow w.heap.size 67 5 (.slice (some ⟨g,0,none⟩) k (n+1)) k ((l.take k).flatMap spc)∧Below w.heap.size w wr
set_option maxRecDepth 100000 in
set_option maxHeartbeats 2000000 in
theorem twinP_any (A:Option Addr)(n c:Nat)(l:List Sp)(w:World)(h:Rs spc 5 w w.heap.size A n c l)(hb:n≤1000):
  Calls Tryz.prog 54 #[.slice A n c] w fun e w'=> ∃g,e= .returned (.slice (some ⟨g,0,none⟩) n (n+1))∧TwinP w w' g n l∧Below w.heap.size w w':=by
 obtain⟨i0,hi0,hz0,hz1,hz2⟩:=info_parts sp_inf
 have HL:=Lib.hid h.len
 go_enter Tryz.func54,Tryz.ntmps54
 go_wp2_with (at_make;refine wpList_make_own _ rfl _ _ 25 rfl w.heap.size 67 i0 zSp 5 Tryz.underlying25 hi0 hz0 hz1 .i64 .i64 _ (n+1) rfl rfl (by omega) (by rw[hz2];omega) (by unfold maxLen;omega) (Nat.le_refl _) ?_;intro w1 hown1 hg1;have hb1:Below w.heap.size w w1:=(Below.refl _ _).grown hg1 (Nat.le_refl _) (by simp))
 have hsl: ∀W,(Instr.slice 25 (.slice (some ⟨w.heap.size,0,none⟩) (n+1) (n+1)) none (some (.int .i64 (n:Int))) none).run Tryz.prog W= .ok (.slice (some ⟨w.heap.size,0,none⟩) n (n+1)) W:=by
  intro W
  rw[run_slice_h W 25 _ _ _ (by rw[show Tryz.prog.elem 25=67 by simp[Program.elem,Tryz.underlying25]];exact Tryz.underlying25) .i64 _ (by omega) (by omega),show Tryz.prog.elem 25=67 by simp[Program.elem,Tryz.underlying25],sp_size5]
  simp[Result.andThen,sliced,Addr.add]
 go_loopw [3,4] (fun v3 i4 wr=>TwRelP l w w.heap.size n v3 i4 wr) (fun _ i4 _=>n - (intOf i4).toNat)
 case atStart=>exact⟨0,rfl,by omega,rfl,hown1,hb1⟩
 case round=>
  obtain⟨k,rfl,hk,rfl,hown,hbr⟩:=hrel
  clear hown1 hb1 hg1
  by_cases hlt:k < n
  ·have hk':k < l.length:=by rw[HL.out];exact hlt
   obtain⟨b,o,rfl,hbb,c0,c1,c2,c3,c4⟩:=spot_at (h.below hbr) hk'
   have HS:Hid ((l.take k).flatMap spc++spc l[k]=(l.take (k+1)).flatMap spc):=Lib.hid (by rw[List.take_succ_eq_append_getElem hk',List.flatMap_append];simp)
   generalize l[k]=x at*
   have hnews: ∀j u,(spc x)[j]?=some u→(wr.alloc (oSp x)).cell? ((⟨wr.heap.size,0,none⟩:Addr).add j)=some u:=by
    intro j u hu
    rw[Addr.add_lit,Nat.zero_add,cell_blk (heap_alloc_new wr (oSp x))]
    rw[← hu, ← Array.getElem?_toList]
    rfl
   have HNEW:=Lib.hid hnews
   have hone: ∀u∈spc x,u.oneCell'=true:=fun u hu=>spc_one [x] u (by simpa using hu)
   have HONE:=Lib.hid hone
   obtain⟨xc,hxc⟩: ∃xc,xc=spc x:=⟨_,rfl⟩
   have HXL:Hid (xc.length=1*5):=Lib.hid (by rw[hxc];rfl)
   rw[← hxc] at HNEW HONE HS
   obtain⟨xn,xp,xs,xv,xz⟩:=x
   unfold oSp at HNEW
   simp only at c0 c1 c2 c3 c4 HNEW
   clear hnews hone hxc
   go_wp2_with (at_builtin;refine wpList_append_fits _ rfl (.tmp 15) (.tmp 20) 25 rfl w.heap.size 67 i0 5 Tryz.underlying25 hi0 hz1 w.heap.size k (n+1) _ rfl (hown.alloc _) ⟨wr.heap.size,0,none⟩ 1 1 xc rfl HXL.out HNEW.out HONE.out (by omega) ?_;intro w2 hown2 hg2)
   go_roundw
   case rel=>exact⟨k+1,by go_num,by omega,rfl,by rw[← HS.out];exact hown2,(hbr.alloc hbr.size _).grown hg2 (Nat.le_trans hbr.size (by simp)) (by intro j hj;injection hj with hj;omega)⟩
   case measure=>simp[intOf];omega
  ·obtain rfl:k=n:=by have:=HL.out;omega
   have hnews: ∀j u,(spc bMark)[j]?=some u→(wr.alloc oMarkT).cell? ((⟨wr.heap.size,0,none⟩:Addr).add j)=some u:=by
    intro j u hu
    rw[Addr.add_lit,Nat.zero_add,cell_blk (heap_alloc_new wr oMarkT)]
    rw[← hu, ← Array.getElem?_toList]
    rfl
   have HNEW:=Lib.hid hnews
   have HONE:Hid (∀u∈spc bMark,u.oneCell'=true):=Lib.hid fun u hu=>spc_one [bMark] u (by simpa using hu)
   obtain⟨xc,hxc⟩: ∃xc,xc=spc bMark:=⟨_,rfl⟩
   have HXC:=Lib.hid hxc
   have HXL:Hid (xc.length=1*5):=Lib.hid (by rw[hxc];rfl)
   rw[← hxc] at HNEW HONE
   clear hnews hxc
   go_wp2_with (at_builtin;refine wpList_append_fits _ rfl (.tmp 22) (.tmp 24) 25 rfl w.heap.size 67 i0 5 Tryz.underlying25 hi0 hz1 w.heap.size k (k+1) _ rfl (hown.alloc _) ⟨wr.heap.size,0,none⟩ 1 1 xc rfl HXL.out HNEW.out HONE.out (by omega) ?_;intro w2 hown2 hg2)
   go_ret
   have hl2:(l.take k).flatMap spc++xc=(l++ [bMark]).flatMap spc:=by
    rw[List.take_of_length_le (by rw[HL.out];exact Nat.le_refl _),List.flatMap_append,HXC.out]
    simp
   rw[hl2] at hown2
   obtain⟨hblk,hold⟩:=own_allP hown2
   exact⟨w.heap.size,rfl,⟨HL.out,by omega,Nat.le_refl _,hblk⟩,(hbr.alloc hbr.size _).grown hg2 (Nat.le_trans hbr.size (by simp)) (by intro j hj;injection hj with hj;omega)⟩
end Go.Proofs.YtmejhedegmjboaaGreat.I
namespace Go.Proofs.YtmejhedegmjboaaGreat.I
open Go.RowKit
structure TwB (w:World)(g:Nat)(l:List Bool):Prop where
 blk:w.heap[g]?=some (.cells ((l++ [false]).map Value.bool).toArray 4 (0,0))
theorem TwB.cell {w:World}{g:Nat}{l:List Bool}(h:TwB w g l)(j:Nat)(hj:j < (l++ [false]).length):w.cell? ⟨g,j,none⟩=some (.bool (l++ [false])[j]):=by
 rw[cell_blk h.blk,List.getElem?_toArray,List.getElem?_map,List.getElem?_eq_getElem hj]
 rfl
theorem TwB.rd {w:World}{g:Nat}{l:List Bool}(h:TwB w g l)(hl:l.length≤100000):Rd Value.bool w w.heap.size (some ⟨g,0,none⟩) l.length (l.length+1) l:=by
 refine⟨rfl,by omega,by unfold maxLen;omega,(fun h=>by cases h),fun _=>⟨g,0,rfl,lt_blk h.blk,fun j hj=> ?_⟩⟩
 have:=h.cell j (by rw[List.length_append];omega)
 rw[Nat.zero_add,this,List.getElem_append_left hj]
theorem TwB.keep {w W:World}{g:Nat}{l:List Bool}(h:TwB w g l)(hb:Below w.heap.size w W):TwB W g l:=⟨(hb.block g (lt_blk h.blk)).trans h.blk⟩
theorem bo_size (w:World):(Go.sizeOf 4).run Tryz.prog w= .ok 1 w:=by kernel_rfl
theorem bl_size (w:World):(Go.sizeOf 71).run Tryz.prog w= .ok 1 w:=by kernel_rfl
def BRel (l:List Bool)(w:World)(g n:Nat)(v3 i4:Value)(wr:World):Prop:=
 ∃k:Nat,i4= .int .i64 (k:Int)∧k≤l.length∧v3= .slice (some ⟨g,0,none⟩) k (n+1)∧wr.ownsRow w.heap.size 4 1 (.slice (some ⟨g,0,none⟩) k (n+1)) k ((l.take k).map Value.bool)∧Below w.heap.size w wr
theorem bo_take_snoc (l:List Bool)(k:Nat)(h:k < l.length):(l.take k).map Value.bool++ [.bool l[k]]=(l.take (k+1)).map Value.bool:=by
 rw[List.take_succ_eq_append_getElem h,List.map_append]
 rfl
set_option maxRecDepth 100000 in
set_option maxHeartbeats 400000 in
theorem twinBo_any (A:Option Addr)(n c:Nat)(l:List Bool)(w:World)(h:Rd Value.bool w w.heap.size A n c l)(hb:n≤1000):
  Calls Tryz.prog 94 #[.slice A n c] w fun e w'=> ∃g,e= .returned (.slice (some ⟨g,0,none⟩) n (n+1))∧w.heap.size≤g∧TwB w' g l∧Below w.heap.size w w':=by
 obtain⟨i0,hi0,hz0,hz1,hz2⟩:=info_parts Re.inf4
 have HL:=Lib.hid h.len
 go_enter Tryz.func94,Tryz.ntmps94
 go_wp2_with (at_make;refine wpList_make_own _ rfl _ _ 71 rfl w.heap.size 4 i0 (.bool false) 1 Tryz.underlying71 hi0 hz0 hz1 .i64 .i64 _ (n+1) rfl rfl (by omega) (by rw[hz2];omega) (by unfold maxLen;omega) (Nat.le_refl _) ?_;intro w1 hown1 hg1;have hb1:Below w.heap.size w w1:=(Below.refl _ _).grown hg1 (Nat.le_refl _) (by simp))
 have hsl:=fun W=>La.slice_to (P:=Tryz.prog) W 71 4 Tryz.underlying71 bo_size w.heap.size (n+1) (n+1) n (by omega)
 go_loopw [3,4] (fun v3 i4 wr=>BRel l w w.heap.size n v3 i4 wr) (fun _ i4 _=>n - (intOf i4).toNat)
 case atStart=>exact⟨0,rfl,by omega,rfl,hown1,hb1⟩
 case round=>
  obtain⟨k,rfl,hk,rfl,hown,hbr⟩:=hrel
  clear hown1 hb1 hg1
  by_cases hlt:k < n
  ·obtain⟨b,o,rfl,hbb,hc⟩:=h.spot (by omega)
   have hk':k < l.length:=by rw[HL.out];exact hlt
   have hcell:wr.cell? ⟨b,o+k,none⟩=some (.bool l[k]):=(hbr.cell (p:=⟨b,o+k,none⟩) hbb).trans (hc k hk')
   have HS:=Lib.hid (bo_take_snoc l k hk')
   clear hc
   generalize l[k]=q at*
   go_wp2_with (at_builtin;refine wpList_append_fits _ rfl (.tmp 15) (.tmp 20) 71 rfl w.heap.size 4 i0 1 Tryz.underlying71 hi0 hz1 w.heap.size k (n+1) _ rfl (hown.alloc _) ⟨wr.heap.size,0,none⟩ 1 1 [.bool q] rfl rfl (one_src _ _ _) (one_one rfl) (by omega) ?_;intro w2 hown2 hg2)
   go_roundw
   case rel=>exact⟨k+1,by go_num,by omega,rfl,by rw[← HS.out];exact hown2,(hbr.alloc hbr.size _).grown hg2 (Nat.le_trans hbr.size (by simp)) (by intro j hj;injection hj with hj;omega)⟩
   case measure=>simp[intOf];omega
  ·obtain rfl:k=n:=by have:=HL.out;omega
   go_wp2_with (at_builtin;refine wpList_append_fits _ rfl (.tmp 22) (.tmp 23) 71 rfl w.heap.size 4 i0 1 Tryz.underlying71 hi0 hz1 w.heap.size k (k+1) _ rfl (hown.alloc _) ⟨wr.heap.size,0,none⟩ 1 1 [.bool false] rfl rfl (one_src _ _ _) (one_one rfl) (by omega) ?_;intro w2 hown2 hg2)
   go_ret
   have hl2:(l.take k).map Value.bool++ [.bool false]=(l++ [false]).map Value.bool:=by
    rw[List.take_of_length_le (by rw[HL.out];exact Nat.le_refl _),List.map_append]
    rfl
   rw[hl2] at hown2
   obtain⟨hblk,hold⟩:=La.own_block_all hown2 rfl
   exact⟨w.heap.size,rfl,Nat.le_refl _,⟨hblk⟩,(hbr.alloc hbr.size _).grown hg2 (Nat.le_trans hbr.size (by simp)) (by intro j hj;injection hj with hj;omega)⟩
theorem two_bel (w:World)(o o':Obj):Below w.heap.size w ((w.alloc o).alloc o'):=((Below.refl _ _).alloc (Nat.le_refl _) _).alloc (by simp) _
def hdv (g:Nat)(r:List Bool):Value:= .slice (some ⟨g,0,none⟩) r.length (r.length+1)
structure TwL (w:World)(g:Nat)(l:List (List Bool)):Prop where
 ex: ∃(gs:List Nat) (gm:Nat),gs.length=l.length∧w.heap[g]?=some (.cells (List.zipWith hdv gs l++ [Value.slice (some ⟨gm,0,none⟩) 77 77]).toArray 71 (0,0))∧ ∀i (h:i < gs.length) (h':i < l.length),TwB w gs[i] l[i]
theorem TwL.keep {w W:World}{g:Nat}{l:List (List Bool)}(h:TwL w g l)(hb:Below w.heap.size w W):TwL W g l:=by
 obtain⟨gs,gm,h1,h2,h3⟩:=h.ex
 exact⟨gs,gm,h1,(hb.block g (lt_blk h2)).trans h2,fun i a b=>(h3 i a b).keep hb⟩
theorem TwL.rows {w:World}{g:Nat}{l:List (List Bool)}(h:TwL w g l)(hl:l.length≤100000)(hr: ∀r∈l,r.length≤100000):BRows w w.heap.size (some ⟨g,0,none⟩) l.length (l.length+1) l:=by
 obtain⟨gs,gm,h1,h2,h3⟩:=h.ex
 refine⟨List.zipWith (fun g r=>(some ⟨g,0,none⟩,r.length,r.length+1)) gs l,⟨by simp[h1],by omega,by unfold maxLen;omega,(fun e=>by cases e),fun _=>⟨g,0,rfl,lt_blk h2,fun j hj=> ?_⟩⟩,by simp[h1],fun i a b=> ?_⟩
 ·have hj':j < l.length:=by simpa [h1] using hj
  have hz:j < (List.zipWith hdv gs l).length:=by simp[h1,hj']
  rw[Nat.zero_add,cell_blk h2,List.getElem?_toArray,List.getElem?_append_left hz,List.getElem?_eq_getElem hz,List.getElem_zipWith,List.getElem_zipWith]
  rfl
 ·rw[List.getElem_zipWith]
  exact(h3 i (by omega) b).rd (hr _ (List.getElem_mem b))
def LiRel (l:List (List Bool))(w:World)(g n:Nat)(v3 i4:Value)(wr:World):Prop:=
 ∃(k:Nat) (gs:List Nat),i4= .int .i64 (k:Int)∧k≤l.length∧gs.length=k∧v3= .slice (some ⟨g,0,none⟩) k (n+1)∧wr.ownsRow w.heap.size 71 1 (.slice (some ⟨g,0,none⟩) k (n+1)) k (List.zipWith hdv gs (l.take k))∧(∀i (h:i < gs.length) (h':i < l.length),w.heap.size < gs[i]∧TwB wr gs[i] l[i])∧Below w.heap.size w wr∧w.heap.size < wr.heap.size
theorem hdv_snoc {l:List (List Bool)}{gs:List Nat}{k g1:Nat}(hk:k < l.length)(hg:gs.length=k):List.zipWith hdv gs (l.take k)++ [hdv g1 l[k]]=List.zipWith hdv (gs++ [g1]) (l.take (k+1)):=by
 rw[List.take_succ_eq_append_getElem hk,List.zipWith_append (by rw[hg,List.length_take];omega)]
 rfl
theorem own_all1 {w:World}{base g n c:Nat}{xs:List Value}(h:w.ownsRow base 71 1 (.slice (some ⟨g,0,none⟩) n c) n xs)(hc:n=c):w.heap[g]?=some (.cells xs.toArray 71 (0,0))∧base≤g:=La.own_block_all h hc
theorem tw_next {l:List (List Bool)}{gs:List Nat}{k g1 b:Nat}{W W2:World}(hg:gs.length=k)(hk:k < l.length)(h: ∀i (h:i < gs.length) (h':i < l.length),b < gs[i]∧TwB W gs[i] l[i])(h1:b < g1)(h2:TwB W g1 l[k])(hg2:W.grownBy W2 (some b)): ∀i (h:i < (gs++ [g1]).length) (h':i < l.length),b < (gs++ [g1])[i]∧TwB W2 (gs++ [g1])[i] l[i]:=fun i hi hi'=>by
 have mv: ∀g r,b < g→TwB W g r→TwB W2 g r:=fun g r hb ht=>⟨(hg2.block g (lt_blk ht.blk) (fun e=>by injection e with e;omega)).trans ht.blk⟩
 by_cases hl:i < gs.length
 ·rw[List.getElem_append_left hl]
  obtain⟨a1,a2⟩:=h i hl hi'
  exact⟨a1,mv _ _ a1 a2⟩
 ·have hi2:i=k:=by rw[List.length_append,List.length_singleton] at hi;omega
  subst hi2
  rw[List.getElem_append_right (by omega)]
  simp only[hg,Nat.sub_self,List.getElem_singleton]
  exact⟨h1,mv _ _ h1 h2⟩
set_option maxRecDepth 100000 in
set_option maxHeartbeats 2000000 in
theorem twinLi_any (A:Option Addr)(n c:Nat)(l:List (List Bool))(w:World)(h:BRows w w.heap.size A n c l)(hb:n≤1000)(hr: ∀r∈l,r.length≤1000):
  Calls Tryz.prog 56 #[.slice A n c] w fun e w'=> ∃g,e= .returned (.slice (some ⟨g,0,none⟩) n (n+1))∧TwL w' g l∧Below w.heap.size w w':=by
 obtain⟨i0,hi0,hz0,hz1,hz2⟩:=info_parts Re.inf34
 have HL:=Lib.hid h.len
 have HR:=Lib.hid h
 have HRR:=Lib.hid hr
 clear h hr
 obtain⟨cs,hmk⟩: ∃cs,∀W,(Instr.makeSlice 71 (.int .i64 77) (.int .i64 77)).run Tryz.prog W= .ok (.slice (some ⟨W.heap.size,0,none⟩) 77 77) (W.alloc (.cells cs 4)):=⟨_,make_room (fun _=>false) 77 (by decide)⟩
 go_enter Tryz.func56,Tryz.ntmps56
 go_wp2_with (at_make;refine wpList_make_own _ rfl _ _ 26 rfl w.heap.size 71 i0 (.slice none 0 0) 1 Tryz.underlying26 hi0 hz0 hz1 .i64 .i64 _ (n+1) rfl rfl (by omega) (by rw[hz2];omega) (by unfold maxLen;omega) (Nat.le_refl _) ?_;intro w1 hown1 hg1;have hb1:Below w.heap.size w w1:=(Below.refl _ _).grown hg1 (Nat.le_refl _) (by simp))
 have hsl:=fun W=>La.slice_to (P:=Tryz.prog) W 26 71 Tryz.underlying26 bl_size w.heap.size (n+1) (n+1) n (by omega)
 have hlt1:w.heap.size < w1.heap.size:=(own_block hown1 rfl).2.1
 go_loopw [3,4] (fun v3 i4 wr=>LiRel l w w.heap.size n v3 i4 wr) (fun _ i4 _=>n - (intOf i4).toNat)
 case atStart=>exact⟨0,[],rfl,by omega,rfl,rfl,hown1,(fun i h=>absurd h (Nat.not_lt_zero i)),hb1,hlt1⟩
 case round=>
  obtain⟨k,gs,rfl,hk,hgs,rfl,hown,hall,hbr,hws⟩:=hrel
  clear hown1 hb1 hg1 hlt1
  by_cases hlt:k < n
  ·have hk':k < l.length:=by rw[HL.out];exact hlt
   obtain⟨b,o,A',n',c',rfl,hbb,hcell,hrd⟩:=(HR.out.at_size (Nat.le_refl _) hbr).row hk'
   have hn':=hrd.len
   have hcall:=twinBo_any A' n' c' l[k] wr hrd (by rw[← hn'];exact HRR.out _ (List.getElem_mem hk'))
   have HCALL:=Lib.hid hcall
   have HN:=Lib.hid hn'
   have HG:=Lib.hid hgs
   have HALL:=Lib.hid hall
   have HBR:=Lib.hid hbr
   have HWS:=Lib.hid hws
   have HOWN:=Lib.hid hown
   have HLT:=Lib.hid hlt
   have hin:(k:Int) < (n:Int):=by omega
   clear hrd hcall hbb hn' hgs hall hbr hws hown hlt hk
   go_wp2_with fail
   refine HCALL.out.mono ?_
   rintro e w2 ⟨g1,rfl,hg1,htb,hv⟩
   have hown2:=own_behind HOWN.out hv
   have HB2:=Lib.hid (HBR.out.trans (hv.mono HBR.out.size))
   have HALL2:Hid (∀i (h:i < gs.length) (h':i < l.length),w.heap.size < gs[i]∧TwB w2 gs[i] l[i]):=Lib.hid fun i h h'=>⟨(HALL.out i h h').1,(HALL.out i h h').2.keep hv⟩
   have HG1:Hid (w.heap.size < g1):=Lib.hid (by have:=HWS.out;omega)
   have HTB:=Lib.hid htb
   have HWS2:Hid (w.heap.size < w2.heap.size):=Lib.hid (Nat.lt_of_lt_of_le HWS.out hv.size)
   have HLT2:Hid (n=k+1+(n - (k+1))):=Lib.hid (by have:=HLT.out;omega)
   have hkn:k+1≤n+1:=by have:=HLT.out;omega
   clear hg1 htb hv hcell hin HCALL HALL HBR HWS HOWN HLT
   go_wp2_with (at_builtin;refine wpList_append_fits _ rfl (.tmp 15) (.tmp 21) 26 rfl w.heap.size 71 i0 1 Tryz.underlying26 hi0 hz1 w.heap.size k (n+1) _ rfl (hown2.alloc _) ⟨w2.heap.size,0,none⟩ 1 1 [.slice (some ⟨g1,0,none⟩) n' (n'+1)] rfl rfl (one_src _ _ _) (one_one rfl) (by omega) ?_;intro w3 hown3 hg3)
   go_roundw
   case rel=>
    have hal:Below w2.heap.size w2 (w2.alloc (.cells #[.slice (some ⟨g1,0,none⟩) n' (n'+1)] 71)):=(Below.refl _ _).alloc (Nat.le_refl _) _
    refine⟨k+1,gs++ [g1],by go_num,by have:=HLT2.out;have:=HL.out;omega,by rw[List.length_append,HG.out];rfl,rfl,?_,tw_next HG.out hk' (fun i h h'=>⟨(HALL2.out i h h').1,(HALL2.out i h h').2.keep hal⟩) HG1.out (HTB.out.keep hal) hg3,(HB2.out.alloc HB2.out.size _).grown hg3 (Nat.le_trans HB2.out.size (by simp)) (by intro j hj;injection hj with hj;omega),?_⟩
    ·rw[← hdv_snoc hk' HG.out]
     rw[show hdv g1 l[k]= .slice (some ⟨g1,0,none⟩) n' (n'+1) by unfold hdv;rw[HN.out]]
     exact hown3
    ·have h1:=HWS2.out
     have h2:=hg3.size
     simp only[World.size_alloc] at h2
     omega
   case measure=>
    have:=HLT2.out
    simp[intOf]
    omega
  ·obtain rfl:k=n:=by have:=HL.out;omega
   have hal:Below wr.heap.size wr ((wr.alloc (.cells cs 4)).alloc (.cells #[.slice (some ⟨wr.heap.size,0,none⟩) 77 77] 71)):=two_bel wr _ _
   have HALL2:Hid (∀i (h:i < gs.length) (h':i < l.length),w.heap.size < gs[i]∧TwB ((wr.alloc (.cells cs 4)).alloc (.cells #[.slice (some ⟨wr.heap.size,0,none⟩) 77 77] 71)) gs[i] l[i]):=Lib.hid fun i h h'=>⟨(hall i h h').1,(hall i h h').2.keep hal⟩
   have HG:=Lib.hid hgs
   have HBR:=Lib.hid hbr
   have hownA:=(hown.alloc (.cells cs 4)).alloc (.cells #[.slice (some ⟨wr.heap.size,0,none⟩) 77 77] 71)
   have hsz:(wr.alloc (.cells cs 4)).heap.size=wr.heap.size+1:=by simp
   have hsrc:=one_src (wr.alloc (.cells cs 4)) (.slice (some ⟨wr.heap.size,0,none⟩) 77 77) 71
   rw[hsz] at hsrc
   clear hall hal hgs hbr hlt hk hsz hown
   go_wp2_with (at_builtin;refine wpList_append_fits _ rfl (.tmp 23) (.tmp 25) 26 rfl w.heap.size 71 i0 1 Tryz.underlying26 hi0 hz1 w.heap.size k (k+1) _ rfl hownA ⟨wr.heap.size+1,0,none⟩ 1 1 [.slice (some ⟨wr.heap.size,0,none⟩) 77 77] rfl rfl hsrc (one_one rfl) (by omega) ?_;intro w2 hown2 hg2)
   go_ret
   obtain⟨hblk,-⟩:=own_all1 hown2 rfl
   rw[List.take_of_length_le (by rw[HL.out];exact Nat.le_refl _)] at hblk
   refine⟨w.heap.size,rfl,⟨gs,_,by rw[HG.out,HL.out],hblk,fun i h h'=> ?_⟩,?_⟩
   ·obtain⟨a1,a2⟩:=HALL2.out i h h'
    exact⟨(hg2.block _ (lt_blk a2.blk) (fun e=>by injection e with e;omega)).trans a2.blk⟩
   ·have hb2:Below w.heap.size w ((wr.alloc (.cells cs 4)).alloc (.cells #[.slice (some ⟨wr.heap.size,0,none⟩) 77 77] 71)):=HBR.out.trans ((two_bel wr _ _).mono HBR.out.size)
    exact hb2.grown hg2 hb2.size (by intro j hj;injection hj with hj;omega)
end Go.Proofs.YtmejhedegmjboaaGreat.I
namespace Go.Proofs.YtmejhedegmjboaaGreat.I
open Go.RowKit
theorem TwL.off {w W:World}{g q:Nat}{l:List (List Bool)}{cs:Array Value}(h:TwL w g l)(hq:w.heap[q]?=some (.cells cs 28 (0,0)))(hk: ∀b,b≠q→W.heap[b]?=w.heap[b]?):TwL W g l:=by
 obtain⟨gs,gm,h1,h2,h3⟩:=h.ex
 have ht: ∀(g t:Nat) (cs:Array Value),w.heap[g]?=some (.cells cs t (0,0))→t≠28→g≠q:=fun g t cs hg hne e=>by
  rw[e,hq] at hg
  injection hg with hg
  injection hg with _ hg
  exact hne hg.symm
 exact⟨gs,gm,h1,(hk _ (ht _ _ _ h2 (by decide))).trans h2,fun i a b=>⟨(hk _ (ht _ _ _ (h3 i a b).blk (by decide))).trans (h3 i a b).blk⟩⟩
structure TwSen (w0 w:World)(g1 g2 g3 g4:Nat)(z:Sen)(n1 n2 n3 n4:Nat):Prop where
 t1:TwinP w0 w g1 n1 z.p
 t2:La.TwinOf w0 w g2 n2 z.lo
 t3:La.TwinOf w0 w g3 n3 z.hi
 t4:TwL w g4 z.be
 l4:z.be.length=n4
theorem TwSen.keep {w0 w W:World}{g1 g2 g3 g4:Nat}{z:Sen}{n1 n2 n3 n4:Nat}(h:TwSen w0 w g1 g2 g3 g4 z n1 n2 n3 n4)(hb:Below w.heap.size w W):TwSen w0 W g1 g2 g3 g4 z n1 n2 n3 n4:=⟨h.t1.keep hb,h.t2.keep hb,h.t3.keep hb,h.t4.keep hb,h.l4⟩
theorem TwSen.at {w0 w:World}{g1 g2 g3 g4:Nat}{z:Sen}{n1 n2 n3 n4:Nat}(h:TwSen w0 w g1 g2 g3 g4 z n1 n2 n3 n4)(fl:La.Fit z.lo)(fh:La.Fit z.hi)(hn:n4≤1000)(hr: ∀r∈z.be,r.length≤1000):SenAt w z (some ⟨g1,0,none⟩) n1 (n1+1) (some ⟨g2,0,none⟩) n2 (n2+1) (some ⟨g3,0,none⟩) n3 (n3+1) (some ⟨g4,0,none⟩) n4 (n4+1):=
 ⟨h.t1.rs,h.t2.rd,h.t3.rd,by rw[← h.l4];exact h.t4.rows (by rw[h.l4];omega) (fun r k=>by have:=hr r k;omega),fl,fh⟩
structure B4 (w:World)(g:Nat)(A1:Option Addr)(n1 c1:Nat)(A2:Option Addr)(n2 c2:Nat)(A3:Option Addr)(n3 c3:Nat)(A4:Option Addr)(n4 c4:Nat):Prop where
 p0:w.cell? ⟨g,0,none⟩=some (.slice A1 n1 c1)
 p1:w.cell? ⟨g,1,none⟩=some (.slice A2 n2 c2)
 p2:w.cell? ⟨g,2,none⟩=some (.slice A3 n3 c3)
 p3:w.cell? ⟨g,3,none⟩=some (.slice A4 n4 c4)
theorem B4.keep {w W:World}{g:Nat}{A1:Option Addr}{n1 c1:Nat}{A2:Option Addr}{n2 c2:Nat}{A3:Option Addr}{n3 c3:Nat}{A4:Option Addr}{n4 c4:Nat}(h:B4 w g A1 n1 c1 A2 n2 c2 A3 n3 c3 A4 n4 c4)(hb:Below w.heap.size w W):B4 W g A1 n1 c1 A2 n2 c2 A3 n3 c3 A4 n4 c4:=⟨cell_old h.p0 hb,cell_old h.p1 hb,cell_old h.p2 hb,cell_old h.p3 hb⟩
theorem B4.blk {w:World}{g:Nat}{A1:Option Addr}{n1 c1:Nat}{A2:Option Addr}{n2 c2:Nat}{A3:Option Addr}{n3 c3:Nat}{A4:Option Addr}{n4 c4:Nat}(h:w.heap[g]?=some (.cells #[.slice A1 n1 c1,.slice A2 n2 c2,.slice A3 n3 c3,.slice A4 n4 c4] 28 (0,0))):B4 w g A1 n1 c1 A2 n2 c2 A3 n3 c3 A4 n4 c4:=⟨(cell_blk (i:=0) h).trans rfl,(cell_blk (i:=1) h).trans rfl,(cell_blk (i:=2) h).trans rfl,(cell_blk (i:=3) h).trans rfl⟩
def ZSen (w:World)(g:Nat):Prop:=w.heap[g]?=some (.cells #[.slice none 0 0,.slice none 0 0,.slice none 0 0,.slice none 0 0] 28 (0,0))
theorem ZSen.keep {w W:World}{g:Nat}(h:ZSen w g)(hb:Below w.heap.size w W):ZSen W g:=(hb.block g (lt_blk h)).trans h
set_option maxRecDepth 100000 in
set_option maxHeartbeats 4000000 in
theorem twinSen_any (A1:Option Addr)(n1 c1:Nat)(A2:Option Addr)(n2 c2:Nat)(A3:Option Addr)(n3 c3:Nat)(A4:Option Addr)(n4 c4:Nat)(z:Sen)(w:World)(h:SenAt w z A1 n1 c1 A2 n2 c2 A3 n3 c3 A4 n4 c4)(hn1:n1≤1000)(hn2:n2≤1000)(hn3:n3≤1000)(hn4:n4≤1000)(hr: ∀r∈z.be,r.length≤1000):
  Calls Tryz.prog 22 #[senV A1 n1 c1 A2 n2 c2 A3 n3 c3 A4 n4 c4] w fun e w'=> ∃g1 g2 g3 g4,e= .returned (senV (some ⟨g1,0,none⟩) n1 (n1+1) (some ⟨g2,0,none⟩) n2 (n2+1) (some ⟨g3,0,none⟩) n3 (n3+1) (some ⟨g4,0,none⟩) n4 (n4+1))∧TwSen w w' g1 g2 g3 g4 z n1 n2 n3 n4∧Below w.heap.size w w':=by
 unfold senV
 have HN1:=Lib.hid hn1
 have HN2:=Lib.hid hn2
 have HN3:=Lib.hid hn3
 have HN4:=Lib.hid hn4
 have HRR:=Lib.hid hr
 have hal:Below w.heap.size w (w.alloc (.cells #[.slice A1 n1 c1,.slice A2 n2 c2,.slice A3 n3 c3,.slice A4 n4 c4] 28)):=(Below.refl _ _).alloc (Nat.le_refl _) _
 have hz:=B4.blk (heap_alloc_new w (.cells #[.slice A1 n1 c1,.slice A2 n2 c2,.slice A3 n3 c3,.slice A4 n4 c4] 28))
 obtain⟨wa,hwa⟩: ∃wa,w.alloc (.cells #[.slice A1 n1 c1,.slice A2 n2 c2,.slice A3 n3 c3,.slice A4 n4 c4] 28)=wa:=⟨_,rfl⟩
 rw[hwa] at hz hal
 have hsa:wa.heap.size=w.heap.size+1:=by rw[← hwa,World.size_alloc]
 have hy:ZSen (wa.alloc (.cells #[.slice none 0 0,.slice none 0 0,.slice none 0 0,.slice none 0 0] 28)) wa.heap.size:=heap_alloc_new wa _
 have hv:Below wa.heap.size wa (wa.alloc (.cells #[.slice none 0 0,.slice none 0 0,.slice none 0 0,.slice none 0 0] 28)):=(Below.refl _ _).alloc (Nat.le_refl _) _
 rw[hsa] at hy
 replace hz:=hz.keep hv
 have hb:=hal.trans (hv.mono hal.size)
 have h2:=h.keep hb
 clear hv hal hsa h hn1 hn2 hn3 hn4 hr
 subst hwa
 have HB:=Lib.hid hb
 have H:=Lib.hid h2
 clear hb h2
 go_enter Tryz.func22,Tryz.ntmps22
 go_wp2_with fail
 generalize (w.alloc (.cells #[.slice A1 n1 c1,.slice A2 n2 c2,.slice A3 n3 c3,.slice A4 n4 c4] 28)).alloc (.cells #[.slice none 0 0,.slice none 0 0,.slice none 0 0,.slice none 0 0] 28)=w1 at*
 refine wp_region_ord [0,1,3,4,6,7,9,10,2,5,8,11,12,13] [2,5,8,11,13] 14 (fun w'=>B4 w' w.heap.size A1 n1 c1 A2 n2 c2 A3 n3 c3 A4 n4 c4) (by kernel_rfl) (by kernel_rfl) (by kernel_rfl) (by kernel_rfl) (fun _ _ _ _ _ h=>h) (hz.keep (Below.refl _ w1).drew) ?_
 simp only[steps,List.getElem?_cons_zero,List.getElem?_cons_succ]
 repeat(first
  |(refine ord_no rfl ?_;simp only[Act.put,List.setIfInBounds_toArray,List.set_cons_zero,List.set_cons_succ])
  |(refine ord_yes (v:= ?_) rfl rfl ?_ ?_;rotate_left;(focus(rintro w' ⟨hS0,hS1,hS2,hS3⟩;go_simp;try with_reducible rfl));simp only[Act.put,List.setIfInBounds_toArray,List.set_cons_zero,List.set_cons_succ]))
 have hv:Below w1.heap.size w1 w1.drew:=(Below.refl _ _).drew
 replace hz:=hz.keep hv
 replace hy:=hy.keep hv
 have hb2:=HB.out.trans (hv.mono HB.out.size)
 have h2:=H.out.keep hv
 clear HB H hv
 have HB:=Lib.hid hb2
 have H:=Lib.hid h2
 clear hb2 h2
 generalize w1.drew=w2 at*
 refine ord_hard rfl rfl (fun K hK=> ?_)
 go_simp
 refine(twinP_any A1 n1 c1 z.p w2 H.out.rp HN1.out).mono ?_
 rintro e w3 ⟨g1,rfl,t1,hv⟩
 replace hz:=hz.keep hv
 replace hy:=hy.keep hv
 have hb2:=HB.out.trans (hv.mono HB.out.size)
 have h2:=H.out.keep hv
 have hsz1:=HB.out.size
 clear HB H hv
 have HB:=Lib.hid hb2
 have H:=Lib.hid h2
 clear hb2 h2
 refine hK.out _ _ (fun _=>hz) ?_
 clear hK K
 try simp only[Act.put,List.setIfInBounds_toArray,List.set_cons_zero,List.set_cons_succ]
 refine ord_hard rfl rfl (fun K hK=> ?_)
 go_simp
 refine(La.twin_any A2 n2 c2 z.lo w3 H.out.rl (by have:=HN2.out;omega)).mono ?_
 rintro e w4 ⟨g2,rfl,t2,hv⟩
 replace hz:=hz.keep hv
 replace hy:=hy.keep hv
 replace t1:=t1.keep hv
 have hb2:=HB.out.trans (hv.mono HB.out.size)
 have h2:=H.out.keep hv
 have hsz2:=HB.out.size
 clear HB H hv
 have HB:=Lib.hid hb2
 have H:=Lib.hid h2
 clear hb2 h2
 refine hK.out _ _ (fun _=>hz) ?_
 clear hK K
 try simp only[Act.put,List.setIfInBounds_toArray,List.set_cons_zero,List.set_cons_succ]
 refine ord_hard rfl rfl (fun K hK=> ?_)
 go_simp
 refine(La.twin_any A3 n3 c3 z.hi w4 H.out.rh (by have:=HN3.out;omega)).mono ?_
 rintro e w5 ⟨g3,rfl,t3,hv⟩
 replace hz:=hz.keep hv
 replace hy:=hy.keep hv
 replace t1:=t1.keep hv
 replace t2:=t2.keep hv
 have hb2:=HB.out.trans (hv.mono HB.out.size)
 have h2:=H.out.keep hv
 have hsz3:=HB.out.size
 clear HB H hv
 have HB:=Lib.hid hb2
 have H:=Lib.hid h2
 clear hb2 h2
 refine hK.out _ _ (fun _=>hz) ?_
 clear hK K
 try simp only[Act.put,List.setIfInBounds_toArray,List.set_cons_zero,List.set_cons_succ]
 refine ord_hard rfl rfl (fun K hK=> ?_)
 go_simp
 have H4L:=Lib.hid H.out.rb.len
 refine(twinLi_any A4 n4 c4 z.be w5 H.out.rb HN4.out HRR.out).mono ?_
 rintro e w6 ⟨g4,rfl,t4,hv⟩
 replace hz:=hz.keep hv
 replace hy:=hy.keep hv
 replace t1:=t1.keep hv
 replace t2:=t2.keep hv
 replace t3:=t3.keep hv
 have hb2:=HB.out.trans (hv.mono HB.out.size)
 clear HB H hv
 have HB:=Lib.hid hb2
 clear hb2
 refine hK.out _ _ (fun _=>hz) ?_
 clear hK K
 try simp only[Act.put,List.setIfInBounds_toArray,List.set_cons_zero,List.set_cons_succ]
 repeat(first
  |(refine ord_no rfl ?_;simp only[Act.put,List.setIfInBounds_toArray,List.set_cons_zero,List.set_cons_succ])
  |(refine ord_yes (v:= ?_) rfl rfl ?_ ?_;rotate_left;(focus(rintro w' ⟨hS0,hS1,hS2,hS3⟩;go_simp;try with_reducible rfl));simp only[Act.put,List.setIfInBounds_toArray,List.set_cons_zero,List.set_cons_succ]))
 have HT:Hid (TwSen w w6 g1 g2 g3 g4 z n1 n2 n3 n4):=Lib.hid ⟨⟨t1.len,t1.top,Nat.le_trans hsz1 t1.old,t1.blk⟩,⟨t2.len,t2.top,Nat.le_trans hsz2 t2.old,t2.blk⟩,⟨t3.len,t3.top,Nat.le_trans hsz3 t3.old,t3.blk⟩,t4,H4L.out⟩
 have HG:Hid (g1≠w.heap.size+1∧g2≠w.heap.size+1∧g3≠w.heap.size+1):=Lib.hid (by
  have ht: ∀(g t:Nat) (cs:Array Value),w6.heap[g]?=some (.cells cs t (0,0))→t≠28→g≠w.heap.size+1:=fun g t cs hg hne e=>by
   have hh:=hy
   unfold ZSen at hh
   rw[← e,hg] at hh
   injection hh with hh
   injection hh with _ hh
   exact hne hh
  exact⟨ht _ _ _ t1.blk (by decide),ht _ _ _ t2.blk (by decide),ht _ _ _ t3.blk (by decide)⟩)
 clear t1 t2 t3 t4 hsz1 hsz2 hsz3
 have o0:w6.cell? ⟨w.heap.size+1,0,none⟩=some (.slice none 0 0):=by rw[cell_blk hy];rfl
 have o1:w6.cell? ⟨w.heap.size+1,1,none⟩=some (.slice none 0 0):=by rw[cell_blk hy];rfl
 have o2:w6.cell? ⟨w.heap.size+1,2,none⟩=some (.slice none 0 0):=by rw[cell_blk hy];rfl
 have o3:w6.cell? ⟨w.heap.size+1,3,none⟩=some (.slice none 0 0):=by rw[cell_blk hy];rfl
 have fz: ∀i,w6.frozen? ⟨w.heap.size+1,i,none⟩=false:=fun i=>frozen_blk hy
 have f0:=fz 0
 have f1:=fz 1
 have f2:=fz 2
 have f3:=fz 3
 clear fz
 refine ord_hard rfl rfl (fun K hK=> ?_)
 go_simp
 obtain⟨w7,hw7⟩: ∃w7,w7=(((w6.setCell ⟨w.heap.size+1,0,none⟩ (.slice (some ⟨g1,0,none⟩) n1 (n1+1))).setCell ⟨w.heap.size+1,1,none⟩ (.slice (some ⟨g2,0,none⟩) n2 (n2+1))).setCell ⟨w.heap.size+1,2,none⟩ (.slice (some ⟨g3,0,none⟩) n3 (n3+1))).setCell ⟨w.heap.size+1,3,none⟩ (.slice (some ⟨g4,0,none⟩) n4 (n4+1)):=⟨_,rfl⟩
 have hbs:Below (w.heap.size+1) w6 w7:=hw7▸((((Below.refl _ w6).setCell (p:=⟨w.heap.size+1,0,none⟩) (Nat.le_refl _) _).setCell (p:=⟨w.heap.size+1,1,none⟩) (Nat.le_refl _) _).setCell (p:=⟨w.heap.size+1,2,none⟩) (Nat.le_refl _) _).setCell (p:=⟨w.heap.size+1,3,none⟩) (Nat.le_refl _) _
 have hblk:w7.heap[w.heap.size+1]?=some (.cells #[.slice (some ⟨g1,0,none⟩) n1 (n1+1),.slice (some ⟨g2,0,none⟩) n2 (n2+1),.slice (some ⟨g3,0,none⟩) n3 (n3+1),.slice (some ⟨g4,0,none⟩) n4 (n4+1)] 28 (0,0)):=by
  rw[hw7,set_blk (set_blk (set_blk (set_blk hy _) _) _) _]
  rfl
 have hoth: ∀b,b≠w.heap.size+1→w7.heap[b]?=w6.heap[b]?:=fun b hne=>by
  rw[hw7]
  exact(Below.heap_setCell _ _ _ _ hne).trans ((Below.heap_setCell _ _ _ _ hne).trans ((Below.heap_setCell _ _ _ _ hne).trans (Below.heap_setCell _ _ _ _ hne)))
 have hbx:B4 w7 w.heap.size A1 n1 c1 A2 n2 c2 A3 n3 c3 A4 n4 c4:=
  ⟨(hbs.cell (p:=⟨w.heap.size,0,none⟩) (Nat.lt_succ_self _)).trans hz.p0,(hbs.cell (p:=⟨w.heap.size,1,none⟩) (Nat.lt_succ_self _)).trans hz.p1,(hbs.cell (p:=⟨w.heap.size,2,none⟩) (Nat.lt_succ_self _)).trans hz.p2,(hbs.cell (p:=⟨w.heap.size,3,none⟩) (Nat.lt_succ_self _)).trans hz.p3⟩
 have HT2:Hid (TwSen w w7 g1 g2 g3 g4 z n1 n2 n3 n4):=Lib.hid ⟨⟨HT.out.t1.len,HT.out.t1.top,HT.out.t1.old,(hoth _ HG.out.1).trans HT.out.t1.blk⟩,⟨HT.out.t2.len,HT.out.t2.top,HT.out.t2.old,(hoth _ HG.out.2.1).trans HT.out.t2.blk⟩,⟨HT.out.t3.len,HT.out.t3.top,HT.out.t3.old,(hoth _ HG.out.2.2).trans HT.out.t3.blk⟩,HT.out.t4.off hy hoth,HT.out.l4⟩
 have HB2:Hid (Below w.heap.size w w7):=Lib.hid (HB.out.trans ⟨hbs.os,hbs.tape,hbs.output,hbs.size,fun b hb=>hbs.block b (by omega)⟩)
 rw[← hw7]
 clear hw7 hoth hbs o0 o1 o2 o3 f0 f1 f2 f3 hy hz HB HT HG
 refine hK.out _ _ (fun _=>hbx) ?_
 clear hK K hbx
 try simp only[Act.put,List.setIfInBounds_toArray,List.set_cons_zero,List.set_cons_succ]
 refine ord_end ?_
 go_wp2_with fail
 exact bodyPost_ret (results_cell_row (P:=Tryz.prog) rfl _ _ (w.heap.size+1) 28 _ (0,0) _ rfl hblk Tryz.underlying28 rfl rfl) rfl ⟨g1,g2,g3,g4,rfl,HT2.out,HB2.out⟩
end Go.Proofs.YtmejhedegmjboaaGreat.I
namespace Go.Proofs.YtmejhedegmjboaaGreat.I
open Go.RowKit
structure SmallS (z:Sen)(n1 n2 n3 n4:Nat):Prop where
 p:n1≤80
 lo:n2≤200
 hi:n3≤200
 be:n4≤200
 row: ∀r∈z.be,r.length≤200
set_option maxRecDepth 100000 in
set_option maxHeartbeats 2000000 in
theorem greatS_any (A1:Option Addr)(n1 c1:Nat)(A2:Option Addr)(n2 c2:Nat)(A3:Option Addr)(n3 c3:Nat)(A4:Option Addr)(n4 c4:Nat)(z:Sen)(w:World)(h:SenAt w z A1 n1 c1 A2 n2 c2 A3 n3 c3 A4 n4 c4):
  Calls Tryz.prog 8 #[senV A1 n1 c1 A2 n2 c2 A3 n3 c3 A4 n4 c4] w fun e w'=>TellsB e (fun r=>r=false→SmallS z n1 n2 n3 n4)∧Below w.heap.size w w':=by
 unfold senV
 have hal:Below w.heap.size w (w.alloc (.cells #[.slice A1 n1 c1,.slice A2 n2 c2,.slice A3 n3 c3,.slice A4 n4 c4] 28)):=(Below.refl _ _).alloc (Nat.le_refl _) _
 have hz:=B4.blk (heap_alloc_new w (.cells #[.slice A1 n1 c1,.slice A2 n2 c2,.slice A3 n3 c3,.slice A4 n4 c4] 28))
 have p0:=hz.p0
 have p1:=hz.p1
 have p2:=hz.p2
 have p3:=hz.p3
 have no: ∀{P:Prop},(true=false→P):=fun e=>by cases e
 have HB:=Lib.hid hal
 have HZ:=Lib.hid hz
 have HR:=Lib.hid (h.keep hal).rb
 have HL:=Lib.hid h.rb.len
 clear hal hz h
 by_cases g0:(80:Int) < (n1:Int)
 ·go_enter Tryz.func8,Tryz.ntmps8
  go_wp2
  go_ret
  exact⟨.mk true rfl no,HB.out⟩
 by_cases g1:(200:Int) < (n2:Int)
 ·go_enter Tryz.func8,Tryz.ntmps8
  go_wp2
  go_ret
  exact⟨.mk true rfl no,HB.out⟩
 by_cases g2:(200:Int) < (n3:Int)
 ·go_enter Tryz.func8,Tryz.ntmps8
  go_wp2
  go_ret
  exact⟨.mk true rfl no,HB.out⟩
 by_cases g3:(200:Int) < (n4:Int)
 ·go_enter Tryz.func8,Tryz.ntmps8
  go_wp2
  go_ret
  exact⟨.mk true rfl no,HB.out⟩
 have HN:=Lib.hid (show n1≤80∧n2≤200∧n3≤200∧n4≤200 by omega)
 clear no
 go_enter Tryz.func8,Tryz.ntmps8
 go_wp2_with fail
 clear g0 g1 g2 g3 p0 p1 p2 p3
 obtain⟨x,hx⟩: ∃x,w.alloc (.cells #[.slice A1 n1 c1,.slice A2 n2 c2,.slice A3 n3 c3,.slice A4 n4 c4] 28)=x:=⟨_,rfl⟩
 rw[hx] at HB HZ HR ⊢
 clear hx
 go_loopw [3] (fun v3 wr=> ∃i:Nat,v3= .int .i64 (i:Int)∧i≤n4∧wr=x∧ ∀j (h:j < z.be.length),j < i→z.be[j].length≤200) (fun v3 _=>n4 - (intOf v3).toNat)
 case atStart=>exact⟨0,rfl,Nat.zero_le _,rfl,fun j _ h=>absurd h (Nat.not_lt_zero j)⟩
 case round=>
  obtain⟨i,rfl,hi,rfl,hall⟩:=hrel
  have p3:=HZ.out.p3
  by_cases hlt:i < n4
  ·have hi':i < z.be.length:=by rw[HL.out];exact hlt
   obtain⟨b,o,A',n',c',rfl,-,hc,hrd⟩:=HR.out.row hi'
   have HA:=Lib.hid hall
   have HN':=Lib.hid hrd.len
   have hin:(i:Int) < (n4:Int):=by omega
   have HLT:Hid (n4=i+1+(n4 - (i+1))):=Lib.hid (by omega)
   have hib:i≤100000:=by have:=HN.out;omega
   clear hall hrd hlt hi
   by_cases hg:(200:Int) < (n':Int)
   ·go_wp2_with fail
    go_ret
    exact⟨.mk true rfl (fun e=>by cases e),HB.out⟩
   ·have HS:=Lib.hid (show n'≤200 by omega)
    go_wp2_with fail
    clear p3 hc hin hg
    go_roundw
    case rel=>exact⟨i+1,by go_num,by have:=HLT.out;omega,(by first|rfl|trivial),fun j hj hji=>by
     by_cases e:j=i
     ·subst e;rw[HN'.out];exact HS.out
     ·exact HA.out j hj (by omega)⟩
    case measure=>
     have:=HLT.out
     simp[intOf]
     omega
  ·obtain rfl:i=n4:=by omega
   have HA:=Lib.hid hall
   clear hall hlt
   go_wp2_with fail
   go_ret
   exact⟨.mk false rfl fun _=>⟨HN.out.1,HN.out.2.1,HN.out.2.2.1,HN.out.2.2.2,fun r hr=>by
    obtain⟨j,hj,rfl⟩:=List.mem_iff_getElem.1 hr
    exact HA.out j hj (by rw[← HL.out];exact hj)⟩,HB.out⟩
end Go.Proofs.YtmejhedegmjboaaGreat.I
namespace Go.Proofs.YtmejhedegmjboaaGreat.I
open Go.ChangeShapes Go.WideShapes Go.ChangeAt Go.RowKit Go.Deep
theorem cSpot:Tryz.prog.cellsOf 67=5:=by kernel_rfl
theorem cTerm:Tryz.prog.cellsOf 62=2:=by kernel_rfl
theorem cBool:Tryz.prog.cellsOf 4=1:=by kernel_rfl
theorem cPart:Tryz.prog.cellsOf 64=1:=by kernel_rfl
theorem cSide:Tryz.prog.cellsOf 65=1:=by kernel_rfl
theorem cSpots:Tryz.prog.cellsOf 25=1:=by kernel_rfl
theorem cLists:Tryz.prog.cellsOf 26=1:=by kernel_rfl
theorem cList:Tryz.prog.cellsOf 71=1:=by kernel_rfl
theorem cSense:Tryz.prog.cellsOf 28=4:=by kernel_rfl
theorem five_of' {α:Type}: ∀{l:List α},l.length=5→ ∃a b c d e,l= [a,b,c,d,e]
 | [a,b,c,d,e],_=>⟨a,b,c,d,e,rfl⟩
section
variable {H:Type} {enc:TypeId×Value→H} {W:World}
theorem open_spot {n:Nat}{cs:List Value}{x:DataW H×List MemPlace}(h:DataW.trod enc Tryz.prog W 0 (fun _=>true) true n 67 cs=some x): ∃y:Sp,cs=spc y:=by
 obtain⟨xs,m,_,_,hl,hlen,hf⟩:=DataW.trod_struct Tryz.underlying67 h
 rw[cSpot] at hl
 match xs,hlen with
 | [y0,y1,y2,y3],_=>
  have h0:DataW.trod enc Tryz.prog W 0 (fun _=>true) true m 3 (List.take (Tryz.prog.cellsOf 3) (List.drop 0 cs))=some y0:=hf 0 _ rfl
  have h1:DataW.trod enc Tryz.prog W 0 (fun _=>true) true m 64 (List.take (Tryz.prog.cellsOf 64) (List.drop 1 cs))=some y1:=hf 1 _ rfl
  have h2:DataW.trod enc Tryz.prog W 0 (fun _=>true) true m 65 (List.take (Tryz.prog.cellsOf 65) (List.drop 2 cs))=some y2:=hf 2 _ rfl
  have h3:DataW.trod enc Tryz.prog W 0 (fun _=>true) true m 62 (List.take (Tryz.prog.cellsOf 62) (List.drop 3 cs))=some y3:=hf 3 _ rfl
  rw[cInt] at h0
  rw[cPart] at h1
  rw[cSide] at h2
  rw[cTerm] at h3
  obtain⟨k,e0,_,_⟩:=DataW.trod_int Tryz.underlying3 h0
  obtain⟨p,e1,_,w1⟩:=DataW.trod_int Tryz.underlying64 h1
  obtain⟨s,e2,_,w2⟩:=DataW.trod_int Tryz.underlying65 h2
  obtain⟨v,z,e3,_⟩:=Bo.open_term h3
  obtain⟨f0,_⟩:=u8_fits w1
  obtain⟨f1,_⟩:=u8_fits w2
  obtain⟨u0,u1,u2,u3,u4,rfl⟩:=five_of' hl
  simp at e0 e1 e2 e3
  refine⟨⟨k,p.toNat,s.toNat,v,z⟩,?_⟩
  simp only[spc]
  rw[e0,e1,e2,e3.1,e3.2,Int.toNat_of_nonneg f0,Int.toNat_of_nonneg f1]
theorem open_spots {n:Nat}{cs:List Value}{x:DataW H×List MemPlace}(h:DataW.trod enc Tryz.prog W 0 (fun _=>true) true n 25 cs=some x):
  ∃(a0:Option Addr) (len0 cap0:Nat) (l:List Sp),cs= [.slice a0 len0 cap0]∧Rs spc 5 W W.heap.size a0 len0 cap0 l:=by
 rcases open_slice Tryz.underlying25 h with⟨hcs,_⟩|⟨x,l,c,m,n,D,Pl,hcs,_,hl,hm,hmm,_,hx⟩
 ·exact⟨none,0,0,[],hcs,Rs.nil _ _⟩
 ·have hm':m=c:=by simpa using hmm
  have each: ∀i,i < l→ ∃y:Sp,∀j u,(spc y)[j]?=some u→W.cell? ((x.add (i*5)).add j)=some u:=by
   intro i hi
   obtain⟨cs',h1,h2⟩:=hx i (by omega)
   obtain⟨y,rfl⟩:=open_spot h2
   rw[cSpot] at h1
   obtain⟨_,_,hc⟩:=World.cells?_some h1
   refine⟨y,fun j u hu=> ?_⟩
   have hj:j < (spc y).length:=(List.getElem?_eq_some_iff.1 hu).1
   have:=hc j (by rw[spc_len] at hj;exact hj)
   rw[this]
   exact hu
  obtain⟨f,hg⟩: ∃f:Nat→Sp,∀i,i < l→ ∀j u,(spc (f i))[j]?=some u→W.cell? ((x.add (i*5)).add j)=some u:=
   ⟨fun i=>if h:i < l then Classical.choose (each i h) else⟨0,0,0,false,0⟩,fun i h=>by
    simp only[dif_pos h]
    exact Classical.choose_spec (each i h)⟩
  refine⟨some x,l,c,(List.range l).map f,hcs,⟨by simp,hl,hm,(fun h=>by cases h),fun h0=> ?_⟩⟩
  obtain⟨b,o,spot⟩:=x
  have hc0:=hg 0 (by omega) 0 _ rfl
  have hspot:spot=none:=by simpa [Addr.add] using World.cell?_spot hc0
  subst hspot
  refine⟨b,o,rfl,?_,fun j hj i u hu=> ?_⟩
  ·exact World.block_lt_of_cell? W ⟨b,o,none⟩ (by simpa [Addr.add] using hc0)
  ·rw[List.length_map,List.length_range] at hj
   simp only[List.getElem_map,List.getElem_range] at hu
   have:=hg j hj i u hu
   rwa [Addr.add_lit,Addr.add_lit] at this
theorem open_bools {n:Nat}{cs:List Value}{x:DataW H×List MemPlace}(h:DataW.trod enc Tryz.prog W 0 (fun _=>true) true n 71 cs=some x):
  ∃(a0:Option Addr) (len0 cap0:Nat) (l:List Bool),cs= [.slice a0 len0 cap0]∧Rd Value.bool W W.heap.size a0 len0 cap0 l:=by
 rcases open_slice Tryz.underlying71 h with⟨hcs,_⟩|⟨x,l,c,m,n,D,Pl,hcs,_,hl,hm,hmm,_,hx⟩
 ·exact⟨none,0,0,[],hcs,Rd.nil _ _⟩
 ·have hm':m=c:=by simpa using hmm
  have each: ∀i,i < l→ ∃y:Bool,W.cell? (x.add i)=some (.bool y):=by
   intro i hi
   obtain⟨cs',h1,h2⟩:=hx i (by omega)
   rw[cBool] at h1
   obtain⟨y,rfl,_⟩:=DataW.trod_bool Tryz.underlying4 h2
   obtain⟨_,_,hc⟩:=World.cells?_some h1
   have:=hc 0 (by decide)
   exact⟨y,by simpa [Addr.add] using this⟩
  obtain⟨f,hg⟩: ∃f:Nat→Bool,∀i,i < l→W.cell? (x.add i)=some (.bool (f i)):=
   ⟨fun i=>if h:i < l then Classical.choose (each i h) else false,fun i h=>by
    simp only[dif_pos h]
    exact Classical.choose_spec (each i h)⟩
  refine⟨some x,l,c,(List.range l).map f,hcs,⟨by simp,hl,hm,(fun h=>by cases h),fun h0=> ?_⟩⟩
  obtain⟨b,o,spot⟩:=x
  have hc0:=hg 0 (by omega)
  have hspot:spot=none:=by simpa [Addr.add] using World.cell?_spot hc0
  subst hspot
  refine⟨b,o,rfl,?_,fun j hj=> ?_⟩
  ·exact World.block_lt_of_cell? W ⟨b,o,none⟩ (by simpa [Addr.add] using hc0)
  ·have hj':j < l:=by simpa using hj
   have:=hg j hj'
   rw[List.getElem_map,List.getElem_range]
   rwa [Addr.add_lit] at this
theorem open_lists {n:Nat}{cs:List Value}{x:DataW H×List MemPlace}(h:DataW.trod enc Tryz.prog W 0 (fun _=>true) true n 26 cs=some x):
  ∃(a0:Option Addr) (len0 cap0:Nat) (l:List (List Bool)),cs= [.slice a0 len0 cap0]∧BRows W W.heap.size a0 len0 cap0 l:=by
 rcases open_slice Tryz.underlying26 h with⟨hcs,_⟩|⟨x,l,c,m,n,D,Pl,hcs,_,hl,hm,hmm,_,hx⟩
 ·exact⟨none,0,0,[],hcs,BRows.nil _ _⟩
 ·have hm':m=c:=by simpa using hmm
  have each: ∀i,i < l→ ∃y:(Option Addr×Nat×Nat)×List Bool,W.cell? (x.add i)=some (slc y.1)∧Rd Value.bool W W.heap.size y.1.1 y.1.2.1 y.1.2.2 y.2:=by
   intro i hi
   obtain⟨cs',h1,h2⟩:=hx i (by omega)
   rw[cList] at h1
   obtain⟨A,k,c',l',rfl,hr⟩:=open_bools h2
   obtain⟨_,_,hc⟩:=World.cells?_some h1
   have:=hc 0 (by decide)
   exact⟨⟨(A,k,c'),l'⟩,by simpa [Addr.add,slc] using this,hr⟩
  obtain⟨f,hg⟩: ∃f:Nat→(Option Addr×Nat×Nat)×List Bool,∀i,i < l→W.cell? (x.add i)=some (slc (f i).1)∧Rd Value.bool W W.heap.size (f i).1.1 (f i).1.2.1 (f i).1.2.2 (f i).2:=
   ⟨fun i=>if h:i < l then Classical.choose (each i h) else⟨(none,0,0),[]⟩,fun i h=>by
    simp only[dif_pos h]
    exact Classical.choose_spec (each i h)⟩
  refine⟨some x,l,c,(List.range l).map fun i=>(f i).2,hcs,⟨(List.range l).map fun i=>(f i).1,⟨by simp,hl,hm,(fun h=>by cases h),fun h0=> ?_⟩,by simp,fun i h1 h2=> ?_⟩⟩
  ·obtain⟨b,o,spot⟩:=x
   have hc0:=(hg 0 (by omega)).1
   have hspot:spot=none:=by simpa [Addr.add] using World.cell?_spot hc0
   subst hspot
   refine⟨b,o,rfl,?_,fun j hj=> ?_⟩
   ·exact World.block_lt_of_cell? W ⟨b,o,none⟩ (by simpa [Addr.add] using hc0)
   ·have hj':j < l:=by simpa using hj
    have:=(hg j hj').1
    rw[List.getElem_map,List.getElem_range]
    rwa [Addr.add_lit] at this
  ·have hi:i < l:=by simpa using h1
   simpa using (hg i hi).2
theorem opened_sense {v:Value}{d:DataW H}{p:List MemPlace}(h:DataW.Trod enc Tryz.prog W 0 (fun _=>true) true 28 v d p):
  ∃(z:Sen) (A1:Option Addr) (n1 c1:Nat) (A2:Option Addr) (n2 c2:Nat) (A3:Option Addr) (n3 c3:Nat) (A4:Option Addr) (n4 c4:Nat),v=senV A1 n1 c1 A2 n2 c2 A3 n3 c3 A4 n4 c4∧SenAt W z A1 n1 c1 A2 n2 c2 A3 n3 c3 A4 n4 c4:=by
 obtain⟨fuel,h⟩:=h
 obtain⟨xs,m,_,_,hl,hlen,hf⟩:=DataW.trod_struct Tryz.underlying28 h
 rw[cSense] at hl
 match xs,hlen with
 | [y0,y1,y2,y3],_=>
  have h0:DataW.trod enc Tryz.prog W 0 (fun _=>true) true m 25 (List.take (Tryz.prog.cellsOf 25) (List.drop 0 v.cells.toList))=some y0:=hf 0 _ rfl
  have h1:DataW.trod enc Tryz.prog W 0 (fun _=>true) true m 22 (List.take (Tryz.prog.cellsOf 22) (List.drop 1 v.cells.toList))=some y1:=hf 1 _ rfl
  have h2:DataW.trod enc Tryz.prog W 0 (fun _=>true) true m 22 (List.take (Tryz.prog.cellsOf 22) (List.drop 2 v.cells.toList))=some y2:=hf 2 _ rfl
  have h3:DataW.trod enc Tryz.prog W 0 (fun _=>true) true m 26 (List.take (Tryz.prog.cellsOf 26) (List.drop 3 v.cells.toList))=some y3:=hf 3 _ rfl
  rw[cSpots] at h0
  rw[cNums] at h1 h2
  rw[cLists] at h3
  obtain⟨A1,n1,c1,l1,e0,r1⟩:=open_spots h0
  obtain⟨A2,n2,c2,l2,e1,r2,f2⟩:=Bo.open_rows h1
  obtain⟨A3,n3,c3,l3,e2,r3,f3⟩:=Bo.open_rows h2
  obtain⟨A4,n4,c4,l4,e3,r4⟩:=open_lists h3
  obtain⟨u0,u1,u2,u3,e⟩:=Bo.four_of hl
  rw[e] at e0 e1 e2 e3
  simp at e0 e1 e2 e3
  subst e0 e1 e2 e3
  exact⟨⟨l1,l2,l3,l4⟩,A1,n1,c1,A2,n2,c2,A3,n3,c3,A4,n4,c4,Bo.agg_of e,⟨r1,r2,r3,r4,f2,f3⟩⟩
end
end Go.Proofs.YtmejhedegmjboaaGreat.I
