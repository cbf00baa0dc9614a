import Derived.OwnWalk
import Derived.LoopTactic
import Derived.Handy
import Derived.Below
import Derived.Test.YtphklakjadchmaaGreatDoorGBook
import Derived.Test.YtphklakjadchmaaGreatDoorLaOrd
namespace Go.Proofs.YtphklakjadchmaaGreatDoor
open Go.RowKit
def bookCells (k:Int)(vI vS vM vO vL:Value):Array Value:= #[.int .i64 k,.slice none 0 0,vI,.slice none 0 0,vM,vO,vL,.slice none 0 0,.slice none 0 0,.slice none 0 0,.slice none 0 0,vS,.slice none 0 0,.slice none 0 0,.slice none 0 0,.slice none 0 0]
structure BookK (w:World)(bk k:Nat)(vI:Value)(kI:Nat)(xI:List Value)(vS:Value)(kS:Nat)(xS:List Value)(vM:Value)(kM:Nat)(xM:List Value)(vO:Value)(kO:Nat)(xO:List Value)(vL:Value)(kL:Nat)(xL:List Value):Prop where
 blk:w.heap[bk]?=some (.cells (bookCells (k:Int) vI vS vM vO vL) 62 (0,0))
 oI:w.ownsRow (bk+1) 144 3 vI kI xI
 oS:w.ownsRow (bk+1) 180 3 vS kS xS
 oM:w.ownsRow (bk+1) 148 3 vM kM xM
 oO:w.ownsRow (bk+1) 146 3 vO kO xO
 oL:w.ownsRow (bk+1) 160 3 vL kL xL
theorem three_src (w:World)(u0 u1 u2:Value)(e:TypeId): ∀j x,[u0,u1,u2][j]?=some x→((w.alloc (.cells #[u0,u1,u2] e)).drew).cell? ((⟨w.heap.size,0,none⟩:Addr).add j)=some x:=by
 intro j x hx
 have hb:=heap_alloc_new w (.cells #[u0,u1,u2] e)
 rw[Addr.add_lit,Nat.zero_add]
 show(w.alloc (.cells #[u0,u1,u2] e)).cell? ⟨w.heap.size,j,none⟩=some x
 rw[cell_blk hb, ← hx]
 simp
theorem row_far {W W':World}{b n m sz1 sz2:Nat}{E F:TypeId}{v y:Value}{xs ys:List Value}(hE:E≠F)(hy:W.ownsRow b E sz1 y m ys)(hv:W.ownsRow b F sz2 v n xs)(hg:W.grownBy W' v.ownBlock):W'.ownsRow b E sz1 y m ys:=
 own_blk hy fun q e=>hg.block q (hy.lt q e).2 fun e'=>by
  rcases hy.2 with⟨rfl,_⟩|⟨g,cap,cur,rfl,_,h1,_⟩
  ·cases e
  rcases hv.2 with⟨rfl,_⟩|⟨g',cap',cur',rfl,_,h2,_⟩
  ·cases e'
  have a1:g=q:=by simpa [Value.ownBlock] using e
  have a2:q=g':=by simpa [Value.ownBlock] using e'
  exact ne_type h1 h2 hE (a1.trans a2)
theorem own_type {w:World}{base E n g:Nat}{v:Value}{xs:List Value}{sz:Nat}(h:w.ownsRow base E sz v n xs)(e:v.ownBlock=some g): ∃cur,w.heap[g]?=some (.cells cur E (0,0)):=by
 rcases h.2 with⟨hv,_⟩|⟨g',cap,cur,rfl,hb,hg,r⟩
 ·rw[hv] at e;cases e
 ·have e':g'=g:=by simpa [Value.ownBlock] using e
  exact⟨cur,e'▸hg⟩
theorem kept_bk {w w':World}{bk E n:Nat}{v:Value}{xs:List Value}{sz:Nat}(hk:Kept (fun b=>b=bk∨v.ownBlock=some b) w w')(h:w.ownsRow (bk+1) E sz v n xs):Kept (fun b=>bk≤b) w w':=
 hk.mono fun b hb=>hb.elim (fun e=>Nat.le_of_eq e.symm) fun e=>by have:=(h.lt b e).1;omega
theorem kept_type {w w':World}{bk E n g t:Nat}{v:Value}{xs:List Value}{sz:Nat}{cs cb:Array Value}(hk:Kept (fun b=>b=bk∨v.ownBlock=some b) w w')(h:w.ownsRow (bk+1) E sz v n xs)(hb:w.heap[bk]?=some (.cells cb 62 (0,0)))(hg:w.heap[g]?=some (.cells cs t (0,0)))(h1:t≠62)(h2:t≠E):w'.heap[g]?=some (.cells cs t (0,0)):=
 (hk.block g (lt_blk hg) (by
  rintro(rfl|e)
  ·rw[hb] at hg
   injection hg with hg
   injection hg with _ hg
   exact h1 hg.symm
  ·obtain⟨cur,hc⟩:=own_type h e
   rw[hc] at hg
   injection hg with hg
   injection hg with _ hg
   exact h2 hg.symm)).trans hg
set_option maxRecDepth 100000 in
set_option maxHeartbeats 2000000 in
theorem keepI_any (bk k:Nat)(vI:Value)(kI:Nat)(xI:List Value)(vS:Value)(kS:Nat)(xS:List Value)(vM:Value)(kM:Nat)(xM:List Value)(vO:Value)(kO:Nat)(xO:List Value)(vL:Value)(kL:Nat)(xL:List Value)(A:Option Addr)(n c:Nat)(w:World)(hB:BookK w bk k vI kI xI vS kS xS vM kM xM vO kO xO vL kL xL)(hk:k≤1000)(hkk:kI≤1000):
  Calls Tryz.prog 39 #[.pointer (some ⟨bk,0,none⟩),.slice A n c] w fun e w'=>e= .returned (.tuple #[])∧ ∃v',BookK w' bk (k+1) v' (kI+1) (xI++ [.slice A n c,.slice none 0 0,.int .i64 ((k:Int)+1)]) vS kS xS vM kM xM vO kO xO vL kL xL∧Kept (fun b=>b=bk∨vI.ownBlock=some b) w w':=by
 obtain⟨i0,hi0,hz0,hz1,hz2⟩:=info_parts (show(Tryz.prog.info? 144).map (fun i=>(i.zero,i.size,i.bytes))=some (some (.agg #[.slice none 0 0,.slice none 0 0,.int .i64 0]),3,56) by kernel_rfl)
 have c0:w.cell? ⟨bk,0,none⟩=some (.int .i64 (k:Int)):=by rw[cell_blk hB.blk];rfl
 have f0:w.frozen? ⟨bk,0,none⟩=false:=frozen_blk hB.blk
 go_enter Tryz.func39,Tryz.ntmps39
 go_wp2
 have hb1:(w.setCell ⟨bk,0,none⟩ (.int .i64 ((k:Int)+1))).heap[bk]?=some (.cells (bookCells ((k:Int)+1) vI vS vM vO vL) 62 (0,0)):=by rw[set_blk hB.blk];rfl
 have hon:(w.setCell ⟨bk,0,none⟩ (.int .i64 ((k:Int)+1))).ownsRow (bk+1) 144 3 vI kI xI:=ownsRow_setCell_below hB.oI (by simp) _
 have hotS:(w.setCell ⟨bk,0,none⟩ (.int .i64 ((k:Int)+1))).ownsRow (bk+1) 180 3 vS kS xS:=ownsRow_setCell_below hB.oS (by simp) _
 have hotM:(w.setCell ⟨bk,0,none⟩ (.int .i64 ((k:Int)+1))).ownsRow (bk+1) 148 3 vM kM xM:=ownsRow_setCell_below hB.oM (by simp) _
 have hotO:(w.setCell ⟨bk,0,none⟩ (.int .i64 ((k:Int)+1))).ownsRow (bk+1) 146 3 vO kO xO:=ownsRow_setCell_below hB.oO (by simp) _
 have hotL:(w.setCell ⟨bk,0,none⟩ (.int .i64 ((k:Int)+1))).ownsRow (bk+1) 160 3 vL kL xL:=ownsRow_setCell_below hB.oL (by simp) _
 have hk1:Kept (fun b=>b=bk∨vI.ownBlock=some b) w (w.setCell ⟨bk,0,none⟩ (.int .i64 ((k:Int)+1))):=Kept.setCell (D:=(fun b=>b=bk∨vI.ownBlock=some b)) (p:=⟨bk,0,none⟩) (Kept.refl _ _) (.inl (.inl rfl)) _
 have hbk:=lt_blk hB.blk
 clear c0 f0 hB
 generalize w.setCell ⟨bk,0,none⟩ (.int .i64 ((k:Int)+1))=w1 at*
 have d0:w1.cell? ⟨bk,0,none⟩=some (.int .i64 ((k:Int)+1)):=by rw[cell_blk hb1];rfl
 have d1:w1.cell? ⟨bk,2,none⟩=some vI:=by rw[cell_blk hb1];rfl
 obtain⟨vA,vc,hv⟩: ∃A c,vI= .slice A kI c:=by
  rcases hon.2 with⟨rfl,rfl⟩|⟨g,cap,cur,rfl,_⟩
  ·exact⟨_,_,rfl⟩
  ·exact⟨_,_,rfl⟩
 subst hv
 have HB1:=Lib.hid hb1
 clear hb1
 refine wp_region_ord [0,1,2,3,4,5,6,7,8,9,10,11,12,13,14,15] [11,12,13,14,15] 15 (fun w'=>w'.cell? ⟨bk,0,none⟩=some (.int .i64 ((k:Int)+1))∧w'.cell? ⟨bk,2,none⟩=some (.slice vA kI vc)) (by kernel_rfl) (by kernel_rfl) (by kernel_rfl) (by kernel_rfl) (fun _ _ _ _ _ h=>h) ⟨d0,d1⟩ ?_
 simp only[steps,List.getElem?_cons_zero,List.getElem?_cons_succ]
 repeat(first
  |(refine ord_no rfl ?_;simp only[Act.put,List.setIfInBounds_toArray,List.set_cons_zero,List.set_cons_succ])
  |(refine ord_yes (v:= ?_) rfl rfl ?_ ?_;rotate_left;(focus(rintro w' ⟨hS0,hS2⟩;go_simp;try with_reducible rfl));simp only[Act.put,List.setIfInBounds_toArray,List.set_cons_zero,List.set_cons_succ]))
 refine ord_hard rfl rfl (fun K hK=> ?_)
 go_simp
 have hal: ∀(o:Obj) (j:Nat),((w1.alloc o).drew).cell? ⟨bk,j,none⟩=w1.cell? ⟨bk,j,none⟩:=fun o j=>World.cell?_alloc_lt w1 o ⟨bk,j,none⟩ (lt_blk HB1.out)
 refine hK.out _ _ (fun _=>⟨(hal _ 0).trans d0,(hal _ 2).trans d1⟩) ?_
 clear hK K
 refine ord_hard rfl rfl (fun K hK=> ?_)
 have hoa:=hon.alloc (.cells #[.slice A n c,.slice none 0 0,.int .i64 ((k:Int)+1)] 144)
 have halotS:=hotS.alloc (.cells #[.slice A n c,.slice none 0 0,.int .i64 ((k:Int)+1)] 144)
 have halotM:=hotM.alloc (.cells #[.slice A n c,.slice none 0 0,.int .i64 ((k:Int)+1)] 144)
 have halotO:=hotO.alloc (.cells #[.slice A n c,.slice none 0 0,.int .i64 ((k:Int)+1)] 144)
 have halotL:=hotL.alloc (.cells #[.slice A n c,.slice none 0 0,.int .i64 ((k:Int)+1)] 144)
 refine wp_append_own _ (.tmp 15) (.tmp 22) 47 rfl (bk+1) 144 i0 _ 3 56 Tryz.underlying47 hi0 hz0 hz1 hz2 rfl (by decide) (.slice vA kI vc) kI xI rfl hoa ⟨w1.heap.size,0,none⟩ 1 1 [.slice A n c,.slice none 0 0,.int .i64 ((k:Int)+1)] rfl rfl ?_ ?_ (by unfold maxLen;omega) (by omega) ?_ ?_
 ·exact three_src w1 _ _ _ 144
 ·intro u hu
  simp only[List.mem_cons,List.not_mem_nil,or_false] at hu
  rcases hu with rfl|rfl|rfl <;> rfl
 ·have:=lt_blk HB1.out
  show bk+1≤(w1.alloc _).heap.size
  simp
  omega
 intro v2 w2 ho2 hg2 hn2
 have hne:some bk≠(Value.slice vA kI vc).ownBlock:=by
  intro e
  have:=(hon.lt bk e.symm).1
  omega
 have hb2:w2.heap[bk]?=some (.cells (bookCells ((k:Int)+1) (.slice vA kI vc) vS vM vO vL) 62 (0,0)):=by
  rw[hg2.block bk (by have:=lt_blk HB1.out;show bk < (w1.alloc _).heap.size;simp;omega) hne]
  exact(Below.heap_alloc w1 _ bk (lt_blk HB1.out)).trans HB1.out
 have g0:w2.cell? ⟨bk,0,none⟩=some (.int .i64 ((k:Int)+1)):=by rw[cell_blk hb2];rfl
 have g1:w2.cell? ⟨bk,2,none⟩=some (.slice vA kI vc):=by rw[cell_blk hb2];rfl
 have f1:w2.frozen? ⟨bk,2,none⟩=false:=frozen_blk hb2
 have HB2:=Lib.hid hb2
 have HotS:Hid (w2.ownsRow (bk+1) 180 3 vS kS xS):=Lib.hid (row_far (by decide) halotS hoa ⟨hg2.os,hg2.tape,hg2.output,hg2.size,hg2.block⟩)
 have HotM:Hid (w2.ownsRow (bk+1) 148 3 vM kM xM):=Lib.hid (row_far (by decide) halotM hoa ⟨hg2.os,hg2.tape,hg2.output,hg2.size,hg2.block⟩)
 have HotO:Hid (w2.ownsRow (bk+1) 146 3 vO kO xO):=Lib.hid (row_far (by decide) halotO hoa ⟨hg2.os,hg2.tape,hg2.output,hg2.size,hg2.block⟩)
 have HotL:Hid (w2.ownsRow (bk+1) 160 3 vL kL xL):=Lib.hid (row_far (by decide) halotL hoa ⟨hg2.os,hg2.tape,hg2.output,hg2.size,hg2.block⟩)
 have hk2:Kept (fun b=>b=bk∨(Value.slice vA kI vc).ownBlock=some b) w w2:=hk1.trans ⟨hg2.os,hg2.tape,hg2.output,Nat.le_trans (by simp) hg2.size,fun b hb hn=>(hg2.block b (Nat.lt_of_lt_of_le hb (by show _≤(w1.alloc _).heap.size;simp)) (fun e=>hn (.inr e.symm))).trans (Below.heap_alloc w1 _ b hb)⟩
 clear hb2 d0 d1 hal
 refine hK.out _ _ (fun _=>⟨g0,g1⟩) ?_
 clear hK K
 simp only[Act.put,List.setIfInBounds_toArray,List.set_cons_zero,List.set_cons_succ]
 refine ord_hard rfl rfl (fun K hK=> ?_)
 go_simp
 refine hK.out _ _ (fun _=>⟨g0,g1⟩) ?_
 clear hK K
 refine ord_hard rfl rfl (fun K hK=> ?_)
 go_simp
 refine hK.out _ _ (fun _=>⟨g0,g1⟩) ?_
 clear hK K
 obtain⟨A2,c2,hv2⟩: ∃A c,v2= .slice A (kI+1) c:=by
  rcases ho2.2 with⟨rfl,e⟩|⟨g,cap,cur,rfl,_⟩
  ·omega
  ·exact⟨_,_,rfl⟩
 subst hv2
 refine ord_hard rfl rfl (fun K hK=> ?_)
 go_simp
 refine hK.out _ _ (fun h=>absurd rfl h) ?_
 clear hK K
 refine ord_end ?_
 go_wp2
 go_end0
 refine⟨rfl,.slice A2 (kI+1) c2,⟨?_,?_,ownsRow_setCell_below HotS.out (by simp) _,ownsRow_setCell_below HotM.out (by simp) _,ownsRow_setCell_below HotO.out (by simp) _,ownsRow_setCell_below HotL.out (by simp) _⟩,?_⟩
 ·rw[set_blk HB2.out,Int.natCast_add]
  rfl
 ·exact ownsRow_setCell_below ho2 (by simp) _
 ·exact Kept.setCell (D:=(fun b=>b=bk∨(Value.slice vA kI vc).ownBlock=some b)) (p:=⟨bk,2,none⟩) hk2 (.inl (.inl rfl)) _
theorem putI_any (bk k:Nat)(vI:Value)(kI:Nat)(xI:List Value)(vS:Value)(kS:Nat)(xS:List Value)(vM:Value)(kM:Nat)(xM:List Value)(vO:Value)(kO:Nat)(xO:List Value)(vL:Value)(kL:Nat)(xL:List Value)(A:Option Addr)(n c:Nat)(w:World)(hB:BookK w bk k vI kI xI vS kS xS vM kM xM vO kO xO vL kL xL)(hk:k≤1000)(hkk:kI≤1000):
  Calls Tryz.prog 13 #[.pointer (some ⟨bk,0,none⟩),.slice A n c] w fun e w'=>e= .returned (.tuple #[])∧ ∃v',BookK w' bk (k+1) v' (kI+1) (xI++ [.slice A n c,.slice none 0 0,.int .i64 ((k:Int)+1)]) vS kS xS vM kM xM vO kO xO vL kL xL∧Kept (fun b=>b=bk∨vI.ownBlock=some b) w w':=by
 go_enter Tryz.func13,Tryz.ntmps13
 go_wp2_with fail
 refine(keepI_any bk k vI kI xI vS kS xS vM kM xM vO kO xO vL kL xL A n c _ hB hk hkk).mono ?_
 rintro e w1 ⟨rfl,v1,hB1,hk1⟩
 go_wp2_with fail
 go_end0
 exact⟨rfl,v1,hB1,hk1⟩
set_option maxRecDepth 100000 in
set_option maxHeartbeats 2000000 in
theorem keepS_any (bk k:Nat)(vI:Value)(kI:Nat)(xI:List Value)(vS:Value)(kS:Nat)(xS:List Value)(vM:Value)(kM:Nat)(xM:List Value)(vO:Value)(kO:Nat)(xO:List Value)(vL:Value)(kL:Nat)(xL:List Value)(A:Option Addr)(n c:Nat)(w:World)(hB:BookK w bk k vI kI xI vS kS xS vM kM xM vO kO xO vL kL xL)(hk:k≤1000)(hkk:kS≤1000):
  Calls Tryz.prog 108 #[.pointer (some ⟨bk,0,none⟩),.slice A n c] w fun e w'=>e= .returned (.tuple #[])∧ ∃v',BookK w' bk (k+1) vI kI xI v' (kS+1) (xS++ [.slice A n c,.slice none 0 0,.int .i64 ((k:Int)+1)]) vM kM xM vO kO xO vL kL xL∧Kept (fun b=>b=bk∨vS.ownBlock=some b) w w':=by
 obtain⟨i0,hi0,hz0,hz1,hz2⟩:=info_parts (show(Tryz.prog.info? 180).map (fun i=>(i.zero,i.size,i.bytes))=some (some (.agg #[.slice none 0 0,.slice none 0 0,.int .i64 0]),3,56) by kernel_rfl)
 have c0:w.cell? ⟨bk,0,none⟩=some (.int .i64 (k:Int)):=by rw[cell_blk hB.blk];rfl
 have f0:w.frozen? ⟨bk,0,none⟩=false:=frozen_blk hB.blk
 go_enter Tryz.func108,Tryz.ntmps108
 go_wp2
 have hb1:(w.setCell ⟨bk,0,none⟩ (.int .i64 ((k:Int)+1))).heap[bk]?=some (.cells (bookCells ((k:Int)+1) vI vS vM vO vL) 62 (0,0)):=by rw[set_blk hB.blk];rfl
 have hon:(w.setCell ⟨bk,0,none⟩ (.int .i64 ((k:Int)+1))).ownsRow (bk+1) 180 3 vS kS xS:=ownsRow_setCell_below hB.oS (by simp) _
 have hotI:(w.setCell ⟨bk,0,none⟩ (.int .i64 ((k:Int)+1))).ownsRow (bk+1) 144 3 vI kI xI:=ownsRow_setCell_below hB.oI (by simp) _
 have hotM:(w.setCell ⟨bk,0,none⟩ (.int .i64 ((k:Int)+1))).ownsRow (bk+1) 148 3 vM kM xM:=ownsRow_setCell_below hB.oM (by simp) _
 have hotO:(w.setCell ⟨bk,0,none⟩ (.int .i64 ((k:Int)+1))).ownsRow (bk+1) 146 3 vO kO xO:=ownsRow_setCell_below hB.oO (by simp) _
 have hotL:(w.setCell ⟨bk,0,none⟩ (.int .i64 ((k:Int)+1))).ownsRow (bk+1) 160 3 vL kL xL:=ownsRow_setCell_below hB.oL (by simp) _
 have hk1:Kept (fun b=>b=bk∨vS.ownBlock=some b) w (w.setCell ⟨bk,0,none⟩ (.int .i64 ((k:Int)+1))):=Kept.setCell (D:=(fun b=>b=bk∨vS.ownBlock=some b)) (p:=⟨bk,0,none⟩) (Kept.refl _ _) (.inl (.inl rfl)) _
 have hbk:=lt_blk hB.blk
 clear c0 f0 hB
 generalize w.setCell ⟨bk,0,none⟩ (.int .i64 ((k:Int)+1))=w1 at*
 have d0:w1.cell? ⟨bk,0,none⟩=some (.int .i64 ((k:Int)+1)):=by rw[cell_blk hb1];rfl
 have d1:w1.cell? ⟨bk,11,none⟩=some vS:=by rw[cell_blk hb1];rfl
 obtain⟨vA,vc,hv⟩: ∃A c,vS= .slice A kS c:=by
  rcases hon.2 with⟨rfl,rfl⟩|⟨g,cap,cur,rfl,_⟩
  ·exact⟨_,_,rfl⟩
  ·exact⟨_,_,rfl⟩
 subst hv
 have HB1:=Lib.hid hb1
 clear hb1
 refine wp_region_ord [0,1,2,3,4,5,6,7,8,9,10,11,12,13,14,15] [11,12,13,14,15] 15 (fun w'=>w'.cell? ⟨bk,0,none⟩=some (.int .i64 ((k:Int)+1))∧w'.cell? ⟨bk,11,none⟩=some (.slice vA kS vc)) (by kernel_rfl) (by kernel_rfl) (by kernel_rfl) (by kernel_rfl) (fun _ _ _ _ _ h=>h) ⟨d0,d1⟩ ?_
 simp only[steps,List.getElem?_cons_zero,List.getElem?_cons_succ]
 repeat(first
  |(refine ord_no rfl ?_;simp only[Act.put,List.setIfInBounds_toArray,List.set_cons_zero,List.set_cons_succ])
  |(refine ord_yes (v:= ?_) rfl rfl ?_ ?_;rotate_left;(focus(rintro w' ⟨hS0,hS2⟩;go_simp;try with_reducible rfl));simp only[Act.put,List.setIfInBounds_toArray,List.set_cons_zero,List.set_cons_succ]))
 refine ord_hard rfl rfl (fun K hK=> ?_)
 go_simp
 have hal: ∀(o:Obj) (j:Nat),((w1.alloc o).drew).cell? ⟨bk,j,none⟩=w1.cell? ⟨bk,j,none⟩:=fun o j=>World.cell?_alloc_lt w1 o ⟨bk,j,none⟩ (lt_blk HB1.out)
 refine hK.out _ _ (fun _=>⟨(hal _ 0).trans d0,(hal _ 11).trans d1⟩) ?_
 clear hK K
 refine ord_hard rfl rfl (fun K hK=> ?_)
 have hoa:=hon.alloc (.cells #[.slice A n c,.slice none 0 0,.int .i64 ((k:Int)+1)] 180)
 have halotI:=hotI.alloc (.cells #[.slice A n c,.slice none 0 0,.int .i64 ((k:Int)+1)] 180)
 have halotM:=hotM.alloc (.cells #[.slice A n c,.slice none 0 0,.int .i64 ((k:Int)+1)] 180)
 have halotO:=hotO.alloc (.cells #[.slice A n c,.slice none 0 0,.int .i64 ((k:Int)+1)] 180)
 have halotL:=hotL.alloc (.cells #[.slice A n c,.slice none 0 0,.int .i64 ((k:Int)+1)] 180)
 refine wp_append_own _ (.tmp 15) (.tmp 22) 56 rfl (bk+1) 180 i0 _ 3 56 Tryz.underlying56 hi0 hz0 hz1 hz2 rfl (by decide) (.slice vA kS vc) kS xS rfl hoa ⟨w1.heap.size,0,none⟩ 1 1 [.slice A n c,.slice none 0 0,.int .i64 ((k:Int)+1)] rfl rfl ?_ ?_ (by unfold maxLen;omega) (by omega) ?_ ?_
 ·exact three_src w1 _ _ _ 180
 ·intro u hu
  simp only[List.mem_cons,List.not_mem_nil,or_false] at hu
  rcases hu with rfl|rfl|rfl <;> rfl
 ·have:=lt_blk HB1.out
  show bk+1≤(w1.alloc _).heap.size
  simp
  omega
 intro v2 w2 ho2 hg2 hn2
 have hne:some bk≠(Value.slice vA kS vc).ownBlock:=by
  intro e
  have:=(hon.lt bk e.symm).1
  omega
 have hb2:w2.heap[bk]?=some (.cells (bookCells ((k:Int)+1) vI (.slice vA kS vc) vM vO vL) 62 (0,0)):=by
  rw[hg2.block bk (by have:=lt_blk HB1.out;show bk < (w1.alloc _).heap.size;simp;omega) hne]
  exact(Below.heap_alloc w1 _ bk (lt_blk HB1.out)).trans HB1.out
 have g0:w2.cell? ⟨bk,0,none⟩=some (.int .i64 ((k:Int)+1)):=by rw[cell_blk hb2];rfl
 have g1:w2.cell? ⟨bk,11,none⟩=some (.slice vA kS vc):=by rw[cell_blk hb2];rfl
 have f1:w2.frozen? ⟨bk,11,none⟩=false:=frozen_blk hb2
 have HB2:=Lib.hid hb2
 have HotI:Hid (w2.ownsRow (bk+1) 144 3 vI kI xI):=Lib.hid (row_far (by decide) halotI hoa ⟨hg2.os,hg2.tape,hg2.output,hg2.size,hg2.block⟩)
 have HotM:Hid (w2.ownsRow (bk+1) 148 3 vM kM xM):=Lib.hid (row_far (by decide) halotM hoa ⟨hg2.os,hg2.tape,hg2.output,hg2.size,hg2.block⟩)
 have HotO:Hid (w2.ownsRow (bk+1) 146 3 vO kO xO):=Lib.hid (row_far (by decide) halotO hoa ⟨hg2.os,hg2.tape,hg2.output,hg2.size,hg2.block⟩)
 have HotL:Hid (w2.ownsRow (bk+1) 160 3 vL kL xL):=Lib.hid (row_far (by decide) halotL hoa ⟨hg2.os,hg2.tape,hg2.output,hg2.size,hg2.block⟩)
 have hk2:Kept (fun b=>b=bk∨(Value.slice vA kS vc).ownBlock=some b) w w2:=hk1.trans ⟨hg2.os,hg2.tape,hg2.output,Nat.le_trans (by simp) hg2.size,fun b hb hn=>(hg2.block b (Nat.lt_of_lt_of_le hb (by show _≤(w1.alloc _).heap.size;simp)) (fun e=>hn (.inr e.symm))).trans (Below.heap_alloc w1 _ b hb)⟩
 clear hb2 d0 d1 hal
 refine hK.out _ _ (fun _=>⟨g0,g1⟩) ?_
 clear hK K
 simp only[Act.put,List.setIfInBounds_toArray,List.set_cons_zero,List.set_cons_succ]
 refine ord_hard rfl rfl (fun K hK=> ?_)
 go_simp
 refine hK.out _ _ (fun _=>⟨g0,g1⟩) ?_
 clear hK K
 refine ord_hard rfl rfl (fun K hK=> ?_)
 go_simp
 refine hK.out _ _ (fun _=>⟨g0,g1⟩) ?_
 clear hK K
 obtain⟨A2,c2,hv2⟩: ∃A c,v2= .slice A (kS+1) c:=by
  rcases ho2.2 with⟨rfl,e⟩|⟨g,cap,cur,rfl,_⟩
  ·omega
  ·exact⟨_,_,rfl⟩
 subst hv2
 refine ord_hard rfl rfl (fun K hK=> ?_)
 go_simp
 refine hK.out _ _ (fun h=>absurd rfl h) ?_
 clear hK K
 refine ord_end ?_
 go_wp2
 go_end0
 refine⟨rfl,.slice A2 (kS+1) c2,⟨?_,ownsRow_setCell_below HotI.out (by simp) _,?_,ownsRow_setCell_below HotM.out (by simp) _,ownsRow_setCell_below HotO.out (by simp) _,ownsRow_setCell_below HotL.out (by simp) _⟩,?_⟩
 ·rw[set_blk HB2.out,Int.natCast_add]
  rfl
 ·exact ownsRow_setCell_below ho2 (by simp) _
 ·exact Kept.setCell (D:=(fun b=>b=bk∨(Value.slice vA kS vc).ownBlock=some b)) (p:=⟨bk,11,none⟩) hk2 (.inl (.inl rfl)) _
theorem putS_any (bk k:Nat)(vI:Value)(kI:Nat)(xI:List Value)(vS:Value)(kS:Nat)(xS:List Value)(vM:Value)(kM:Nat)(xM:List Value)(vO:Value)(kO:Nat)(xO:List Value)(vL:Value)(kL:Nat)(xL:List Value)(A:Option Addr)(n c:Nat)(w:World)(hB:BookK w bk k vI kI xI vS kS xS vM kM xM vO kO xO vL kL xL)(hk:k≤1000)(hkk:kS≤1000):
  Calls Tryz.prog 37 #[.pointer (some ⟨bk,0,none⟩),.slice A n c] w fun e w'=>e= .returned (.tuple #[])∧ ∃v',BookK w' bk (k+1) vI kI xI v' (kS+1) (xS++ [.slice A n c,.slice none 0 0,.int .i64 ((k:Int)+1)]) vM kM xM vO kO xO vL kL xL∧Kept (fun b=>b=bk∨vS.ownBlock=some b) w w':=by
 go_enter Tryz.func37,Tryz.ntmps37
 go_wp2_with fail
 refine(keepS_any bk k vI kI xI vS kS xS vM kM xM vO kO xO vL kL xL A n c _ hB hk hkk).mono ?_
 rintro e w1 ⟨rfl,v1,hB1,hk1⟩
 go_wp2_with fail
 go_end0
 exact⟨rfl,v1,hB1,hk1⟩
set_option maxRecDepth 100000 in
set_option maxHeartbeats 2000000 in
theorem keepM_any (bk k:Nat)(vI:Value)(kI:Nat)(xI:List Value)(vS:Value)(kS:Nat)(xS:List Value)(vM:Value)(kM:Nat)(xM:List Value)(vO:Value)(kO:Nat)(xO:List Value)(vL:Value)(kL:Nat)(xL:List Value)(A:Option Addr)(n c:Nat)(w:World)(hB:BookK w bk k vI kI xI vS kS xS vM kM xM vO kO xO vL kL xL)(hk:k≤1000)(hkk:kM≤1000):
  Calls Tryz.prog 41 #[.pointer (some ⟨bk,0,none⟩),.slice A n c] w fun e w'=>e= .returned (.tuple #[])∧ ∃v',BookK w' bk (k+1) vI kI xI vS kS xS v' (kM+1) (xM++ [.slice A n c,.slice none 0 0,.int .i64 ((k:Int)+1)]) vO kO xO vL kL xL∧Kept (fun b=>b=bk∨vM.ownBlock=some b) w w':=by
 obtain⟨i0,hi0,hz0,hz1,hz2⟩:=info_parts (show(Tryz.prog.info? 148).map (fun i=>(i.zero,i.size,i.bytes))=some (some (.agg #[.slice none 0 0,.slice none 0 0,.int .i64 0]),3,56) by kernel_rfl)
 have c0:w.cell? ⟨bk,0,none⟩=some (.int .i64 (k:Int)):=by rw[cell_blk hB.blk];rfl
 have f0:w.frozen? ⟨bk,0,none⟩=false:=frozen_blk hB.blk
 go_enter Tryz.func41,Tryz.ntmps41
 go_wp2
 have hb1:(w.setCell ⟨bk,0,none⟩ (.int .i64 ((k:Int)+1))).heap[bk]?=some (.cells (bookCells ((k:Int)+1) vI vS vM vO vL) 62 (0,0)):=by rw[set_blk hB.blk];rfl
 have hon:(w.setCell ⟨bk,0,none⟩ (.int .i64 ((k:Int)+1))).ownsRow (bk+1) 148 3 vM kM xM:=ownsRow_setCell_below hB.oM (by simp) _
 have hotI:(w.setCell ⟨bk,0,none⟩ (.int .i64 ((k:Int)+1))).ownsRow (bk+1) 144 3 vI kI xI:=ownsRow_setCell_below hB.oI (by simp) _
 have hotS:(w.setCell ⟨bk,0,none⟩ (.int .i64 ((k:Int)+1))).ownsRow (bk+1) 180 3 vS kS xS:=ownsRow_setCell_below hB.oS (by simp) _
 have hotO:(w.setCell ⟨bk,0,none⟩ (.int .i64 ((k:Int)+1))).ownsRow (bk+1) 146 3 vO kO xO:=ownsRow_setCell_below hB.oO (by simp) _
 have hotL:(w.setCell ⟨bk,0,none⟩ (.int .i64 ((k:Int)+1))).ownsRow (bk+1) 160 3 vL kL xL:=ownsRow_setCell_below hB.oL (by simp) _
 have hk1:Kept (fun b=>b=bk∨vM.ownBlock=some b) w (w.setCell ⟨bk,0,none⟩ (.int .i64 ((k:Int)+1))):=Kept.setCell (D:=(fun b=>b=bk∨vM.ownBlock=some b)) (p:=⟨bk,0,none⟩) (Kept.refl _ _) (.inl (.inl rfl)) _
 have hbk:=lt_blk hB.blk
 clear c0 f0 hB
 generalize w.setCell ⟨bk,0,none⟩ (.int .i64 ((k:Int)+1))=w1 at*
 have d0:w1.cell? ⟨bk,0,none⟩=some (.int .i64 ((k:Int)+1)):=by rw[cell_blk hb1];rfl
 have d1:w1.cell? ⟨bk,4,none⟩=some vM:=by rw[cell_blk hb1];rfl
 obtain⟨vA,vc,hv⟩: ∃A c,vM= .slice A kM c:=by
  rcases hon.2 with⟨rfl,rfl⟩|⟨g,cap,cur,rfl,_⟩
  ·exact⟨_,_,rfl⟩
  ·exact⟨_,_,rfl⟩
 subst hv
 have HB1:=Lib.hid hb1
 clear hb1
 refine wp_region_ord [0,1,2,3,4,5,6,7,8,9,10,11,12,13,14,15] [11,12,13,14,15] 15 (fun w'=>w'.cell? ⟨bk,0,none⟩=some (.int .i64 ((k:Int)+1))∧w'.cell? ⟨bk,4,none⟩=some (.slice vA kM vc)) (by kernel_rfl) (by kernel_rfl) (by kernel_rfl) (by kernel_rfl) (fun _ _ _ _ _ h=>h) ⟨d0,d1⟩ ?_
 simp only[steps,List.getElem?_cons_zero,List.getElem?_cons_succ]
 repeat(first
  |(refine ord_no rfl ?_;simp only[Act.put,List.setIfInBounds_toArray,List.set_cons_zero,List.set_cons_succ])
  |(refine ord_yes (v:= ?_) rfl rfl ?_ ?_;rotate_left;(focus(rintro w' ⟨hS0,hS2⟩;go_simp;try with_reducible rfl));simp only[Act.put,List.setIfInBounds_toArray,List.set_cons_zero,List.set_cons_succ]))
 refine ord_hard rfl rfl (fun K hK=> ?_)
 go_simp
 have hal: ∀(o:Obj) (j:Nat),((w1.alloc o).drew).cell? ⟨bk,j,none⟩=w1.cell? ⟨bk,j,none⟩:=fun o j=>World.cell?_alloc_lt w1 o ⟨bk,j,none⟩ (lt_blk HB1.out)
 refine hK.out _ _ (fun _=>⟨(hal _ 0).trans d0,(hal _ 4).trans d1⟩) ?_
 clear hK K
 refine ord_hard rfl rfl (fun K hK=> ?_)
 have hoa:=hon.alloc (.cells #[.slice A n c,.slice none 0 0,.int .i64 ((k:Int)+1)] 148)
 have halotI:=hotI.alloc (.cells #[.slice A n c,.slice none 0 0,.int .i64 ((k:Int)+1)] 148)
 have halotS:=hotS.alloc (.cells #[.slice A n c,.slice none 0 0,.int .i64 ((k:Int)+1)] 148)
 have halotO:=hotO.alloc (.cells #[.slice A n c,.slice none 0 0,.int .i64 ((k:Int)+1)] 148)
 have halotL:=hotL.alloc (.cells #[.slice A n c,.slice none 0 0,.int .i64 ((k:Int)+1)] 148)
 refine wp_append_own _ (.tmp 15) (.tmp 22) 49 rfl (bk+1) 148 i0 _ 3 56 Tryz.underlying49 hi0 hz0 hz1 hz2 rfl (by decide) (.slice vA kM vc) kM xM rfl hoa ⟨w1.heap.size,0,none⟩ 1 1 [.slice A n c,.slice none 0 0,.int .i64 ((k:Int)+1)] rfl rfl ?_ ?_ (by unfold maxLen;omega) (by omega) ?_ ?_
 ·exact three_src w1 _ _ _ 148
 ·intro u hu
  simp only[List.mem_cons,List.not_mem_nil,or_false] at hu
  rcases hu with rfl|rfl|rfl <;> rfl
 ·have:=lt_blk HB1.out
  show bk+1≤(w1.alloc _).heap.size
  simp
  omega
 intro v2 w2 ho2 hg2 hn2
 have hne:some bk≠(Value.slice vA kM vc).ownBlock:=by
  intro e
  have:=(hon.lt bk e.symm).1
  omega
 have hb2:w2.heap[bk]?=some (.cells (bookCells ((k:Int)+1) vI vS (.slice vA kM vc) vO vL) 62 (0,0)):=by
  rw[hg2.block bk (by have:=lt_blk HB1.out;show bk < (w1.alloc _).heap.size;simp;omega) hne]
  exact(Below.heap_alloc w1 _ bk (lt_blk HB1.out)).trans HB1.out
 have g0:w2.cell? ⟨bk,0,none⟩=some (.int .i64 ((k:Int)+1)):=by rw[cell_blk hb2];rfl
 have g1:w2.cell? ⟨bk,4,none⟩=some (.slice vA kM vc):=by rw[cell_blk hb2];rfl
 have f1:w2.frozen? ⟨bk,4,none⟩=false:=frozen_blk hb2
 have HB2:=Lib.hid hb2
 have HotI:Hid (w2.ownsRow (bk+1) 144 3 vI kI xI):=Lib.hid (row_far (by decide) halotI hoa ⟨hg2.os,hg2.tape,hg2.output,hg2.size,hg2.block⟩)
 have HotS:Hid (w2.ownsRow (bk+1) 180 3 vS kS xS):=Lib.hid (row_far (by decide) halotS hoa ⟨hg2.os,hg2.tape,hg2.output,hg2.size,hg2.block⟩)
 have HotO:Hid (w2.ownsRow (bk+1) 146 3 vO kO xO):=Lib.hid (row_far (by decide) halotO hoa ⟨hg2.os,hg2.tape,hg2.output,hg2.size,hg2.block⟩)
 have HotL:Hid (w2.ownsRow (bk+1) 160 3 vL kL xL):=Lib.hid (row_far (by decide) halotL hoa ⟨hg2.os,hg2.tape,hg2.output,hg2.size,hg2.block⟩)
 have hk2:Kept (fun b=>b=bk∨(Value.slice vA kM vc).ownBlock=some b) w w2:=hk1.trans ⟨hg2.os,hg2.tape,hg2.output,Nat.le_trans (by simp) hg2.size,fun b hb hn=>(hg2.block b (Nat.lt_of_lt_of_le hb (by show _≤(w1.alloc _).heap.size;simp)) (fun e=>hn (.inr e.symm))).trans (Below.heap_alloc w1 _ b hb)⟩
 clear hb2 d0 d1 hal
 refine hK.out _ _ (fun _=>⟨g0,g1⟩) ?_
 clear hK K
 simp only[Act.put,List.setIfInBounds_toArray,List.set_cons_zero,List.set_cons_succ]
 refine ord_hard rfl rfl (fun K hK=> ?_)
 go_simp
 refine hK.out _ _ (fun _=>⟨g0,g1⟩) ?_
 clear hK K
 refine ord_hard rfl rfl (fun K hK=> ?_)
 go_simp
 refine hK.out _ _ (fun _=>⟨g0,g1⟩) ?_
 clear hK K
 obtain⟨A2,c2,hv2⟩: ∃A c,v2= .slice A (kM+1) c:=by
  rcases ho2.2 with⟨rfl,e⟩|⟨g,cap,cur,rfl,_⟩
  ·omega
  ·exact⟨_,_,rfl⟩
 subst hv2
 refine ord_hard rfl rfl (fun K hK=> ?_)
 go_simp
 refine hK.out _ _ (fun h=>absurd rfl h) ?_
 clear hK K
 refine ord_end ?_
 go_wp2
 go_end0
 refine⟨rfl,.slice A2 (kM+1) c2,⟨?_,ownsRow_setCell_below HotI.out (by simp) _,ownsRow_setCell_below HotS.out (by simp) _,?_,ownsRow_setCell_below HotO.out (by simp) _,ownsRow_setCell_below HotL.out (by simp) _⟩,?_⟩
 ·rw[set_blk HB2.out,Int.natCast_add]
  rfl
 ·exact ownsRow_setCell_below ho2 (by simp) _
 ·exact Kept.setCell (D:=(fun b=>b=bk∨(Value.slice vA kM vc).ownBlock=some b)) (p:=⟨bk,4,none⟩) hk2 (.inl (.inl rfl)) _
theorem putM_any (bk k:Nat)(vI:Value)(kI:Nat)(xI:List Value)(vS:Value)(kS:Nat)(xS:List Value)(vM:Value)(kM:Nat)(xM:List Value)(vO:Value)(kO:Nat)(xO:List Value)(vL:Value)(kL:Nat)(xL:List Value)(A:Option Addr)(n c:Nat)(w:World)(hB:BookK w bk k vI kI xI vS kS xS vM kM xM vO kO xO vL kL xL)(hk:k≤1000)(hkk:kM≤1000):
  Calls Tryz.prog 15 #[.pointer (some ⟨bk,0,none⟩),.slice A n c] w fun e w'=>e= .returned (.tuple #[])∧ ∃v',BookK w' bk (k+1) vI kI xI vS kS xS v' (kM+1) (xM++ [.slice A n c,.slice none 0 0,.int .i64 ((k:Int)+1)]) vO kO xO vL kL xL∧Kept (fun b=>b=bk∨vM.ownBlock=some b) w w':=by
 go_enter Tryz.func15,Tryz.ntmps15
 go_wp2_with fail
 refine(keepM_any bk k vI kI xI vS kS xS vM kM xM vO kO xO vL kL xL A n c _ hB hk hkk).mono ?_
 rintro e w1 ⟨rfl,v1,hB1,hk1⟩
 go_wp2_with fail
 go_end0
 exact⟨rfl,v1,hB1,hk1⟩
set_option maxRecDepth 100000 in
set_option maxHeartbeats 2000000 in
theorem keepO_any (bk k:Nat)(vI:Value)(kI:Nat)(xI:List Value)(vS:Value)(kS:Nat)(xS:List Value)(vM:Value)(kM:Nat)(xM:List Value)(vO:Value)(kO:Nat)(xO:List Value)(vL:Value)(kL:Nat)(xL:List Value)(A:Option Addr)(n c:Nat)(w:World)(hB:BookK w bk k vI kI xI vS kS xS vM kM xM vO kO xO vL kL xL)(hk:k≤1000)(hkk:kO≤1000):
  Calls Tryz.prog 40 #[.pointer (some ⟨bk,0,none⟩),.slice A n c] w fun e w'=>e= .returned (.tuple #[])∧ ∃v',BookK w' bk (k+1) vI kI xI vS kS xS vM kM xM v' (kO+1) (xO++ [.slice A n c,.slice none 0 0,.int .i64 ((k:Int)+1)]) vL kL xL∧Kept (fun b=>b=bk∨vO.ownBlock=some b) w w':=by
 obtain⟨i0,hi0,hz0,hz1,hz2⟩:=info_parts (show(Tryz.prog.info? 146).map (fun i=>(i.zero,i.size,i.bytes))=some (some (.agg #[.slice none 0 0,.slice none 0 0,.int .i64 0]),3,56) by kernel_rfl)
 have c0:w.cell? ⟨bk,0,none⟩=some (.int .i64 (k:Int)):=by rw[cell_blk hB.blk];rfl
 have f0:w.frozen? ⟨bk,0,none⟩=false:=frozen_blk hB.blk
 go_enter Tryz.func40,Tryz.ntmps40
 go_wp2
 have hb1:(w.setCell ⟨bk,0,none⟩ (.int .i64 ((k:Int)+1))).heap[bk]?=some (.cells (bookCells ((k:Int)+1) vI vS vM vO vL) 62 (0,0)):=by rw[set_blk hB.blk];rfl
 have hon:(w.setCell ⟨bk,0,none⟩ (.int .i64 ((k:Int)+1))).ownsRow (bk+1) 146 3 vO kO xO:=ownsRow_setCell_below hB.oO (by simp) _
 have hotI:(w.setCell ⟨bk,0,none⟩ (.int .i64 ((k:Int)+1))).ownsRow (bk+1) 144 3 vI kI xI:=ownsRow_setCell_below hB.oI (by simp) _
 have hotS:(w.setCell ⟨bk,0,none⟩ (.int .i64 ((k:Int)+1))).ownsRow (bk+1) 180 3 vS kS xS:=ownsRow_setCell_below hB.oS (by simp) _
 have hotM:(w.setCell ⟨bk,0,none⟩ (.int .i64 ((k:Int)+1))).ownsRow (bk+1) 148 3 vM kM xM:=ownsRow_setCell_below hB.oM (by simp) _
 have hotL:(w.setCell ⟨bk,0,none⟩ (.int .i64 ((k:Int)+1))).ownsRow (bk+1) 160 3 vL kL xL:=ownsRow_setCell_below hB.oL (by simp) _
 have hk1:Kept (fun b=>b=bk∨vO.ownBlock=some b) w (w.setCell ⟨bk,0,none⟩ (.int .i64 ((k:Int)+1))):=Kept.setCell (D:=(fun b=>b=bk∨vO.ownBlock=some b)) (p:=⟨bk,0,none⟩) (Kept.refl _ _) (.inl (.inl rfl)) _
 have hbk:=lt_blk hB.blk
 clear c0 f0 hB
 generalize w.setCell ⟨bk,0,none⟩ (.int .i64 ((k:Int)+1))=w1 at*
 have d0:w1.cell? ⟨bk,0,none⟩=some (.int .i64 ((k:Int)+1)):=by rw[cell_blk hb1];rfl
 have d1:w1.cell? ⟨bk,5,none⟩=some vO:=by rw[cell_blk hb1];rfl
 obtain⟨vA,vc,hv⟩: ∃A c,vO= .slice A kO c:=by
  rcases hon.2 with⟨rfl,rfl⟩|⟨g,cap,cur,rfl,_⟩
  ·exact⟨_,_,rfl⟩
  ·exact⟨_,_,rfl⟩
 subst hv
 have HB1:=Lib.hid hb1
 clear hb1
 refine wp_region_ord [0,1,2,3,4,5,6,7,8,9,10,11,12,13,14,15] [11,12,13,14,15] 15 (fun w'=>w'.cell? ⟨bk,0,none⟩=some (.int .i64 ((k:Int)+1))∧w'.cell? ⟨bk,5,none⟩=some (.slice vA kO vc)) (by kernel_rfl) (by kernel_rfl) (by kernel_rfl) (by kernel_rfl) (fun _ _ _ _ _ h=>h) ⟨d0,d1⟩ ?_
 simp only[steps,List.getElem?_cons_zero,List.getElem?_cons_succ]
 repeat(first
  |(refine ord_no rfl ?_;simp only[Act.put,List.setIfInBounds_toArray,List.set_cons_zero,List.set_cons_succ])
  |(refine ord_yes (v:= ?_) rfl rfl ?_ ?_;rotate_left;(focus(rintro w' ⟨hS0,hS2⟩;go_simp;try with_reducible rfl));simp only[Act.put,List.setIfInBounds_toArray,List.set_cons_zero,List.set_cons_succ]))
 refine ord_hard rfl rfl (fun K hK=> ?_)
 go_simp
 have hal: ∀(o:Obj) (j:Nat),((w1.alloc o).drew).cell? ⟨bk,j,none⟩=w1.cell? ⟨bk,j,none⟩:=fun o j=>World.cell?_alloc_lt w1 o ⟨bk,j,none⟩ (lt_blk HB1.out)
 refine hK.out _ _ (fun _=>⟨(hal _ 0).trans d0,(hal _ 5).trans d1⟩) ?_
 clear hK K
 refine ord_hard rfl rfl (fun K hK=> ?_)
 have hoa:=hon.alloc (.cells #[.slice A n c,.slice none 0 0,.int .i64 ((k:Int)+1)] 146)
 have halotI:=hotI.alloc (.cells #[.slice A n c,.slice none 0 0,.int .i64 ((k:Int)+1)] 146)
 have halotS:=hotS.alloc (.cells #[.slice A n c,.slice none 0 0,.int .i64 ((k:Int)+1)] 146)
 have halotM:=hotM.alloc (.cells #[.slice A n c,.slice none 0 0,.int .i64 ((k:Int)+1)] 146)
 have halotL:=hotL.alloc (.cells #[.slice A n c,.slice none 0 0,.int .i64 ((k:Int)+1)] 146)
 refine wp_append_own _ (.tmp 15) (.tmp 22) 50 rfl (bk+1) 146 i0 _ 3 56 Tryz.underlying50 hi0 hz0 hz1 hz2 rfl (by decide) (.slice vA kO vc) kO xO rfl hoa ⟨w1.heap.size,0,none⟩ 1 1 [.slice A n c,.slice none 0 0,.int .i64 ((k:Int)+1)] rfl rfl ?_ ?_ (by unfold maxLen;omega) (by omega) ?_ ?_
 ·exact three_src w1 _ _ _ 146
 ·intro u hu
  simp only[List.mem_cons,List.not_mem_nil,or_false] at hu
  rcases hu with rfl|rfl|rfl <;> rfl
 ·have:=lt_blk HB1.out
  show bk+1≤(w1.alloc _).heap.size
  simp
  omega
 intro v2 w2 ho2 hg2 hn2
 have hne:some bk≠(Value.slice vA kO vc).ownBlock:=by
  intro e
  have:=(hon.lt bk e.symm).1
  omega
 have hb2:w2.heap[bk]?=some (.cells (bookCells ((k:Int)+1) vI vS vM (.slice vA kO vc) vL) 62 (0,0)):=by
  rw[hg2.block bk (by have:=lt_blk HB1.out;show bk < (w1.alloc _).heap.size;simp;omega) hne]
  exact(Below.heap_alloc w1 _ bk (lt_blk HB1.out)).trans HB1.out
 have g0:w2.cell? ⟨bk,0,none⟩=some (.int .i64 ((k:Int)+1)):=by rw[cell_blk hb2];rfl
 have g1:w2.cell? ⟨bk,5,none⟩=some (.slice vA kO vc):=by rw[cell_blk hb2];rfl
 have f1:w2.frozen? ⟨bk,5,none⟩=false:=frozen_blk hb2
 have HB2:=Lib.hid hb2
 have HotI:Hid (w2.ownsRow (bk+1) 144 3 vI kI xI):=Lib.hid (row_far (by decide) halotI hoa ⟨hg2.os,hg2.tape,hg2.output,hg2.size,hg2.block⟩)
 have HotS:Hid (w2.ownsRow (bk+1) 180 3 vS kS xS):=Lib.hid (row_far (by decide) halotS hoa ⟨hg2.os,hg2.tape,hg2.output,hg2.size,hg2.block⟩)
 have HotM:Hid (w2.ownsRow (bk+1) 148 3 vM kM xM):=Lib.hid (row_far (by decide) halotM hoa ⟨hg2.os,hg2.tape,hg2.output,hg2.size,hg2.block⟩)
 have HotL:Hid (w2.ownsRow (bk+1) 160 3 vL kL xL):=Lib.hid (row_far (by decide) halotL hoa ⟨hg2.os,hg2.tape,hg2.output,hg2.size,hg2.block⟩)
 have hk2:Kept (fun b=>b=bk∨(Value.slice vA kO vc).ownBlock=some b) w w2:=hk1.trans ⟨hg2.os,hg2.tape,hg2.output,Nat.le_trans (by simp) hg2.size,fun b hb hn=>(hg2.block b (Nat.lt_of_lt_of_le hb (by show _≤(w1.alloc _).heap.size;simp)) (fun e=>hn (.inr e.symm))).trans (Below.heap_alloc w1 _ b hb)⟩
 clear hb2 d0 d1 hal
 refine hK.out _ _ (fun _=>⟨g0,g1⟩) ?_
 clear hK K
 simp only[Act.put,List.setIfInBounds_toArray,List.set_cons_zero,List.set_cons_succ]
 refine ord_hard rfl rfl (fun K hK=> ?_)
 go_simp
 refine hK.out _ _ (fun _=>⟨g0,g1⟩) ?_
 clear hK K
 refine ord_hard rfl rfl (fun K hK=> ?_)
 go_simp
 refine hK.out _ _ (fun _=>⟨g0,g1⟩) ?_
 clear hK K
 obtain⟨A2,c2,hv2⟩: ∃A c,v2= .slice A (kO+1) c:=by
  rcases ho2.2 with⟨rfl,e⟩|⟨g,cap,cur,rfl,_⟩
  ·omega
  ·exact⟨_,_,rfl⟩
 subst hv2
 refine ord_hard rfl rfl (fun K hK=> ?_)
 go_simp
 refine hK.out _ _ (fun h=>absurd rfl h) ?_
 clear hK K
 refine ord_end ?_
 go_wp2
 go_end0
 refine⟨rfl,.slice A2 (kO+1) c2,⟨?_,ownsRow_setCell_below HotI.out (by simp) _,ownsRow_setCell_below HotS.out (by simp) _,ownsRow_setCell_below HotM.out (by simp) _,?_,ownsRow_setCell_below HotL.out (by simp) _⟩,?_⟩
 ·rw[set_blk HB2.out,Int.natCast_add]
  rfl
 ·exact ownsRow_setCell_below ho2 (by simp) _
 ·exact Kept.setCell (D:=(fun b=>b=bk∨(Value.slice vA kO vc).ownBlock=some b)) (p:=⟨bk,5,none⟩) hk2 (.inl (.inl rfl)) _
theorem putO_any (bk k:Nat)(vI:Value)(kI:Nat)(xI:List Value)(vS:Value)(kS:Nat)(xS:List Value)(vM:Value)(kM:Nat)(xM:List Value)(vO:Value)(kO:Nat)(xO:List Value)(vL:Value)(kL:Nat)(xL:List Value)(A:Option Addr)(n c:Nat)(w:World)(hB:BookK w bk k vI kI xI vS kS xS vM kM xM vO kO xO vL kL xL)(hk:k≤1000)(hkk:kO≤1000):
  Calls Tryz.prog 14 #[.pointer (some ⟨bk,0,none⟩),.slice A n c] w fun e w'=>e= .returned (.tuple #[])∧ ∃v',BookK w' bk (k+1) vI kI xI vS kS xS vM kM xM v' (kO+1) (xO++ [.slice A n c,.slice none 0 0,.int .i64 ((k:Int)+1)]) vL kL xL∧Kept (fun b=>b=bk∨vO.ownBlock=some b) w w':=by
 go_enter Tryz.func14,Tryz.ntmps14
 go_wp2_with fail
 refine(keepO_any bk k vI kI xI vS kS xS vM kM xM vO kO xO vL kL xL A n c _ hB hk hkk).mono ?_
 rintro e w1 ⟨rfl,v1,hB1,hk1⟩
 go_wp2_with fail
 go_end0
 exact⟨rfl,v1,hB1,hk1⟩
set_option maxRecDepth 100000 in
set_option maxHeartbeats 2000000 in
theorem keepL_any (bk k:Nat)(vI:Value)(kI:Nat)(xI:List Value)(vS:Value)(kS:Nat)(xS:List Value)(vM:Value)(kM:Nat)(xM:List Value)(vO:Value)(kO:Nat)(xO:List Value)(vL:Value)(kL:Nat)(xL:List Value)(A:Option Addr)(n c:Nat)(w:World)(hB:BookK w bk k vI kI xI vS kS xS vM kM xM vO kO xO vL kL xL)(hk:k≤1000)(hkk:kL≤1000):
  Calls Tryz.prog 109 #[.pointer (some ⟨bk,0,none⟩),.slice A n c] w fun e w'=>e= .returned (.tuple #[])∧ ∃v',BookK w' bk (k+1) vI kI xI vS kS xS vM kM xM vO kO xO v' (kL+1) (xL++ [.slice A n c,.slice none 0 0,.int .i64 ((k:Int)+1)])∧Kept (fun b=>b=bk∨vL.ownBlock=some b) w w':=by
 obtain⟨i0,hi0,hz0,hz1,hz2⟩:=info_parts (show(Tryz.prog.info? 160).map (fun i=>(i.zero,i.size,i.bytes))=some (some (.agg #[.slice none 0 0,.slice none 0 0,.int .i64 0]),3,56) by kernel_rfl)
 have c0:w.cell? ⟨bk,0,none⟩=some (.int .i64 (k:Int)):=by rw[cell_blk hB.blk];rfl
 have f0:w.frozen? ⟨bk,0,none⟩=false:=frozen_blk hB.blk
 go_enter Tryz.func109,Tryz.ntmps109
 go_wp2
 have hb1:(w.setCell ⟨bk,0,none⟩ (.int .i64 ((k:Int)+1))).heap[bk]?=some (.cells (bookCells ((k:Int)+1) vI vS vM vO vL) 62 (0,0)):=by rw[set_blk hB.blk];rfl
 have hon:(w.setCell ⟨bk,0,none⟩ (.int .i64 ((k:Int)+1))).ownsRow (bk+1) 160 3 vL kL xL:=ownsRow_setCell_below hB.oL (by simp) _
 have hotI:(w.setCell ⟨bk,0,none⟩ (.int .i64 ((k:Int)+1))).ownsRow (bk+1) 144 3 vI kI xI:=ownsRow_setCell_below hB.oI (by simp) _
 have hotS:(w.setCell ⟨bk,0,none⟩ (.int .i64 ((k:Int)+1))).ownsRow (bk+1) 180 3 vS kS xS:=ownsRow_setCell_below hB.oS (by simp) _
 have hotM:(w.setCell ⟨bk,0,none⟩ (.int .i64 ((k:Int)+1))).ownsRow (bk+1) 148 3 vM kM xM:=ownsRow_setCell_below hB.oM (by simp) _
 have hotO:(w.setCell ⟨bk,0,none⟩ (.int .i64 ((k:Int)+1))).ownsRow (bk+1) 146 3 vO kO xO:=ownsRow_setCell_below hB.oO (by simp) _
 have hk1:Kept (fun b=>b=bk∨vL.ownBlock=some b) w (w.setCell ⟨bk,0,none⟩ (.int .i64 ((k:Int)+1))):=Kept.setCell (D:=(fun b=>b=bk∨vL.ownBlock=some b)) (p:=⟨bk,0,none⟩) (Kept.refl _ _) (.inl (.inl rfl)) _
 have hbk:=lt_blk hB.blk
 clear c0 f0 hB
 generalize w.setCell ⟨bk,0,none⟩ (.int .i64 ((k:Int)+1))=w1 at*
 have d0:w1.cell? ⟨bk,0,none⟩=some (.int .i64 ((k:Int)+1)):=by rw[cell_blk hb1];rfl
 have d1:w1.cell? ⟨bk,6,none⟩=some vL:=by rw[cell_blk hb1];rfl
 obtain⟨vA,vc,hv⟩: ∃A c,vL= .slice A kL c:=by
  rcases hon.2 with⟨rfl,rfl⟩|⟨g,cap,cur,rfl,_⟩
  ·exact⟨_,_,rfl⟩
  ·exact⟨_,_,rfl⟩
 subst hv
 have HB1:=Lib.hid hb1
 clear hb1
 refine wp_region_ord [0,1,2,3,4,5,6,7,8,9,10,11,12,13,14,15] [11,12,13,14,15] 15 (fun w'=>w'.cell? ⟨bk,0,none⟩=some (.int .i64 ((k:Int)+1))∧w'.cell? ⟨bk,6,none⟩=some (.slice vA kL vc)) (by kernel_rfl) (by kernel_rfl) (by kernel_rfl) (by kernel_rfl) (fun _ _ _ _ _ h=>h) ⟨d0,d1⟩ ?_
 simp only[steps,List.getElem?_cons_zero,List.getElem?_cons_succ]
 repeat(first
  |(refine ord_no rfl ?_;simp only[Act.put,List.setIfInBounds_toArray,List.set_cons_zero,List.set_cons_succ])
  |(refine ord_yes (v:= ?_) rfl rfl ?_ ?_;rotate_left;(focus(rintro w' ⟨hS0,hS2⟩;go_simp;try with_reducible rfl));simp only[Act.put,List.setIfInBounds_toArray,List.set_cons_zero,List.set_cons_succ]))
 refine ord_hard rfl rfl (fun K hK=> ?_)
 go_simp
 have hal: ∀(o:Obj) (j:Nat),((w1.alloc o).drew).cell? ⟨bk,j,none⟩=w1.cell? ⟨bk,j,none⟩:=fun o j=>World.cell?_alloc_lt w1 o ⟨bk,j,none⟩ (lt_blk HB1.out)
 refine hK.out _ _ (fun _=>⟨(hal _ 0).trans d0,(hal _ 6).trans d1⟩) ?_
 clear hK K
 refine ord_hard rfl rfl (fun K hK=> ?_)
 have hoa:=hon.alloc (.cells #[.slice A n c,.slice none 0 0,.int .i64 ((k:Int)+1)] 160)
 have halotI:=hotI.alloc (.cells #[.slice A n c,.slice none 0 0,.int .i64 ((k:Int)+1)] 160)
 have halotS:=hotS.alloc (.cells #[.slice A n c,.slice none 0 0,.int .i64 ((k:Int)+1)] 160)
 have halotM:=hotM.alloc (.cells #[.slice A n c,.slice none 0 0,.int .i64 ((k:Int)+1)] 160)
 have halotO:=hotO.alloc (.cells #[.slice A n c,.slice none 0 0,.int .i64 ((k:Int)+1)] 160)
 refine wp_append_own _ (.tmp 15) (.tmp 22) 51 rfl (bk+1) 160 i0 _ 3 56 Tryz.underlying51 hi0 hz0 hz1 hz2 rfl (by decide) (.slice vA kL vc) kL xL rfl hoa ⟨w1.heap.size,0,none⟩ 1 1 [.slice A n c,.slice none 0 0,.int .i64 ((k:Int)+1)] rfl rfl ?_ ?_ (by unfold maxLen;omega) (by omega) ?_ ?_
 ·exact three_src w1 _ _ _ 160
 ·intro u hu
  simp only[List.mem_cons,List.not_mem_nil,or_false] at hu
  rcases hu with rfl|rfl|rfl <;> rfl
 ·have:=lt_blk HB1.out
  show bk+1≤(w1.alloc _).heap.size
  simp
  omega
 intro v2 w2 ho2 hg2 hn2
 have hne:some bk≠(Value.slice vA kL vc).ownBlock:=by
  intro e
  have:=(hon.lt bk e.symm).1
  omega
 have hb2:w2.heap[bk]?=some (.cells (bookCells ((k:Int)+1) vI vS vM vO (.slice vA kL vc)) 62 (0,0)):=by
  rw[hg2.block bk (by have:=lt_blk HB1.out;show bk < (w1.alloc _).heap.size;simp;omega) hne]
  exact(Below.heap_alloc w1 _ bk (lt_blk HB1.out)).trans HB1.out
 have g0:w2.cell? ⟨bk,0,none⟩=some (.int .i64 ((k:Int)+1)):=by rw[cell_blk hb2];rfl
 have g1:w2.cell? ⟨bk,6,none⟩=some (.slice vA kL vc):=by rw[cell_blk hb2];rfl
 have f1:w2.frozen? ⟨bk,6,none⟩=false:=frozen_blk hb2
 have HB2:=Lib.hid hb2
 have HotI:Hid (w2.ownsRow (bk+1) 144 3 vI kI xI):=Lib.hid (row_far (by decide) halotI hoa ⟨hg2.os,hg2.tape,hg2.output,hg2.size,hg2.block⟩)
 have HotS:Hid (w2.ownsRow (bk+1) 180 3 vS kS xS):=Lib.hid (row_far (by decide) halotS hoa ⟨hg2.os,hg2.tape,hg2.output,hg2.size,hg2.block⟩)
 have HotM:Hid (w2.ownsRow (bk+1) 148 3 vM kM xM):=Lib.hid (row_far (by decide) halotM hoa ⟨hg2.os,hg2.tape,hg2.output,hg2.size,hg2.block⟩)
 have HotO:Hid (w2.ownsRow (bk+1) 146 3 vO kO xO):=Lib.hid (row_far (by decide) halotO hoa ⟨hg2.os,hg2.tape,hg2.output,hg2.size,hg2.block⟩)
 have hk2:Kept (fun b=>b=bk∨(Value.slice vA kL vc).ownBlock=some b) w w2:=hk1.trans ⟨hg2.os,hg2.tape,hg2.output,Nat.le_trans (by simp) hg2.size,fun b hb hn=>(hg2.block b (Nat.lt_of_lt_of_le hb (by show _≤(w1.alloc _).heap.size;simp)) (fun e=>hn (.inr e.symm))).trans (Below.heap_alloc w1 _ b hb)⟩
 clear hb2 d0 d1 hal
 refine hK.out _ _ (fun _=>⟨g0,g1⟩) ?_
 clear hK K
 simp only[Act.put,List.setIfInBounds_toArray,List.set_cons_zero,List.set_cons_succ]
 refine ord_hard rfl rfl (fun K hK=> ?_)
 go_simp
 refine hK.out _ _ (fun _=>⟨g0,g1⟩) ?_
 clear hK K
 refine ord_hard rfl rfl (fun K hK=> ?_)
 go_simp
 refine hK.out _ _ (fun _=>⟨g0,g1⟩) ?_
 clear hK K
 obtain⟨A2,c2,hv2⟩: ∃A c,v2= .slice A (kL+1) c:=by
  rcases ho2.2 with⟨rfl,e⟩|⟨g,cap,cur,rfl,_⟩
  ·omega
  ·exact⟨_,_,rfl⟩
 subst hv2
 refine ord_hard rfl rfl (fun K hK=> ?_)
 go_simp
 refine hK.out _ _ (fun h=>absurd rfl h) ?_
 clear hK K
 refine ord_end ?_
 go_wp2
 go_end0
 refine⟨rfl,.slice A2 (kL+1) c2,⟨?_,ownsRow_setCell_below HotI.out (by simp) _,ownsRow_setCell_below HotS.out (by simp) _,ownsRow_setCell_below HotM.out (by simp) _,ownsRow_setCell_below HotO.out (by simp) _,?_⟩,?_⟩
 ·rw[set_blk HB2.out,Int.natCast_add]
  rfl
 ·exact ownsRow_setCell_below ho2 (by simp) _
 ·exact Kept.setCell (D:=(fun b=>b=bk∨(Value.slice vA kL vc).ownBlock=some b)) (p:=⟨bk,6,none⟩) hk2 (.inl (.inl rfl)) _
end Go.Proofs.YtphklakjadchmaaGreatDoor
